/- Rows of texts and programs beside the law's marks. -/
import Derived.Test.YtjdlohjhfcmicaaMkp
import Derived.Test.YtjdlohjhfcmicaaSts
import Derived.Test.YtjdlohjhfcmicaaEqn
import Derived.Deep.RegionWith
set_option linter.unusedVariables false
namespace Go.Proofs.Ytjdlohjhfcmicaa
open Go.ChangeShapes Go.WideShapes Go.ChangeAt Go.RowKit
theorem OwnS.chg {B0 B C : Nat} {w w' : World} {v : Value} {l : List ByteArray} (h : OwnS w B0 v l) (hc : Chg B C w w') (hb : ∀ b, v.ownBlock = some b → b < B ∨ C ≤ b) : OwnS w' B0 v l := by
  obtain ⟨hl, ⟨hv, h0⟩ | ⟨g, cap', cur, hv, a1, hblk, a3⟩⟩ := h
  · exact ⟨hl, .inl ⟨hv, h0⟩⟩
  · exact ⟨hl, .inr ⟨g, cap', cur, hv, a1, (hc.same g (Array.getElem?_eq_some_iff.1 hblk).1 (hb g (by rw [hv]; rfl))).trans hblk, a3⟩⟩
theorem OwnS.rowU {B w0 : Nat} {w : World} {a : Option Addr} {cap : Nat} {l : List ByteArray} (h : OwnS w B (.slice a l.length cap) l) (hw : w0 = w.heap.size) : RowU B w0 w a l.length := by
  obtain ⟨hl, ⟨hv, h0⟩ | ⟨g, cap', cur, hv, a1, hblk, a3, a4, a5, a6⟩⟩ := h
  · exact .inl h0
  · injection hv with h1 h2 h3
    exact .inr ⟨g, 0, cur, 9, h1, a1, by rw [hw]; exact (Array.getElem?_eq_some_iff.1 hblk).1, by decide, hblk, by omega⟩
theorem Chg.below {B C D : Nat} {w w' : World} (h : Chg B C w w') (hD : D ≤ B) (hs : D ≤ w.heap.size) : Below D w w' :=
  ⟨h.os, h.tape, h.output, h.size, fun k hk => h.same k (by omega) (.inl (by omega))⟩
/-- The program's argument, ready to be marked. -/
def XAt (B C : Nat) (w : World) (g : Nat) (cs : List Nod) : Prop :=
  (∃ cur : Array Value, w.heap[g]? = some (.cells cur 48 (0, 0)) ∧ cur.size = cs.length * 5) ∧ ∀ (j : Nat) (d : Nod), cs[j]? = some d → Hdr B C w g j d
theorem XAt.of {B : Nat} {w : World} {g : Nat} {cs : List Nod} (h : ∀ (j : Nat) (d : Nod), cs[j]? = some d → NodAt w (fun b => B ≤ b ∧ b < w.heap.size ∧ Unf w b) g (j * 5) d) (hc : ∃ cur : Array Value, w.heap[g]? = some (.cells cur 48 (0, 0)) ∧ cur.size = cs.length * 5) : XAt B w.heap.size w g cs := by
  refine ⟨hc, fun j d hd => ?_⟩
  obtain ⟨an, cn, aa, ca, _, _, _, h3, h4, r1, r2, _⟩ := h j d hd
  exact ⟨an, cn, aa, ca, h3, h4, rowU_S r1 fun b hb => hb, rowU_I r2 fun b hb => hb⟩
theorem XAt.keep {B C : Nat} {w w' : World} {g : Nat} {cs : List Nod} (h : XAt B C w g cs) (hb : Below w.heap.size w w') : XAt B C w' g cs := by
  obtain ⟨⟨cur, h1, h2⟩, h3⟩ := h
  have hk := hb.block g (Array.getElem?_eq_some_iff.1 h1).1
  exact ⟨⟨cur, hk.trans h1, h2⟩, fun j d hd => (h3 j d hd).blk (Chg.of_below (B := B) (C := C) hb) hk⟩
end Go.Proofs.Ytjdlohjhfcmicaa
