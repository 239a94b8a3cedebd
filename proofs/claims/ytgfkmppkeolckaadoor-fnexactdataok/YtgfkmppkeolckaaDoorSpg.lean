/- The model's reader: its state on the way through a datum. -/
import Derived.Test.YtgfkmppkeolckaaDoorSpf
set_option linter.unusedVariables false
namespace Go.Proofs.YtgfkmppkeolckaaDoor
open Go.ChangeShapes Go.WideShapes Go.ChangeAt Go.RowKit
/-- On the way through a datum: the reader's block, the answer's, what the cells say. -/
def DSt (s : ByteArray) (bo : Option Addr) (m cb B : Nat) (w : World) (r : Except Nat St) (i : Nat) (la bd : Int) (ao : Option Addr) (n ca : Nat) (W : World) : Prop :=
  W.heap[w.heap.size]? = some (rb s i la bd (.slice ao n ca) (.slice bo m cb)) ∧ W.heap[w.heap.size + 1]? = some rz ∧ Below B w W ∧ Lib.OthersKept 67 none w W ∧ RepF s B r i la bd ao n ca W
section
variable {s : ByteArray} {bo : Option Addr} {m cb B : Nat} {w : World} {r r' : Except Nat St} {i i' : Nat} {la bd la' bd' : Int} {ao ao' : Option Addr} {n ca n' ca' : Nat} {W W' : World}
theorem DSt.start (hB : B ≤ w.heap.size) (h : RepF s B r i la bd ao n ca w) : DSt s bo m cb B w r i la bd ao n ca ((w.alloc (rb s i la bd (.slice ao n ca) (.slice bo m cb))).alloc rz) := by
  have hb0 : Below w.heap.size w ((w.alloc (rb s i la bd (.slice ao n ca) (.slice bo m cb))).alloc rz) := ((Below.refl _ _).alloc (Nat.le_refl _) _).alloc (by simp) _
  exact ⟨blk_past (blk_at _ _ _ rfl), blk_at _ _ _ (by simp), hb0.mono hB, ok_below hb0, h.below hb0⟩
theorem DSt.size (h : DSt s bo m cb B w r i la bd ao n ca W) : w.heap.size + 1 < W.heap.size := (Array.getElem?_eq_some_iff.1 h.2.1).1
theorem DSt.below (hB : B ≤ w.heap.size) (h : DSt s bo m cb B w r i la bd ao n ca W) (hb : Below W.heap.size W W') : DSt s bo m cb B w r i la bd ao n ca W' := by
  have hz := h.size
  obtain ⟨k0, k1, h3, h4, h5⟩ := h
  exact ⟨(hb.block _ (by omega)).trans k0, (hb.block _ (by omega)).trans k1, h3.trans (hb.mono (by omega)), fun k o hk hkb ho => (ok_below hb) k o (h4 k o hk hkb ho) hkb ho, h5.below hb⟩
/-- What a call of the reader's own kind leaves. -/
theorem DSt.got (h : DSt s bo m cb B w r i la bd ao n ca W) {e : Ending} (hp : SpPost s bo m cb B r' W e W') : ∃ (i' : Nat) (la' bd' : Int) (ao' : Option Addr) (n' ca' : Nat), e = .returned (.agg #[.string s, .int .i64 i', .int .i64 la', .int .i64 bd', .slice ao' n' ca', .slice bo m cb]) ∧ W'.heap[w.heap.size]? = some (rb s i la bd (.slice ao n ca) (.slice bo m cb)) ∧ W'.heap[w.heap.size + 1]? = some rz ∧ Below B w W' ∧ Lib.OthersKept 67 none w W' ∧ RepF s B r' i' la' bd' ao' n' ca' W' := by
  obtain ⟨k0, k1, h3, h4, h5⟩ := h
  obtain ⟨v, rfl, ⟨i', la', bd', ao', n', ca', rfl, hr⟩, hb, hk⟩ := hp
  exact ⟨i', la', bd', ao', n', ca', rfl, hk _ _ k0 (by simp) (fun _ _ e => by injection e with _ e; cases e), hk _ _ k1 (by simp) (fun _ _ e => by injection e with _ e; cases e), h3.trans hb, fun k o hk0 hkb ho => hk k o (h4 k o hk0 hkb ho) hkb ho, hr⟩
theorem DSt.lay (hB : B ≤ w.heap.size) {x0 x1 x2 x3 x4 x5 : Value} (k0 : W.heap[w.heap.size]? = some (.cells #[x0, x1, x2, x3, x4, x5] 54 (0, 0))) (k1 : W.heap[w.heap.size + 1]? = some rz) (h3 : Below B w W) (h4 : Lib.OthersKept 67 none w W) (h5 : RepF s B r i la bd ao n ca W) : DSt s bo m cb B w r i la bd ao n ca (put6 W w.heap.size (.string s) (.int .i64 i) (.int .i64 la) (.int .i64 bd) (.slice ao n ca) (.slice bo m cb)) :=
  ⟨put6_blk _ _ _ _ _ _ k0, (put6_other (by omega)).trans k1, put6_below h3 hB _ _ _ _ _ _, ok_high h4 (fun b hb => put6_other (by omega)), h5.put6 k0⟩
theorem DSt.lay' (hB : B ≤ w.heap.size) (h : DSt s bo m cb B w r i la bd ao n ca W) (h5 : RepF s B r' i' la' bd' ao' n' ca' W) : DSt s bo m cb B w r' i' la' bd' ao' n' ca' (put6 W w.heap.size (.string s) (.int .i64 i') (.int .i64 la') (.int .i64 bd') (.slice ao' n' ca') (.slice bo m cb)) :=
  DSt.lay hB h.1 h.2.1 h.2.2.1 h.2.2.2.1 h5
/-- Behind blanks and remarks. -/
theorem RepF.skip (h : RepF s B r i la bd ao n ca w) : RepF s B (r.map fun st => ⟨skAt s st.nx, st.la, st.cs⟩) (skAt s i) la bd ao n ca w := by
  obtain ⟨h1, h2, h3⟩ := h
  refine ⟨skAt_le s i h1, h2, ?_⟩
  cases r with
  | error q => exact h3
  | ok st =>
    obtain ⟨rfl, e2, e3, e4, e5⟩ := h3
    exact ⟨rfl, e2, e3, e4, e5⟩
/-- Two of the cells set: where the next token ends, where the last one began. -/
theorem DSt.two (hB : B ≤ w.heap.size) {st : St} {b e : Nat} (he : e ≤ s.size) (h : DSt s bo m cb B w (.ok st) i la bd ao n ca W) : DSt s bo m cb B w (.ok ⟨e, b, st.cs⟩) e b bd ao n ca ((W.setCell ⟨w.heap.size, 1, none⟩ (.int .i64 e)).setCell ⟨w.heap.size, 2, none⟩ (.int .i64 b)) := by
  obtain ⟨k0, k1, h3, h4, g1, g2, rfl, e2, rfl, e4, e5⟩ := h
  have ot : ∀ j, j ≠ w.heap.size → ((W.setCell ⟨w.heap.size, 1, none⟩ (.int .i64 e)).setCell ⟨w.heap.size, 2, none⟩ (.int .i64 b)).heap[j]? = W.heap[j]? := fun j hj => (heap_setCell_other _ _ _ _ hj).trans (heap_setCell_other _ _ _ _ hj)
  have kk := heap_setCell_same _ _ 2 _ _ (.int .i64 (b : Int)) (heap_setCell_same _ _ 1 _ _ (.int .i64 (e : Int)) k0)
  refine ⟨kk, (ot _ (by omega)).trans k1, (h3.setCell (p := ⟨w.heap.size, _, none⟩) hB _).setCell (p := ⟨w.heap.size, _, none⟩) hB _, ok_high h4 (fun b hb => ot b (by omega)), he, g2, rfl, rfl, rfl, e4, own_other e5 fun b hb => ?_⟩
  obtain ⟨cur, hc⟩ := own_kind e5 hb
  refine ot b ?_
  rintro rfl
  have := k0.symm.trans hc
  simp [rb] at this
end
end Go.Proofs.YtgfkmppkeolckaaDoor
