/- The names that a program sets, as a plain function; rows of texts that a call made; the library's Clone, Index and Contains. -/
import Derived.Shelf.LaysM
import Derived.Shelf.Strconv.Clone
import Derived.Test.YtjdlohjhfcmicaaPsj
import Derived.Deep.AppendLies
import Derived.Deep.RegionLaw
set_option linter.unusedVariables false
namespace Go.Proofs
def Try.laysM316_ren : Go.Shelf.Ren := ⟨fun | 316 => 39 | n => n, fun | 9 => 9 | 3 => 3 | 4 => 4 | 37 => 68 | 0 => 0 | 127 => 84 | 5 => 5 | n => n, fun | n => n⟩
theorem Try.laysM316 : Go.Proofs.LaysM.n316 Try.prog Try.laysM316_ren := {
  mixed := by kernel_rfl
  f316 := Try.func39.trans (congrArg some (by kernel_rfl))
  t0 := Try.underlying0
  a0 := Try.isAgg0
  z0 := Try.sizeOf0
  v0 := Try.zeroValue0
  t3 := Try.underlying3
  a3 := Try.isAgg3
  z3 := Try.sizeOf3
  v3 := Try.zeroValue3
  t4 := Try.underlying4
  a4 := Try.isAgg4
  z4 := Try.sizeOf4
  v4 := Try.zeroValue4
  t9 := Try.underlying9
  a9 := Try.isAgg9
  z9 := Try.sizeOf9
  v9 := Try.zeroValue9
  t37 := Try.underlying68
  a37 := Try.isAgg68
  z37 := Try.sizeOf68
  v37 := Try.zeroValue68
  t127 := Try.underlying84
  a127 := Try.isAgg84
  z127 := Try.sizeOf84
  v127 := Try.zeroValue84
  t5 := Try.underlying5
  a5 := Try.isAgg5
  z5 := Try.sizeOf5
  v5 := Try.zeroValue5
  i0 := by kernel_rfl
  i3 := by kernel_rfl
  i4 := by kernel_rfl
  i5 := by kernel_rfl
  i9 := by kernel_rfl
  i37 := by kernel_rfl
  i127 := by kernel_rfl }
open Go.RowKit in
theorem Try.stringslite_Clone (s : ByteArray) (w : World) (hlim : s.size ≤ 281474976710656) :
    Calls Try.prog 39 #[.string s] w fun e w' => e = .returned (.string s) ∧ Below w.heap.size w w' := Any.stringslite_Clone Try.laysM316 s w hlim
end Go.Proofs
namespace Go.Proofs.Ytjdlohjhfcmicaa
open Go.ChangeShapes Go.WideShapes Go.ChangeAt Go.RowKit
theorem clone_any (s : ByteArray) (w : World) (hs : s.size ≤ 1048576) : Calls Try.prog 25 #[.string s] w fun e w' => Ans w (.string s) e w' := by
  have HC : Hid (Calls Try.prog 39 #[.string s] w fun e w' => e = .returned (.string s) ∧ Below w.heap.size w w') := Try.stringslite_Clone s w (by omega)
  go_enter Try.func25, Try.ntmps25
  go_wp2_with (go_at_call 39; refine HC.out.mono ?_; rintro e w2 ⟨rfl, hb⟩)
  go_ret
  exact ⟨rfl, hb⟩
/-- The names that are set. -/
def setsL (ns : List Nod) : List ByteArray := ns.foldl (fun l d => if d.k = 10 ∧ hasS l d.s = false then l ++ [d.s] else l) []
theorem setsL_snoc (ns : List Nod) (d : Nod) : setsL (ns ++ [d]) = if d.k = 10 ∧ hasS (setsL ns) d.s = false then setsL ns ++ [d.s] else setsL ns := by
  unfold setsL
  rw [List.foldl_append]
  rfl
theorem setsL_take {ns : List Nod} {i : Nat} {d : Nod} (h : ns[i]? = some d) : setsL (ns.take (i + 1)) = if d.k = 10 ∧ hasS (setsL (ns.take i)) d.s = false then setsL (ns.take i) ++ [d.s] else setsL (ns.take i) := by
  rw [List.take_add_one, h]
  exact setsL_snoc _ _
theorem setsL_len : ∀ (n : Nat) (ns : List Nod), ns.length = n → (setsL ns).length ≤ n
  | 0, ns, h => by
    obtain rfl := List.length_eq_zero_iff.1 h
    simp [setsL]
  | n + 1, ns, h => by
    obtain ⟨bs, d, rfl⟩ : ∃ bs d, ns = bs ++ [d] := by
      have : ns ≠ [] := by intro e; rw [e] at h; simp at h
      exact ⟨ns.dropLast, ns.getLast this, (List.dropLast_concat_getLast this).symm⟩
    have hl : bs.length = n := by simp at h; exact h
    have h1 := setsL_len n bs hl
    rw [setsL_snoc]
    split
    · simp; omega
    · omega
theorem take_get {cur : Array Value} {xs : List Value} {m i : Nat} {v : Value} (h : List.take m cur.toList = xs) (hx : xs[i]? = some v) : cur[i]? = some v := by
  rw [← h] at hx
  by_cases hi : i < m
  · rw [List.getElem?_take_of_lt hi] at hx
    simpa using hx
  · rw [List.getElem?_take_eq_none (by omega)] at hx
    cases hx
/-- A row of texts that a call made. -/
def OwnS (w : World) (B : Nat) (v : Value) (l : List ByteArray) : Prop := w.ownsRow B 9 1 v l.length (l.map Value.string)
theorem OwnS.row {w : World} {B cap : Nat} {a : Option Addr} {l : List ByteArray} {n : Nat} (h : OwnS w B (.slice a n cap) l) : n = l.length ∧ RowS w w.heap.size a l := by
  obtain ⟨hl, ⟨hv, h0⟩ | ⟨g, cap', cur, hv, a1, hblk, a3, a4, a5, a6⟩⟩ := h
  · injection hv with h1 h2 h3
    refine ⟨by omega, fun i x hx => ?_⟩
    rw [List.eq_nil_of_length_eq_zero h0] at hx
    simp at hx
  · injection hv with h1 h2 h3
    refine ⟨h2, fun i x hx => ⟨g, 0, h1, (Array.getElem?_eq_some_iff.1 hblk).1, ?_⟩⟩
    rw [Nat.zero_add]
    exact cell_blk hblk (take_get a6 (by rw [List.getElem?_map, hx]; rfl))
theorem OwnS.slice {w : World} {B : Nat} {v : Value} {l : List ByteArray} (h : OwnS w B v l) : ∃ (a : Option Addr) (cap : Nat), v = .slice a l.length cap := by
  obtain ⟨hl, ⟨hv, h0⟩ | ⟨g, cap', cur, hv, _⟩⟩ := h
  · exact ⟨none, 0, by rw [hv, h0]⟩
  · exact ⟨_, _, hv⟩
theorem OwnS.below {w w' : World} {B : Nat} {v : Value} {l : List ByteArray} (h : OwnS w B v l) (hb : Below w.heap.size w w') : OwnS w' B v l := by
  obtain ⟨hl, ⟨hv, h0⟩ | ⟨g, cap', cur, hv, a1, hblk, a3⟩⟩ := h
  · exact ⟨hl, .inl ⟨hv, h0⟩⟩
  · exact ⟨hl, .inr ⟨g, cap', cur, hv, a1, (hb.block g (Array.getElem?_eq_some_iff.1 hblk).1).trans hblk, a3⟩⟩
/-- What Sets and Free tell. -/
def TellP (l : List ByteArray) (w : World) (e : Ending) (w' : World) : Prop := ∃ v, e = .returned v ∧ OwnS w' w.heap.size v l ∧ Below w.heap.size w w'
end Go.Proofs.Ytjdlohjhfcmicaa
