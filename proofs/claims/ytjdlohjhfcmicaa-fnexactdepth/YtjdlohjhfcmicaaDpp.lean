/- How deep the nodes of a program stand, as a plain function; depths in memory. -/
import Derived.Test.YtjdlohjhfcmicaaPsa
set_option linter.unusedVariables false
namespace Go.Proofs.Ytjdlohjhfcmicaa
open Go.ChangeShapes Go.WideShapes Go.ChangeAt Go.RowKit
/-- The greatest depth of some Args. -/
def dpO (l : List Nat) (args : List Int) : Nat := args.foldl (fun m a => max m (l.getD a.toNat 0)) 0
theorem dpO_snoc (l : List Nat) (args : List Int) (x : Int) : dpO l (args ++ [x]) = max (dpO l args) (l.getD x.toNat 0) := by simp [dpO]
/-- The depths of all nodes. -/
def dps (ns : List Nod) : List Nat := ns.foldl (fun l d => l ++ [dpO l d.args + 1]) []
theorem dps_snoc (ns : List Nod) (d : Nod) : dps (ns ++ [d]) = dps ns ++ [dpO (dps ns) d.args + 1] := by simp [dps]
theorem dps_take {ns : List Nod} {i : Nat} {d : Nod} (h : ns[i]? = some d) : dps (ns.take (i + 1)) = dps (ns.take i) ++ [dpO (dps (ns.take i)) d.args + 1] := by
  rw [List.take_add_one, h]
  exact dps_snoc _ _
theorem getD_le {l : List Nat} {B : Nat} (h : ∀ x ∈ l, x ≤ B) (j : Nat) : l.getD j 0 ≤ B := by
  rw [List.getD_eq_getElem?_getD]
  cases hj : l[j]? with
  | none => simp
  | some x => exact h x (List.mem_of_getElem? hj)
theorem dpO_le {l : List Nat} {B : Nat} (h : ∀ x ∈ l, x ≤ B) (args : List Int) : dpO l args ≤ B := by
  have : ∀ (args : List Int) (m : Nat), m ≤ B → args.foldl (fun m a => max m (l.getD a.toNat 0)) m ≤ B := by
    intro args
    induction args with
    | nil => intro m hm; exact hm
    | cons a bs ih => intro m hm; exact ih _ (Nat.max_le.2 ⟨hm, getD_le h _⟩)
  exact this args 0 (Nat.zero_le _)
theorem dps_len : ∀ (n : Nat) (ns : List Nod), ns.length = n → (dps ns).length = n ∧ ∀ x ∈ dps ns, x ≤ n
  | 0, ns, h => by
    obtain rfl := List.length_eq_zero_iff.1 h
    simp [dps]
  | n + 1, ns, h => by
    obtain ⟨bs, d, rfl⟩ : ∃ bs d, ns = bs ++ [d] := by
      have : ns ≠ [] := by intro e; rw [e] at h; simp at h
      exact ⟨ns.dropLast, ns.getLast this, (List.dropLast_concat_getLast this).symm⟩
    have hl : bs.length = n := by simp at h; exact h
    obtain ⟨h1, h2⟩ := dps_len n bs hl
    rw [dps_snoc]
    refine ⟨by simp [h1], fun x hx => ?_⟩
    rcases List.mem_append.1 hx with h | h
    · have := h2 x h; omega
    · have := dpO_le h2 d.args
      rw [List.mem_singleton.1 h]
      omega
/-- Depths in memory: what is not yet known is 0. -/
def DpAt (w : World) (g len : Nat) (l : List Nat) : Prop := ∃ cur : Array Value, w.heap[g]? = some (.cells cur 3 (0, 0)) ∧ cur.size = len ∧ ∀ j : Nat, j < len → cur[j]? = some (.int .i64 (l.getD j 0 : Nat))
theorem DpAt.keep {w w' : World} {g len B : Nat} {l : List Nat} (h : DpAt w g len l) (hb : Below B w w') (hg : g < B) : DpAt w' g len l := by
  obtain ⟨cur, h1, h2, h3⟩ := h
  exact ⟨cur, (hb.block g hg).trans h1, h2, h3⟩
theorem DpAt.lt {w : World} {g len : Nat} {l : List Nat} (h : DpAt w g len l) : g < w.heap.size := by
  obtain ⟨cur, h1, _⟩ := h
  exact (Array.getElem?_eq_some_iff.1 h1).1
theorem DpAt.cell {w : World} {g len : Nat} {l : List Nat} (h : DpAt w g len l) {j : Nat} (hj : j < len) : w.cell? ⟨g, j, none⟩ = some (.int .i64 (l.getD j 0 : Nat)) ∧ w.frozen? ⟨g, j, none⟩ = false := by
  obtain ⟨cur, h1, h2, h3⟩ := h
  exact ⟨cell_blk h1 (h3 j hj), frozen_blk h1 j⟩
/-- The depth of the node at hand is laid. -/
theorem DpAt.put {w : World} {g len : Nat} {l : List Nat} {x : Nat} (h : DpAt w g len (l ++ [x])) {y : Nat} (hl : l.length < len) : DpAt (w.setCell ⟨g, l.length, none⟩ (.int .i64 (y : Nat))) g len (l ++ [y]) := by
  obtain ⟨cur, h1, h2, h3⟩ := h
  refine ⟨_, heap_setCell_same _ _ _ _ _ _ h1, by simp [h2], fun j hj => ?_⟩
  rw [Array.getElem?_setIfInBounds]
  by_cases hjl : l.length = j
  · subst hjl
    rw [if_pos rfl, if_pos (by omega)]
    simp [List.getD_eq_getElem?_getD]
  · rw [if_neg hjl, h3 j hj]
    simp only [List.getD_eq_getElem?_getD, List.getElem?_append]
    by_cases hlt : j < l.length
    · simp [hlt]
    · have : j - l.length ≠ 0 := by omega
      simp [hlt]
      rw [List.getElem?_eq_none (by simp; omega), List.getElem?_eq_none (by simp; omega)]
theorem DpAt.zero {w : World} {B g len : Nat} (h : w.ownsRow B 3 1 (.slice (some ⟨g, 0, none⟩) len len) len (madeCells #[Value.int .i64 0] len).toList) : DpAt w g len [] := by
  obtain ⟨cur, h1, h2, h3⟩ := made_row h
  exact ⟨cur, h1, h2, fun j hj => by rw [h3 j hj]; rfl⟩
theorem DpAt.begin {w : World} {g len : Nat} {l : List Nat} (h : DpAt w g len l) : DpAt w g len (l ++ [0]) := by
  obtain ⟨cur, h1, h2, h3⟩ := h
  refine ⟨cur, h1, h2, fun j hj => ?_⟩
  rw [h3 j hj]
  simp only [List.getD_eq_getElem?_getD, List.getElem?_append]
  by_cases hlt : j < l.length
  · simp [hlt]
  · rw [List.getElem?_eq_none (by omega : l.length ≤ j)]
    simp [hlt]
    cases hq : ([0] : List Nat)[j - l.length]? with
    | none => rfl
    | some x =>
      have := List.mem_of_getElem? hq
      simp at this
      simp [this]
/-- How deep a program is. -/
def depN (ns : List Nod) : Nat := (dps ns).getD (ns.length - 1) 0
theorem depN_le (ns : List Nod) : depN ns ≤ ns.length := getD_le (dps_len _ ns rfl).2 _
theorem getD_snoc_lt {l : List Nat} {x j : Nat} (h : j < l.length) : (l ++ [x]).getD j 0 = l.getD j 0 := by
  simp only [List.getD_eq_getElem?_getD, List.getElem?_append, h, if_true]
theorem getD_snoc_eq {l : List Nat} {x : Nat} : (l ++ [x]).getD l.length 0 = x := by
  simp [List.getD_eq_getElem?_getD]
end Go.Proofs.Ytjdlohjhfcmicaa
