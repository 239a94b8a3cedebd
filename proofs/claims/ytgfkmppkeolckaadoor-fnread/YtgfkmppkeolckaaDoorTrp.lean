/- How often each cell is used, counted in a row. -/
import Derived.Test.YtgfkmppkeolckaaDoorShp
set_option linter.unusedVariables false
namespace Go.Proofs.YtgfkmppkeolckaaDoor
open Go.ChangeShapes Go.WideShapes Go.ChangeAt Go.RowKit
def cntA (n : Nat) (us : List Int) : Array Value := ((List.range n).map fun (j : Nat) => Value.int .i64 ((us.count (j : Int) : Nat) : Int)).toArray
theorem cntA_size (n : Nat) (us : List Int) : (cntA n us).size = n := by simp [cntA]
theorem cntA_get {n j : Nat} (us : List Int) (h : j < n) : (cntA n us)[j]? = some (.int .i64 ((us.count (j : Int) : Nat) : Int)) := by
  simp [cntA, h]
theorem cntA_set {n k : Nat} (us : List Int) (h : k < n) : (cntA n us).setIfInBounds k (.int .i64 (((us.count (k : Int) : Nat) : Int) + 1)) = cntA n (us ++ [(k : Int)]) := by
  apply Array.ext_getElem?
  intro j
  rw [Array.getElem?_setIfInBounds]
  by_cases hj : j < n
  · rw [cntA_get _ hj, cntA_get _ hj, cntA_size]
    by_cases hk : k = j
    · subst hk
      simp [h]
    · rw [if_neg hk, List.count_append]
      have : (k : Int) ≠ (j : Int) := by omega
      simp [this]
  · have h1 : (cntA n us)[j]? = none := by rw [Array.getElem?_eq_none]; rw [cntA_size]; omega
    have h2 : (cntA n (us ++ [(k : Int)]))[j]? = none := by rw [Array.getElem?_eq_none]; rw [cntA_size]; omega
    rw [h1, h2, if_neg (by omega)]
theorem cntA_zero (n : Nat) (cur : Array Value) (h : cur.size = n) (hc : cur.toList.take n = (madeCells #[Value.int .i64 0] n).toList) : cur = cntA n [] := by
  have e : cur.toList = (madeCells #[Value.int .i64 0] n).toList := by
    rw [← hc, List.take_of_length_le]
    simp [h]
  apply Array.ext'
  rw [e, toList_madeCells_one]
  symm
  apply List.eq_replicate_iff.2
  refine ⟨by simp [cntA], ?_⟩
  intro b hb
  simp only [cntA, List.count_nil] at hb
  obtain ⟨j, _, rfl⟩ := List.mem_map.1 hb
  rfl
theorem TreeP.not_of_pair {cs : List Dat} {ts : List Int} {i : Nat} {d : Dat} (hd : cs[i]? = some d) (h5 : d.k = 5) (h : ¬ (0 ≤ d.l ∧ d.l < i ∧ 0 ≤ d.r ∧ d.r < i)) : ¬ TreeP cs ts := fun ht => h (ht.1 i d hd h5)
theorem TreeP.not_of_top {cs : List Dat} {ts : List Int} {i : Nat} {t : Int} (hd : ts[i]? = some t) (h : ¬ (0 ≤ t ∧ t < cs.length)) : ¬ TreeP cs ts := fun ht => h (ht.2.1 t (List.mem_of_getElem? hd))
theorem TreeP.not_of_count {cs : List Dat} {ts us : List Int} {j : Nat} (hj : j < cs.length) (hp : us <+: usesOf cs ts) (h : 2 ≤ us.count (j : Int)) : ¬ TreeP cs ts := fun ht => by
  have h1 := ht.2.2 j hj
  have h2 := hp.sublist.count_le (j : Int)
  omega
/-- The uses of the first cells. -/
def usesC (cs : List Dat) (i : Nat) : List Int := (cs.take i).flatMap partsOf
theorem usesC_succ {cs : List Dat} {i : Nat} {d : Dat} (h : cs[i]? = some d) : usesC cs (i + 1) = usesC cs i ++ partsOf d := by
  simp [usesC, List.take_add_one, h]
theorem usesC_all (cs : List Dat) : usesC cs cs.length = cs.flatMap partsOf := by simp [usesC]
theorem usesC_prefix (cs : List Dat) (ts : List Int) (i : Nat) : usesC cs i <+: usesOf cs ts := by
  unfold usesC usesOf
  conv => rhs; rw [← List.take_append_drop i cs]
  rw [List.flatMap_append, List.append_assoc]
  exact List.prefix_append _ _
theorem usesT_prefix (cs : List Dat) (ts : List Int) (i : Nat) : cs.flatMap partsOf ++ ts.take i <+: usesOf cs ts := by
  unfold usesOf
  exact (List.prefix_append_right_inj _).2 (List.take_prefix i ts)
theorem parts_len (d : Dat) : (partsOf d).length ≤ 2 := by unfold partsOf; split <;> simp
theorem usesC_len (cs : List Dat) : ∀ i, (usesC cs i).length ≤ 2 * i
  | 0 => by simp [usesC]
  | i + 1 => by
    cases h : cs[i]? with
    | none =>
      have : usesC cs (i + 1) = usesC cs i := by simp [usesC, List.take_add_one, h]
      rw [this]; have := usesC_len cs i; omega
    | some d =>
      rw [usesC_succ h, List.length_append]
      have := usesC_len cs i
      have := parts_len d
      omega
open Classical in
noncomputable def treeB (cs : List Dat) (ts : List Int) : Bool := decide (TreeP cs ts)
theorem treeB_true {cs : List Dat} {ts : List Int} (h : TreeP cs ts) : treeB cs ts = true := by simp [treeB, h]
theorem treeB_false {cs : List Dat} {ts : List Int} (h : ¬ TreeP cs ts) : treeB cs ts = false := by simp [treeB, h]
theorem treeB_tree {cs : List Dat} {ts : List Int} (h : treeB cs ts = true) : TreeP cs ts := by simpa [treeB] using h
/-- The parts of the first pairs lie ahead of them. -/
def PairsTo (cs : List Dat) (i : Nat) : Prop := ∀ (j : Nat) (d : Dat), j < i → cs[j]? = some d → d.k = 5 → 0 ≤ d.l ∧ d.l < j ∧ 0 ≤ d.r ∧ d.r < j
end Go.Proofs.YtgfkmppkeolckaaDoor
