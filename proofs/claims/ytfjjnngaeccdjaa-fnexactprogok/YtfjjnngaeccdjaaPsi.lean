/- The program's ProgOk. -/
import Derived.Test.YtfjjnngaeccdjaaPsa
import Derived.Test.YtfjjnngaeccdjaaNok
namespace Go.Proofs.Ytfjjnngaeccdjaa
open Go.ChangeShapes Go.WideShapes Go.ChangeAt Go.RowKit
theorem Try.info4 : (Try.prog.info? 4).map (fun i => (i.zero, i.size, i.bytes)) = some (some (.bool false), 1, 1) := by kernel_rfl
/-- Which numbers were used, in a block. -/
def UseAt (w : World) (g len : Nat) (l : List Int) : Prop := ∃ cur : Array Value, w.heap[g]? = some (.cells cur 4 (0, 0)) ∧ cur.size = len ∧ ∀ j : Nat, j < len → cur[j]? = some (.bool (l.contains (j : Int)))
theorem UseAt.lt {w : World} {g len : Nat} {l : List Int} (h : UseAt w g len l) : g < w.heap.size := by
  obtain ⟨cur, h1, _⟩ := h
  exact (Array.getElem?_eq_some_iff.1 h1).1
theorem UseAt.alloc {w : World} {g len : Nat} {l : List Int} (h : UseAt w g len l) (o : Obj) : UseAt (w.alloc o) g len l := by
  obtain ⟨cur, h1, h2⟩ := h
  exact ⟨cur, blk_past h1, h2⟩
theorem UseAt.cell {w : World} {g len : Nat} {l : List Int} (h : UseAt w g len l) {j : Nat} (hj : j < len) : w.cell? ⟨g, j, none⟩ = some (.bool (l.contains (j : Int))) ∧ w.frozen? ⟨g, j, none⟩ = false := by
  obtain ⟨cur, h1, h2, h3⟩ := h
  exact ⟨cell_blk h1 (h3 j hj), frozen_blk h1 j⟩
theorem UseAt.add {w : World} {g len : Nat} {l : List Int} (h : UseAt w g len l) {a : Nat} (ha : a < len) : UseAt (w.setCell ⟨g, a, none⟩ (.bool true)) g len (l ++ [(a : Int)]) := by
  obtain ⟨cur, h1, h2, h3⟩ := h
  refine ⟨_, heap_setCell_same _ _ _ _ _ _ h1, by simp [h2], fun j hj => ?_⟩
  rw [Array.getElem?_setIfInBounds]
  by_cases e : a = j
  · subst e
    rw [if_pos rfl, if_pos (by omega)]
    simp
  · have e' : ¬ (j : Int) = (a : Int) := by omega
    rw [if_neg e, h3 j hj]
    simp [e']
/-- What slices.Index tells of false in a row of bools. -/
def IbPost (bs : Nat → Bool) (n : Nat) (w : World) (e : Ending) (w' : World) : Prop := ∃ x : Int, e = .returned (.int .i64 x) ∧ (0 ≤ x ↔ ∃ j, j < n ∧ bs j = false) ∧ w' = w
set_option maxRecDepth 100000 in
theorem indexB_any (g n cap : Nat) (bs : Nat → Bool) (w : World) (hn : n ≤ 1048576) (hc : ∀ j, j < n → w.cell? ⟨g, j, none⟩ = some (.bool (bs j))) :
    Calls Try.prog 53 #[.slice (some ⟨g, 0, none⟩) n cap, .bool false] w fun e w' => IbPost bs n w e w' := by
  have HC : Hid _ := hc
  clear hc
  go_enter Try.func53, Try.ntmps53
  go_wp2
  go_loop [8] (fun o => ∃ (i : Nat), i ≤ n ∧ o = .int .i64 i ∧ ∀ j, j < i → bs j = true) (fun o => n - (intOf o).toNat)
  case atStart => exact ⟨0, by omega, rfl, fun j h => absurd h (by omega)⟩
  case round =>
    obtain ⟨i, hi, rfl, hno⟩ := hrel
    have HNO : Hid (∀ j, j < i → bs j = true) := hno
    clear hno
    by_cases hlt : i < n
    · have c0 := HC.out i hlt
      cases hb : bs i
      · have HQ : Hid (bs i = false) := hb
        rw [hb] at c0
        clear hb
        go_wp2
        go_ret
        exact ⟨i, rfl, ⟨fun _ => ⟨i, hlt, HQ.out⟩, fun _ => by omega⟩, rfl⟩
      · have HQ : Hid (bs i = true) := hb
        rw [hb] at c0
        clear hb
        go_wp2
        go_round
        case rel =>
          refine ⟨i + 1, by omega, by go_num, fun j hj => ?_⟩
          by_cases e : j = i
          · subst e; exact HQ.out
          · exact HNO.out j (by omega)
        case measure => simp [intOf]; omega
    · have hlt' : decide ((i : Int) < (n : Int)) = false := by simp; omega
      obtain rfl : i = n := by omega
      go_wp2
      go_ret
      refine ⟨-1, rfl, ⟨fun h => by omega, ?_⟩, rfl⟩
      rintro ⟨j, hj, hb⟩
      rw [HNO.out j hj] at hb
      cases hb
/-- What slices.Contains tells of it. -/
def CbPost (bs : Nat → Bool) (n : Nat) (w : World) (e : Ending) (w' : World) : Prop := ∃ b : Bool, e = .returned (.bool b) ∧ (b = true ↔ ∃ j, j < n ∧ bs j = false) ∧ w' = w
set_option maxRecDepth 100000 in
theorem containsB_any (g n cap : Nat) (bs : Nat → Bool) (w : World) (hn : n ≤ 1048576) (hc : ∀ j, j < n → w.cell? ⟨g, j, none⟩ = some (.bool (bs j))) :
    Calls Try.prog 44 #[.slice (some ⟨g, 0, none⟩) n cap, .bool false] w fun e w' => CbPost bs n w e w' := by
  have HI : Hid (Calls Try.prog 53 #[.slice (some ⟨g, 0, none⟩) n cap, .bool false] w fun e w' => IbPost bs n w e w') := indexB_any g n cap bs w hn hc
  clear hc
  go_enter Try.func44, Try.ntmps44
  go_wp2_with fail
  refine HI.out.mono ?_
  rintro e w1 ⟨x, rfl, hx, rfl⟩
  have HX : Hid _ := hx
  clear hx HI
  go_wp2
  go_ret
  exact ⟨decide (0 ≤ x), by simp, by rw [decide_eq_true_iff]; exact HX.out, rfl⟩
/-- What eachArgOnce tells. -/
def EaPost (ns : List Nod) (w : World) (e : Ending) (w' : World) : Prop := ∃ b : Bool, e = .returned (.bool b) ∧ (b = true ↔ (inR ns ∧ onceP ns)) ∧ Below w.heap.size w w'
theorem EaPost.no {ns : List Nod} {w w' : World} (h : ¬ (inR ns ∧ onceP ns)) (hb : Below w.heap.size w w') : EaPost ns w (.returned (.bool false)) w' :=
  ⟨false, rfl, ⟨fun h => (by cases h), fun h' => absurd h' h⟩, hb⟩
theorem not_in' {ns : List Nod} {i : Nat} {d : Nod} {x : Int} (h : ns[i]? = some d) (hx : x ∈ d.args) (hd : ¬ (0 ≤ x ∧ x < (i : Int))) : ¬ (inR ns ∧ onceP ns) := by
  rintro ⟨h5, _⟩
  exact hd (h5 i d h x hx)
theorem not_twice {ns : List Nod} {i k : Nat} {d : Nod} {x : Int} (h : ns[i]? = some d) (hx : d.args[k]? = some x) (hm : x ∈ flat (ns.take i) ++ d.args.take k) : ¬ (inR ns ∧ onceP ns) := by
  rintro ⟨_, h5, _⟩
  have h1 := h5 x
  have e : d.args = d.args.take k ++ [x] ++ d.args.drop (k + 1) := by
    conv => lhs; rw [← List.take_append_drop (k + 1) d.args]
    rw [List.take_add_one, hx]
    rfl
  rw [flat_split h, e] at h1
  have h2 := List.count_pos_iff.2 hm
  simp only [List.count_append] at h1 h2
  have h3 : ([x] : List Int).count x = 1 := by simp
  omega
/-- What is known of the first i nodes. -/
def ArgsTo (ns : List Nod) (i : Nat) : Prop := ∀ (j : Nat) (d : Nod), j < i → ns[j]? = some d → ∀ x ∈ d.args, 0 ≤ x ∧ x < (j : Int)
/-- No number twice. -/
def Lone (l : List Int) : Prop := ∀ a, l.count a ≤ 1
theorem Lone.add {l : List Int} {x : Int} (h : Lone l) (hx : x ∉ l) : Lone (l ++ [x]) := by
  intro a
  by_cases e : x = a
  · subst e
    rw [count_snoc_same, List.count_eq_zero_of_not_mem hx]
    exact Nat.le_refl _
  · rw [count_snoc_other l e]
    exact h a
end Go.Proofs.Ytfjjnngaeccdjaa
