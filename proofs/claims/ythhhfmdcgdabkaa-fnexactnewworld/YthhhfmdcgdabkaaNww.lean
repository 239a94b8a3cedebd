/- NewWorld: the model's and the program's; two of them held against each other, marked, held. -/
import Derived.Test.YthhhfmdcgdabkaaNew
set_option linter.unusedVariables false
namespace Go.Proofs.Ythhhfmdcgdabkaa
open Go.ChangeShapes Go.WideShapes Go.ChangeAt Go.RowKit
set_option maxRecDepth 100000 in
theorem nil12 (w : World) : Calls Try.prog 12 #[.slice none 0 0, .slice none 0 0] w fun e w' => e = .returned (.bool true) ∧ w' = w := by
  go_enter Try.func12, Try.ntmps12
  go_wp2
  go_loopw [5] (fun o wr => o = .int .i64 0 ∧ wr = w) (fun _ _ => 0)
  case atStart => exact ⟨rfl, rfl⟩
  case round =>
    obtain ⟨rfl, rfl⟩ := hrel
    go_wp2
    go_ret
    exact ⟨rfl, rfl⟩
set_option maxRecDepth 100000 in
theorem nil13 (w : World) : Calls Try.prog 13 #[.slice none 0 0, .slice none 0 0] w fun e w' => e = .returned (.bool true) ∧ w' = w := by
  go_enter Try.func13, Try.ntmps13
  go_wp2
  go_loopw [5] (fun o wr => o = .int .i64 0 ∧ wr = w) (fun _ _ => 0)
  case atStart => exact ⟨rfl, rfl⟩
  case round =>
    obtain ⟨rfl, rfl⟩ := hrel
    go_wp2
    go_ret
    exact ⟨rfl, rfl⟩
set_option maxRecDepth 100000 in
theorem nil15 (k : Nat) (w : World) : Calls Try.prog 15 #[.slice none 0 0, .int .i64 k] w fun e w' => e = .returned (.int .i64 k) ∧ w' = w := by
  go_enter Try.func15, Try.ntmps15
  go_wp2
  go_loopw [1, 5] (fun kv o wr => kv = .int .i64 k ∧ o = .int .i64 0 ∧ wr = w) (fun _ _ _ => 0)
  case atStart => exact ⟨rfl, rfl, rfl⟩
  case round =>
    obtain ⟨rfl, rfl, rfl⟩ := hrel
    go_wp2
    go_ret
    exact ⟨rfl, rfl⟩
set_option maxRecDepth 100000 in
theorem nil16 (k : Nat) (w : World) : Calls Try.prog 16 #[.slice none 0 0, .int .i64 k] w fun e w' => e = .returned (.int .i64 k) ∧ w' = w := by
  go_enter Try.func16, Try.ntmps16
  go_wp2
  go_loopw [1, 5] (fun kv o wr => kv = .int .i64 k ∧ o = .int .i64 0 ∧ wr = w) (fun _ _ _ => 0)
  case atStart => exact ⟨rfl, rfl, rfl⟩
  case round =>
    obtain ⟨rfl, rfl, rfl⟩ := hrel
    go_wp2
    go_ret
    exact ⟨rfl, rfl⟩
set_option maxRecDepth 100000 in
theorem nil18 (k : Nat) (w : World) : Calls Try.prog 18 #[.slice none 0 0, .int .i64 k] w fun e w' => e = .returned (.int .i64 k) ∧ w' = w := by
  go_enter Try.func18, Try.ntmps18
  go_wp2
  go_loopw [1, 5] (fun kv o wr => kv = .int .i64 k ∧ o = .int .i64 0 ∧ wr = w) (fun _ _ _ => 0)
  case atStart => exact ⟨rfl, rfl, rfl⟩
  case round =>
    obtain ⟨rfl, rfl, rfl⟩ := hrel
    go_wp2
    go_ret
    exact ⟨rfl, rfl⟩
set_option maxRecDepth 100000 in
theorem nil19 (k : Nat) (w : World) : Calls Try.prog 19 #[.slice none 0 0, .int .i64 k] w fun e w' => e = .returned (.int .i64 k) ∧ w' = w := by
  go_enter Try.func19, Try.ntmps19
  go_wp2
  go_loopw [1, 5] (fun kv o wr => kv = .int .i64 k ∧ o = .int .i64 0 ∧ wr = w) (fun _ _ _ => 0)
  case atStart => exact ⟨rfl, rfl, rfl⟩
  case round =>
    obtain ⟨rfl, rfl, rfl⟩ := hrel
    go_wp2
    go_ret
    exact ⟨rfl, rfl⟩
set_option maxRecDepth 100000 in
set_option maxHeartbeats 1000000 in
theorem specWorld (w : World) : Calls Try.prog 4 #[] w fun e w' => e = .returned (.agg #[.slice none 0 0, .slice (some ⟨w.heap.size + 2, 0, none⟩) 1 1, .slice none 0 0, .slice none 0 0, .slice none 0 0, .slice none 0 0, .int .i64 1]) ∧ w'.heap[w.heap.size + 2]? = some (.cells #[.string ⟨#[]⟩, .int .i64 0, .slice none 0 0, .slice none 0 0, .slice none 0 0, .slice none 0 0] 47 (0, 0)) ∧ Below w.heap.size w w' ∧ w.heap.size + 2 < w'.heap.size := by
  go_enter Try.func4, Try.ntmps4
  go_wp2_with fail
  refine (specNew _).mono ?_
  have hz : (w.alloc (.cells #[.slice none 0 0, .slice none 0 0, .slice none 0 0, .slice none 0 0, .slice none 0 0, .slice none 0 0, .int .i64 0] 31)).heap.size + 1 = w.heap.size + 2 := by simp
  rw [hz]
  rintro e w1 ⟨rfl, k1, b1, s1⟩
  have v1 : w1.heap[w.heap.size]? = some (.cells #[.slice none 0 0, .slice none 0 0, .slice none 0 0, .slice none 0 0, .slice none 0 0, .slice none 0 0, .int .i64 0] 31) := (b1.block w.heap.size (by simp)).trans (blk_at _ _ _ rfl)
  have B1 : Hid (Below w.heap.size w w1) := ((Below.refl _ _).alloc (Nat.le_refl _) _).trans (b1.mono (by simp))
  have K1 : Hid (w1.heap[w.heap.size + 2]? = some (.cells #[.string ⟨#[]⟩, .int .i64 0, .slice none 0 0, .slice none 0 0, .slice none 0 0, .slice none 0 0] 47 (0, 0))) := k1
  have c0 := cell_blk (j := 0) v1 rfl
  have f0 := frozen_blk v1 0
  have c1 := cell_blk (j := 1) v1 rfl
  have f1 := frozen_blk v1 1
  have c2 := cell_blk (j := 2) v1 rfl
  have f2 := frozen_blk v1 2
  have c3 := cell_blk (j := 3) v1 rfl
  have f3 := frozen_blk v1 3
  have c4 := cell_blk (j := 4) v1 rfl
  have f4 := frozen_blk v1 4
  have c5 := cell_blk (j := 5) v1 rfl
  have f5 := frozen_blk v1 5
  have c6 := cell_blk (j := 6) v1 rfl
  have f6 := frozen_blk v1 6
  have V1 : Hid (w1.heap[w.heap.size]? = some (.cells #[.slice none 0 0, .slice none 0 0, .slice none 0 0, .slice none 0 0, .slice none 0 0, .slice none 0 0, .int .i64 0] 31)) := v1
  clear v1 k1 b1 hz
  go_wp2_with fail
  refine bodyPost_ret (results_cell_row rfl _ _ w.heap.size 31 #[.slice none 0 0, .slice (some ⟨w.heap.size + 2, 0, none⟩) 1 1, .slice none 0 0, .slice none 0 0, .slice none 0 0, .slice none 0 0, .int .i64 1] (0, 0) _ rfl (heap_setCell_same _ _ _ _ _ _ (heap_setCell_same _ _ _ _ _ _ (heap_setCell_same _ _ _ _ _ _ (heap_setCell_same _ _ _ _ _ _ (heap_setCell_same _ _ _ _ _ _ (heap_setCell_same _ _ _ _ _ _ (heap_setCell_same _ _ _ _ _ _ (V1.out)))))))) Try.underlying31 rfl (by kernel_rfl)) rfl ?_
  refine ⟨rfl, ?_, Below.setCell (Below.setCell (Below.setCell (Below.setCell (Below.setCell (Below.setCell (Below.setCell (B1.out) (Nat.le_refl _) _) (Nat.le_refl _) _) (Nat.le_refl _) _) (Nat.le_refl _) _) (Nat.le_refl _) _) (Nat.le_refl _) _) (Nat.le_refl _) _, by simpa using s1⟩
  repeat rw [heap_setCell_other _ _ _ _ (by simp)]
  exact K1.out
set_option maxRecDepth 100000 in
set_option maxHeartbeats 1000000 in
theorem implWorld (w : World) : Calls Try.prog 5 #[] w fun e w' => e = .returned (.agg #[.slice none 0 0, .slice (some ⟨w.heap.size + 2, 0, none⟩) 1 1, .slice none 0 0, .slice none 0 0, .slice none 0 0, .slice none 0 0, .int .i64 1]) ∧ w'.heap[w.heap.size + 2]? = some (.cells #[.string ⟨#[]⟩, .int .i64 0, .slice none 0 0, .slice none 0 0, .slice none 0 0, .slice none 0 0] 47 (0, 0)) ∧ Below w.heap.size w w' ∧ w.heap.size + 2 < w'.heap.size := by
  go_enter Try.func5, Try.ntmps5
  go_wp2_with fail
  refine (implNew _).mono ?_
  have hz : (w.alloc (.cells #[.slice none 0 0, .slice none 0 0, .slice none 0 0, .slice none 0 0, .slice none 0 0, .slice none 0 0, .int .i64 0] 31)).heap.size + 1 = w.heap.size + 2 := by simp
  rw [hz]
  rintro e w1 ⟨rfl, k1, b1, s1⟩
  have v1 : w1.heap[w.heap.size]? = some (.cells #[.slice none 0 0, .slice none 0 0, .slice none 0 0, .slice none 0 0, .slice none 0 0, .slice none 0 0, .int .i64 0] 31) := (b1.block w.heap.size (by simp)).trans (blk_at _ _ _ rfl)
  have B1 : Hid (Below w.heap.size w w1) := ((Below.refl _ _).alloc (Nat.le_refl _) _).trans (b1.mono (by simp))
  have K1 : Hid (w1.heap[w.heap.size + 2]? = some (.cells #[.string ⟨#[]⟩, .int .i64 0, .slice none 0 0, .slice none 0 0, .slice none 0 0, .slice none 0 0] 47 (0, 0))) := k1
  have c0 := cell_blk (j := 0) v1 rfl
  have f0 := frozen_blk v1 0
  have c1 := cell_blk (j := 1) v1 rfl
  have f1 := frozen_blk v1 1
  have c2 := cell_blk (j := 2) v1 rfl
  have f2 := frozen_blk v1 2
  have c3 := cell_blk (j := 3) v1 rfl
  have f3 := frozen_blk v1 3
  have c4 := cell_blk (j := 4) v1 rfl
  have f4 := frozen_blk v1 4
  have c5 := cell_blk (j := 5) v1 rfl
  have f5 := frozen_blk v1 5
  have c6 := cell_blk (j := 6) v1 rfl
  have f6 := frozen_blk v1 6
  have V1 : Hid (w1.heap[w.heap.size]? = some (.cells #[.slice none 0 0, .slice none 0 0, .slice none 0 0, .slice none 0 0, .slice none 0 0, .slice none 0 0, .int .i64 0] 31)) := v1
  clear v1 k1 b1 hz
  go_wp2_with fail
  refine bodyPost_ret (results_cell_row rfl _ _ w.heap.size 31 #[.slice none 0 0, .slice (some ⟨w.heap.size + 2, 0, none⟩) 1 1, .slice none 0 0, .slice none 0 0, .slice none 0 0, .slice none 0 0, .int .i64 1] (0, 0) _ rfl (heap_setCell_same _ _ _ _ _ _ (heap_setCell_same _ _ _ _ _ _ (heap_setCell_same _ _ _ _ _ _ (heap_setCell_same _ _ _ _ _ _ (heap_setCell_same _ _ _ _ _ _ (heap_setCell_same _ _ _ _ _ _ (heap_setCell_same _ _ _ _ _ _ (V1.out)))))))) Try.underlying31 rfl (by kernel_rfl)) rfl ?_
  refine ⟨rfl, ?_, Below.setCell (Below.setCell (Below.setCell (Below.setCell (Below.setCell (Below.setCell (Below.setCell (B1.out) (Nat.le_refl _) _) (Nat.le_refl _) _) (Nat.le_refl _) _) (Nat.le_refl _) _) (Nat.le_refl _) _) (Nat.le_refl _) _) (Nat.le_refl _) _, by simpa using s1⟩
  repeat rw [heap_setCell_other _ _ _ _ (by simp)]
  exact K1.out
set_option maxRecDepth 100000 in
set_option maxHeartbeats 1000000 in
theorem eqWorld_new (g g' : Nat) (w : World) (h : w.heap[g]? = some (.cells #[.string ⟨#[]⟩, .int .i64 0, .slice none 0 0, .slice none 0 0, .slice none 0 0, .slice none 0 0] 47 (0, 0))) (h' : w.heap[g']? = some (.cells #[.string ⟨#[]⟩, .int .i64 0, .slice none 0 0, .slice none 0 0, .slice none 0 0, .slice none 0 0] 47 (0, 0))) :
    Calls Try.prog 6 #[.agg #[.slice none 0 0, .slice (some ⟨g, 0, none⟩) 1 1, .slice none 0 0, .slice none 0 0, .slice none 0 0, .slice none 0 0, .int .i64 1], .agg #[.slice none 0 0, .slice (some ⟨g', 0, none⟩) 1 1, .slice none 0 0, .slice none 0 0, .slice none 0 0, .slice none 0 0, .int .i64 1]] w fun e w' => Ans w (.bool true) e w' := by
  have HE : Hid (∀ w1, Below w.heap.size w w1 → Calls Try.prog 11 #[.agg #[.slice none 0 0, .slice (some ⟨g, 0, none⟩) 1 1, .slice none 0 0, .slice none 0 0], .agg #[.slice none 0 0, .slice (some ⟨g', 0, none⟩) 1 1, .slice none 0 0, .slice none 0 0]] w1 fun e w' => Ans w1 (.bool true) e w') := fun w1 hb => eqSys_new g g' w1 (blk_keep h hb (Array.getElem?_eq_some_iff.1 h).1) (blk_keep h' hb (Array.getElem?_eq_some_iff.1 h').1)
  have hbA : Below w.heap.size w ((w.alloc (Obj.cells #[.slice none 0 0, .slice (some ⟨g, 0, none⟩) 1 1, .slice none 0 0, .slice none 0 0, .slice none 0 0, .slice none 0 0, .int .i64 1] 31)).alloc (Obj.cells #[.slice none 0 0, .slice (some ⟨g', 0, none⟩) 1 1, .slice none 0 0, .slice none 0 0, .slice none 0 0, .slice none 0 0, .int .i64 1] 31)) := ((Below.refl _ _).alloc (Nat.le_refl _) _).alloc (by simp) _
  have k0 : ((w.alloc (Obj.cells #[.slice none 0 0, .slice (some ⟨g, 0, none⟩) 1 1, .slice none 0 0, .slice none 0 0, .slice none 0 0, .slice none 0 0, .int .i64 1] 31)).alloc (Obj.cells #[.slice none 0 0, .slice (some ⟨g', 0, none⟩) 1 1, .slice none 0 0, .slice none 0 0, .slice none 0 0, .slice none 0 0, .int .i64 1] 31)).heap[w.heap.size]? = some (Obj.cells #[.slice none 0 0, .slice (some ⟨g, 0, none⟩) 1 1, .slice none 0 0, .slice none 0 0, .slice none 0 0, .slice none 0 0, .int .i64 1] 31) := blk_past (blk_at _ _ _ rfl)
  have k1 : ((w.alloc (Obj.cells #[.slice none 0 0, .slice (some ⟨g, 0, none⟩) 1 1, .slice none 0 0, .slice none 0 0, .slice none 0 0, .slice none 0 0, .int .i64 1] 31)).alloc (Obj.cells #[.slice none 0 0, .slice (some ⟨g', 0, none⟩) 1 1, .slice none 0 0, .slice none 0 0, .slice none 0 0, .slice none 0 0, .int .i64 1] 31)).heap[w.heap.size + 1]? = some (Obj.cells #[.slice none 0 0, .slice (some ⟨g', 0, none⟩) 1 1, .slice none 0 0, .slice none 0 0, .slice none 0 0, .slice none 0 0, .int .i64 1] 31) := blk_at _ _ _ (by simp)
  clear h h'
  go_enter Try.func6, Try.ntmps6
  go_wp2_with (first | (go_at_call 11; refine (HE.out _ hbA).mono ?_; rintro e w1 ⟨rfl, hb1⟩; have m0 := blk_keep k0 hb1 (by simp; omega); have m1 := blk_keep k1 hb1 (by simp); have c4 := cell_blk (j := 4) m0 rfl; have d4 := cell_blk (j := 4) m1 rfl; have c5 := cell_blk (j := 5) m0 rfl; have d5 := cell_blk (j := 5) m1 rfl; have c6 := cell_blk (j := 6) m0 rfl; have d6 := cell_blk (j := 6) m1 rfl; have hb2 : Below w.heap.size w w1 := hbA.trans (hb1.mono hbA.size)) | (go_at_call 12; refine (nil12 _).mono ?_; rintro _ _ ⟨rfl, rfl⟩) | (go_at_call 13; refine (nil13 _).mono ?_; rintro _ _ ⟨rfl, rfl⟩))
  go_ret
  exact ⟨rfl, hb2⟩
set_option maxRecDepth 100000 in
set_option maxHeartbeats 1000000 in
theorem markWorld_new (g : Nat) (w : World) (h : w.heap[g]? = some (.cells #[.string ⟨#[]⟩, .int .i64 0, .slice none 0 0, .slice none 0 0, .slice none 0 0, .slice none 0 0] 47 (0, 0))) :
    Calls Try.prog 7 #[.agg #[.slice none 0 0, .slice (some ⟨g, 0, none⟩) 1 1, .slice none 0 0, .slice none 0 0, .slice none 0 0, .slice none 0 0, .int .i64 1], .int .i64 1] w fun e w' => e = .returned (.int .i64 3) ∧ w'.heap[g]? = some (.cells #[.string (mtx 1), .int .i64 2, .slice none 0 0, .slice none 0 0, .slice none 0 0, .slice none 0 0] 47 (0, 0)) ∧ OnlyG w w' g := by
  have hg : g < w.heap.size := (Array.getElem?_eq_some_iff.1 h).1
  have HE : Hid (Calls Try.prog 14 #[.agg #[.slice none 0 0, .slice (some ⟨g, 0, none⟩) 1 1, .slice none 0 0, .slice none 0 0], .int .i64 1] (w.alloc (Obj.cells #[.slice none 0 0, .slice (some ⟨g, 0, none⟩) 1 1, .slice none 0 0, .slice none 0 0, .slice none 0 0, .slice none 0 0, .int .i64 1] 31)) fun e w' => e = .returned (.int .i64 3) ∧ w'.heap[g]? = some (.cells #[.string (mtx 1), .int .i64 2, .slice none 0 0, .slice none 0 0, .slice none 0 0, .slice none 0 0] 47 (0, 0)) ∧ OnlyG (w.alloc (Obj.cells #[.slice none 0 0, .slice (some ⟨g, 0, none⟩) 1 1, .slice none 0 0, .slice none 0 0, .slice none 0 0, .slice none 0 0, .int .i64 1] 31)) w' g) := markSys_new g _ (blk_past h)
  have k0 : (w.alloc (Obj.cells #[.slice none 0 0, .slice (some ⟨g, 0, none⟩) 1 1, .slice none 0 0, .slice none 0 0, .slice none 0 0, .slice none 0 0, .int .i64 1] 31)).heap[w.heap.size]? = some (Obj.cells #[.slice none 0 0, .slice (some ⟨g, 0, none⟩) 1 1, .slice none 0 0, .slice none 0 0, .slice none 0 0, .slice none 0 0, .int .i64 1] 31) := blk_at _ _ _ rfl
  clear h
  go_enter Try.func7, Try.ntmps7
  go_wp2_with (first | (go_at_call 14; refine HE.out.mono ?_; rintro e w1 ⟨rfl, hm1, ho1⟩; have m0 := (ho1.block w.heap.size (by simp) (by intro q; injection q with q; omega)).trans k0; have c4 := cell_blk (j := 4) m0 rfl; have c5 := cell_blk (j := 5) m0 rfl; have HO : Hid (OnlyG w w1 g) := og_trans (og_below ((Below.refl _ _).alloc (Nat.le_refl _) _)) ho1; have HM : Hid (w1.heap[g]? = some (.cells #[.string (mtx 1), .int .i64 2, .slice none 0 0, .slice none 0 0, .slice none 0 0, .slice none 0 0] 47 (0, 0))) := hm1; clear hm1 ho1 m0) | (go_at_call 15; refine (nil15 3 _).mono ?_; rintro _ _ ⟨rfl, rfl⟩) | (go_at_call 16; refine (nil16 3 _).mono ?_; rintro _ _ ⟨rfl, rfl⟩))
  go_ret
  exact ⟨rfl, HM.out, HO.out⟩
set_option maxRecDepth 100000 in
set_option maxHeartbeats 1000000 in
theorem heldWorld_new (g : Nat) (w : World) (h : w.heap[g]? = some (.cells #[.string (mtx 1), .int .i64 2, .slice none 0 0, .slice none 0 0, .slice none 0 0, .slice none 0 0] 47 (0, 0))) :
    Calls Try.prog 8 #[.agg #[.slice none 0 0, .slice (some ⟨g, 0, none⟩) 1 1, .slice none 0 0, .slice none 0 0, .slice none 0 0, .slice none 0 0, .int .i64 1], .int .i64 1] w fun e w' => Ans w (.int .i64 3) e w' := by
  have hg : g < w.heap.size := (Array.getElem?_eq_some_iff.1 h).1
  have HE : Hid (Calls Try.prog 17 #[.agg #[.slice none 0 0, .slice (some ⟨g, 0, none⟩) 1 1, .slice none 0 0, .slice none 0 0], .int .i64 1] (w.alloc (Obj.cells #[.slice none 0 0, .slice (some ⟨g, 0, none⟩) 1 1, .slice none 0 0, .slice none 0 0, .slice none 0 0, .slice none 0 0, .int .i64 1] 31)) fun e w' => Ans (w.alloc (Obj.cells #[.slice none 0 0, .slice (some ⟨g, 0, none⟩) 1 1, .slice none 0 0, .slice none 0 0, .slice none 0 0, .slice none 0 0, .int .i64 1] 31)) (.int .i64 3) e w') := heldSys_new g _ (blk_past h)
  have k0 : (w.alloc (Obj.cells #[.slice none 0 0, .slice (some ⟨g, 0, none⟩) 1 1, .slice none 0 0, .slice none 0 0, .slice none 0 0, .slice none 0 0, .int .i64 1] 31)).heap[w.heap.size]? = some (Obj.cells #[.slice none 0 0, .slice (some ⟨g, 0, none⟩) 1 1, .slice none 0 0, .slice none 0 0, .slice none 0 0, .slice none 0 0, .int .i64 1] 31) := blk_at _ _ _ rfl
  clear h
  go_enter Try.func8, Try.ntmps8
  go_wp2_with (first | (go_at_call 17; refine HE.out.mono ?_; rintro e w1 ⟨rfl, hb1⟩; have m0 := (hb1.block w.heap.size (by simp)).trans k0; have c4 := cell_blk (j := 4) m0 rfl; have c5 := cell_blk (j := 5) m0 rfl; have HO : Hid (Below w.heap.size w w1) := ((Below.refl _ _).alloc (Nat.le_refl _) _).trans (hb1.mono (by simp)); clear hb1 m0) | (go_at_call 18; refine (nil18 3 _).mono ?_; rintro _ _ ⟨rfl, rfl⟩) | (go_at_call 19; refine (nil19 3 _).mono ?_; rintro _ _ ⟨rfl, rfl⟩))
  go_ret
  exact ⟨rfl, HO.out⟩
set_option maxRecDepth 100000 in
set_option maxHeartbeats 1000000 in
theorem walkWorld (w : World) : Calls Try.prog 3 #[] w fun e w' => e = .returned (.bool true) ∧ Below w.heap.size w w' := by
  go_enter Try.func3, Try.ntmps3
  go_wp2_with fail
  refine (specWorld _).mono ?_
  rintro e w1 ⟨rfl, k1, b1, s1⟩
  have K1 : Hid ((w1.alloc (.cells #[.slice none 0 0, .slice (some ⟨w.heap.size + 2, 0, none⟩) 1 1, .slice none 0 0, .slice none 0 0, .slice none 0 0, .slice none 0 0, .int .i64 1] 31)).heap[w.heap.size + 2]? = some (.cells #[.string ⟨#[]⟩, .int .i64 0, .slice none 0 0, .slice none 0 0, .slice none 0 0, .slice none 0 0] 47 (0, 0))) := blk_past k1
  have V1 : Hid ((w1.alloc (.cells #[.slice none 0 0, .slice (some ⟨w.heap.size + 2, 0, none⟩) 1 1, .slice none 0 0, .slice none 0 0, .slice none 0 0, .slice none 0 0, .int .i64 1] 31)).heap[w1.heap.size]? = some (.cells #[.slice none 0 0, .slice (some ⟨w.heap.size + 2, 0, none⟩) 1 1, .slice none 0 0, .slice none 0 0, .slice none 0 0, .slice none 0 0, .int .i64 1] 31)) := blk_at _ _ _ rfl
  have B1 : Hid (Below w.heap.size w (w1.alloc (.cells #[.slice none 0 0, .slice (some ⟨w.heap.size + 2, 0, none⟩) 1 1, .slice none 0 0, .slice none 0 0, .slice none 0 0, .slice none 0 0, .int .i64 1] 31))) := b1.alloc b1.size _
  have z1 : w1.heap.size < (w1.alloc (.cells #[.slice none 0 0, .slice (some ⟨w.heap.size + 2, 0, none⟩) 1 1, .slice none 0 0, .slice none 0 0, .slice none 0 0, .slice none 0 0, .int .i64 1] 31)).heap.size := by simp
  clear k1 b1
  go_wp2_with fail
  generalize w1.alloc (.cells #[.slice none 0 0, .slice (some ⟨w.heap.size + 2, 0, none⟩) 1 1, .slice none 0 0, .slice none 0 0, .slice none 0 0, .slice none 0 0, .int .i64 1] 31) = W1 at *
  refine (implWorld _).mono ?_
  rintro e w2 ⟨rfl, k2, b2, s2⟩
  have K2 : Hid ((w2.alloc (.cells #[.slice none 0 0, .slice (some ⟨W1.heap.size + 2, 0, none⟩) 1 1, .slice none 0 0, .slice none 0 0, .slice none 0 0, .slice none 0 0, .int .i64 1] 31)).heap[W1.heap.size + 2]? = some (.cells #[.string ⟨#[]⟩, .int .i64 0, .slice none 0 0, .slice none 0 0, .slice none 0 0, .slice none 0 0] 47 (0, 0))) := blk_past k2
  have K1' : Hid ((w2.alloc (.cells #[.slice none 0 0, .slice (some ⟨W1.heap.size + 2, 0, none⟩) 1 1, .slice none 0 0, .slice none 0 0, .slice none 0 0, .slice none 0 0, .int .i64 1] 31)).heap[w.heap.size + 2]? = some (.cells #[.string ⟨#[]⟩, .int .i64 0, .slice none 0 0, .slice none 0 0, .slice none 0 0, .slice none 0 0] 47 (0, 0))) := blk_past ((b2.block _ (by omega)).trans K1.out)
  have v1 : w2.heap[w1.heap.size]? = some (.cells #[.slice none 0 0, .slice (some ⟨w.heap.size + 2, 0, none⟩) 1 1, .slice none 0 0, .slice none 0 0, .slice none 0 0, .slice none 0 0, .int .i64 1] 31) := (b2.block _ (by omega)).trans V1.out
  have x0 := cell_blk (j := 0) v1 rfl
  have x1 := cell_blk (j := 1) v1 rfl
  have x2 := cell_blk (j := 2) v1 rfl
  have x3 := cell_blk (j := 3) v1 rfl
  have x4 := cell_blk (j := 4) v1 rfl
  have x5 := cell_blk (j := 5) v1 rfl
  have x6 := cell_blk (j := 6) v1 rfl
  have K3 : Hid (w2.heap[w1.heap.size]? = some (.cells #[.slice none 0 0, .slice (some ⟨w.heap.size + 2, 0, none⟩) 1 1, .slice none 0 0, .slice none 0 0, .slice none 0 0, .slice none 0 0, .int .i64 1] 31)) := v1
  have B2 : Hid (Below w.heap.size w w2) := B1.out.trans (b2.mono B1.out.size)
  have hs2 := b2.size
  have l12 : w1.heap.size < w2.heap.size := by omega
  clear k2 b2 K1 B1 V1 v1
  go_wp2_with fail
  have V2 : Hid ((w2.alloc (.cells #[.slice none 0 0, .slice (some ⟨W1.heap.size + 2, 0, none⟩) 1 1, .slice none 0 0, .slice none 0 0, .slice none 0 0, .slice none 0 0, .int .i64 1] 31)).heap[w2.heap.size]? = some (.cells #[.slice none 0 0, .slice (some ⟨W1.heap.size + 2, 0, none⟩) 1 1, .slice none 0 0, .slice none 0 0, .slice none 0 0, .slice none 0 0, .int .i64 1] 31)) := blk_at _ _ _ rfl
  have V1 : Hid ((w2.alloc (.cells #[.slice none 0 0, .slice (some ⟨W1.heap.size + 2, 0, none⟩) 1 1, .slice none 0 0, .slice none 0 0, .slice none 0 0, .slice none 0 0, .int .i64 1] 31)).heap[w1.heap.size]? = some (.cells #[.slice none 0 0, .slice (some ⟨w.heap.size + 2, 0, none⟩) 1 1, .slice none 0 0, .slice none 0 0, .slice none 0 0, .slice none 0 0, .int .i64 1] 31)) := blk_past K3.out
  have B3 : Hid (Below w.heap.size w (w2.alloc (.cells #[.slice none 0 0, .slice (some ⟨W1.heap.size + 2, 0, none⟩) 1 1, .slice none 0 0, .slice none 0 0, .slice none 0 0, .slice none 0 0, .int .i64 1] 31))) := B2.out.alloc B2.out.size _
  have z2 : w2.heap.size < (w2.alloc (.cells #[.slice none 0 0, .slice (some ⟨W1.heap.size + 2, 0, none⟩) 1 1, .slice none 0 0, .slice none 0 0, .slice none 0 0, .slice none 0 0, .int .i64 1] 31)).heap.size := by simp
  clear x0 x1 x2 x3 x4 x5 x6 B2 K3
  refine (eqWorld_new _ _ _ K2.out K1'.out).mono ?_
  rintro e w3 ⟨rfl, hb3⟩
  generalize w2.alloc (.cells #[.slice none 0 0, .slice (some ⟨W1.heap.size + 2, 0, none⟩) 1 1, .slice none 0 0, .slice none 0 0, .slice none 0 0, .slice none 0 0, .int .i64 1] 31) = W2 at *
  have q2 := (hb3.block w2.heap.size (by omega)).trans V2.out
  have x0 := cell_blk (j := 0) q2 rfl
  have x1 := cell_blk (j := 1) q2 rfl
  have x2 := cell_blk (j := 2) q2 rfl
  have x3 := cell_blk (j := 3) q2 rfl
  have x4 := cell_blk (j := 4) q2 rfl
  have x5 := cell_blk (j := 5) q2 rfl
  have x6 := cell_blk (j := 6) q2 rfl
  have K4 : Hid (w3.heap[W1.heap.size + 2]? = some (.cells #[.string ⟨#[]⟩, .int .i64 0, .slice none 0 0, .slice none 0 0, .slice none 0 0, .slice none 0 0] 47 (0, 0))) := (hb3.block _ (by omega)).trans K2.out
  have K5 : Hid (w3.heap[w.heap.size + 2]? = some (.cells #[.string ⟨#[]⟩, .int .i64 0, .slice none 0 0, .slice none 0 0, .slice none 0 0, .slice none 0 0] 47 (0, 0))) := (hb3.block _ (by omega)).trans K1'.out
  have V3 : Hid (w3.heap[w1.heap.size]? = some (.cells #[.slice none 0 0, .slice (some ⟨w.heap.size + 2, 0, none⟩) 1 1, .slice none 0 0, .slice none 0 0, .slice none 0 0, .slice none 0 0, .int .i64 1] 31)) := (hb3.block _ (by omega)).trans V1.out
  have V4 : Hid (w3.heap[w2.heap.size]? = some (.cells #[.slice none 0 0, .slice (some ⟨W1.heap.size + 2, 0, none⟩) 1 1, .slice none 0 0, .slice none 0 0, .slice none 0 0, .slice none 0 0, .int .i64 1] 31)) := q2
  have B4 : Hid (Below w.heap.size w w3) := B3.out.trans (hb3.mono B3.out.size)
  have hs3 := hb3.size
  clear hb3 q2 K2 K1' V1 V2 B3
  go_wp2_with fail
  refine (markWorld_new _ _ K4.out).mono ?_
  rintro e w4 ⟨rfl, hm4, ho4⟩
  have q2 := (ho4.block w2.heap.size (by omega) (by intro q; injection q with q; omega)).trans V4.out
  have M4 : Hid (w4.heap[W1.heap.size + 2]? = some (.cells #[.string (mtx 1), .int .i64 2, .slice none 0 0, .slice none 0 0, .slice none 0 0, .slice none 0 0] 47 (0, 0))) := hm4
  have K6 : Hid (w4.heap[w.heap.size + 2]? = some (.cells #[.string ⟨#[]⟩, .int .i64 0, .slice none 0 0, .slice none 0 0, .slice none 0 0, .slice none 0 0] 47 (0, 0))) := (ho4.block _ (by omega) (by intro q; injection q with q; omega)).trans K5.out
  have V5 : Hid (w4.heap[w1.heap.size]? = some (.cells #[.slice none 0 0, .slice (some ⟨w.heap.size + 2, 0, none⟩) 1 1, .slice none 0 0, .slice none 0 0, .slice none 0 0, .slice none 0 0, .int .i64 1] 31)) := (ho4.block _ (by omega) (by intro q; injection q with q; omega)).trans V3.out
  have V6 : Hid (w4.heap[w2.heap.size]? = some (.cells #[.slice none 0 0, .slice (some ⟨W1.heap.size + 2, 0, none⟩) 1 1, .slice none 0 0, .slice none 0 0, .slice none 0 0, .slice none 0 0, .int .i64 1] 31)) := q2
  have hs1 := B4.out.size
  have B5 : Hid (Below w.heap.size w w4) := ⟨ho4.os.trans B4.out.os, ho4.tape.trans B4.out.tape, ho4.output.trans B4.out.output, Nat.le_trans B4.out.size ho4.size, fun i hi => (ho4.block i (by omega) (by intro q; injection q with q; omega)).trans (B4.out.block i hi)⟩
  have hs4 := ho4.size
  clear x0 x1 x2 x3 x4 x5 x6
  have x0 := cell_blk (j := 0) q2 rfl
  have x1 := cell_blk (j := 1) q2 rfl
  have x2 := cell_blk (j := 2) q2 rfl
  have x3 := cell_blk (j := 3) q2 rfl
  have x4 := cell_blk (j := 4) q2 rfl
  have x5 := cell_blk (j := 5) q2 rfl
  have x6 := cell_blk (j := 6) q2 rfl
  clear hm4 ho4 q2 K4 K5 V3 V4 B4
  go_wp2_with fail
  refine (heldWorld_new _ _ M4.out).mono ?_
  rintro e w5 ⟨rfl, hb5⟩
  have M5 : Hid (w5.heap[W1.heap.size + 2]? = some (.cells #[.string (mtx 1), .int .i64 2, .slice none 0 0, .slice none 0 0, .slice none 0 0, .slice none 0 0] 47 (0, 0))) := (hb5.block _ (by omega)).trans M4.out
  have K7 : Hid (w5.heap[w.heap.size + 2]? = some (.cells #[.string ⟨#[]⟩, .int .i64 0, .slice none 0 0, .slice none 0 0, .slice none 0 0, .slice none 0 0] 47 (0, 0))) := (hb5.block _ (by omega)).trans K6.out
  have V7 : Hid (w5.heap[w1.heap.size]? = some (.cells #[.slice none 0 0, .slice (some ⟨w.heap.size + 2, 0, none⟩) 1 1, .slice none 0 0, .slice none 0 0, .slice none 0 0, .slice none 0 0, .int .i64 1] 31)) := (hb5.block _ (by omega)).trans V5.out
  have V8 : Hid (w5.heap[w2.heap.size]? = some (.cells #[.slice none 0 0, .slice (some ⟨W1.heap.size + 2, 0, none⟩) 1 1, .slice none 0 0, .slice none 0 0, .slice none 0 0, .slice none 0 0, .int .i64 1] 31)) := (hb5.block _ (by omega)).trans V6.out
  have B6 : Hid (Below w.heap.size w w5) := B5.out.trans (hb5.mono B5.out.size)
  have hs5 := hb5.size
  clear x0 x1 x2 x3 x4 x5 x6 hb5 M4 K6 V5 V6 B5
  go_wp2_with fail
  refine (implWorld _).mono ?_
  rintro e w6 ⟨rfl, k6, b6, s6⟩
  have v1 := (b6.block w1.heap.size (by omega)).trans V7.out
  have x0 := cell_blk (j := 0) v1 rfl
  have x1 := cell_blk (j := 1) v1 rfl
  have x2 := cell_blk (j := 2) v1 rfl
  have x3 := cell_blk (j := 3) v1 rfl
  have x4 := cell_blk (j := 4) v1 rfl
  have x5 := cell_blk (j := 5) v1 rfl
  have x6 := cell_blk (j := 6) v1 rfl
  have v2 := (b6.block w2.heap.size (by omega)).trans V8.out
  have y0 := cell_blk (j := 0) v2 rfl
  have y1 := cell_blk (j := 1) v2 rfl
  have y2 := cell_blk (j := 2) v2 rfl
  have y3 := cell_blk (j := 3) v2 rfl
  have y4 := cell_blk (j := 4) v2 rfl
  have y5 := cell_blk (j := 5) v2 rfl
  have y6 := cell_blk (j := 6) v2 rfl
  have K8 : Hid (w6.heap[w5.heap.size + 2]? = some (.cells #[.string ⟨#[]⟩, .int .i64 0, .slice none 0 0, .slice none 0 0, .slice none 0 0, .slice none 0 0] 47 (0, 0))) := k6
  have K9 : Hid (w6.heap[w.heap.size + 2]? = some (.cells #[.string ⟨#[]⟩, .int .i64 0, .slice none 0 0, .slice none 0 0, .slice none 0 0, .slice none 0 0] 47 (0, 0))) := (b6.block _ (by omega)).trans K7.out
  have M6 : Hid (w6.heap[W1.heap.size + 2]? = some (.cells #[.string (mtx 1), .int .i64 2, .slice none 0 0, .slice none 0 0, .slice none 0 0, .slice none 0 0] 47 (0, 0))) := (b6.block _ (by omega)).trans M5.out
  have V9 : Hid (w6.heap[w2.heap.size]? = some (.cells #[.slice none 0 0, .slice (some ⟨W1.heap.size + 2, 0, none⟩) 1 1, .slice none 0 0, .slice none 0 0, .slice none 0 0, .slice none 0 0, .int .i64 1] 31)) := v2
  have B7 : Hid (Below w.heap.size w w6) := B6.out.trans (b6.mono B6.out.size)
  have hs6 := b6.size
  have l16 : w1.heap.size < w6.heap.size := by omega
  have l26 : w2.heap.size < w6.heap.size := by omega
  clear k6 b6 v1 v2 K7 V7 V8 B6 M5
  go_wp2_with fail
  have z6 : w6.heap.size < (w6.alloc (.cells #[.slice none 0 0, .slice (some ⟨w5.heap.size + 2, 0, none⟩) 1 1, .slice none 0 0, .slice none 0 0, .slice none 0 0, .slice none 0 0, .int .i64 1] 31)).heap.size := by simp
  refine (eqWorld_new _ _ _ (blk_past K8.out) (blk_past K9.out)).mono ?_
  rintro e w7 ⟨rfl, hb7⟩
  have q2 := (hb7.block w2.heap.size (by omega)).trans (blk_past V9.out)
  have M7 : Hid (w7.heap[W1.heap.size + 2]? = some (.cells #[.string (mtx 1), .int .i64 2, .slice none 0 0, .slice none 0 0, .slice none 0 0, .slice none 0 0] 47 (0, 0))) := (hb7.block _ (by omega)).trans (blk_past M6.out)
  have B8 : Hid (Below w.heap.size w w7) := (B7.out.alloc B7.out.size _).trans (hb7.mono (B7.out.alloc B7.out.size _).size)
  clear x0 x1 x2 x3 x4 x5 x6 y0 y1 y2 y3 y4 y5 y6
  have x0 := cell_blk (j := 0) q2 rfl
  have x1 := cell_blk (j := 1) q2 rfl
  have x2 := cell_blk (j := 2) q2 rfl
  have x3 := cell_blk (j := 3) q2 rfl
  have x4 := cell_blk (j := 4) q2 rfl
  have x5 := cell_blk (j := 5) q2 rfl
  have x6 := cell_blk (j := 6) q2 rfl
  clear q2 hb7 K8 K9 M6 V9 B7
  go_wp2_with fail
  refine (heldWorld_new _ _ M7.out).mono ?_
  rintro e w8 ⟨rfl, hb8⟩
  have B9 : Hid (Below w.heap.size w w8) := B8.out.trans (hb8.mono B8.out.size)
  clear hb8
  go_wp2_with fail
  go_ret
  exact ⟨rfl, B9.out⟩
end Go.Proofs.Ythhhfmdcgdabkaa
