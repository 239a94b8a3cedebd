/- The program's primitives: are two the same? -/
import Derived.Test.YtngelfohpkpekaaPib
set_option linter.unusedVariables false
namespace Go.Proofs.Ytngelfohpkpekaa
open Go.ChangeShapes Go.WideShapes Go.ChangeAt Go.RowKit
set_option maxRecDepth 100000 in
set_option maxHeartbeats 2000000 in
theorem same_any (bp : Nat) (hv : Value) (aa : Option Addr) (ca : Nat) (h : List Cel) (x y : Val) (w : World) (hP : w.heap[bp]? = some (.cells #[hv, .slice aa 2 ca] 52 (0, 0))) (hr : RowV w w.heap.size aa [x, y]) :
    Calls Try.prog 61 #[.pointer (some ⟨bp, 0, none⟩)] w fun e w' => VcPost (prim2 5 h x y).2 w e w' := by
  have hb0 : Below w.heap.size w (w.alloc (Obj.cells #[.int .i64 0, .int .i64 0, .string ⟨#[]⟩] 29)) := (Below.refl _ _).alloc (Nat.le_refl _) _
  have hk0 : (w.alloc (Obj.cells #[.int .i64 0, .int .i64 0, .string ⟨#[]⟩] 29)).heap[w.heap.size]? = some (Obj.cells #[.int .i64 0, .int .i64 0, .string ⟨#[]⟩] 29) := blk_at _ _ _ rfl
  have hbp : bp < w.heap.size := (Array.getElem?_eq_some_iff.1 hP).1
  have HAN : Hid (∀ yes w, Calls Try.prog 74 #[.bool yes, .bool true] w fun e w' => VcPost (bv yes, 0) w e w') := fun yes w => answer_any yes true w
  obtain ⟨b, o, rfl, hbl, ⟨x0, x1, x2⟩, y0, y1, y2⟩ := two_at hr
  have p1 := cell_blk (j := 1) hP rfl
  have HR : Hid ((prim2 5 h x y).2 = (bv (sameV x y), 0)) := by show _ = _; simp [prim2]
  rw [HR.out]
  clear hr hP HR
  have hh : ∀ a b : Int, (a == b) = decide (a = b) := fun a b => by by_cases h : a = b <;> simp [h]
  have hd : ∀ a b : List UInt8, (a == b) = decide (a = b) := fun a b => by by_cases h : a = b <;> simp [h]
  cases h1 : (x.k == y.k) with
  | false =>
    have f1 : decide (x.k = y.k) = false := by rw [← hh]; exact h1
    have HS : Hid (sameV x y = false) := by show _ = _; simp only [sameV, f1, Bool.false_and]
    rw [HS.out]
    clear hh
    go_enter Try.func61, Try.ntmps61
    go_wp2_with fail
    go_region_with (go_at_call 74; refine (HAN.out _ _).mono ?_; rintro e w1 ⟨rfl, hb1⟩; (have k1 : w1.heap[w.heap.size]? = some (Obj.cells #[.int .i64 0, .int .i64 0, .string ⟨#[]⟩] 29) := ?_); rotate_left; (refine (hb1.block w.heap.size ?_).trans hk0; show w.heap.size < (w.heap.push _).size; rw [Array.size_push]; exact Nat.lt_succ_self _); have g0 := cell_blk (j := 0) k1 rfl; have g1 := cell_blk (j := 1) k1 rfl; have g2 := cell_blk (j := 2) k1 rfl; have z0 := frozen_blk k1 0; have z1 := frozen_blk k1 1; have z2 := frozen_blk k1 2)
    all_goals
      have HB2 : Hid (Below w.heap.size w w1) := (below_drewN hb0 1).trans (hb1.mono (by show w.heap.size ≤ (w.heap.push _).size; rw [Array.size_push]; omega))
      have K1 : Hid (w1.heap[w.heap.size]? = some (Obj.cells #[.int .i64 0, .int .i64 0, .string ⟨#[]⟩] 29)) := k1
      clear hb1
      go_wp2
      refine bodyPost_ret (res_ct rfl _ _ w.heap.size _ _ _ rfl (put_blk _ _ _ K1.out)) rfl ?_
      exact ⟨rfl, put_below HB2.out (Nat.le_refl _) _ _ _⟩
  | true =>
    have f1 : decide (x.k = y.k) = true := by rw [← hh]; exact h1
    cases h2 : (x.n == y.n) with
    | false =>
      have f2 : decide (x.n = y.n) = false := by rw [← hh]; exact h2
      have HS : Hid (sameV x y = false) := by show _ = _; simp only [sameV, f1, f2, Bool.and_false, Bool.false_and]
      rw [HS.out]
      clear hh
      go_enter Try.func61, Try.ntmps61
      go_wp2_with fail
      go_region_with (go_at_call 74; refine (HAN.out _ _).mono ?_; rintro e w1 ⟨rfl, hb1⟩; (have k1 : w1.heap[w.heap.size]? = some (Obj.cells #[.int .i64 0, .int .i64 0, .string ⟨#[]⟩] 29) := ?_); rotate_left; (refine (hb1.block w.heap.size ?_).trans hk0; show w.heap.size < (w.heap.push _).size; rw [Array.size_push]; exact Nat.lt_succ_self _); have g0 := cell_blk (j := 0) k1 rfl; have g1 := cell_blk (j := 1) k1 rfl; have g2 := cell_blk (j := 2) k1 rfl; have z0 := frozen_blk k1 0; have z1 := frozen_blk k1 1; have z2 := frozen_blk k1 2)
      all_goals
        have HB2 : Hid (Below w.heap.size w w1) := (below_drewN hb0 1).trans (hb1.mono (by show w.heap.size ≤ (w.heap.push _).size; rw [Array.size_push]; omega))
        have K1 : Hid (w1.heap[w.heap.size]? = some (Obj.cells #[.int .i64 0, .int .i64 0, .string ⟨#[]⟩] 29)) := k1
        clear hb1
        go_wp2
        refine bodyPost_ret (res_ct rfl _ _ w.heap.size _ _ _ rfl (put_blk _ _ _ K1.out)) rfl ?_
        exact ⟨rfl, put_below HB2.out (Nat.le_refl _) _ _ _⟩
    | true =>
      have f2 : decide (x.n = y.n) = true := by rw [← hh]; exact h2
      cases h3 : (x.s.toList == y.s.toList) with
      | false =>
        have f3 : decide (x.s.toList = y.s.toList) = false := by rw [← hd]; exact h3
        have HS : Hid (sameV x y = false) := by show _ = _; simp only [sameV, f1, f2, f3, Bool.and_false]
        rw [HS.out]
        clear hh
        go_enter Try.func61, Try.ntmps61
        go_wp2_with fail
        go_region_with (go_at_call 74; refine (HAN.out _ _).mono ?_; rintro e w1 ⟨rfl, hb1⟩; (have k1 : w1.heap[w.heap.size]? = some (Obj.cells #[.int .i64 0, .int .i64 0, .string ⟨#[]⟩] 29) := ?_); rotate_left; (refine (hb1.block w.heap.size ?_).trans hk0; show w.heap.size < (w.heap.push _).size; rw [Array.size_push]; exact Nat.lt_succ_self _); have g0 := cell_blk (j := 0) k1 rfl; have g1 := cell_blk (j := 1) k1 rfl; have g2 := cell_blk (j := 2) k1 rfl; have z0 := frozen_blk k1 0; have z1 := frozen_blk k1 1; have z2 := frozen_blk k1 2)
        all_goals
          have HB2 : Hid (Below w.heap.size w w1) := (below_drewN hb0 1).trans (hb1.mono (by show w.heap.size ≤ (w.heap.push _).size; rw [Array.size_push]; omega))
          have K1 : Hid (w1.heap[w.heap.size]? = some (Obj.cells #[.int .i64 0, .int .i64 0, .string ⟨#[]⟩] 29)) := k1
          clear hb1
          go_wp2
          refine bodyPost_ret (res_ct rfl _ _ w.heap.size _ _ _ rfl (put_blk _ _ _ K1.out)) rfl ?_
          exact ⟨rfl, put_below HB2.out (Nat.le_refl _) _ _ _⟩
      | true =>
        have f3 : decide (x.s.toList = y.s.toList) = true := by rw [← hd]; exact h3
        have HS : Hid (sameV x y = true) := by show _ = _; simp only [sameV, f1, f2, f3, Bool.and_true]
        rw [HS.out]
        clear hh
        go_enter Try.func61, Try.ntmps61
        go_wp2_with fail
        go_region_with (go_at_call 74; refine (HAN.out _ _).mono ?_; rintro e w1 ⟨rfl, hb1⟩; (have k1 : w1.heap[w.heap.size]? = some (Obj.cells #[.int .i64 0, .int .i64 0, .string ⟨#[]⟩] 29) := ?_); rotate_left; (refine (hb1.block w.heap.size ?_).trans hk0; show w.heap.size < (w.heap.push _).size; rw [Array.size_push]; exact Nat.lt_succ_self _); have g0 := cell_blk (j := 0) k1 rfl; have g1 := cell_blk (j := 1) k1 rfl; have g2 := cell_blk (j := 2) k1 rfl; have z0 := frozen_blk k1 0; have z1 := frozen_blk k1 1; have z2 := frozen_blk k1 2)
        all_goals
          have HB2 : Hid (Below w.heap.size w w1) := (below_drewN hb0 1).trans (hb1.mono (by show w.heap.size ≤ (w.heap.push _).size; rw [Array.size_push]; omega))
          have K1 : Hid (w1.heap[w.heap.size]? = some (Obj.cells #[.int .i64 0, .int .i64 0, .string ⟨#[]⟩] 29)) := k1
          clear hb1
          go_wp2
          refine bodyPost_ret (res_ct rfl _ _ w.heap.size _ _ _ rfl (put_blk _ _ _ K1.out)) rfl ?_
          exact ⟨rfl, put_below HB2.out (Nat.le_refl _) _ _ _⟩
end Go.Proofs.Ytngelfohpkpekaa
