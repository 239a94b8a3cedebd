/- The model's primitives: eq?. -/
import Derived.Test.YtngelfohpkpekaaPmh
set_option linter.unusedVariables false
namespace Go.Proofs.Ytngelfohpkpekaa
open Go.ChangeShapes Go.WideShapes Go.ChangeAt Go.RowKit
set_option maxRecDepth 100000 in
set_option maxHeartbeats 2000000 in
theorem l7Prim_5 (B : Nat) (ah : Option Addr) (ch : Nat) (h : List Cel) (s : ByteArray) (aa : Option Addr) (ca : Nat) (x y : Val) (w : World) (hs : s.toList = [101, 113, 63]) (hB : B ≤ w.heap.size) (hH : HeapP h) (ho : OwnH w B w.heap.size (.slice ah h.length ch) h) (hx : x.ok h = true) (hy : y.ok h = true) (hr : RowV w w.heap.size aa [x, y]) :
    Calls Try.prog 28 #[.slice ah h.length ch, .string s, .slice aa 2 ca] w fun e w' => PpPost B (prim2 5 h x y) w e w' := by
  have e0 : (s.toList == [43]) = false := by rw [hs]; rfl
  have e1 : (s.toList == [45]) = false := by rw [hs]; rfl
  have e2 : (s.toList == [42]) = false := by rw [hs]; rfl
  have e3 : (s.toList == [60]) = false := by rw [hs]; rfl
  have e4 : (s.toList == [61]) = false := by rw [hs]; rfl
  have e6 : (s.toList == [99, 111, 110, 115]) = false := by rw [hs]; rfl
  have e7 : (s.toList == [99, 97, 114]) = false := by rw [hs]; rfl
  have e8 : (s.toList == [99, 100, 114]) = false := by rw [hs]; rfl
  have e9 : (s.toList == [110, 117, 108, 108, 63]) = false := by rw [hs]; rfl
  have e10 : (s.toList == [112, 97, 105, 114, 63]) = false := by rw [hs]; rfl
  have e11 : (s.toList == [110, 111, 116]) = false := by rw [hs]; rfl
  have HO : Hid (OwnH w B w.heap.size (.slice ah h.length ch) h) := ho
  have hb0 : Below w.heap.size w (w.alloc (Obj.cells #[.int .i64 0, .int .i64 0, .string ⟨#[]⟩] 29)) := (Below.refl _ _).alloc (Nat.le_refl _) _
  have hk0 : (w.alloc (Obj.cells #[.int .i64 0, .int .i64 0, .string ⟨#[]⟩] 29)).heap[w.heap.size]? = some (Obj.cells #[.int .i64 0, .int .i64 0, .string ⟨#[]⟩] 29) := blk_at _ _ _ rfl
  have hk2 : ((w.alloc (Obj.cells #[.int .i64 0, .int .i64 0, .string ⟨#[]⟩] 29)).alloc (Obj.cells #[.int .i64 0, .int .i64 0, .string ⟨#[]⟩] 29)).heap[w.heap.size + 1]? = some (Obj.cells #[.int .i64 0, .int .i64 0, .string ⟨#[]⟩] 29) := blk_at _ _ _ (by simp)
  have hlen : h.length ≤ 300 := hH.1
  have hsz0 : (w.alloc (Obj.cells #[.int .i64 0, .int .i64 0, .string ⟨#[]⟩] 29)).heap.size = w.heap.size + 1 := by simp
  obtain ⟨b, o, rfl, hbl, x0, x1, x2⟩ := hr 0 x rfl
  rw [Nat.zero_mul, Nat.add_zero] at x0 x1 x2
  obtain ⟨b', o', e', -, y0, y1, y2⟩ := hr 1 y rfl
  simp only [Option.some.injEq, Addr.mk.injEq, and_true] at e'
  obtain ⟨rfl, rfl⟩ := e'
  rw [Nat.one_mul] at y0 y1 y2
  rw [Nat.add_assoc] at y1 y2
  simp only [Nat.reduceAdd] at y1 y2
  have HBo : Hid (∀ b w, Calls Try.prog 43 #[.bool b] w fun e w' => Ans w (.agg #[.int .i64 2, .int .i64 (bvN b), .string ⟨#[]⟩]) e w') := fun b w => l7Bool_any b w
  have HR : Hid (prim2 5 h x y = (h, bv (sameV x y), 0)) := by show _ = _; simp [prim2]
  rw [HR.out]
  clear hs ho hr hx hy HR
  have hh : ∀ a b : Int, (a == b) = decide (a = b) := fun a b => by by_cases h : a = b <;> simp [h]
  have hd : ∀ a b : List UInt8, (a == b) = decide (a = b) := fun a b => by by_cases h : a = b <;> simp [h]
  cases h1 : (x.k == y.k) with
  | false =>
    have f1 : decide (x.k = y.k) = false := by rw [← hh]; exact h1
    have HS : Hid (sameV x y = false) := by show _ = _; simp only [sameV, f1, Bool.false_and]
    rw [HS.out]
    clear hh
    go_enter Try.func28, Try.ntmps28
    go_wp2_with fail
    go_region_with (go_at_call 43; refine (HBo.out _ _).mono ?_; rintro e w1 ⟨rfl, hb1⟩; (have k1 : w1.heap[w.heap.size]? = some (Obj.cells #[.int .i64 0, .int .i64 0, .string ⟨#[]⟩] 29) := ?_); rotate_left; (refine (hb1.block w.heap.size ?_).trans hk0; show w.heap.size < (w.heap.push _).size; rw [Array.size_push]; exact Nat.lt_succ_self _); have g0 := cell_blk (j := 0) k1 rfl; have g1 := cell_blk (j := 1) k1 rfl; have g2 := cell_blk (j := 2) k1 rfl; have z0 := frozen_blk k1 0; have z1 := frozen_blk k1 1; have z2 := frozen_blk k1 2)
    all_goals
      have HB2 : Hid (Below w.heap.size w w1) := (below_drewN hb0 1).trans (hb1.mono (by show w.heap.size ≤ (w.heap.push _).size; rw [Array.size_push]; omega))
      have K1 : Hid (w1.heap[w.heap.size]? = some (Obj.cells #[.int .i64 0, .int .i64 0, .string ⟨#[]⟩] 29)) := k1
      clear hb1
      go_wp2
      refine bodyPost_ret (res_tct rfl _ _ w.heap.size _ _ _ rfl (put_blk _ _ _ K1.out)) rfl ?_
      exact ⟨_, rfl, HO.out.fin (put_below HB2.out (Nat.le_refl _) _ _ _), (put_below HB2.out (Nat.le_refl _) _ _ _).mono hB⟩
  | true =>
    have f1 : decide (x.k = y.k) = true := by rw [← hh]; exact h1
    cases h2 : (x.n == y.n) with
    | false =>
      have f2 : decide (x.n = y.n) = false := by rw [← hh]; exact h2
      have HS : Hid (sameV x y = false) := by show _ = _; simp only [sameV, f1, f2, Bool.and_false, Bool.false_and]
      rw [HS.out]
      clear hh
      go_enter Try.func28, Try.ntmps28
      go_wp2_with fail
      go_region_with (go_at_call 43; refine (HBo.out _ _).mono ?_; rintro e w1 ⟨rfl, hb1⟩; (have k1 : w1.heap[w.heap.size]? = some (Obj.cells #[.int .i64 0, .int .i64 0, .string ⟨#[]⟩] 29) := ?_); rotate_left; (refine (hb1.block w.heap.size ?_).trans hk0; show w.heap.size < (w.heap.push _).size; rw [Array.size_push]; exact Nat.lt_succ_self _); have g0 := cell_blk (j := 0) k1 rfl; have g1 := cell_blk (j := 1) k1 rfl; have g2 := cell_blk (j := 2) k1 rfl; have z0 := frozen_blk k1 0; have z1 := frozen_blk k1 1; have z2 := frozen_blk k1 2)
      all_goals
        have HB2 : Hid (Below w.heap.size w w1) := (below_drewN hb0 1).trans (hb1.mono (by show w.heap.size ≤ (w.heap.push _).size; rw [Array.size_push]; omega))
        have K1 : Hid (w1.heap[w.heap.size]? = some (Obj.cells #[.int .i64 0, .int .i64 0, .string ⟨#[]⟩] 29)) := k1
        clear hb1
        go_wp2
        refine bodyPost_ret (res_tct rfl _ _ w.heap.size _ _ _ rfl (put_blk _ _ _ K1.out)) rfl ?_
        exact ⟨_, rfl, HO.out.fin (put_below HB2.out (Nat.le_refl _) _ _ _), (put_below HB2.out (Nat.le_refl _) _ _ _).mono hB⟩
    | true =>
      have f2 : decide (x.n = y.n) = true := by rw [← hh]; exact h2
      cases h3 : (x.s.toList == y.s.toList) with
      | false =>
        have f3 : decide (x.s.toList = y.s.toList) = false := by rw [← hd]; exact h3
        have HS : Hid (sameV x y = false) := by show _ = _; simp only [sameV, f1, f2, f3, Bool.and_false]
        rw [HS.out]
        clear hh
        go_enter Try.func28, Try.ntmps28
        go_wp2_with fail
        go_region_with (go_at_call 43; refine (HBo.out _ _).mono ?_; rintro e w1 ⟨rfl, hb1⟩; (have k1 : w1.heap[w.heap.size]? = some (Obj.cells #[.int .i64 0, .int .i64 0, .string ⟨#[]⟩] 29) := ?_); rotate_left; (refine (hb1.block w.heap.size ?_).trans hk0; show w.heap.size < (w.heap.push _).size; rw [Array.size_push]; exact Nat.lt_succ_self _); have g0 := cell_blk (j := 0) k1 rfl; have g1 := cell_blk (j := 1) k1 rfl; have g2 := cell_blk (j := 2) k1 rfl; have z0 := frozen_blk k1 0; have z1 := frozen_blk k1 1; have z2 := frozen_blk k1 2)
        all_goals
          have HB2 : Hid (Below w.heap.size w w1) := (below_drewN hb0 1).trans (hb1.mono (by show w.heap.size ≤ (w.heap.push _).size; rw [Array.size_push]; omega))
          have K1 : Hid (w1.heap[w.heap.size]? = some (Obj.cells #[.int .i64 0, .int .i64 0, .string ⟨#[]⟩] 29)) := k1
          clear hb1
          go_wp2
          refine bodyPost_ret (res_tct rfl _ _ w.heap.size _ _ _ rfl (put_blk _ _ _ K1.out)) rfl ?_
          exact ⟨_, rfl, HO.out.fin (put_below HB2.out (Nat.le_refl _) _ _ _), (put_below HB2.out (Nat.le_refl _) _ _ _).mono hB⟩
      | true =>
        have f3 : decide (x.s.toList = y.s.toList) = true := by rw [← hd]; exact h3
        have HS : Hid (sameV x y = true) := by show _ = _; simp only [sameV, f1, f2, f3, Bool.and_true]
        rw [HS.out]
        clear hh
        go_enter Try.func28, Try.ntmps28
        go_wp2_with fail
        go_region_with (go_at_call 43; refine (HBo.out _ _).mono ?_; rintro e w1 ⟨rfl, hb1⟩; (have k1 : w1.heap[w.heap.size]? = some (Obj.cells #[.int .i64 0, .int .i64 0, .string ⟨#[]⟩] 29) := ?_); rotate_left; (refine (hb1.block w.heap.size ?_).trans hk0; show w.heap.size < (w.heap.push _).size; rw [Array.size_push]; exact Nat.lt_succ_self _); have g0 := cell_blk (j := 0) k1 rfl; have g1 := cell_blk (j := 1) k1 rfl; have g2 := cell_blk (j := 2) k1 rfl; have z0 := frozen_blk k1 0; have z1 := frozen_blk k1 1; have z2 := frozen_blk k1 2)
        all_goals
          have HB2 : Hid (Below w.heap.size w w1) := (below_drewN hb0 1).trans (hb1.mono (by show w.heap.size ≤ (w.heap.push _).size; rw [Array.size_push]; omega))
          have K1 : Hid (w1.heap[w.heap.size]? = some (Obj.cells #[.int .i64 0, .int .i64 0, .string ⟨#[]⟩] 29)) := k1
          clear hb1
          go_wp2
          refine bodyPost_ret (res_tct rfl _ _ w.heap.size _ _ _ rfl (put_blk _ _ _ K1.out)) rfl ?_
          exact ⟨_, rfl, HO.out.fin (put_below HB2.out (Nat.le_refl _) _ _ _), (put_below HB2.out (Nat.le_refl _) _ _ _).mono hB⟩
end Go.Proofs.Ytngelfohpkpekaa
