/- The model's primitives: [60]. -/
import Derived.Test.YtngelfohpkpekaaPmh
set_option linter.unusedVariables false
namespace Go.Proofs.Ytngelfohpkpekaa
open Go.ChangeShapes Go.WideShapes Go.ChangeAt Go.RowKit
set_option maxRecDepth 100000 in
set_option maxHeartbeats 2000000 in
theorem l7Prim_3 (B : Nat) (ah : Option Addr) (ch : Nat) (h : List Cel) (s : ByteArray) (aa : Option Addr) (ca : Nat) (x y : Val) (w : World) (hs : s.toList = [60]) (hB : B ≤ w.heap.size) (hH : HeapP h) (ho : OwnH w B w.heap.size (.slice ah h.length ch) h) (hx : x.ok h = true) (hy : y.ok h = true) (hr : RowV w w.heap.size aa [x, y]) :
    Calls Try.prog 28 #[.slice ah h.length ch, .string s, .slice aa 2 ca] w fun e w' => PpPost B (prim2 3 h x y) w e w' := by
  have e0 : (s.toList == [43]) = false := by rw [hs]; rfl
  have e1 : (s.toList == [45]) = false := by rw [hs]; rfl
  have e2 : (s.toList == [42]) = false := by rw [hs]; rfl
  have e3 : (s.toList == [60]) = true := by rw [hs]; rfl
  have e4 : (s.toList == [61]) = false := by rw [hs]; rfl
  have e6 : (s.toList == [99, 111, 110, 115]) = false := by rw [hs]; rfl
  have e7 : (s.toList == [99, 97, 114]) = false := by rw [hs]; rfl
  have e8 : (s.toList == [99, 100, 114]) = false := by rw [hs]; rfl
  have e9 : (s.toList == [110, 117, 108, 108, 63]) = false := by rw [hs]; rfl
  have e10 : (s.toList == [112, 97, 105, 114, 63]) = false := by rw [hs]; rfl
  have e11 : (s.toList == [110, 111, 116]) = false := by rw [hs]; rfl
  have HO : Hid (OwnH w B w.heap.size (.slice ah h.length ch) h) := ho
  have hb0 : Below w.heap.size w (w.alloc (Obj.cells #[.int .i64 0, .int .i64 0, .string ⟨#[]⟩] 29)) := (Below.refl _ _).alloc (Nat.le_refl _) _
  have hk0 : (w.alloc (Obj.cells #[.int .i64 0, .int .i64 0, .string ⟨#[]⟩] 29)).heap[w.heap.size]? = some (Obj.cells #[.int .i64 0, .int .i64 0, .string ⟨#[]⟩] 29) := blk_at _ _ _ rfl
  have hk2 : ((w.alloc (Obj.cells #[.int .i64 0, .int .i64 0, .string ⟨#[]⟩] 29)).alloc (Obj.cells #[.int .i64 0, .int .i64 0, .string ⟨#[]⟩] 29)).heap[w.heap.size + 1]? = some (Obj.cells #[.int .i64 0, .int .i64 0, .string ⟨#[]⟩] 29) := blk_at _ _ _ (by simp)
  have hlen : h.length ≤ 300 := hH.1
  have hsz0 : (w.alloc (Obj.cells #[.int .i64 0, .int .i64 0, .string ⟨#[]⟩] 29)).heap.size = w.heap.size + 1 := by simp
  obtain ⟨b, o, rfl, hbl, x0, x1, x2⟩ := hr 0 x rfl
  rw [Nat.zero_mul, Nat.add_zero] at x0 x1 x2
  obtain ⟨b', o', e', -, y0, y1, y2⟩ := hr 1 y rfl
  simp only [Option.some.injEq, Addr.mk.injEq, and_true] at e'
  obtain ⟨rfl, rfl⟩ := e'
  rw [Nat.one_mul] at y0 y1 y2
  rw [Nat.add_assoc] at y1 y2
  simp only [Nat.reduceAdd] at y1 y2
  have HN : Hid (∀ m n, (-1000000 ≤ m ∧ m ≤ 1000000) → (-1000000 ≤ n ∧ n ≤ 1000000) → ∀ w, Calls Try.prog 42 #[.string s, .int .i64 m, .int .i64 n] w fun e w' => VcPost (numsP 3 m n) w e w') := fun m n h1 h2 w => l7Nums_3 s m n w hs h1 h2
  clear hs ho hr
  obtain ⟨xk, xn, xs⟩ := x
  by_cases hxk : xk = 1
  · subst hxk
    obtain ⟨yk, yn, ys⟩ := y
    by_cases hyk : yk = 1
    · subst hyk
      have HR : Hid (prim2 3 h ⟨1, xn, xs⟩ ⟨1, yn, ys⟩ = (h, numsP 3 xn yn)) := by show _ = _; simp [prim2]
      have HN2 : Hid (∀ w, Calls Try.prog 42 #[.string s, .int .i64 xn, .int .i64 yn] w fun e w' => VcPost (numsP 3 xn yn) w e w') := fun w => HN.out xn yn (num_of_ok hx) (num_of_ok hy) w
      rw [HR.out]
      generalize numsP 3 xn yn = r at *
      clear HN hx hy HR
      go_enter Try.func28, Try.ntmps28
      go_wp2_with fail
      go_cut [9, 10] from 32 to 44 (fun p c wx => ∃ g, p = .pointer (some ⟨g, 0, none⟩) ∧ c = .int .i64 r.2 ∧ w.heap.size < g ∧ wx.heap[g]? = some (Obj.cells #[.int .i64 r.1.k, .int .i64 r.1.n, .string r.1.s] 29) ∧ wx.heap[w.heap.size]? = some (Obj.cells #[.int .i64 0, .int .i64 0, .string ⟨#[]⟩] 29) ∧ Below w.heap.size w wx)
      case first =>
        go_region_with (go_at_call 42; refine (HN2.out _).mono ?_; rintro e w1 ⟨rfl, hb1⟩; first | (have k9 : w1.heap[w.heap.size + 1]? = some (Obj.cells #[.int .i64 0, .int .i64 0, .string ⟨#[]⟩] 29) := ?_; rotate_left; (refine (hb1.block (w.heap.size + 1) ?_).trans hk2; show w.heap.size + 1 < ((w.heap.push _).push _).size; rw [Array.size_push, Array.size_push]; exact Nat.lt_succ_self _); have c0 := cell_blk (j := 0) k9 rfl; have c1 := cell_blk (j := 1) k9 rfl; have c2 := cell_blk (j := 2) k9 rfl; have f0 := frozen_blk k9 0; have f1 := frozen_blk k9 1; have f2 := frozen_blk k9 2) | skip)
        all_goals
          first
            | (have k9' := k9
               have k7 : w1.heap[w.heap.size]? = some (Obj.cells #[.int .i64 0, .int .i64 0, .string ⟨#[]⟩] 29) := (hb1.block w.heap.size (by show w.heap.size < ((w.heap.push _).push _).size; rw [Array.size_push, Array.size_push]; omega)).trans (blk_past hk0)
               have hbw : Below w.heap.size w w1 := (below_drewN (hb0.alloc (by simp) _) 1).trans (hb1.mono (by show w.heap.size ≤ ((w.heap.push _).push _).size; rw [Array.size_push, Array.size_push]; omega))
               clear hb1
               go_wp2_with fail
               go_meet
               case rel => exact ⟨w.heap.size + 1, rfl, rfl, by omega, put_blk _ _ _ k9', (heap_setCell_other _ _ _ _ (by show w.heap.size ≠ w.heap.size + 1; omega)).trans ((heap_setCell_other _ _ _ _ (by show w.heap.size ≠ w.heap.size + 1; omega)).trans ((heap_setCell_other _ _ _ _ (by show w.heap.size ≠ w.heap.size + 1; omega)).trans k7)), put_below hbw (by omega) _ _ _⟩)
            | (have k7 : w1.heap[w.heap.size]? = some (Obj.cells #[.int .i64 0, .int .i64 0, .string ⟨#[]⟩] 29) := (hb1.block w.heap.size (by show w.heap.size < (w.heap.push _).size; rw [Array.size_push]; omega)).trans hk0
               have hbw : Below w.heap.size w w1 := (below_drewN hb0 1).trans (hb1.mono (by show w.heap.size ≤ (w.heap.push _).size; rw [Array.size_push]; omega))
               clear hb1
               go_wp2_with fail
               go_meet
               case rel => exact ⟨w1.heap.size, rfl, rfl, (Array.getElem?_eq_some_iff.1 k7).1, blk_at _ _ _ rfl, blk_past k7, hbw.alloc (Nat.le_of_lt (Array.getElem?_eq_some_iff.1 k7).1) _⟩)
      case rest =>
        obtain ⟨g, rfl, rfl, hgw, kg, k7, hbw⟩ := hcut
        have K7 : Hid (wc.heap[w.heap.size]? = some (Obj.cells #[.int .i64 0, .int .i64 0, .string ⟨#[]⟩] 29)) := k7
        have HBW : Hid (Below w.heap.size w wc) := hbw
        have a0 := cell_blk (j := 0) kg rfl
        have a1 := cell_blk (j := 1) kg rfl
        have a2 := cell_blk (j := 2) kg rfl
        have g0 := cell_blk (j := 0) k7 rfl
        have g1 := cell_blk (j := 1) k7 rfl
        have g2 := cell_blk (j := 2) k7 rfl
        have z0 := frozen_blk k7 0
        have z1 := frozen_blk k7 1
        have z2 := frozen_blk k7 2
        clear k7 hbw kg
        go_wp2_with fail
        go_region
        all_goals go_wp2
        all_goals
          refine bodyPost_ret (res_tct rfl _ _ w.heap.size (.int .i64 r.1.k) (.int .i64 r.1.n) (.string r.1.s) rfl (put_blk _ _ _ K7.out)) rfl ?_
          have hbf : ∀ W, Below w.heap.size w W → PpPost B (h, r) w (.returned (.tuple #[.slice ah h.length ch, .agg #[.int .i64 r.1.k, .int .i64 r.1.n, .string r.1.s], .int .i64 r.2])) W := fun W hb => ⟨_, rfl, HO.out.fin hb, hb.mono hB⟩
          exact hbf _ (below_drewN (put_below HBW.out (Nat.le_refl _) _ _ _) 1)
    · have HR : Hid (prim2 3 h ⟨1, xn, xs⟩ ⟨yk, yn, ys⟩ = (h, zv, 2)) := by show _ = _; simp [prim2, hyk]
      have q2 : (yk != 1) = true := by rw [bne_iff_ne]; exact hyk
      rw [HR.out]
      clear HN hx hy HR hyk
      go_enter Try.func28, Try.ntmps28
      go_wp2
      refine bodyPost_ret (res_tct rfl _ _ w.heap.size (.int .i64 0) (.int .i64 0) (.string ⟨#[]⟩) rfl (blk_at _ _ _ rfl)) rfl ?_
      exact ⟨_, rfl, HO.out.fin hb0, hb0.mono hB⟩
  · have HR : Hid (prim2 3 h ⟨xk, xn, xs⟩ y = (h, zv, 2)) := by show _ = _; simp [prim2, hxk]
    have q1 : (xk != 1) = true := by rw [bne_iff_ne]; exact hxk
    rw [HR.out]
    clear HN hx hy HR hxk
    go_enter Try.func28, Try.ntmps28
    go_wp2
    refine bodyPost_ret (res_tct rfl _ _ w.heap.size (.int .i64 0) (.int .i64 0) (.string ⟨#[]⟩) rfl (blk_at _ _ _ rfl)) rfl ?_
    exact ⟨_, rfl, HO.out.fin hb0, hb0.mono hB⟩
end Go.Proofs.Ytngelfohpkpekaa
