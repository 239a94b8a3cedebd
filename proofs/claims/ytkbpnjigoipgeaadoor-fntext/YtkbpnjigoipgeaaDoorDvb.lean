/- Draws: any value. -/
import Derived.Test.YtkbpnjigoipgeaaDoorDva
set_option linter.unusedVariables false
namespace Go.Proofs.YtkbpnjigoipgeaaDoor
open Go.ChangeShapes Go.WideShapes Go.ChangeAt Go.RowKit
open Cu (Cw Code1 CurS)
theorem KindsAt.keep {W W' : World} {c : Nat} {d : Code1} {ah : Option Addr} {h : List Cel} (hk : KindsAt W c ah h) (hc : Cw W c d W') : KindsAt W' c ah h := by
  intro k x hx
  obtain ⟨b, o, h1, h2, h3, h4⟩ := hk k x hx
  exact ⟨b, o, h1, h2, Nat.lt_of_lt_of_le h3 hc.2.1.size, Cw_cell hc h4 h2⟩
theorem KindsAt.lit {W : World} {c : Nat} {ah : Option Addr} {h : List Cel} (hk : KindsAt W c ah h) (o : Obj) : KindsAt (W.alloc o) c ah h := by
  intro k x hx
  obtain ⟨b, of, h1, h2, h3, h4⟩ := hk k x hx
  exact ⟨b, of, h1, h2, Nat.lt_of_lt_of_le h3 (by simp), (alloc_cell _ _ _ h3).trans h4⟩
set_option maxRecDepth 100000 in
set_option maxHeartbeats 4000000 in
theorem l6AnyVal_any (c : Nat) (d : Code1) (ah : Option Addr) (ch : Nat) (h : List Cel) (W : World) (hC : Cw W c d W) (hl : h.length ≤ 100) (hk : KindsAt W c ah h) :
    Calls Tryd.prog 17 #[.pointer (some ⟨c, 0, none⟩), .slice ah h.length ch] W fun e W' => VdPost W c d e W' := by
  have hcw : c < W.heap.size := hC.2.2
  have hk0 : (W.alloc (Obj.cells #[.int .i64 0, .int .i64 0, .string ⟨#[]⟩] 26)).heap[W.heap.size]? = some (Obj.cells #[.int .i64 0, .int .i64 0, .string ⟨#[]⟩] 26) := blk_at _ _ _ rfl
  have hC1 : Cw (W.alloc (Obj.cells #[.int .i64 0, .int .i64 0, .string ⟨#[]⟩] 26)) c d (W.alloc (Obj.cells #[.int .i64 0, .int .i64 0, .string ⟨#[]⟩] 26)) := Cw_self (hC.alloc (Obj.cells #[.int .i64 0, .int .i64 0, .string ⟨#[]⟩] 26)).1 (Nat.lt_of_lt_of_le hcw (by simp))
  have HV : Hid (Calls Tryd.prog 27 #[.pointer (some ⟨c, 0, none⟩), .slice ah h.length ch] (W.alloc (Obj.cells #[.int .i64 0, .int .i64 0, .string ⟨#[]⟩] 26)) fun e W' => VdPost (W.alloc (Obj.cells #[.int .i64 0, .int .i64 0, .string ⟨#[]⟩] 26)) c d e W') := l6Val_any c d ah ch h _ hC1 hl (hk.lit _)
  clear hk hC hC1
  go_enter Tryd.func17, Tryd.ntmps17
  go_wp2_with fail
  refine HV.out.mono ?_
  rintro e wv ⟨v, rfl, hv, hcv⟩
  obtain ⟨t1, t2, t3, t4, t5⟩ := hv
  have hs1 : (W.alloc (Obj.cells #[.int .i64 0, .int .i64 0, .string ⟨#[]⟩] 26)).heap.size = W.heap.size + 1 := by simp
  have hsv : W.heap.size + 1 ≤ wv.heap.size := by have := hcv.2.1.size; omega
  have kz2 : (wv.alloc (Obj.cells #[.int .i64 v.k, .int .i64 v.n, .string v.s] 26)).heap[W.heap.size]? = some (Obj.cells #[.int .i64 0, .int .i64 0, .string ⟨#[]⟩] 26) := blk_past (Cw_blk hcv hk0 (by omega))
  have kv2 : (wv.alloc (Obj.cells #[.int .i64 v.k, .int .i64 v.n, .string v.s] 26)).heap[wv.heap.size]? = some (Obj.cells #[.int .i64 v.k, .int .i64 v.n, .string v.s] 26) := blk_at _ _ _ rfl
  have hC2 : Cw (wv.alloc (Obj.cells #[.int .i64 v.k, .int .i64 v.n, .string v.s] 26)) c d (wv.alloc (Obj.cells #[.int .i64 v.k, .int .i64 v.n, .string v.s] 26)) := Cw_self (hcv.alloc (Obj.cells #[.int .i64 v.k, .int .i64 v.n, .string v.s] 26)).1 (by show c < (wv.heap.push _).size; rw [Array.size_push]; omega)
  have HCW : Hid (Cw W c d (wv.alloc (Obj.cells #[.int .i64 v.k, .int .i64 v.n, .string v.s] 26))) := Cw_lit (hcv.alloc (Obj.cells #[.int .i64 v.k, .int .i64 v.n, .string v.s] 26)) hcw
  have HBE : Hid (∀ (n : Nat) (U : World), 0 < n → n ≤ 1000 → Cw (wv.alloc (Obj.cells #[.int .i64 v.k, .int .i64 v.n, .string v.s] 26)) c d U → Calls Tryd.prog 26 #[.pointer (some ⟨c, 0, none⟩), .int .i64 (n : Int)] U fun e W' => ∃ k : Nat, e = .returned (.int .i64 (k : Int)) ∧ k < n ∧ Cw (wv.alloc (Obj.cells #[.int .i64 v.k, .int .i64 v.n, .string v.s] 26)) c d W') := fun n U h0 h1 hU => Cu.below_cw _ c d n U hU h0 (by omega)
  have HON : Hid (Calls Tryd.prog 14 #[.pointer (some ⟨c, 0, none⟩), .int .i64 10] (wv.alloc (Obj.cells #[.int .i64 v.k, .int .i64 v.n, .string v.s] 26)) fun e W' => ∃ b : Bool, e = .returned (.bool b) ∧ Cw (wv.alloc (Obj.cells #[.int .i64 v.k, .int .i64 v.n, .string v.s] 26)) c d W') := Cu.once_cw _ c d 10 _ hC2 (by omega) (by omega)
  clear HV hcv hC2
  go_wp2_with fail
  refine HON.out.mono ?_
  rintro e wo ⟨ob, rfl, hco⟩
  have HCO : Hid (Cw (wv.alloc (Obj.cells #[.int .i64 v.k, .int .i64 v.n, .string v.s] 26)) c d wo) := hco
  clear hco HON
  cases ob with
  | false =>
    have HCF : Hid (Cw W c d wo) := Cw_trans HCW.out HCO.out
    have KV : Hid (wo.heap[wv.heap.size]? = some (Obj.cells #[.int .i64 v.k, .int .i64 v.n, .string v.s] 26)) := Cw_blk HCO.out kv2 (by omega)
    have KZ : Hid (wo.heap[W.heap.size]? = some (Obj.cells #[.int .i64 0, .int .i64 0, .string ⟨#[]⟩] 26)) := Cw_blk HCO.out kz2 (by omega)
    have kv := KV.out
    have kz := KZ.out
    have c0 := cell_blk (j := 0) kz rfl
    have c1 := cell_blk (j := 1) kz rfl
    have c2 := cell_blk (j := 2) kz rfl
    have f0 := frozen_blk kz 0
    have f1 := frozen_blk kz 1
    have f2 := frozen_blk kz 2
    have d0 := cell_blk (j := 0) kv rfl
    have d1 := cell_blk (j := 1) kv rfl
    have d2 := cell_blk (j := 2) kv rfl
    clear kv kz
    go_wp2
    refine bodyPost_ret (results_cell_row rfl _ _ W.heap.size 26 #[_, _, _] (0, 0) _ rfl (put_blk _ _ _ KZ.out) Tryd.underlying26 rfl (by kernel_rfl)) rfl ?_
    exact ⟨v, rfl, ⟨t1, t2, t3, t4, t5⟩, Cw_set (Cw_set (Cw_set HCF.out (Nat.le_refl _)) (Nat.le_refl _)) (Nat.le_refl _)⟩
  | true =>
    go_wp2_with fail
    refine (HBE.out 3 wo (by omega) (by omega) HCO.out).mono ?_
    rintro e w3 ⟨k3, rfl, hk3, hc3⟩
    have HC3 : Hid (Cw (wv.alloc (Obj.cells #[.int .i64 v.k, .int .i64 v.n, .string v.s] 26)) c d w3) := hc3
    clear hc3 HCO
    obtain rfl | rfl | rfl : k3 = 0 ∨ k3 = 1 ∨ k3 = 2 := by omega
    · go_wp2_with fail
      refine (HBE.out 10 w3 (by omega) (by omega) HC3.out).mono ?_
      rintro e w4 ⟨k4, rfl, hk4, hc4⟩
      have kv4 : w4.heap[wv.heap.size]? = some (Obj.cells #[.int .i64 v.k, .int .i64 v.n, .string v.s] 26) := Cw_blk hc4 kv2 (by omega)
      have d0 := cell_blk (j := 0) kv4 rfl
      have z0 := frozen_blk kv4 0
      have HCF' : Hid (Cw W c d w4) := Cw_trans HCW.out hc4
      have KV4 : Hid (w4.heap[wv.heap.size]? = some (Obj.cells #[.int .i64 v.k, .int .i64 v.n, .string v.s] 26)) := kv4
      have KZ4 : Hid (w4.heap[W.heap.size]? = some (Obj.cells #[.int .i64 0, .int .i64 0, .string ⟨#[]⟩] 26)) := Cw_blk hc4 kz2 (by omega)
      have HCF : Hid (Cw W c d (w4.setCell ⟨wv.heap.size, 0, none⟩ (.int .i64 ((k4 : Int) - 1)))) := Cw_set HCF'.out (by omega)
      have KV : Hid ((w4.setCell ⟨wv.heap.size, 0, none⟩ (.int .i64 ((k4 : Int) - 1))).heap[wv.heap.size]? = some (Obj.cells #[.int .i64 ((k4 : Int) - 1), .int .i64 v.n, .string v.s] 26)) := heap_setCell_same _ _ _ _ _ _ KV4.out
      have KZ : Hid ((w4.setCell ⟨wv.heap.size, 0, none⟩ (.int .i64 ((k4 : Int) - 1))).heap[W.heap.size]? = some (Obj.cells #[.int .i64 0, .int .i64 0, .string ⟨#[]⟩] 26)) := (heap_setCell_other _ _ _ _ (by show W.heap.size ≠ wv.heap.size; omega)).trans KZ4.out
      clear hc4 kv4
      have kv := KV.out
      have kz := KZ.out
      have c0 := cell_blk (j := 0) kz rfl
      have c1 := cell_blk (j := 1) kz rfl
      have c2 := cell_blk (j := 2) kz rfl
      have f0 := frozen_blk kz 0
      have f1 := frozen_blk kz 1
      have f2 := frozen_blk kz 2
      have d0 := cell_blk (j := 0) kv rfl
      have d1 := cell_blk (j := 1) kv rfl
      have d2 := cell_blk (j := 2) kv rfl
      clear kv kz
      go_wp2
      refine bodyPost_ret (results_cell_row rfl _ _ W.heap.size 26 #[_, _, _] (0, 0) _ rfl (put_blk _ _ _ KZ.out) Tryd.underlying26 rfl (by kernel_rfl)) rfl ?_
      exact ⟨⟨(k4 : Int) - 1, v.n, v.s⟩, rfl, ⟨by show (-10 : Int) ≤ (k4 : Int) - 1; omega, by show (k4 : Int) - 1 ≤ 20; omega, t3, t4, t5⟩, Cw_set (Cw_set (Cw_set HCF.out (Nat.le_refl _)) (Nat.le_refl _)) (Nat.le_refl _)⟩
    · have HPI : Hid (Calls Tryd.prog 30 #[.pointer (some ⟨c, 0, none⟩), .slice (some ⟨w3.heap.size, 0, none⟩) 4 4] (w3.alloc (Obj.cells #[.int .i64 (-1), .int .i64 2, .int .i64 9, .int .i64 1000001] 3)) fun e W' => ∃ x, e = .returned (.int .i64 x) ∧ x ∈ [(-1 : Int), 2, 9, 1000001] ∧ Cw (wv.alloc (Obj.cells #[.int .i64 v.k, .int .i64 v.n, .string v.s] 26)) c d W') := pickI_cw [-1, 2, 9, 1000001] _ c d w3.heap.size 4 w3 HC3.out rfl (by simp) (by simp) _ rfl
      go_wp2_with fail
      refine HPI.out.mono ?_
      rintro e w4 ⟨x, rfl, hx, hc4⟩
      have hxb : -1000000 ≤ x ∧ x ≤ 1000001 := by simp at hx; rcases hx with rfl | rfl | rfl | rfl <;> omega
      have kv4 : w4.heap[wv.heap.size]? = some (Obj.cells #[.int .i64 v.k, .int .i64 v.n, .string v.s] 26) := Cw_blk hc4 kv2 (by omega)
      have d0 := cell_blk (j := 1) kv4 rfl
      have z0 := frozen_blk kv4 1
      have HCF' : Hid (Cw W c d w4) := Cw_trans HCW.out hc4
      have KV4 : Hid (w4.heap[wv.heap.size]? = some (Obj.cells #[.int .i64 v.k, .int .i64 v.n, .string v.s] 26)) := kv4
      have KZ4 : Hid (w4.heap[W.heap.size]? = some (Obj.cells #[.int .i64 0, .int .i64 0, .string ⟨#[]⟩] 26)) := Cw_blk hc4 kz2 (by omega)
      have HCF : Hid (Cw W c d (w4.setCell ⟨wv.heap.size, 1, none⟩ (.int .i64 x))) := Cw_set HCF'.out (by omega)
      have KV : Hid ((w4.setCell ⟨wv.heap.size, 1, none⟩ (.int .i64 x)).heap[wv.heap.size]? = some (Obj.cells #[.int .i64 v.k, .int .i64 x, .string v.s] 26)) := heap_setCell_same _ _ _ _ _ _ KV4.out
      have KZ : Hid ((w4.setCell ⟨wv.heap.size, 1, none⟩ (.int .i64 x)).heap[W.heap.size]? = some (Obj.cells #[.int .i64 0, .int .i64 0, .string ⟨#[]⟩] 26)) := (heap_setCell_other _ _ _ _ (by show W.heap.size ≠ wv.heap.size; omega)).trans KZ4.out
      clear hc4 kv4 HPI hx
      have kv := KV.out
      have kz := KZ.out
      have c0 := cell_blk (j := 0) kz rfl
      have c1 := cell_blk (j := 1) kz rfl
      have c2 := cell_blk (j := 2) kz rfl
      have f0 := frozen_blk kz 0
      have f1 := frozen_blk kz 1
      have f2 := frozen_blk kz 2
      have d0 := cell_blk (j := 0) kv rfl
      have d1 := cell_blk (j := 1) kv rfl
      have d2 := cell_blk (j := 2) kv rfl
      clear kv kz
      go_wp2
      refine bodyPost_ret (results_cell_row rfl _ _ W.heap.size 26 #[_, _, _] (0, 0) _ rfl (put_blk _ _ _ KZ.out) Tryd.underlying26 rfl (by kernel_rfl)) rfl ?_
      exact ⟨⟨v.k, x, v.s⟩, rfl, ⟨t1, t2, hxb.1, hxb.2, t5⟩, Cw_set (Cw_set (Cw_set HCF.out (Nat.le_refl _)) (Nat.le_refl _)) (Nat.le_refl _)⟩
    · have kv4 : w3.heap[wv.heap.size]? = some (Obj.cells #[.int .i64 v.k, .int .i64 v.n, .string v.s] 26) := Cw_blk HC3.out kv2 (by omega)
      have d0 := cell_blk (j := 2) kv4 rfl
      have z0 := frozen_blk kv4 2
      have HCF' : Hid (Cw W c d w3) := Cw_trans HCW.out HC3.out
      have KV4 : Hid (w3.heap[wv.heap.size]? = some (Obj.cells #[.int .i64 v.k, .int .i64 v.n, .string v.s] 26)) := kv4
      have KZ4 : Hid (w3.heap[W.heap.size]? = some (Obj.cells #[.int .i64 0, .int .i64 0, .string ⟨#[]⟩] 26)) := Cw_blk HC3.out kz2 (by omega)
      have HCF : Hid (Cw W c d (w3.setCell ⟨wv.heap.size, 2, none⟩ (.string ⟨#[113]⟩))) := Cw_set HCF'.out (by omega)
      have KV : Hid ((w3.setCell ⟨wv.heap.size, 2, none⟩ (.string ⟨#[113]⟩)).heap[wv.heap.size]? = some (Obj.cells #[.int .i64 v.k, .int .i64 v.n, .string ⟨#[113]⟩] 26)) := heap_setCell_same _ _ _ _ _ _ KV4.out
      have KZ : Hid ((w3.setCell ⟨wv.heap.size, 2, none⟩ (.string ⟨#[113]⟩)).heap[W.heap.size]? = some (Obj.cells #[.int .i64 0, .int .i64 0, .string ⟨#[]⟩] 26)) := (heap_setCell_other _ _ _ _ (by show W.heap.size ≠ wv.heap.size; omega)).trans KZ4.out
      clear kv4
      have kv := KV.out
      have kz := KZ.out
      have c0 := cell_blk (j := 0) kz rfl
      have c1 := cell_blk (j := 1) kz rfl
      have c2 := cell_blk (j := 2) kz rfl
      have f0 := frozen_blk kz 0
      have f1 := frozen_blk kz 1
      have f2 := frozen_blk kz 2
      have d0 := cell_blk (j := 0) kv rfl
      have d1 := cell_blk (j := 1) kv rfl
      have d2 := cell_blk (j := 2) kv rfl
      clear kv kz
      go_wp2
      refine bodyPost_ret (results_cell_row rfl _ _ W.heap.size 26 #[_, _, _] (0, 0) _ rfl (put_blk _ _ _ KZ.out) Tryd.underlying26 rfl (by kernel_rfl)) rfl ?_
      exact ⟨⟨v.k, v.n, ⟨#[113]⟩⟩, rfl, ⟨t1, t2, t3, t4, by show (1 : Nat) ≤ 40; omega⟩, Cw_set (Cw_set (Cw_set HCF.out (Nat.le_refl _)) (Nat.le_refl _)) (Nat.le_refl _)⟩
end Go.Proofs.YtkbpnjigoipgeaaDoor
