/- The law FnExactAnswer walked: for whatever system and machine the program and the model tell the same text, and the arguments stay as they were. -/
import Derived.Test.YtlacidojljilaaaGreatDoorAna
import Derived.Test.YtlacidojljilaaaGreatDoorMcx
import Derived.Test.YtlacidojljilaaaGreatDoorSye
import Derived.Deep.RegionWith
import Derived.OrdersHeld
set_option linter.unusedVariables false
namespace Go.Proofs.YtlacidojljilaaaGreatDoor
open Go.ChangeShapes Go.WideShapes Go.ChangeAt Go.RowKit
namespace fnExactAnswer
set_option maxRecDepth 100000 in
set_option maxHeartbeats 8000000 in
theorem walk (y : Sy) (a1 a2 a3 a4 : Option Addr) (c1 c2 c3 c4 : Nat) (m : Mac) (m1 m2 : Option Addr) (e1 e2 : Nat) (w : World) (hwf : y.wf) (hr : SyRows w (fun b => b < w.heap.size) a1 a2 a3 a4 c1 c2 c3 c4 y) (hwm : m.wf) (hrm : MacRows w (fun b => b < w.heap.size) m1 m2 e1 e2 m) (h0 : 0 < w.heap.size) (htab : Tab w) :
  Calls Tryz.prog 3 #[.agg #[.slice a1 y.heap.length c1, .slice a2 y.insts.length c2, .slice a3 y.units.length c3, .slice a4 y.out.length c4], .agg #[.int .i64 m.mode, .int .i64 m.unit, .int .i64 m.node, .slice m1 m.env.length e1, .int .i64 m.val.k, .int .i64 m.val.n, .string m.val.s, .slice m2 m.stack.length e2, .int .i64 m.end_]] w fun e w' => Ans w (.bool true) e w' := by
 have hb0 : Below w.heap.size w ((w.alloc (Obj.cells #[.slice a1 y.heap.length c1, .slice a2 y.insts.length c2, .slice a3 y.units.length c3, .slice a4 y.out.length c4] 27)).alloc (Obj.cells #[.int .i64 m.mode, .int .i64 m.unit, .int .i64 m.node, .slice m1 m.env.length e1, .int .i64 m.val.k, .int .i64 m.val.n, .string m.val.s, .slice m2 m.stack.length e2, .int .i64 m.end_] 33)) := (bR _ _).alloc (by simp) _
 have k0 : ((w.alloc (Obj.cells #[.slice a1 y.heap.length c1, .slice a2 y.insts.length c2, .slice a3 y.units.length c3, .slice a4 y.out.length c4] 27)).alloc (Obj.cells #[.int .i64 m.mode, .int .i64 m.unit, .int .i64 m.node, .slice m1 m.env.length e1, .int .i64 m.val.k, .int .i64 m.val.n, .string m.val.s, .slice m2 m.stack.length e2, .int .i64 m.end_] 33)).heap[w.heap.size]? = some (Obj.cells #[.slice a1 y.heap.length c1, .slice a2 y.insts.length c2, .slice a3 y.units.length c3, .slice a4 y.out.length c4] 27) := blk_past (blk_at _ _ _ rfl)
 have k1 : ((w.alloc (Obj.cells #[.slice a1 y.heap.length c1, .slice a2 y.insts.length c2, .slice a3 y.units.length c3, .slice a4 y.out.length c4] 27)).alloc (Obj.cells #[.int .i64 m.mode, .int .i64 m.unit, .int .i64 m.node, .slice m1 m.env.length e1, .int .i64 m.val.k, .int .i64 m.val.n, .string m.val.s, .slice m2 m.stack.length e2, .int .i64 m.end_] 33)).heap[w.heap.size + 1]? = some (Obj.cells #[.int .i64 m.mode, .int .i64 m.unit, .int .i64 m.node, .slice m1 m.env.length e1, .int .i64 m.val.k, .int .i64 m.val.n, .string m.val.s, .slice m2 m.stack.length e2, .int .i64 m.end_] 33) := blk_at _ _ _ (by simp)
 have HZS : Hid (∀ w1, Below w.heap.size w w1 → Calls Tryz.prog 4 #[.agg #[.slice a1 y.heap.length c1, .slice a2 y.insts.length c2, .slice a3 y.units.length c3, .slice a4 y.out.length c4], .int .i64 1048576] w1 fun e w' => Ans w1 (.int .i64 (leftOf 1048576 y.bulk)) e w') := fun w1 h1 => szE_Sys y a1 a2 a3 a4 c1 c2 c3 c4 1048576 w1 (by omega) hwf (hr.keep fun b hb => ⟨Nat.lt_of_lt_of_le hb h1.size, h1.block b hb⟩)
 by_cases hbk : 1048576 < y.bulk
 ·rw [leftOf_neg hbk] at HZS
  clear hr hwf hrm hwm htab h0
  go_enter Tryz.func3, Tryz.ntmps3
  go_wp2_with fail
  refine (HZS.out _ hb0).mono ?_
  rintro e w1 ⟨rfl, hb1⟩
  go_wp2
  go_ret
  exact ⟨rfl, bT hb0 hb1⟩
 have hsy := Sy.small_of hwf (by omega)
 have hfl := Sy.flat_of (y := y) (by omega)
 rw [leftOf_nat hbk] at HZS
 obtain ⟨q, hq⟩ : ∃ q, q = 1048576 - y.bulk := ⟨_, rfl⟩
 have hq2 : q ≤ 1048576 := by omega
 rw [← hq] at HZS
 clear hq
 have HZM : Hid (∀ w1, Below w.heap.size w w1 → Calls Tryz.prog 5 #[.agg #[.int .i64 m.mode, .int .i64 m.unit, .int .i64 m.node, .slice m1 m.env.length e1, .int .i64 m.val.k, .int .i64 m.val.n, .string m.val.s, .slice m2 m.stack.length e2, .int .i64 m.end_], .int .i64 q] w1 fun e w' => Ans w1 (.int .i64 (leftOf q m.bulk)) e w') := fun w1 h1 => szE_Machine m m1 m2 e1 e2 q w1 hq2 hwm (hrm.keep fun b hb => ⟨Nat.lt_of_lt_of_le hb h1.size, h1.block b hb⟩)
 by_cases hbm : q < m.bulk
 ·rw [leftOf_neg hbm] at HZM
  clear hr hwf hrm hwm htab h0 hsy hfl hbk hbm
  go_enter Tryz.func3, Tryz.ntmps3
  go_wp2_with fail
  refine (HZS.out _ hb0).mono ?_
  rintro e w1 ⟨rfl, hb1⟩
  have hc1 := bT hb0 hb1
  have k3 := bK k1 hb1
  obtain ⟨z0, z1, z2, z3, z4, z5, z6, z7, z8⟩ := zn9 k3 rfl rfl rfl rfl rfl rfl rfl rfl rfl
  go_wp2_with fail
  refine (HZM.out _ hc1).mono ?_
  rintro e w2 ⟨rfl, hb2⟩
  go_wp2
  go_ret
  exact ⟨rfl, bT hc1 hb2⟩
 ·have hsm := Mac.small_of hwm (by omega)
  rw [leftOf_nat hbm] at HZM
  generalize q - m.bulk = q9 at HZM
  have HTS : Hid (∀ w1, Below w.heap.size w w1 → Calls Tryz.prog 7 #[.agg #[.slice a1 y.heap.length c1, .slice a2 y.insts.length c2, .slice a3 y.units.length c3, .slice a4 y.out.length c4]] w1 fun e w' => MadeE rgY y w1 e w') := fun w1 h1 => toE_Sys y a1 a2 a3 a4 c1 c2 c3 c4 w1 hsy (hr.keep fun b hb => ⟨Nat.lt_of_lt_of_le hb h1.size, h1.block b hb⟩)
  have HTM : Hid (∀ w1, Below w.heap.size w w1 → Calls Tryz.prog 8 #[.agg #[.int .i64 m.mode, .int .i64 m.unit, .int .i64 m.node, .slice m1 m.env.length e1, .int .i64 m.val.k, .int .i64 m.val.n, .string m.val.s, .slice m2 m.stack.length e2, .int .i64 m.end_]] w1 fun e w' => MadeE rgM m w1 e w') := fun w1 h1 => toE_Machine m m1 m2 e1 e2 w1 hsm (hrm.keep fun b hb => ⟨Nat.lt_of_lt_of_le hb h1.size, h1.block b hb⟩)
  have HSP : Hid (∀ (ap1 ap2 ap3 ap4 : Option Addr) (cp1 cp2 cp3 cp4 : Nat) (mp1 mp2 : Option Addr) (ep1 ep2 : Nat) (w1 : World), SyRows w1 (fun b => b < w1.heap.size) ap1 ap2 ap3 ap4 cp1 cp2 cp3 cp4 y → MacRows w1 (fun b => b < w1.heap.size) mp1 mp2 ep1 ep2 m → Calls Tryz.prog 6 #[.agg #[.slice ap1 y.heap.length cp1, .slice ap2 y.insts.length cp2, .slice ap3 y.units.length cp3, .slice ap4 y.out.length cp4], .agg #[.int .i64 m.mode, .int .i64 m.unit, .int .i64 m.node, .slice mp1 m.env.length ep1, .int .i64 m.val.k, .int .i64 m.val.n, .string m.val.s, .slice mp2 m.stack.length ep2, .int .i64 m.end_]] w1 fun e w' => AnPost (AnsIs y m) w1 e w') := fun ap1 ap2 ap3 ap4 cp1 cp2 cp3 cp4 mp1 mp2 ep1 ep2 w1 h1 h2 => specAns_any y ap1 ap2 ap3 ap4 cp1 cp2 cp3 cp4 m mp1 mp2 ep1 ep2 w1 hsy h1 hsm hfl h2
  have HIM : Hid (∀ (ap1 ap2 ap3 ap4 : Option Addr) (cp1 cp2 cp3 cp4 : Nat) (mp1 mp2 : Option Addr) (ep1 ep2 : Nat) (w1 : World), SyRows w1 (fun b => b < w1.heap.size) ap1 ap2 ap3 ap4 cp1 cp2 cp3 cp4 y → MacRows w1 (fun b => b < w1.heap.size) mp1 mp2 ep1 ep2 m → Below w.heap.size w w1 → Calls Tryz.prog 9 #[.agg #[.slice ap1 y.heap.length cp1, .slice ap2 y.insts.length cp2, .slice ap3 y.units.length cp3, .slice ap4 y.out.length cp4], .agg #[.int .i64 m.mode, .int .i64 m.unit, .int .i64 m.node, .slice mp1 m.env.length ep1, .int .i64 m.val.k, .int .i64 m.val.n, .string m.val.s, .slice mp2 m.stack.length ep2, .int .i64 m.end_]] w1 fun e w' => AnPost (AnsIs y m) w1 e w') := fun ap1 ap2 ap3 ap4 cp1 cp2 cp3 cp4 mp1 mp2 ep1 ep2 w1 h1 h2 h3 => implAns_any y ap1 ap2 ap3 ap4 cp1 cp2 cp3 cp4 m mp1 mp2 ep1 ep2 w1 hsy h1 hsm h2 (Nat.lt_of_lt_of_le h0 h3.size) (var?_below h3 gPow h0 htab)
  have HES : Hid (∀ (ap1 ap2 ap3 ap4 : Option Addr) (cp1 cp2 cp3 cp4 : Nat) (aq1 aq2 aq3 aq4 : Option Addr) (cq1 cq2 cq3 cq4 : Nat) (w1 : World), SyRows w1 (fun b => b < w1.heap.size) ap1 ap2 ap3 ap4 cp1 cp2 cp3 cp4 y → SyRows w1 (fun b => b < w1.heap.size) aq1 aq2 aq3 aq4 cq1 cq2 cq3 cq4 y → Calls Tryz.prog 10 #[.agg #[.slice ap1 y.heap.length cp1, .slice ap2 y.insts.length cp2, .slice ap3 y.units.length cp3, .slice ap4 y.out.length cp4], .agg #[.slice aq1 y.heap.length cq1, .slice aq2 y.insts.length cq2, .slice aq3 y.units.length cq3, .slice aq4 y.out.length cq4]] w1 fun e w' => Ans w1 (.bool true) e w') := fun ap1 ap2 ap3 ap4 cp1 cp2 cp3 cp4 aq1 aq2 aq3 aq4 cq1 cq2 cq3 cq4 w1 h1 h2 => eqE_Sys y ap1 ap2 ap3 ap4 cp1 cp2 cp3 cp4 aq1 aq2 aq3 aq4 cq1 cq2 cq3 cq4 w1 hsy h1 h2
  have HEM : Hid (∀ (mp1 mp2 : Option Addr) (ep1 ep2 : Nat) (mq1 mq2 : Option Addr) (eq1 eq2 : Nat) (w1 : World), MacRows w1 (fun b => b < w1.heap.size) mp1 mp2 ep1 ep2 m → MacRows w1 (fun b => b < w1.heap.size) mq1 mq2 eq1 eq2 m → Calls Tryz.prog 11 #[.agg #[.int .i64 m.mode, .int .i64 m.unit, .int .i64 m.node, .slice mp1 m.env.length ep1, .int .i64 m.val.k, .int .i64 m.val.n, .string m.val.s, .slice mp2 m.stack.length ep2, .int .i64 m.end_], .agg #[.int .i64 m.mode, .int .i64 m.unit, .int .i64 m.node, .slice mq1 m.env.length eq1, .int .i64 m.val.k, .int .i64 m.val.n, .string m.val.s, .slice mq2 m.stack.length eq2, .int .i64 m.end_]] w1 fun e w' => Ans w1 (.bool true) e w') := fun mp1 mp2 ep1 ep2 mq1 mq2 eq1 eq2 w1 h1 h2 => eqE_Machine m mp1 mp2 ep1 ep2 mq1 mq2 eq1 eq2 w1 hsm h1 h2
  clear hr hwf hrm hwm htab h0 hsy hfl hsm hbk hbm hq2
  go_enter Tryz.func3, Tryz.ntmps3
  go_wp2_with fail
  refine (HZS.out _ hb0).mono ?_
  rintro e w1 ⟨rfl, hb1⟩
  have hc1 := bT hb0 hb1
  have k2 := bK k0 hb1
  have k3 := bK k1 hb1
  obtain ⟨z0, z1, z2, z3, z4, z5, z6, z7, z8⟩ := zn9 k3 rfl rfl rfl rfl rfl rfl rfl rfl rfl
  go_wp2_with fail
  refine (HZM.out _ hc1).mono ?_
  rintro e w2 ⟨rfl, hb2⟩
  have hc2 := bT hc1 hb2
  have k4 := bK k2 hb2
  have k5 := bK k3 hb2
  clear z0 z1 z2 z3 z4 z5 z6 z7 z8 k0 k1 k2 k3 hb0 hb1 hb2 hc1 HZS HZM
  go_wp2_with fail
  have KS0 : ∀ u v : World, (fun X : World => (X.heap[w.heap.size]? = some (Obj.cells #[.slice a1 y.heap.length c1, .slice a2 y.insts.length c2, .slice a3 y.units.length c3, .slice a4 y.out.length c4] 27)) ∧ (X.heap[w.heap.size + 1]? = some (Obj.cells #[.int .i64 m.mode, .int .i64 m.unit, .int .i64 m.node, .slice m1 m.env.length e1, .int .i64 m.val.k, .int .i64 m.val.n, .string m.val.s, .slice m2 m.stack.length e2, .int .i64 m.end_] 33))) u → Below u.heap.size u v → (fun X : World => (X.heap[w.heap.size]? = some (Obj.cells #[.slice a1 y.heap.length c1, .slice a2 y.insts.length c2, .slice a3 y.units.length c3, .slice a4 y.out.length c4] 27)) ∧ (X.heap[w.heap.size + 1]? = some (Obj.cells #[.int .i64 m.mode, .int .i64 m.unit, .int .i64 m.node, .slice m1 m.env.length e1, .int .i64 m.val.k, .int .i64 m.val.n, .string m.val.s, .slice m2 m.stack.length e2, .int .i64 m.end_] 33))) v := fun u v ⟨h0, h1⟩ hb9 => ⟨bK h0 hb9, bK h1 hb9⟩
  obtain ⟨WD, hWD⟩ : ∃ WD : World, WD = { w2 with drawn := w2.drawn + 1 } := ⟨_, rfl⟩
  have HSD : Hid ((fun X : World => (X.heap[w.heap.size]? = some (Obj.cells #[.slice a1 y.heap.length c1, .slice a2 y.insts.length c2, .slice a3 y.units.length c3, .slice a4 y.out.length c4] 27)) ∧ (X.heap[w.heap.size + 1]? = some (Obj.cells #[.int .i64 m.mode, .int .i64 m.unit, .int .i64 m.node, .slice m1 m.env.length e1, .int .i64 m.val.k, .int .i64 m.val.n, .string m.val.s, .slice m2 m.stack.length e2, .int .i64 m.end_] 33))) WD) := by rw [hWD]; exact ⟨k4, k5⟩
  have HBD : Hid (Below w.heap.size w WD) := by rw [hWD]; exact ⟨hc2.os, hc2.tape, hc2.output, hc2.size, hc2.block⟩
  have HWE : Hid (WD = { w2 with drawn := w2.drawn + 1 }) := hWD
  clear hWD
  refine wp_region_held (S := (fun X : World => (X.heap[w.heap.size]? = some (Obj.cells #[.slice a1 y.heap.length c1, .slice a2 y.insts.length c2, .slice a3 y.units.length c3, .slice a4 y.out.length c4] 27)) ∧ (X.heap[w.heap.size + 1]? = some (Obj.cells #[.int .i64 m.mode, .int .i64 m.unit, .int .i64 m.node, .slice m1 m.env.length e1, .int .i64 m.val.k, .int .i64 m.val.n, .string m.val.s, .slice m2 m.stack.length e2, .int .i64 m.end_] 33)))) (by kernel_rfl) ?_
  rw [← HWE.out]
  have hS : (fun X : World => (X.heap[w.heap.size]? = some (Obj.cells #[.slice a1 y.heap.length c1, .slice a2 y.insts.length c2, .slice a3 y.units.length c3, .slice a4 y.out.length c4] 27)) ∧ (X.heap[w.heap.size + 1]? = some (Obj.cells #[.int .i64 m.mode, .int .i64 m.unit, .int .i64 m.node, .slice m1 m.env.length e1, .int .i64 m.val.k, .int .i64 m.val.n, .string m.val.s, .slice m2 m.stack.length e2, .int .i64 m.end_] 33))) WD := HSD.out
  refine tL 0 (.agg #[.slice a1 y.heap.length c1, .slice a2 y.insts.length c2, .slice a3 y.units.length c3, .slice a4 y.out.length c4]) rfl (by kernel_rfl) (fun _ _ _ h => h) (fun w' hS' => ldR (p := .pointer (some ⟨w.heap.size, 0, none⟩)) rfl (by kernel_rfl) (by obtain ⟨b0, b1⟩ := hS'; simp [go_sem, cell_blk (j := 0) b0 rfl, cell_blk (j := 1) b0 rfl, cell_blk (j := 2) b0 rfl, cell_blk (j := 3) b0 rfl])) hS ?_
  refine tL 2 (.agg #[.int .i64 m.mode, .int .i64 m.unit, .int .i64 m.node, .slice m1 m.env.length e1, .int .i64 m.val.k, .int .i64 m.val.n, .string m.val.s, .slice m2 m.stack.length e2, .int .i64 m.end_]) rfl (by kernel_rfl) (fun _ _ _ h => h) (fun w' hS' => ldR (p := .pointer (some ⟨w.heap.size + 1, 0, none⟩)) rfl (by kernel_rfl) (by obtain ⟨b0, b1⟩ := hS'; simp [go_sem, cell_blk (j := 0) b1 rfl, cell_blk (j := 1) b1 rfl, cell_blk (j := 2) b1 rfl, cell_blk (j := 3) b1 rfl, cell_blk (j := 4) b1 rfl, cell_blk (j := 5) b1 rfl, cell_blk (j := 6) b1 rfl, cell_blk (j := 7) b1 rfl, cell_blk (j := 8) b1 rfl])) hS ?_
  refine eH (bb 6 5) ⟨#[yA y a1 a2 a3 a4 c1 c2 c3 c4,mA m m1 m2 e1 e2,vP w.heap.size 0,vP (w.heap.size + 1) 0,vF,vI ↑q9,vU,vU,vU,vU,yA y a1 a2 a3 a4 c1 c2 c3 c4,vI 1048576,vI ↑q,vI ↑q,.bool (decide (↑q < 0)),mA m m1 m2 e1 e2,vI ↑q,vI ↑q9,vI ↑q9,.bool (decide (↑q9 < 0)),yA y a1 a2 a3 a4 c1 c2 c3 c4,vU,mA m m1 m2 e1 e2,vU,vU,vU,vU,vU,vU,vU,vU,vU,vU,vU,vU,vU,vU,vU,vU,vU,vU,vU,vU,vU,vU], []⟩ (by kernel_rfl) (by kernel_rfl) ?_
  refine wpAnyH_all (rs := [1]) (by kernel_rfl) (by simp) fun jj hjj => ?_
  obtain rfl : jj = 1 := by simpa using hjj
  refine opw_call (f := 7) (args := #[Value.agg #[Value.slice a1 y.heap.length c1, Value.slice a2 y.insts.length c2, Value.slice a3 y.units.length c3, Value.slice a4 y.out.length c4]]) rfl (by kernel_rfl) (by kernel_rfl) ((HTS.out _ HBD.out).mono ?_)
  rintro e u3 ⟨cs, rfl, ⟨ap1, ap2, ap3, ap4, cp1, cp2, cp3, cp4, rfl, hy3⟩, hv3⟩
  have hS := KS0 WD u3 hS hv3
  have hc3 := bT HBD.out hv3
  refine ⟨_, rfl, hS, ?_⟩
  refine eH (bb 6 7) ⟨#[yA y a1 a2 a3 a4 c1 c2 c3 c4,mA m m1 m2 e1 e2,vP w.heap.size 0,vP (w.heap.size + 1) 0,vF,vI ↑q9,vU,vU,vU,vU,yA y a1 a2 a3 a4 c1 c2 c3 c4,vI 1048576,vI ↑q,vI ↑q,.bool (decide (↑q < 0)),mA m m1 m2 e1 e2,vI ↑q,vI ↑q9,vI ↑q9,.bool (decide (↑q9 < 0)),yA y a1 a2 a3 a4 c1 c2 c3 c4,yA y ap1 ap2 ap3 ap4 cp1 cp2 cp3 cp4,mA m m1 m2 e1 e2,vU,vU,vU,vU,vU,vU,vU,vU,vU,vU,vU,vU,vU,vU,vU,vU,vU,vU,vU,vU,vU,vU], []⟩ (by kernel_rfl) (by kernel_rfl) ?_
  refine wpAnyH_all (rs := [3]) (by kernel_rfl) (by simp) fun jj hjj => ?_
  obtain rfl : jj = 3 := by simpa using hjj
  refine opw_call (f := 8) (args := #[Value.agg #[Value.int IntKind.i64 m.mode, Value.int IntKind.i64 m.unit, Value.int IntKind.i64 m.node, Value.slice m1 m.env.length e1, Value.int IntKind.i64 m.val.k, Value.int IntKind.i64 m.val.n, Value.string m.val.s, Value.slice m2 m.stack.length e2, Value.int IntKind.i64 m.end_]]) rfl (by kernel_rfl) (by kernel_rfl) ((HTM.out _ hc3).mono ?_)
  rintro e u4 ⟨cs, rfl, ⟨mp1, mp2, ep1, ep2, rfl, hm4⟩, hv4⟩
  have hS := KS0 u3 u4 hS hv4
  have hc4 := bT hc3 hv4
  have hy4 : SyRows u4 (fun b => b < u4.heap.size) ap1 ap2 ap3 ap4 cp1 cp2 cp3 cp4 y := hy3.keep fun b hb => ⟨Nat.lt_of_lt_of_le hb.2 hv4.size, hv4.block b hb.2⟩
  have hm4' : MacRows u4 (fun b => b < u4.heap.size) mp1 mp2 ep1 ep2 m := hm4.keep fun b hb => ⟨hb.2, rfl⟩
  refine ⟨_, rfl, hS, ?_⟩
  refine eH (bb 6 15) ⟨#[yA y a1 a2 a3 a4 c1 c2 c3 c4,mA m m1 m2 e1 e2,vP w.heap.size 0,vP (w.heap.size + 1) 0,vF,vI ↑q9,vU,vU,vU,vU,yA y a1 a2 a3 a4 c1 c2 c3 c4,vI 1048576,vI ↑q,vI ↑q,.bool (decide (↑q < 0)),mA m m1 m2 e1 e2,vI ↑q,vI ↑q9,vI ↑q9,.bool (decide (↑q9 < 0)),yA y a1 a2 a3 a4 c1 c2 c3 c4,yA y ap1 ap2 ap3 ap4 cp1 cp2 cp3 cp4,mA m m1 m2 e1 e2,mA m mp1 mp2 ep1 ep2,vU,vU,vU,vU,vU,vU,vU,vU,vU,vU,vU,vU,vU,vU,vU,vU,vU,vU,vU,vU,vU], []⟩ (by kernel_rfl) (by kernel_rfl) ?_
  refine wpAnyH_all (rs := [4]) (by kernel_rfl) (by simp) fun jj hjj => ?_
  obtain rfl : jj = 4 := by simpa using hjj
  refine opw_call (f := 6) (args := #[.agg #[.slice ap1 y.heap.length cp1, .slice ap2 y.insts.length cp2, .slice ap3 y.units.length cp3, .slice ap4 y.out.length cp4], .agg #[.int .i64 m.mode, .int .i64 m.unit, .int .i64 m.node, .slice mp1 m.env.length ep1, .int .i64 m.val.k, .int .i64 m.val.n, .string m.val.s, .slice mp2 m.stack.length ep2, .int .i64 m.end_]]) rfl (by kernel_rfl) (by kernel_rfl) ((HSP.out _ _ _ _ _ _ _ _ _ _ _ _ _ hy4 hm4').mono ?_)
  rintro e u5' ⟨B, rfl, ha1, hv5'⟩
  have HA1 : Hid (AnsIs y m B.data.toList) := ha1
  clear ha1
  have hS := KS0 u4 u5' hS hv5'
  have hc5' := bT hc4 hv5'
  refine ⟨_, rfl, hS, ?_⟩
  refine tK 5 (.string B) rfl (by kernel_rfl) (fun _ _ _ h => h) (fun _ => by kernel_rfl) hS ?_
  refine eH (bb 6 63) ⟨#[.agg #[.slice a1 y.heap.length c1, .slice a2 y.insts.length c2, .slice a3 y.units.length c3, .slice a4 y.out.length c4], .agg #[.int .i64 m.mode, .int .i64 m.unit, .int .i64 m.node, .slice m1 m.env.length e1, .int .i64 m.val.k, .int .i64 m.val.n, .string m.val.s, .slice m2 m.stack.length e2, .int .i64 m.end_], .pointer (some ⟨w.heap.size, 0, none⟩), .pointer (some ⟨w.heap.size + 1, 0, none⟩), .bool false, .int .i64 ↑q9, .string B, undef, undef, undef, .agg #[.slice a1 y.heap.length c1, .slice a2 y.insts.length c2, .slice a3 y.units.length c3, .slice a4 y.out.length c4], .int .i64 1048576, .int .i64 ↑q, .int .i64 ↑q, .bool (decide (↑q < 0)), .agg #[.int .i64 m.mode, .int .i64 m.unit, .int .i64 m.node, .slice m1 m.env.length e1, .int .i64 m.val.k, .int .i64 m.val.n, .string m.val.s, .slice m2 m.stack.length e2, .int .i64 m.end_], .int .i64 ↑q, .int .i64 ↑q9, .int .i64 ↑q9, .bool (decide (↑q9 < 0)), .agg #[.slice a1 y.heap.length c1, .slice a2 y.insts.length c2, .slice a3 y.units.length c3, .slice a4 y.out.length c4], .agg #[.slice ap1 y.heap.length cp1, .slice ap2 y.insts.length cp2, .slice ap3 y.units.length cp3, .slice ap4 y.out.length cp4], .agg #[.int .i64 m.mode, .int .i64 m.unit, .int .i64 m.node, .slice m1 m.env.length e1, .int .i64 m.val.k, .int .i64 m.val.n, .string m.val.s, .slice m2 m.stack.length e2, .int .i64 m.end_], .agg #[.int .i64 m.mode, .int .i64 m.unit, .int .i64 m.node, .slice mp1 m.env.length ep1, .int .i64 m.val.k, .int .i64 m.val.n, .string m.val.s, .slice mp2 m.stack.length ep2, .int .i64 m.end_], .string B, undef, undef, undef, undef, undef, undef, undef, undef, undef, undef, undef, undef, undef, undef, undef, undef, undef, undef, undef, undef], []⟩ (by kernel_rfl) (by kernel_rfl) ?_
  refine wpAnyH_done (by kernel_rfl) ?_ _
  dsimp only []
  obtain ⟨j4, j5⟩ := hS
  clear k4 k5 hc2 hy3 hv3 hc3 hm4 hv4 hc4 hy4 hm4' hv5' HSD HBD HWE
  obtain ⟨z0, z1, z2, z3⟩ := zn4 j4 rfl rfl rfl rfl
  go_wp2_with fail
  refine (HTS.out _ hc5').mono ?_
  rintro e u5 ⟨cs, rfl, ⟨ar1, ar2, ar3, ar4, cr1, cr2, cr3, cr4, rfl, hy5⟩, hv5⟩
  have hc5 := bT hc5' hv5
  have j6 := bK j4 hv5
  have j7 := bK j5 hv5
  have hyA : SyRows u5 (fun b => b < u5.heap.size) ar1 ar2 ar3 ar4 cr1 cr2 cr3 cr4 y := hy5.keep fun b hb => ⟨hb.2, rfl⟩
  have l0 : (u5.alloc (Obj.cells #[.slice ar1 y.heap.length cr1, .slice ar2 y.insts.length cr2, .slice ar3 y.units.length cr3, .slice ar4 y.out.length cr4] 41)).heap[u5.heap.size]? = some (Obj.cells #[.slice ar1 y.heap.length cr1, .slice ar2 y.insts.length cr2, .slice ar3 y.units.length cr3, .slice ar4 y.out.length cr4] 41) := blk_at _ _ _ rfl
  have l1 : (u5.alloc (Obj.cells #[.slice ar1 y.heap.length cr1, .slice ar2 y.insts.length cr2, .slice ar3 y.units.length cr3, .slice ar4 y.out.length cr4] 41)).heap[w.heap.size]? = some (Obj.cells #[.slice a1 y.heap.length c1, .slice a2 y.insts.length c2, .slice a3 y.units.length c3, .slice a4 y.out.length c4] 27) := blk_past j6
  have l2 : (u5.alloc (Obj.cells #[.slice ar1 y.heap.length cr1, .slice ar2 y.insts.length cr2, .slice ar3 y.units.length cr3, .slice ar4 y.out.length cr4] 41)).heap[w.heap.size + 1]? = some (Obj.cells #[.int .i64 m.mode, .int .i64 m.unit, .int .i64 m.node, .slice m1 m.env.length e1, .int .i64 m.val.k, .int .i64 m.val.n, .string m.val.s, .slice m2 m.stack.length e2, .int .i64 m.end_] 33) := blk_past j7
  have hcA : Below w.heap.size w (u5.alloc (Obj.cells #[.slice ar1 y.heap.length cr1, .slice ar2 y.insts.length cr2, .slice ar3 y.units.length cr3, .slice ar4 y.out.length cr4] 41)) := hc5.alloc hc5.size _
  have hyB : SyRows (u5.alloc (Obj.cells #[.slice ar1 y.heap.length cr1, .slice ar2 y.insts.length cr2, .slice ar3 y.units.length cr3, .slice ar4 y.out.length cr4] 41)) (fun b => b < u5.heap.size) ar1 ar2 ar3 ar4 cr1 cr2 cr3 cr4 y := hyA.keep fun b hb => ⟨hb, Below.heap_alloc _ _ _ hb⟩
  obtain ⟨n0, n1, n2, n3, n4, n5, n6, n7, n8⟩ := zn9 l2 rfl rfl rfl rfl rfl rfl rfl rfl rfl
  clear z0 z1 z2 z3 hc5' hv5 hy5 hyA j4 j5 j6 j7 hc5
  have HYB : Hid (SyRows (u5.alloc (Obj.cells #[.slice ar1 y.heap.length cr1, .slice ar2 y.insts.length cr2, .slice ar3 y.units.length cr3, .slice ar4 y.out.length cr4] 41)) (fun b => b < u5.heap.size) ar1 ar2 ar3 ar4 cr1 cr2 cr3 cr4 y) := hyB
  clear hyB
  go_wp2_with fail
  refine (HTM.out _ hcA).mono ?_
  rintro e u6 ⟨cs, rfl, ⟨mr1, mr2, er1, er2, rfl, hm6⟩, hv6⟩
  have hc6 := bT hcA hv6
  have hz6 : u5.heap.size + 1 ≤ u6.heap.size := by have := hv6.size; simpa using this
  have l3 := bK l0 hv6
  have l4 := bK l1 hv6
  have l5 := bK l2 hv6
  have HMA : Hid (MacRows u6 (fun b => b < u6.heap.size) mr1 mr2 er1 er2 m) := hm6.keep fun b hb => ⟨hb.2, rfl⟩
  have HYC : Hid (SyRows u6 (fun b => b < u5.heap.size) ar1 ar2 ar3 ar4 cr1 cr2 cr3 cr4 y) := HYB.out.keep fun b hb => ⟨hb, hv6.block b (by simp; omega)⟩
  have o0 : (u6.alloc (Obj.cells #[.int .i64 m.mode, .int .i64 m.unit, .int .i64 m.node, .slice mr1 m.env.length er1, .int .i64 m.val.k, .int .i64 m.val.n, .string m.val.s, .slice mr2 m.stack.length er2, .int .i64 m.end_] 47)).heap[u6.heap.size]? = some (Obj.cells #[.int .i64 m.mode, .int .i64 m.unit, .int .i64 m.node, .slice mr1 m.env.length er1, .int .i64 m.val.k, .int .i64 m.val.n, .string m.val.s, .slice mr2 m.stack.length er2, .int .i64 m.end_] 47) := blk_at _ _ _ rfl
  have o1 : (u6.alloc (Obj.cells #[.int .i64 m.mode, .int .i64 m.unit, .int .i64 m.node, .slice mr1 m.env.length er1, .int .i64 m.val.k, .int .i64 m.val.n, .string m.val.s, .slice mr2 m.stack.length er2, .int .i64 m.end_] 47)).heap[u5.heap.size]? = some (Obj.cells #[.slice ar1 y.heap.length cr1, .slice ar2 y.insts.length cr2, .slice ar3 y.units.length cr3, .slice ar4 y.out.length cr4] 41) := blk_past l3
  have o2 : (u6.alloc (Obj.cells #[.int .i64 m.mode, .int .i64 m.unit, .int .i64 m.node, .slice mr1 m.env.length er1, .int .i64 m.val.k, .int .i64 m.val.n, .string m.val.s, .slice mr2 m.stack.length er2, .int .i64 m.end_] 47)).heap[w.heap.size]? = some (Obj.cells #[.slice a1 y.heap.length c1, .slice a2 y.insts.length c2, .slice a3 y.units.length c3, .slice a4 y.out.length c4] 27) := blk_past l4
  have o3 : (u6.alloc (Obj.cells #[.int .i64 m.mode, .int .i64 m.unit, .int .i64 m.node, .slice mr1 m.env.length er1, .int .i64 m.val.k, .int .i64 m.val.n, .string m.val.s, .slice mr2 m.stack.length er2, .int .i64 m.end_] 47)).heap[w.heap.size + 1]? = some (Obj.cells #[.int .i64 m.mode, .int .i64 m.unit, .int .i64 m.node, .slice m1 m.env.length e1, .int .i64 m.val.k, .int .i64 m.val.n, .string m.val.s, .slice m2 m.stack.length e2, .int .i64 m.end_] 33) := blk_past l5
  have hcB : Below w.heap.size w (u6.alloc (Obj.cells #[.int .i64 m.mode, .int .i64 m.unit, .int .i64 m.node, .slice mr1 m.env.length er1, .int .i64 m.val.k, .int .i64 m.val.n, .string m.val.s, .slice mr2 m.stack.length er2, .int .i64 m.end_] 47)) := hc6.alloc hc6.size _
  have HYD : Hid (SyRows (u6.alloc (Obj.cells #[.int .i64 m.mode, .int .i64 m.unit, .int .i64 m.node, .slice mr1 m.env.length er1, .int .i64 m.val.k, .int .i64 m.val.n, .string m.val.s, .slice mr2 m.stack.length er2, .int .i64 m.end_] 47)) (fun b => b < u5.heap.size) ar1 ar2 ar3 ar4 cr1 cr2 cr3 cr4 y) := HYC.out.keep fun b hb => ⟨hb, Below.heap_alloc _ _ _ (by omega)⟩
  have HMB : Hid (MacRows (u6.alloc (Obj.cells #[.int .i64 m.mode, .int .i64 m.unit, .int .i64 m.node, .slice mr1 m.env.length er1, .int .i64 m.val.k, .int .i64 m.val.n, .string m.val.s, .slice mr2 m.stack.length er2, .int .i64 m.end_] 47)) (fun b => b < u6.heap.size) mr1 mr2 er1 er2 m) := HMA.out.keep fun b hb => ⟨hb, Below.heap_alloc _ _ _ hb⟩
  obtain ⟨s0, s1, s2, s3⟩ := zn4 o1 rfl rfl rfl rfl
  clear hcA hv6 l0 l1 l2 l3 l4 l5 hm6 HYB HYC HMA hc6 n0 n1 n2 n3 n4 n5 n6 n7 n8
  have hz7 : u6.heap.size + 1 ≤ (u6.alloc (Obj.cells #[.int .i64 m.mode, .int .i64 m.unit, .int .i64 m.node, .slice mr1 m.env.length er1, .int .i64 m.val.k, .int .i64 m.val.n, .string m.val.s, .slice mr2 m.stack.length er2, .int .i64 m.end_] 47)).heap.size := by simp
  go_wp2_with fail
  refine (HIM.out _ _ _ _ _ _ _ _ _ _ _ _ _ (HYD.out.keep fun b hb => ⟨by omega, rfl⟩) (HMB.out.keep fun b hb => ⟨by omega, rfl⟩) hcB).mono ?_
  rintro e u7 ⟨B', rfl, ha7, hv7⟩
  obtain rfl : B = B' := bytes_eq (HA1.out.unique ha7)
  have hc7 := bT hcB hv7
  have hz8 := hv7.size
  have p0 := bK o0 hv7
  have p1 := bK o1 hv7
  have p2 := bK o2 hv7
  have p3 := bK o3 hv7
  have HYE : Hid (SyRows u7 (fun b => b < u5.heap.size) ar1 ar2 ar3 ar4 cr1 cr2 cr3 cr4 y) := HYD.out.keep fun b hb => ⟨hb, hv7.block b (by omega)⟩
  have HMC : Hid (MacRows u7 (fun b => b < u6.heap.size) mr1 mr2 er1 er2 m) := HMB.out.keep fun b hb => ⟨hb, hv7.block b (by omega)⟩
  have HU7 : Hid (u6.heap.size < u7.heap.size) := by show _ < _; omega
  have HU6 : Hid (u5.heap.size < u6.heap.size) := by show _ < _; omega
  clear hcB hv7 o0 o1 o2 o3 HYD HMB s0 s1 s2 s3 hz6 hz7 hz8 HIM HSP HA1 ha7
  go_wp2_with fail
  have KS4 : ∀ u v : World, (fun X : World => (X.heap[w.heap.size]? = some (Obj.cells #[.slice a1 y.heap.length c1, .slice a2 y.insts.length c2, .slice a3 y.units.length c3, .slice a4 y.out.length c4] 27)) ∧ (X.heap[w.heap.size + 1]? = some (Obj.cells #[.int .i64 m.mode, .int .i64 m.unit, .int .i64 m.node, .slice m1 m.env.length e1, .int .i64 m.val.k, .int .i64 m.val.n, .string m.val.s, .slice m2 m.stack.length e2, .int .i64 m.end_] 33)) ∧ (X.heap[u5.heap.size]? = some (Obj.cells #[.slice ar1 y.heap.length cr1, .slice ar2 y.insts.length cr2, .slice ar3 y.units.length cr3, .slice ar4 y.out.length cr4] 41)) ∧ (X.heap[u6.heap.size]? = some (Obj.cells #[.int .i64 m.mode, .int .i64 m.unit, .int .i64 m.node, .slice mr1 m.env.length er1, .int .i64 m.val.k, .int .i64 m.val.n, .string m.val.s, .slice mr2 m.stack.length er2, .int .i64 m.end_] 47))) u → Below u.heap.size u v → (fun X : World => (X.heap[w.heap.size]? = some (Obj.cells #[.slice a1 y.heap.length c1, .slice a2 y.insts.length c2, .slice a3 y.units.length c3, .slice a4 y.out.length c4] 27)) ∧ (X.heap[w.heap.size + 1]? = some (Obj.cells #[.int .i64 m.mode, .int .i64 m.unit, .int .i64 m.node, .slice m1 m.env.length e1, .int .i64 m.val.k, .int .i64 m.val.n, .string m.val.s, .slice m2 m.stack.length e2, .int .i64 m.end_] 33)) ∧ (X.heap[u5.heap.size]? = some (Obj.cells #[.slice ar1 y.heap.length cr1, .slice ar2 y.insts.length cr2, .slice ar3 y.units.length cr3, .slice ar4 y.out.length cr4] 41)) ∧ (X.heap[u6.heap.size]? = some (Obj.cells #[.int .i64 m.mode, .int .i64 m.unit, .int .i64 m.node, .slice mr1 m.env.length er1, .int .i64 m.val.k, .int .i64 m.val.n, .string m.val.s, .slice mr2 m.stack.length er2, .int .i64 m.end_] 47))) v := fun u v ⟨h0, h1, h2, h3⟩ hb9 => ⟨bK h0 hb9, bK h1 hb9, bK h2 hb9, bK h3 hb9⟩
  obtain ⟨WD, hWD⟩ : ∃ WD : World, WD = { u7 with drawn := u7.drawn + 1 } := ⟨_, rfl⟩
  have HSD : Hid ((fun X : World => (X.heap[w.heap.size]? = some (Obj.cells #[.slice a1 y.heap.length c1, .slice a2 y.insts.length c2, .slice a3 y.units.length c3, .slice a4 y.out.length c4] 27)) ∧ (X.heap[w.heap.size + 1]? = some (Obj.cells #[.int .i64 m.mode, .int .i64 m.unit, .int .i64 m.node, .slice m1 m.env.length e1, .int .i64 m.val.k, .int .i64 m.val.n, .string m.val.s, .slice m2 m.stack.length e2, .int .i64 m.end_] 33)) ∧ (X.heap[u5.heap.size]? = some (Obj.cells #[.slice ar1 y.heap.length cr1, .slice ar2 y.insts.length cr2, .slice ar3 y.units.length cr3, .slice ar4 y.out.length cr4] 41)) ∧ (X.heap[u6.heap.size]? = some (Obj.cells #[.int .i64 m.mode, .int .i64 m.unit, .int .i64 m.node, .slice mr1 m.env.length er1, .int .i64 m.val.k, .int .i64 m.val.n, .string m.val.s, .slice mr2 m.stack.length er2, .int .i64 m.end_] 47))) WD) := by rw [hWD]; exact ⟨p2, p3, p1, p0⟩
  have HBD : Hid (Below w.heap.size w WD) := by rw [hWD]; exact ⟨hc7.os, hc7.tape, hc7.output, hc7.size, hc7.block⟩
  have HWE : Hid (WD = { u7 with drawn := u7.drawn + 1 }) := hWD
  clear hWD
  have HYE2 : Hid (SyRows WD (fun b => b < WD.heap.size) ar1 ar2 ar3 ar4 cr1 cr2 cr3 cr4 y) := by rw [HWE.out]; exact HYE.out.keep fun b hb => ⟨by have := HU7.out; have := HU6.out; show b < u7.heap.size; omega, rfl⟩
  have HMD : Hid (MacRows WD (fun b => b < WD.heap.size) mr1 mr2 er1 er2 m) := by rw [HWE.out]; exact HMC.out.keep fun b hb => ⟨by have := HU7.out; show b < u7.heap.size; omega, rfl⟩
  refine wp_region_held (S := (fun X : World => (X.heap[w.heap.size]? = some (Obj.cells #[.slice a1 y.heap.length c1, .slice a2 y.insts.length c2, .slice a3 y.units.length c3, .slice a4 y.out.length c4] 27)) ∧ (X.heap[w.heap.size + 1]? = some (Obj.cells #[.int .i64 m.mode, .int .i64 m.unit, .int .i64 m.node, .slice m1 m.env.length e1, .int .i64 m.val.k, .int .i64 m.val.n, .string m.val.s, .slice m2 m.stack.length e2, .int .i64 m.end_] 33)) ∧ (X.heap[u5.heap.size]? = some (Obj.cells #[.slice ar1 y.heap.length cr1, .slice ar2 y.insts.length cr2, .slice ar3 y.units.length cr3, .slice ar4 y.out.length cr4] 41)) ∧ (X.heap[u6.heap.size]? = some (Obj.cells #[.int .i64 m.mode, .int .i64 m.unit, .int .i64 m.node, .slice mr1 m.env.length er1, .int .i64 m.val.k, .int .i64 m.val.n, .string m.val.s, .slice mr2 m.stack.length er2, .int .i64 m.end_] 47)))) (by kernel_rfl) ?_
  rw [← HWE.out]
  have hS : (fun X : World => (X.heap[w.heap.size]? = some (Obj.cells #[.slice a1 y.heap.length c1, .slice a2 y.insts.length c2, .slice a3 y.units.length c3, .slice a4 y.out.length c4] 27)) ∧ (X.heap[w.heap.size + 1]? = some (Obj.cells #[.int .i64 m.mode, .int .i64 m.unit, .int .i64 m.node, .slice m1 m.env.length e1, .int .i64 m.val.k, .int .i64 m.val.n, .string m.val.s, .slice m2 m.stack.length e2, .int .i64 m.end_] 33)) ∧ (X.heap[u5.heap.size]? = some (Obj.cells #[.slice ar1 y.heap.length cr1, .slice ar2 y.insts.length cr2, .slice ar3 y.units.length cr3, .slice ar4 y.out.length cr4] 41)) ∧ (X.heap[u6.heap.size]? = some (Obj.cells #[.int .i64 m.mode, .int .i64 m.unit, .int .i64 m.node, .slice mr1 m.env.length er1, .int .i64 m.val.k, .int .i64 m.val.n, .string m.val.s, .slice mr2 m.stack.length er2, .int .i64 m.end_] 47))) WD := HSD.out
  refine tL 0 (.agg #[.slice ar1 y.heap.length cr1, .slice ar2 y.insts.length cr2, .slice ar3 y.units.length cr3, .slice ar4 y.out.length cr4]) rfl (by kernel_rfl) (fun _ _ _ h => h) (fun w' hS' => ldR (p := .pointer (some ⟨u5.heap.size, 0, none⟩)) rfl (by kernel_rfl) (by obtain ⟨b0, b1, x0, x1⟩ := hS'; simp [go_sem, cell_blk (j := 0) x0 rfl, cell_blk (j := 1) x0 rfl, cell_blk (j := 2) x0 rfl, cell_blk (j := 3) x0 rfl])) hS ?_
  refine tL 1 (.agg #[.slice a1 y.heap.length c1, .slice a2 y.insts.length c2, .slice a3 y.units.length c3, .slice a4 y.out.length c4]) rfl (by kernel_rfl) (fun _ _ _ h => h) (fun w' hS' => ldR (p := .pointer (some ⟨w.heap.size, 0, none⟩)) rfl (by kernel_rfl) (by obtain ⟨b0, b1, x0, x1⟩ := hS'; simp [go_sem, cell_blk (j := 0) b0 rfl, cell_blk (j := 1) b0 rfl, cell_blk (j := 2) b0 rfl, cell_blk (j := 3) b0 rfl])) hS ?_
  refine eH (bb 5 3) ⟨#[yA y a1 a2 a3 a4 c1 c2 c3 c4,mA m m1 m2 e1 e2,vP w.heap.size 0,vP (w.heap.size + 1) 0,vF,vI ↑q9,.string B,vP u5.heap.size 0,vP u6.heap.size 0,.string B,yA y a1 a2 a3 a4 c1 c2 c3 c4,vI 1048576,vI ↑q,vI ↑q,vF,mA m m1 m2 e1 e2,vI ↑q,vI ↑q9,vI ↑q9,vF,yA y a1 a2 a3 a4 c1 c2 c3 c4,yA y ap1 ap2 ap3 ap4 cp1 cp2 cp3 cp4,mA m m1 m2 e1 e2,mA m mp1 mp2 ep1 ep2,.string B,yA y a1 a2 a3 a4 c1 c2 c3 c4,yA y ar1 ar2 ar3 ar4 cr1 cr2 cr3 cr4,mA m m1 m2 e1 e2,mA m mr1 mr2 er1 er2,yA y ar1 ar2 ar3 ar4 cr1 cr2 cr3 cr4,mA m mr1 mr2 er1 er2,.string B,.string B,.string B,vF,yA y ar1 ar2 ar3 ar4 cr1 cr2 cr3 cr4,yA y a1 a2 a3 a4 c1 c2 c3 c4,vU,vU,vU,vU,vU,vU,vU,vU], []⟩ (by kernel_rfl) (by kernel_rfl) ?_
  refine wpAnyH_all (rs := [2]) (by kernel_rfl) (by simp) fun jj hjj => ?_
  obtain rfl : jj = 2 := by simpa using hjj
  refine opw_call (f := 7) (args := #[.agg #[.slice a1 y.heap.length c1, .slice a2 y.insts.length c2, .slice a3 y.units.length c3, .slice a4 y.out.length c4]]) rfl (by kernel_rfl) (by kernel_rfl) ((HTS.out _ HBD.out).mono ?_)
  rintro e u8 ⟨cs, rfl, ⟨at1, at2, at3, at4, ct1, ct2, ct3, ct4, rfl, hy8⟩, hv8⟩
  have hS := KS4 WD u8 hS hv8
  have hc8 := bT HBD.out hv8
  have hyF : SyRows u8 (fun b => b < u8.heap.size) at1 at2 at3 at4 ct1 ct2 ct3 ct4 y := hy8.keep fun b hb => ⟨hb.2, rfl⟩
  have hyG : SyRows u8 (fun b => b < u8.heap.size) ar1 ar2 ar3 ar4 cr1 cr2 cr3 cr4 y := HYE2.out.keep fun b hb => ⟨Nat.lt_of_lt_of_le hb hv8.size, hv8.block b hb⟩
  refine ⟨_, rfl, hS, ?_⟩
  refine eH (bb 5 7) ⟨#[yA y a1 a2 a3 a4 c1 c2 c3 c4,mA m m1 m2 e1 e2,vP w.heap.size 0,vP (w.heap.size + 1) 0,vF,vI ↑q9,.string B,vP u5.heap.size 0,vP u6.heap.size 0,.string B,yA y a1 a2 a3 a4 c1 c2 c3 c4,vI 1048576,vI ↑q,vI ↑q,vF,mA m m1 m2 e1 e2,vI ↑q,vI ↑q9,vI ↑q9,vF,yA y a1 a2 a3 a4 c1 c2 c3 c4,yA y ap1 ap2 ap3 ap4 cp1 cp2 cp3 cp4,mA m m1 m2 e1 e2,mA m mp1 mp2 ep1 ep2,.string B,yA y a1 a2 a3 a4 c1 c2 c3 c4,yA y ar1 ar2 ar3 ar4 cr1 cr2 cr3 cr4,mA m m1 m2 e1 e2,mA m mr1 mr2 er1 er2,yA y ar1 ar2 ar3 ar4 cr1 cr2 cr3 cr4,mA m mr1 mr2 er1 er2,.string B,.string B,.string B,vF,yA y ar1 ar2 ar3 ar4 cr1 cr2 cr3 cr4,yA y a1 a2 a3 a4 c1 c2 c3 c4,yA y at1 at2 at3 at4 ct1 ct2 ct3 ct4,vU,vU,vU,vU,vU,vU,vU], []⟩ (by kernel_rfl) (by kernel_rfl) ?_
  refine wpAnyH_all (rs := [3]) (by kernel_rfl) (by simp) fun jj hjj => ?_
  obtain rfl : jj = 3 := by simpa using hjj
  refine opw_call (f := 10) (args := #[.agg #[.slice ar1 y.heap.length cr1, .slice ar2 y.insts.length cr2, .slice ar3 y.units.length cr3, .slice ar4 y.out.length cr4], .agg #[.slice at1 y.heap.length ct1, .slice at2 y.insts.length ct2, .slice at3 y.units.length ct3, .slice at4 y.out.length ct4]]) rfl (by kernel_rfl) (by kernel_rfl) ((HES.out _ _ _ _ _ _ _ _ _ _ _ _ _ _ _ _ _ hyG hyF).mono ?_)
  rintro e u9 ⟨rfl, hv9⟩
  have hS := KS4 u8 u9 hS hv9
  have hc9 := bT hc8 hv9
  refine ⟨_, rfl, hS, ?_⟩
  refine tK 4 (vF) rfl (by kernel_rfl) (fun _ _ _ h => h) (fun _ => by kernel_rfl) hS ?_
  refine eH (bb 5 31) ⟨#[.agg #[.slice a1 y.heap.length c1, .slice a2 y.insts.length c2, .slice a3 y.units.length c3, .slice a4 y.out.length c4], .agg #[.int .i64 m.mode, .int .i64 m.unit, .int .i64 m.node, .slice m1 m.env.length e1, .int .i64 m.val.k, .int .i64 m.val.n, .string m.val.s, .slice m2 m.stack.length e2, .int .i64 m.end_], .pointer (some ⟨w.heap.size, 0, none⟩), .pointer (some ⟨w.heap.size + 1, 0, none⟩), .bool false, .int .i64 ↑q9, .string B, .pointer (some ⟨u5.heap.size, 0, none⟩), .pointer (some ⟨u6.heap.size, 0, none⟩), .string B, .agg #[.slice a1 y.heap.length c1, .slice a2 y.insts.length c2, .slice a3 y.units.length c3, .slice a4 y.out.length c4], .int .i64 1048576, .int .i64 ↑q, .int .i64 ↑q, .bool false, .agg #[.int .i64 m.mode, .int .i64 m.unit, .int .i64 m.node, .slice m1 m.env.length e1, .int .i64 m.val.k, .int .i64 m.val.n, .string m.val.s, .slice m2 m.stack.length e2, .int .i64 m.end_], .int .i64 ↑q, .int .i64 ↑q9, .int .i64 ↑q9, .bool false, .agg #[.slice a1 y.heap.length c1, .slice a2 y.insts.length c2, .slice a3 y.units.length c3, .slice a4 y.out.length c4], .agg #[.slice ap1 y.heap.length cp1, .slice ap2 y.insts.length cp2, .slice ap3 y.units.length cp3, .slice ap4 y.out.length cp4], .agg #[.int .i64 m.mode, .int .i64 m.unit, .int .i64 m.node, .slice m1 m.env.length e1, .int .i64 m.val.k, .int .i64 m.val.n, .string m.val.s, .slice m2 m.stack.length e2, .int .i64 m.end_], .agg #[.int .i64 m.mode, .int .i64 m.unit, .int .i64 m.node, .slice mp1 m.env.length ep1, .int .i64 m.val.k, .int .i64 m.val.n, .string m.val.s, .slice mp2 m.stack.length ep2, .int .i64 m.end_], .string B, .agg #[.slice a1 y.heap.length c1, .slice a2 y.insts.length c2, .slice a3 y.units.length c3, .slice a4 y.out.length c4], .agg #[.slice ar1 y.heap.length cr1, .slice ar2 y.insts.length cr2, .slice ar3 y.units.length cr3, .slice ar4 y.out.length cr4], .agg #[.int .i64 m.mode, .int .i64 m.unit, .int .i64 m.node, .slice m1 m.env.length e1, .int .i64 m.val.k, .int .i64 m.val.n, .string m.val.s, .slice m2 m.stack.length e2, .int .i64 m.end_], .agg #[.int .i64 m.mode, .int .i64 m.unit, .int .i64 m.node, .slice mr1 m.env.length er1, .int .i64 m.val.k, .int .i64 m.val.n, .string m.val.s, .slice mr2 m.stack.length er2, .int .i64 m.end_], .agg #[.slice ar1 y.heap.length cr1, .slice ar2 y.insts.length cr2, .slice ar3 y.units.length cr3, .slice ar4 y.out.length cr4], .agg #[.int .i64 m.mode, .int .i64 m.unit, .int .i64 m.node, .slice mr1 m.env.length er1, .int .i64 m.val.k, .int .i64 m.val.n, .string m.val.s, .slice mr2 m.stack.length er2, .int .i64 m.end_], .string B, .string B, .string B, .bool false, .agg #[.slice ar1 y.heap.length cr1, .slice ar2 y.insts.length cr2, .slice ar3 y.units.length cr3, .slice ar4 y.out.length cr4], .agg #[.slice a1 y.heap.length c1, .slice a2 y.insts.length c2, .slice a3 y.units.length c3, .slice a4 y.out.length c4], .agg #[.slice at1 y.heap.length ct1, .slice at2 y.insts.length ct2, .slice at3 y.units.length ct3, .slice at4 y.out.length ct4], .bool true, .bool false, undef, undef, undef, undef, undef], []⟩ (by kernel_rfl) (by kernel_rfl) ?_
  refine wpAnyH_done (by kernel_rfl) ?_ _
  dsimp only []
  obtain ⟨t2, t3, t1, t0⟩ := hS
  have HME : Hid (MacRows u9 (fun b => b < u9.heap.size) mr1 mr2 er1 er2 m) := HMD.out.keep fun b hb => ⟨by have := hv8.size; have := hv9.size; omega, (hv9.block b (by have := hv8.size; omega)).trans (hv8.block b hb)⟩
  clear p0 p1 p2 p3 hc7 hy8 hv8 hc8 hyF hyG hv9 HSD HBD HWE HYE2 HMD HYE HMC HU7 HU6
  go_wp2_with fail
  obtain ⟨WD, hWD⟩ : ∃ WD : World, WD = { u9 with drawn := u9.drawn + 1 } := ⟨_, rfl⟩
  have HSD : Hid ((fun X : World => (X.heap[w.heap.size]? = some (Obj.cells #[.slice a1 y.heap.length c1, .slice a2 y.insts.length c2, .slice a3 y.units.length c3, .slice a4 y.out.length c4] 27)) ∧ (X.heap[w.heap.size + 1]? = some (Obj.cells #[.int .i64 m.mode, .int .i64 m.unit, .int .i64 m.node, .slice m1 m.env.length e1, .int .i64 m.val.k, .int .i64 m.val.n, .string m.val.s, .slice m2 m.stack.length e2, .int .i64 m.end_] 33)) ∧ (X.heap[u5.heap.size]? = some (Obj.cells #[.slice ar1 y.heap.length cr1, .slice ar2 y.insts.length cr2, .slice ar3 y.units.length cr3, .slice ar4 y.out.length cr4] 41)) ∧ (X.heap[u6.heap.size]? = some (Obj.cells #[.int .i64 m.mode, .int .i64 m.unit, .int .i64 m.node, .slice mr1 m.env.length er1, .int .i64 m.val.k, .int .i64 m.val.n, .string m.val.s, .slice mr2 m.stack.length er2, .int .i64 m.end_] 47))) WD) := by rw [hWD]; exact ⟨t2, t3, t1, t0⟩
  have HBD : Hid (Below w.heap.size w WD) := by rw [hWD]; exact ⟨hc9.os, hc9.tape, hc9.output, hc9.size, hc9.block⟩
  have HWE : Hid (WD = { u9 with drawn := u9.drawn + 1 }) := hWD
  clear hWD
  have HMF : Hid (MacRows WD (fun b => b < WD.heap.size) mr1 mr2 er1 er2 m) := by rw [HWE.out]; exact HME.out.keep fun b hb => ⟨hb, rfl⟩
  refine wp_region_held (S := (fun X : World => (X.heap[w.heap.size]? = some (Obj.cells #[.slice a1 y.heap.length c1, .slice a2 y.insts.length c2, .slice a3 y.units.length c3, .slice a4 y.out.length c4] 27)) ∧ (X.heap[w.heap.size + 1]? = some (Obj.cells #[.int .i64 m.mode, .int .i64 m.unit, .int .i64 m.node, .slice m1 m.env.length e1, .int .i64 m.val.k, .int .i64 m.val.n, .string m.val.s, .slice m2 m.stack.length e2, .int .i64 m.end_] 33)) ∧ (X.heap[u5.heap.size]? = some (Obj.cells #[.slice ar1 y.heap.length cr1, .slice ar2 y.insts.length cr2, .slice ar3 y.units.length cr3, .slice ar4 y.out.length cr4] 41)) ∧ (X.heap[u6.heap.size]? = some (Obj.cells #[.int .i64 m.mode, .int .i64 m.unit, .int .i64 m.node, .slice mr1 m.env.length er1, .int .i64 m.val.k, .int .i64 m.val.n, .string m.val.s, .slice mr2 m.stack.length er2, .int .i64 m.end_] 47)))) (by kernel_rfl) ?_
  rw [← HWE.out]
  have hS : (fun X : World => (X.heap[w.heap.size]? = some (Obj.cells #[.slice a1 y.heap.length c1, .slice a2 y.insts.length c2, .slice a3 y.units.length c3, .slice a4 y.out.length c4] 27)) ∧ (X.heap[w.heap.size + 1]? = some (Obj.cells #[.int .i64 m.mode, .int .i64 m.unit, .int .i64 m.node, .slice m1 m.env.length e1, .int .i64 m.val.k, .int .i64 m.val.n, .string m.val.s, .slice m2 m.stack.length e2, .int .i64 m.end_] 33)) ∧ (X.heap[u5.heap.size]? = some (Obj.cells #[.slice ar1 y.heap.length cr1, .slice ar2 y.insts.length cr2, .slice ar3 y.units.length cr3, .slice ar4 y.out.length cr4] 41)) ∧ (X.heap[u6.heap.size]? = some (Obj.cells #[.int .i64 m.mode, .int .i64 m.unit, .int .i64 m.node, .slice mr1 m.env.length er1, .int .i64 m.val.k, .int .i64 m.val.n, .string m.val.s, .slice mr2 m.stack.length er2, .int .i64 m.end_] 47))) WD := HSD.out
  refine tL 0 (.agg #[.int .i64 m.mode, .int .i64 m.unit, .int .i64 m.node, .slice mr1 m.env.length er1, .int .i64 m.val.k, .int .i64 m.val.n, .string m.val.s, .slice mr2 m.stack.length er2, .int .i64 m.end_]) rfl (by kernel_rfl) (fun _ _ _ h => h) (fun w' hS' => ldR (p := .pointer (some ⟨u6.heap.size, 0, none⟩)) rfl (by kernel_rfl) (by obtain ⟨b0, b1, x0, x1⟩ := hS'; simp [go_sem, cell_blk (j := 0) x1 rfl, cell_blk (j := 1) x1 rfl, cell_blk (j := 2) x1 rfl, cell_blk (j := 3) x1 rfl, cell_blk (j := 4) x1 rfl, cell_blk (j := 5) x1 rfl, cell_blk (j := 6) x1 rfl, cell_blk (j := 7) x1 rfl, cell_blk (j := 8) x1 rfl])) hS ?_
  refine tL 1 (.agg #[.int .i64 m.mode, .int .i64 m.unit, .int .i64 m.node, .slice m1 m.env.length e1, .int .i64 m.val.k, .int .i64 m.val.n, .string m.val.s, .slice m2 m.stack.length e2, .int .i64 m.end_]) rfl (by kernel_rfl) (fun _ _ _ h => h) (fun w' hS' => ldR (p := .pointer (some ⟨w.heap.size + 1, 0, none⟩)) rfl (by kernel_rfl) (by obtain ⟨b0, b1, x0, x1⟩ := hS'; simp [go_sem, cell_blk (j := 0) b1 rfl, cell_blk (j := 1) b1 rfl, cell_blk (j := 2) b1 rfl, cell_blk (j := 3) b1 rfl, cell_blk (j := 4) b1 rfl, cell_blk (j := 5) b1 rfl, cell_blk (j := 6) b1 rfl, cell_blk (j := 7) b1 rfl, cell_blk (j := 8) b1 rfl])) hS ?_
  refine eH (bb 5 3) ⟨#[yA y a1 a2 a3 a4 c1 c2 c3 c4,mA m m1 m2 e1 e2,vP w.heap.size 0,vP (w.heap.size + 1) 0,vF,vI ↑q9,.string B,vP u5.heap.size 0,vP u6.heap.size 0,.string B,yA y a1 a2 a3 a4 c1 c2 c3 c4,vI 1048576,vI ↑q,vI ↑q,vF,mA m m1 m2 e1 e2,vI ↑q,vI ↑q9,vI ↑q9,vF,yA y a1 a2 a3 a4 c1 c2 c3 c4,yA y ap1 ap2 ap3 ap4 cp1 cp2 cp3 cp4,mA m m1 m2 e1 e2,mA m mp1 mp2 ep1 ep2,.string B,yA y a1 a2 a3 a4 c1 c2 c3 c4,yA y ar1 ar2 ar3 ar4 cr1 cr2 cr3 cr4,mA m m1 m2 e1 e2,mA m mr1 mr2 er1 er2,yA y ar1 ar2 ar3 ar4 cr1 cr2 cr3 cr4,mA m mr1 mr2 er1 er2,.string B,.string B,.string B,vF,yA y ar1 ar2 ar3 ar4 cr1 cr2 cr3 cr4,yA y a1 a2 a3 a4 c1 c2 c3 c4,yA y at1 at2 at3 at4 ct1 ct2 ct3 ct4,vT,vF,mA m mr1 mr2 er1 er2,mA m m1 m2 e1 e2,vU,vU,vU], []⟩ (by kernel_rfl) (by kernel_rfl) ?_
  refine wpAnyH_all (rs := [2]) (by kernel_rfl) (by simp) fun jj hjj => ?_
  obtain rfl : jj = 2 := by simpa using hjj
  refine opw_call (f := 8) (args := #[.agg #[.int .i64 m.mode, .int .i64 m.unit, .int .i64 m.node, .slice m1 m.env.length e1, .int .i64 m.val.k, .int .i64 m.val.n, .string m.val.s, .slice m2 m.stack.length e2, .int .i64 m.end_]]) rfl (by kernel_rfl) (by kernel_rfl) ((HTM.out _ HBD.out).mono ?_)
  rintro e u10 ⟨cs, rfl, ⟨mt1, mt2, et1, et2, rfl, hm10⟩, hv10⟩
  have hS := KS4 WD u10 hS hv10
  have hc10 := bT HBD.out hv10
  have hmF : MacRows u10 (fun b => b < u10.heap.size) mt1 mt2 et1 et2 m := hm10.keep fun b hb => ⟨hb.2, rfl⟩
  have hmG : MacRows u10 (fun b => b < u10.heap.size) mr1 mr2 er1 er2 m := HMF.out.keep fun b hb => ⟨Nat.lt_of_lt_of_le hb hv10.size, hv10.block b hb⟩
  refine ⟨_, rfl, hS, ?_⟩
  refine eH (bb 5 7) ⟨#[yA y a1 a2 a3 a4 c1 c2 c3 c4,mA m m1 m2 e1 e2,vP w.heap.size 0,vP (w.heap.size + 1) 0,vF,vI ↑q9,.string B,vP u5.heap.size 0,vP u6.heap.size 0,.string B,yA y a1 a2 a3 a4 c1 c2 c3 c4,vI 1048576,vI ↑q,vI ↑q,vF,mA m m1 m2 e1 e2,vI ↑q,vI ↑q9,vI ↑q9,vF,yA y a1 a2 a3 a4 c1 c2 c3 c4,yA y ap1 ap2 ap3 ap4 cp1 cp2 cp3 cp4,mA m m1 m2 e1 e2,mA m mp1 mp2 ep1 ep2,.string B,yA y a1 a2 a3 a4 c1 c2 c3 c4,yA y ar1 ar2 ar3 ar4 cr1 cr2 cr3 cr4,mA m m1 m2 e1 e2,mA m mr1 mr2 er1 er2,yA y ar1 ar2 ar3 ar4 cr1 cr2 cr3 cr4,mA m mr1 mr2 er1 er2,.string B,.string B,.string B,vF,yA y ar1 ar2 ar3 ar4 cr1 cr2 cr3 cr4,yA y a1 a2 a3 a4 c1 c2 c3 c4,yA y at1 at2 at3 at4 ct1 ct2 ct3 ct4,vT,vF,mA m mr1 mr2 er1 er2,mA m m1 m2 e1 e2,mA m mt1 mt2 et1 et2,vU,vU], []⟩ (by kernel_rfl) (by kernel_rfl) ?_
  refine wpAnyH_all (rs := [3]) (by kernel_rfl) (by simp) fun jj hjj => ?_
  obtain rfl : jj = 3 := by simpa using hjj
  refine opw_call (f := 11) (args := #[.agg #[.int .i64 m.mode, .int .i64 m.unit, .int .i64 m.node, .slice mr1 m.env.length er1, .int .i64 m.val.k, .int .i64 m.val.n, .string m.val.s, .slice mr2 m.stack.length er2, .int .i64 m.end_], .agg #[.int .i64 m.mode, .int .i64 m.unit, .int .i64 m.node, .slice mt1 m.env.length et1, .int .i64 m.val.k, .int .i64 m.val.n, .string m.val.s, .slice mt2 m.stack.length et2, .int .i64 m.end_]]) rfl (by kernel_rfl) (by kernel_rfl) ((HEM.out _ _ _ _ _ _ _ _ _ hmG hmF).mono ?_)
  rintro e u11 ⟨rfl, hv11⟩
  have hS := KS4 u10 u11 hS hv11
  have hc11 := bT hc10 hv11
  refine ⟨_, rfl, hS, ?_⟩
  refine tK 4 (vF) rfl (by kernel_rfl) (fun _ _ _ h => h) (fun _ => by kernel_rfl) hS ?_
  refine eH (bb 5 31) ⟨#[.agg #[.slice a1 y.heap.length c1, .slice a2 y.insts.length c2, .slice a3 y.units.length c3, .slice a4 y.out.length c4], .agg #[.int .i64 m.mode, .int .i64 m.unit, .int .i64 m.node, .slice m1 m.env.length e1, .int .i64 m.val.k, .int .i64 m.val.n, .string m.val.s, .slice m2 m.stack.length e2, .int .i64 m.end_], .pointer (some ⟨w.heap.size, 0, none⟩), .pointer (some ⟨w.heap.size + 1, 0, none⟩), .bool false, .int .i64 ↑q9, .string B, .pointer (some ⟨u5.heap.size, 0, none⟩), .pointer (some ⟨u6.heap.size, 0, none⟩), .string B, .agg #[.slice a1 y.heap.length c1, .slice a2 y.insts.length c2, .slice a3 y.units.length c3, .slice a4 y.out.length c4], .int .i64 1048576, .int .i64 ↑q, .int .i64 ↑q, .bool false, .agg #[.int .i64 m.mode, .int .i64 m.unit, .int .i64 m.node, .slice m1 m.env.length e1, .int .i64 m.val.k, .int .i64 m.val.n, .string m.val.s, .slice m2 m.stack.length e2, .int .i64 m.end_], .int .i64 ↑q, .int .i64 ↑q9, .int .i64 ↑q9, .bool false, .agg #[.slice a1 y.heap.length c1, .slice a2 y.insts.length c2, .slice a3 y.units.length c3, .slice a4 y.out.length c4], .agg #[.slice ap1 y.heap.length cp1, .slice ap2 y.insts.length cp2, .slice ap3 y.units.length cp3, .slice ap4 y.out.length cp4], .agg #[.int .i64 m.mode, .int .i64 m.unit, .int .i64 m.node, .slice m1 m.env.length e1, .int .i64 m.val.k, .int .i64 m.val.n, .string m.val.s, .slice m2 m.stack.length e2, .int .i64 m.end_], .agg #[.int .i64 m.mode, .int .i64 m.unit, .int .i64 m.node, .slice mp1 m.env.length ep1, .int .i64 m.val.k, .int .i64 m.val.n, .string m.val.s, .slice mp2 m.stack.length ep2, .int .i64 m.end_], .string B, .agg #[.slice a1 y.heap.length c1, .slice a2 y.insts.length c2, .slice a3 y.units.length c3, .slice a4 y.out.length c4], .agg #[.slice ar1 y.heap.length cr1, .slice ar2 y.insts.length cr2, .slice ar3 y.units.length cr3, .slice ar4 y.out.length cr4], .agg #[.int .i64 m.mode, .int .i64 m.unit, .int .i64 m.node, .slice m1 m.env.length e1, .int .i64 m.val.k, .int .i64 m.val.n, .string m.val.s, .slice m2 m.stack.length e2, .int .i64 m.end_], .agg #[.int .i64 m.mode, .int .i64 m.unit, .int .i64 m.node, .slice mr1 m.env.length er1, .int .i64 m.val.k, .int .i64 m.val.n, .string m.val.s, .slice mr2 m.stack.length er2, .int .i64 m.end_], .agg #[.slice ar1 y.heap.length cr1, .slice ar2 y.insts.length cr2, .slice ar3 y.units.length cr3, .slice ar4 y.out.length cr4], .agg #[.int .i64 m.mode, .int .i64 m.unit, .int .i64 m.node, .slice mr1 m.env.length er1, .int .i64 m.val.k, .int .i64 m.val.n, .string m.val.s, .slice mr2 m.stack.length er2, .int .i64 m.end_], .string B, .string B, .string B, .bool false, .agg #[.slice ar1 y.heap.length cr1, .slice ar2 y.insts.length cr2, .slice ar3 y.units.length cr3, .slice ar4 y.out.length cr4], .agg #[.slice a1 y.heap.length c1, .slice a2 y.insts.length c2, .slice a3 y.units.length c3, .slice a4 y.out.length c4], .agg #[.slice at1 y.heap.length ct1, .slice at2 y.insts.length ct2, .slice at3 y.units.length ct3, .slice at4 y.out.length ct4], .bool true, .bool false, .agg #[.int .i64 m.mode, .int .i64 m.unit, .int .i64 m.node, .slice mr1 m.env.length er1, .int .i64 m.val.k, .int .i64 m.val.n, .string m.val.s, .slice mr2 m.stack.length er2, .int .i64 m.end_], .agg #[.int .i64 m.mode, .int .i64 m.unit, .int .i64 m.node, .slice m1 m.env.length e1, .int .i64 m.val.k, .int .i64 m.val.n, .string m.val.s, .slice m2 m.stack.length e2, .int .i64 m.end_], .agg #[.int .i64 m.mode, .int .i64 m.unit, .int .i64 m.node, .slice mt1 m.env.length et1, .int .i64 m.val.k, .int .i64 m.val.n, .string m.val.s, .slice mt2 m.stack.length et2, .int .i64 m.end_], .bool true, .bool false], []⟩ (by kernel_rfl) (by kernel_rfl) ?_
  refine wpAnyH_done (by kernel_rfl) ?_ _
  dsimp only []
  go_wp2
  go_ret
  exact ⟨rfl, hc11⟩
end fnExactAnswer
end Go.Proofs.YtlacidojljilaaaGreatDoor
