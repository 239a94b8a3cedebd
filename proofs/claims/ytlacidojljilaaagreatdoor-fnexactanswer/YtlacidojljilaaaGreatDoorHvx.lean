/- Is a heap right? The program's way: one cell. Is a heap right? The program's way, whole. -/
import Derived.Test.YtlacidojljilaaaGreatDoorHoy
import Derived.Deep.RegionHeld3
set_option linter.unusedVariables false
set_option maxRecDepth 100000
set_option maxHeartbeats 8000000
namespace Go.Proofs.YtlacidojljilaaaGreatDoor
open Go.ChangeShapes Go.WideShapes Go.ChangeAt Go.RowKit
theorem implCel_any (a : Option Addr) (h : List Cel) (ca : Nat) (i : Nat) (c : Cel) (w : World) (hl : h.length ≤ 1048576) (hca : h.length ≤ ca) (hi : h[i]? = some c) (hsm : ∀ d ∈ h, d.small) (hr : RowC w w.heap.size a h) :
  Calls Tryz.prog 114 #[.slice a h.length ca, .int .i64 i] w fun e w' => Ans w (.bool (c.ok h i)) e w' := by
 have hlt : i < h.length := (List.getElem?_eq_some_iff.1 hi).1
 have hs := hsm c (List.mem_of_getElem? hi)
 obtain ⟨s1, s2, s3, s4, s5, s6, s7, s8⟩ := hs
 obtain ⟨b, o, rfl, hb, an, cn, av, cv, c0, c1, c2, c3, c4, c5, hrs, hrv, l1, l2⟩ := hr i c hi
 obtain ⟨ck, cS, cA, cB, nms, vls⟩ := c
 simp only at *
 have hlen : (h.take i).length = i := by rw [List.length_take]; omega
 have HV1 : Hid (∀ w1, Below w.heap.size w w1 → Calls Tryz.prog 88 #[.slice (some ⟨b, o, none⟩) i ca, .slice av vls.length cv] w1 fun e w' => Ans w1 (.bool (vls.all (·.ok (h.take i)))) e w') := fun w1 hb => by
  have := valuesOk_any (some ⟨b, o, none⟩) (h.take i) ca av vls cv w1 (by omega) s6 s8 (((hr.below hb).mono hb.size).take i) ((RowV.below hrv hb).mono hb.size)
  rwa [hlen] at this
 have HV3 : Hid (∀ w1, Below w.heap.size w w1 → Calls Tryz.prog 88 #[.slice (some ⟨b, o, none⟩) h.length ca, .slice av vls.length cv] w1 fun e w' => Ans w1 (.bool (vls.all (·.ok h))) e w') := fun w1 hb => valuesOk_any (some ⟨b, o, none⟩) h ca av vls cv w1 hl s6 s8 ((hr.below hb).mono hb.size) ((RowV.below hrv hb).mono hb.size)
 have HNA : Hid (∀ w1, Below w.heap.size w w1 → Calls Tryz.prog 134 #[.slice an nms.length cn] w1 fun e w' => Ans w1 (.bool (nms.all (fun x => naL x.data.toList))) e w') := fun w1 hb => areNames_any an nms cn w1 s5 s7 (RowS.mono (RowS.below hrs hb) hb.size)
 have hbA : Below w.heap.size w (w.alloc (Obj.cells #[.int .i64 ck, .string cS, .int .i64 cA, .int .i64 cB, .slice an nms.length cn, .slice av vls.length cv] 107)) := bR _ _
 have kA := blk_alloc w (Obj.cells #[.int .i64 ck, .string cS, .int .i64 cA, .int .i64 cB, .slice an nms.length cn, .slice av vls.length cv] 107)
 have HO : Hid (Cel.ok h i ⟨ck, cS, cA, cB, nms, vls⟩ = (Cel.shape ⟨ck, cS, cA, cB, nms, vls⟩ && Cel.fits h i ⟨ck, cS, cA, cB, nms, vls⟩)) := rfl
 obtain ⟨wA, hwA⟩ : ∃ wA, wA = w.alloc (Obj.cells #[.int .i64 ck, .string cS, .int .i64 cA, .int .i64 cB, .slice an nms.length cn, .slice av vls.length cv] 107) := ⟨_, rfl⟩
 rw [← hwA] at hbA kA
 have HW : Hid (w.alloc (Obj.cells #[.int .i64 ck, .string cS, .int .i64 cA, .int .i64 cB, .slice an nms.length cn, .slice av vls.length cv] 107) = wA) := hwA.symm
 clear hwA
 obtain ⟨x0, x1, x2, x3, x4, x5⟩ := zn6 kA rfl rfl rfl rfl rfl rfl
 have hsA : w.heap.size < wA.heap.size := (Array.getElem?_eq_some_iff.1 kA).1
 have KA : Hid (wA.heap[w.heap.size]? = some (Obj.cells #[.int .i64 ck, .string cS, .int .i64 cA, .int .i64 cB, .slice an nms.length cn, .slice av vls.length cv] 107)) := kA
 clear kA
 have bi0 : (0 : Int) ≤ (i : Int) := by omega
 have bi1 : (i : Int) ≤ (ca : Int) := by omega
 clear hr hrs hrv hsm hi
 by_cases h1 : ck = 1
 ·subst h1
  by_cases p_s0 : cS.size = 0
  ·have g_s0 : (cS.toList == []) = true := by rw [size_zero p_s0, ByteArray.toList_eq]; rfl
   by_cases p_a0 : cA = 0
   ·have g_a0 : (cA == 0) = true := beq_iff_eq.2 p_a0
    by_cases p_b0 : cB = 0
    ·have g_b0 : (cB == 0) = true := beq_iff_eq.2 p_b0
     by_cases p_n0 : nms.length = 0
     ·have g_n0 : ((nms.length : Int) == 0) = true := beq_iff_eq.2 (by omega)
      by_cases p_v2 : vls.length = 2
      ·have g_v2 : ((vls.length : Int) == 2) = true := beq_iff_eq.2 (by omega)
       have HQ : Hid (Cel.ok h i (⟨1, cS, cA, cB, nms, vls⟩ : Cel) = vls.all (·.ok (h.take i))) := by show _ = _; rw [HO.out]; unfold Cel.shape Cel.fits; simp [p_s0, p_a0, p_b0, p_n0, p_v2]
       rw [HQ.out]
       clear HQ HO p_s0 p_a0 p_b0 p_n0 p_v2
       go_enter Tryz.func114, Tryz.ntmps114
       go_wp2_with fail
       rw [HW.out]
       clear HW
       go_region_held3 (fun w' => Below w.heap.size w w' ∧ w'.cell? ⟨w.heap.size, 1, none⟩ = some (.string cS) ∧ w'.cell? ⟨w.heap.size, 2, none⟩ = some (.int .i64 cA) ∧ w'.cell? ⟨w.heap.size, 3, none⟩ = some (.int .i64 cB) ∧ w'.cell? ⟨w.heap.size, 4, none⟩ = some (.slice an nms.length cn) ∧ w'.cell? ⟨w.heap.size, 5, none⟩ = some (.slice av vls.length cv))
        (first | exact ⟨hb3, q1, q2, q3, q4, q5⟩ | exact ⟨hb5, z1, z2, z3, z4, z5⟩ | exact ⟨below_drewN hbA 1, x1, x2, x3, x4, x5⟩)
        ((go_at_call 88; refine (HV1.out _ (below_drewN hbA _)).mono ?_; rintro e w2 ⟨rfl, hb2⟩; have hb3 : Below w.heap.size w w2 := (below_drewN hbA _).trans (hb2.mono hbA.size); have k6 := (hb2.block _ hsA).trans KA.out; have q1 := cell_blk (j := 1) k6 rfl; have q2 := cell_blk (j := 2) k6 rfl; have q3 := cell_blk (j := 3) k6 rfl; have q4 := cell_blk (j := 4) k6 rfl; have q5 := cell_blk (j := 5) k6 rfl))
       all_goals
        go_wp2
        go_ret
        exact ⟨rfl, hb3⟩
      ·have g_v2 : ((vls.length : Int) == 2) = false := beq_eq_false_iff_ne.2 (by omega)
       have HQ : Hid (Cel.ok h i (⟨1, cS, cA, cB, nms, vls⟩ : Cel) = false) := by show _ = _; rw [HO.out]; unfold Cel.shape; simp [p_v2]
       rw [HQ.out]
       clear p_s0 p_a0 p_b0 p_n0 p_v2
       go_enter Tryz.func114, Tryz.ntmps114
       go_wp2_with fail
       rw [HW.out]
       clear HW
       go_quiet (fail)
       go_wp2
       go_ret
       exact ⟨rfl, below_drewN hbA _⟩
     ·have g_n0 : ((nms.length : Int) == 0) = false := beq_eq_false_iff_ne.2 (by omega)
      have HQ : Hid (Cel.ok h i (⟨1, cS, cA, cB, nms, vls⟩ : Cel) = false) := by show _ = _; rw [HO.out]; unfold Cel.shape; simp [p_n0]
      rw [HQ.out]
      clear p_s0 p_a0 p_b0 p_n0
      go_enter Tryz.func114, Tryz.ntmps114
      go_wp2_with fail
      rw [HW.out]
      clear HW
      go_quiet (fail)
      go_wp2
      go_ret
      exact ⟨rfl, below_drewN hbA _⟩
    ·have g_b0 : (cB == 0) = false := beq_eq_false_iff_ne.2 p_b0
     have HQ : Hid (Cel.ok h i (⟨1, cS, cA, cB, nms, vls⟩ : Cel) = false) := by show _ = _; rw [HO.out]; unfold Cel.shape; simp [p_b0]
     rw [HQ.out]
     clear p_s0 p_a0 p_b0
     go_enter Tryz.func114, Tryz.ntmps114
     go_wp2_with fail
     rw [HW.out]
     clear HW
     go_quiet (fail)
     go_wp2
     go_ret
     exact ⟨rfl, below_drewN hbA _⟩
   ·have g_a0 : (cA == 0) = false := beq_eq_false_iff_ne.2 p_a0
    have HQ : Hid (Cel.ok h i (⟨1, cS, cA, cB, nms, vls⟩ : Cel) = false) := by show _ = _; rw [HO.out]; unfold Cel.shape; simp [p_a0]
    rw [HQ.out]
    clear p_s0 p_a0
    go_enter Tryz.func114, Tryz.ntmps114
    go_wp2_with fail
    rw [HW.out]
    clear HW
    go_quiet (fail)
    go_wp2
    go_ret
    exact ⟨rfl, below_drewN hbA _⟩
  ·have g_s0 : (cS.toList == []) = false := str_ne p_s0
   have HQ : Hid (Cel.ok h i (⟨1, cS, cA, cB, nms, vls⟩ : Cel) = false) := by show _ = _; rw [HO.out]; unfold Cel.shape; simp [p_s0]
   rw [HQ.out]
   clear p_s0
   go_enter Tryz.func114, Tryz.ntmps114
   go_wp2_with fail
   rw [HW.out]
   clear HW
   go_quiet (fail)
   go_wp2
   go_ret
   exact ⟨rfl, below_drewN hbA _⟩
 by_cases h2 : ck = 2
 ·subst h2
  by_cases p_s0 : cS.size = 0
  ·have g_s0 : (cS.toList == []) = true := by rw [size_zero p_s0, ByteArray.toList_eq]; rfl
   by_cases p_ap : 0 ≤ cA
   ·have g_ap : decide (0 ≤ cA) = true := decide_eq_true p_ap
    by_cases p_bp : 0 ≤ cB
    ·have g_bp : decide (0 ≤ cB) = true := decide_eq_true p_bp
     cases p_na : nms.all (fun x => naL x.data.toList)
     ·have HNAq : Hid (nms.all (fun x => naL x.data.toList) = false) := p_na
      rw [p_na] at HNA
      have HQ : Hid (Cel.ok h i (⟨2, cS, cA, cB, nms, vls⟩ : Cel) = false) := by show _ = _; rw [HO.out]; unfold Cel.shape; rw [HNAq.out]; simp
      rw [HQ.out]
      clear p_na p_s0 p_ap p_bp
      go_enter Tryz.func114, Tryz.ntmps114
      go_wp2_with fail
      rw [HW.out]
      clear HW
      refine wp_region_held (S := (fun w' => Below w.heap.size w w' ∧ w'.cell? ⟨w.heap.size, 1, none⟩ = some (.string cS) ∧ w'.cell? ⟨w.heap.size, 2, none⟩ = some (.int .i64 cA) ∧ w'.cell? ⟨w.heap.size, 3, none⟩ = some (.int .i64 cB) ∧ w'.cell? ⟨w.heap.size, 4, none⟩ = some (.slice an nms.length cn) ∧ w'.cell? ⟨w.heap.size, 5, none⟩ = some (.slice av vls.length cv))) (by kernel_rfl) ?_
      have hS : (Below w.heap.size w wA.drew ∧ wA.drew.cell? ⟨w.heap.size, 1, none⟩ = some (.string cS) ∧ wA.drew.cell? ⟨w.heap.size, 2, none⟩ = some (.int .i64 cA) ∧ wA.drew.cell? ⟨w.heap.size, 3, none⟩ = some (.int .i64 cB) ∧ wA.drew.cell? ⟨w.heap.size, 4, none⟩ = some (.slice an nms.length cn) ∧ wA.drew.cell? ⟨w.heap.size, 5, none⟩ = some (.slice av vls.length cv)) := ⟨below_drewN hbA 1, x1, x2, x3, x4, x5⟩
      refine tK 0 (vP w.heap.size 1) rfl (by kernel_rfl) (fun _ _ _ h => h) (fun _ => by kernel_rfl) hS ?_
      refine eH (bb 36 1) ⟨#[vS b o h.length ca,vI i,vU,vU,vF,vP w.heap.size 0,vS b o h.length ca,vI i,vP b (o + i * 6),.agg #[vI 2,.string cS,vI cA,vI cB,.slice an nms.length cn,.slice av vls.length cv],vP w.heap.size 0,vI 2,vF,vF,vU,vU,vU,vU,vU,vU,vU,vU,vU,vU,vU,vU,vU,vU,vU,vU,vU,vU,vU,vU,vU,vU,vU,vU,vU,vU,vU,vU,vU,vU,vU,vU,vU,vT,vT,vP w.heap.size 1,vU,vU,vU,vU,vU,vU,vU,vU,vU,vU,vU,vU,vU,vU,vU,vU,vU,vU,vU,vU,vU,vU,vU,vU,vU,vU,vU,vU,vU,vU,vU,vU,vU,vU,vU,vU,vU,vU,vU,vU,vU,vU,vU,vU,vU,vU,vU,vU,vU,vU,vU,vU,vU,vU,vU,vU,vU,vU,vU,vU,vU,vU,vU,vU,vU,vU,vU,vU,vU,vU,vU,vU], []⟩ (by kernel_rfl) (by kernel_rfl) ?_
      refine tL 1 (.string cS) rfl (by kernel_rfl) (fun _ _ _ h => h) (fun w' hS' => run_v (ld9 hS'.2.1)) hS ?_
      refine eH (bb 36 3) ⟨#[vS b o h.length ca,vI i,vU,vU,vF,vP w.heap.size 0,vS b o h.length ca,vI i,vP b (o + i * 6),.agg #[vI 2,.string cS,vI cA,vI cB,.slice an nms.length cn,.slice av vls.length cv],vP w.heap.size 0,vI 2,vF,vF,vU,vU,vU,vU,vU,vU,vU,vU,vU,vU,vU,vU,vU,vU,vU,vU,vU,vU,vU,vU,vU,vU,vU,vU,vU,vU,vU,vU,vU,vU,vU,vU,vU,vT,vT,vP w.heap.size 1,.string cS,vU,vU,vU,vU,vU,vU,vU,vU,vU,vU,vU,vU,vU,vU,vU,vU,vU,vU,vU,vU,vU,vU,vU,vU,vU,vU,vU,vU,vU,vU,vU,vU,vU,vU,vU,vU,vU,vU,vU,vU,vU,vU,vU,vU,vU,vU,vU,vU,vU,vU,vU,vU,vU,vU,vU,vU,vU,vU,vU,vU,vU,vU,vU,vU,vU,vU,vU,vU,vU,vU,vU], []⟩ (by kernel_rfl) (by kernel_rfl) ?_
      refine tL 2 (.bool true) rfl (by kernel_rfl) (fun _ _ _ h => h) (fun w' hS' => run_v (eqs g_s0 w')) hS ?_
      refine tK 3 (vT) rfl (by kernel_rfl) (fun _ _ _ h => h) (fun _ => by kernel_rfl) hS ?_
      refine tK 4 (vP w.heap.size 2) rfl (by kernel_rfl) (fun _ _ _ h => h) (fun _ => by kernel_rfl) hS ?_
      refine eH (bb 36 31) ⟨#[vS b o h.length ca,vI i,vU,vU,vF,vP w.heap.size 0,vS b o h.length ca,vI i,vP b (o + i * 6),.agg #[vI 2,.string cS,vI cA,vI cB,.slice an nms.length cn,.slice av vls.length cv],vP w.heap.size 0,vI 2,vF,vF,vU,vU,vU,vU,vU,vU,vU,vU,vU,vU,vU,vU,vU,vU,vU,vU,vU,vU,vU,vU,vU,vU,vU,vU,vU,vU,vU,vU,vU,vU,vU,vU,vU,vT,vT,vP w.heap.size 1,.string cS,vT,vT,vP w.heap.size 2,vU,vU,vU,vU,vU,vU,vU,vU,vU,vU,vU,vU,vU,vU,vU,vU,vU,vU,vU,vU,vU,vU,vU,vU,vU,vU,vU,vU,vU,vU,vU,vU,vU,vU,vU,vU,vU,vU,vU,vU,vU,vU,vU,vU,vU,vU,vU,vU,vU,vU,vU,vU,vU,vU,vU,vU,vU,vU,vU,vU,vU,vU,vU,vU,vU,vU,vU,vU], []⟩ (by kernel_rfl) (by kernel_rfl) ?_
      refine tL 5 (.int .i64 cA) rfl (by kernel_rfl) (fun _ _ _ h => h) (fun w' hS' => run_v (ld3 hS'.2.2.1)) hS ?_
      refine eH (bb 36 63) ⟨#[vS b o h.length ca,vI i,vU,vU,vF,vP w.heap.size 0,vS b o h.length ca,vI i,vP b (o + i * 6),.agg #[vI 2,.string cS,vI cA,vI cB,.slice an nms.length cn,.slice av vls.length cv],vP w.heap.size 0,vI 2,vF,vF,vU,vU,vU,vU,vU,vU,vU,vU,vU,vU,vU,vU,vU,vU,vU,vU,vU,vU,vU,vU,vU,vU,vU,vU,vU,vU,vU,vU,vU,vU,vU,vU,vU,vT,vT,vP w.heap.size 1,.string cS,vT,vT,vP w.heap.size 2,vI cA,vU,vU,vU,vU,vU,vU,vU,vU,vU,vU,vU,vU,vU,vU,vU,vU,vU,vU,vU,vU,vU,vU,vU,vU,vU,vU,vU,vU,vU,vU,vU,vU,vU,vU,vU,vU,vU,vU,vU,vU,vU,vU,vU,vU,vU,vU,vU,vU,vU,vU,vU,vU,vU,vU,vU,vU,vU,vU,vU,vU,vU,vU,vU,vU,vU,vU,vU], []⟩ (by kernel_rfl) (by kernel_rfl) ?_
      refine tL 6 (.bool true) rfl (by kernel_rfl) (fun _ _ _ h => h) (fun w' hS' => run_v (ge0 g_ap w')) hS ?_
      refine tK 7 (vT) rfl (by kernel_rfl) (fun _ _ _ h => h) (fun _ => by kernel_rfl) hS ?_
      refine tK 8 (vT) rfl (by kernel_rfl) (fun _ _ _ h => h) (fun _ => by kernel_rfl) hS ?_
      refine tK 9 (vP w.heap.size 3) rfl (by kernel_rfl) (fun _ _ _ h => h) (fun _ => by kernel_rfl) hS ?_
      refine eH (bb 36 1023) ⟨#[vS b o h.length ca,vI i,vU,vU,vF,vP w.heap.size 0,vS b o h.length ca,vI i,vP b (o + i * 6),.agg #[vI 2,.string cS,vI cA,vI cB,.slice an nms.length cn,.slice av vls.length cv],vP w.heap.size 0,vI 2,vF,vF,vU,vU,vU,vU,vU,vU,vU,vU,vU,vU,vU,vU,vU,vU,vU,vU,vU,vU,vU,vU,vU,vU,vU,vU,vU,vU,vU,vU,vU,vU,vU,vU,vU,vT,vT,vP w.heap.size 1,.string cS,vT,vT,vP w.heap.size 2,vI cA,vT,vT,vT,vP w.heap.size 3,vU,vU,vU,vU,vU,vU,vU,vU,vU,vU,vU,vU,vU,vU,vU,vU,vU,vU,vU,vU,vU,vU,vU,vU,vU,vU,vU,vU,vU,vU,vU,vU,vU,vU,vU,vU,vU,vU,vU,vU,vU,vU,vU,vU,vU,vU,vU,vU,vU,vU,vU,vU,vU,vU,vU,vU,vU,vU,vU,vU,vU,vU,vU], []⟩ (by kernel_rfl) (by kernel_rfl) ?_
      refine tL 10 (.int .i64 cB) rfl (by kernel_rfl) (fun _ _ _ h => h) (fun w' hS' => run_v (ld3 hS'.2.2.2.1)) hS ?_
      refine eH (bb 36 2047) ⟨#[vS b o h.length ca,vI i,vU,vU,vF,vP w.heap.size 0,vS b o h.length ca,vI i,vP b (o + i * 6),.agg #[vI 2,.string cS,vI cA,vI cB,.slice an nms.length cn,.slice av vls.length cv],vP w.heap.size 0,vI 2,vF,vF,vU,vU,vU,vU,vU,vU,vU,vU,vU,vU,vU,vU,vU,vU,vU,vU,vU,vU,vU,vU,vU,vU,vU,vU,vU,vU,vU,vU,vU,vU,vU,vU,vU,vT,vT,vP w.heap.size 1,.string cS,vT,vT,vP w.heap.size 2,vI cA,vT,vT,vT,vP w.heap.size 3,vI cB,vU,vU,vU,vU,vU,vU,vU,vU,vU,vU,vU,vU,vU,vU,vU,vU,vU,vU,vU,vU,vU,vU,vU,vU,vU,vU,vU,vU,vU,vU,vU,vU,vU,vU,vU,vU,vU,vU,vU,vU,vU,vU,vU,vU,vU,vU,vU,vU,vU,vU,vU,vU,vU,vU,vU,vU,vU,vU,vU,vU,vU,vU], []⟩ (by kernel_rfl) (by kernel_rfl) ?_
      refine tL 11 (.bool true) rfl (by kernel_rfl) (fun _ _ _ h => h) (fun w' hS' => run_v (ge0 g_bp w')) hS ?_
      refine tK 12 (vT) rfl (by kernel_rfl) (fun _ _ _ h => h) (fun _ => by kernel_rfl) hS ?_
      refine tK 13 (vT) rfl (by kernel_rfl) (fun _ _ _ h => h) (fun _ => by kernel_rfl) hS ?_
      refine tK 14 (vP w.heap.size 4) rfl (by kernel_rfl) (fun _ _ _ h => h) (fun _ => by kernel_rfl) hS ?_
      refine eH (bb 36 32767) ⟨#[vS b o h.length ca,vI i,vU,vU,vF,vP w.heap.size 0,vS b o h.length ca,vI i,vP b (o + i * 6),.agg #[vI 2,.string cS,vI cA,vI cB,.slice an nms.length cn,.slice av vls.length cv],vP w.heap.size 0,vI 2,vF,vF,vU,vU,vU,vU,vU,vU,vU,vU,vU,vU,vU,vU,vU,vU,vU,vU,vU,vU,vU,vU,vU,vU,vU,vU,vU,vU,vU,vU,vU,vU,vU,vU,vU,vT,vT,vP w.heap.size 1,.string cS,vT,vT,vP w.heap.size 2,vI cA,vT,vT,vT,vP w.heap.size 3,vI cB,vT,vT,vT,vP w.heap.size 4,vU,vU,vU,vU,vU,vU,vU,vU,vU,vU,vU,vU,vU,vU,vU,vU,vU,vU,vU,vU,vU,vU,vU,vU,vU,vU,vU,vU,vU,vU,vU,vU,vU,vU,vU,vU,vU,vU,vU,vU,vU,vU,vU,vU,vU,vU,vU,vU,vU,vU,vU,vU,vU,vU,vU,vU,vU,vU], []⟩ (by kernel_rfl) (by kernel_rfl) ?_
      refine tL 15 (.slice an nms.length cn) rfl (by kernel_rfl) (fun _ _ _ h => h) (fun w' hS' => run_v (ld35 hS'.2.2.2.2.1)) hS ?_
      refine eH (bb 36 65535) ⟨#[vS b o h.length ca,vI i,vU,vU,vF,vP w.heap.size 0,vS b o h.length ca,vI i,vP b (o + i * 6),.agg #[vI 2,.string cS,vI cA,vI cB,.slice an nms.length cn,.slice av vls.length cv],vP w.heap.size 0,vI 2,vF,vF,vU,vU,vU,vU,vU,vU,vU,vU,vU,vU,vU,vU,vU,vU,vU,vU,vU,vU,vU,vU,vU,vU,vU,vU,vU,vU,vU,vU,vU,vU,vU,vU,vU,vT,vT,vP w.heap.size 1,.string cS,vT,vT,vP w.heap.size 2,vI cA,vT,vT,vT,vP w.heap.size 3,vI cB,vT,vT,vT,vP w.heap.size 4,.slice an nms.length cn,vU,vU,vU,vU,vU,vU,vU,vU,vU,vU,vU,vU,vU,vU,vU,vU,vU,vU,vU,vU,vU,vU,vU,vU,vU,vU,vU,vU,vU,vU,vU,vU,vU,vU,vU,vU,vU,vU,vU,vU,vU,vU,vU,vU,vU,vU,vU,vU,vU,vU,vU,vU,vU,vU,vU,vU,vU], []⟩ (by kernel_rfl) (by kernel_rfl) ?_
      refine wpAnyH_all (rs := [16]) (by kernel_rfl) (by simp) fun j hj => ?_
      obtain rfl : j = 16 := by simpa using hj
      refine opw_call (f := 134) (args := #[.slice an nms.length cn]) rfl (by kernel_rfl) (by kernel_rfl) ((HNA.out _ hS.1).mono ?_)
      rintro e w5 ⟨rfl, hb4⟩
      have hb5 : Below w.heap.size w w5 := hS.1.trans (hb4.mono hS.1.size)
      have k5 : w5.heap[w.heap.size]? = some _ := (hb4.block _ hsA).trans KA.out
      clear hS
      have hS : (Below w.heap.size w w5 ∧ w5.cell? ⟨w.heap.size, 1, none⟩ = some (.string cS) ∧ w5.cell? ⟨w.heap.size, 2, none⟩ = some (.int .i64 cA) ∧ w5.cell? ⟨w.heap.size, 3, none⟩ = some (.int .i64 cB) ∧ w5.cell? ⟨w.heap.size, 4, none⟩ = some (.slice an nms.length cn) ∧ w5.cell? ⟨w.heap.size, 5, none⟩ = some (.slice av vls.length cv)) := ⟨hb5, cell_blk (j := 1) k5 rfl, cell_blk (j := 2) k5 rfl, cell_blk (j := 3) k5 rfl, cell_blk (j := 4) k5 rfl, cell_blk (j := 5) k5 rfl⟩
      refine ⟨_, rfl, hS, ?_⟩
      refine tK 17 (vF) rfl (by kernel_rfl) (fun _ _ _ h => h) (fun _ => by kernel_rfl) hS ?_
      refine tK 18 (vF) rfl (by kernel_rfl) (fun _ _ _ h => h) (fun _ => by kernel_rfl) hS ?_
      refine tU 19 rfl (by kernel_rfl) (fun _ _ _ h => h) hS ?_
      refine tU 20 rfl (by kernel_rfl) (fun _ _ _ h => h) hS ?_
      refine tU 21 rfl (by kernel_rfl) (fun _ _ _ h => h) hS ?_
      refine tU 22 rfl (by kernel_rfl) (fun _ _ _ h => h) hS ?_
      refine tU 23 rfl (by kernel_rfl) (fun _ _ _ h => h) hS ?_
      refine tU 24 rfl (by kernel_rfl) (fun _ _ _ h => h) hS ?_
      refine tU 25 rfl (by kernel_rfl) (fun _ _ _ h => h) hS ?_
      refine tK 26 (vF) rfl (by kernel_rfl) (fun _ _ _ h => h) (fun _ => by kernel_rfl) hS ?_
      refine tK 27 (vF) rfl (by kernel_rfl) (fun _ _ _ h => h) (fun _ => by kernel_rfl) hS ?_
      refine tU 28 rfl (by kernel_rfl) (fun _ _ _ h => h) hS ?_
      refine tU 29 rfl (by kernel_rfl) (fun _ _ _ h => h) hS ?_
      refine tU 30 rfl (by kernel_rfl) (fun _ _ _ h => h) hS ?_
      refine tU 31 rfl (by kernel_rfl) (fun _ _ _ h => h) hS ?_
      refine tU 32 rfl (by kernel_rfl) (fun _ _ _ h => h) hS ?_
      refine tU 33 rfl (by kernel_rfl) (fun _ _ _ h => h) hS ?_
      refine tK 34 (vF) rfl (by kernel_rfl) (fun _ _ _ h => h) (fun _ => by kernel_rfl) hS ?_
      refine tK 35 (vF) rfl (by kernel_rfl) (fun _ _ _ h => h) (fun _ => by kernel_rfl) hS ?_
      refine eH (bb 36 68719476735) ⟨#[.slice (some ⟨b, o, none⟩) h.length ca, .int .i64 i, undef, undef, .bool false, .pointer (some ⟨w.heap.size, 0, none⟩), .slice (some ⟨b, o, none⟩) h.length ca, .int .i64 i, .pointer (some ⟨b, o + i * 6, none⟩), .agg #[.int .i64 2, .string cS, .int .i64 cA, .int .i64 cB, .slice an nms.length cn, .slice av vls.length cv], .pointer (some ⟨w.heap.size, 0, none⟩), .int .i64 2, .bool false, .bool false, undef, undef, undef, undef, undef, undef, undef, undef, undef, undef, undef, undef, undef, undef, undef, undef, undef, undef, undef, undef, undef, undef, undef, undef, undef, undef, undef, undef, undef, undef, undef, undef, undef, .bool true, .bool true, .pointer (some ⟨w.heap.size, 1, none⟩), .string cS, .bool true, .bool true, .pointer (some ⟨w.heap.size, 2, none⟩), .int .i64 cA, .bool true, .bool true, .bool true, .pointer (some ⟨w.heap.size, 3, none⟩), .int .i64 cB, .bool true, .bool true, .bool true, .pointer (some ⟨w.heap.size, 4, none⟩), .slice an nms.length cn, .bool false, .bool false, .bool false, undef, undef, undef, undef, undef, undef, undef, .bool false, .bool false, undef, undef, undef, undef, undef, undef, .bool false, undef, undef, undef, undef, undef, undef, undef, undef, undef, undef, undef, undef, undef, undef, undef, undef, undef, undef, undef, undef, undef, undef, undef, undef, undef, undef, undef, undef, undef, undef, undef, undef, undef, undef, undef, undef, undef, undef], []⟩ (by kernel_rfl) (by kernel_rfl) ?_
      refine wpAnyH_done (by kernel_rfl) ?_ _
      go_wp2
      go_ret
      exact ⟨rfl, hb5⟩
     ·have HNAq : Hid (nms.all (fun x => naL x.data.toList) = true) := p_na
      rw [p_na] at HNA
      clear p_na
      by_cases p_vn : vls.length = nms.length
      ·have g_vn : ((vls.length : Int) == (nms.length : Int)) = true := beq_iff_eq.2 (by omega)
       have HQ : Hid (Cel.ok h i (⟨2, cS, cA, cB, nms, vls⟩ : Cel) = vls.all (·.ok (h.take i))) := by show _ = _; rw [HO.out]; unfold Cel.shape Cel.fits; rw [HNAq.out]; simp [p_s0, p_ap, p_bp, p_vn]
       rw [HQ.out]
       clear HQ HO p_s0 p_ap p_bp p_vn
       go_enter Tryz.func114, Tryz.ntmps114
       go_wp2_with fail
       rw [HW.out]
       clear HW
       go_region_held3 (fun w' => Below w.heap.size w w' ∧ w'.cell? ⟨w.heap.size, 1, none⟩ = some (.string cS) ∧ w'.cell? ⟨w.heap.size, 2, none⟩ = some (.int .i64 cA) ∧ w'.cell? ⟨w.heap.size, 3, none⟩ = some (.int .i64 cB) ∧ w'.cell? ⟨w.heap.size, 4, none⟩ = some (.slice an nms.length cn) ∧ w'.cell? ⟨w.heap.size, 5, none⟩ = some (.slice av vls.length cv))
        (first | exact ⟨hb3, q1, q2, q3, q4, q5⟩ | exact ⟨hb5, z1, z2, z3, z4, z5⟩ | exact ⟨below_drewN hbA 1, x1, x2, x3, x4, x5⟩)
        ((first | (go_at_call 134; refine (HNA.out _ (below_drewN hbA _)).mono ?_; rintro e w5 ⟨rfl, hb4⟩; have hb5 : Below w.heap.size w w5 := (below_drewN hbA _).trans (hb4.mono hbA.size); have k5 := (hb4.block _ hsA).trans KA.out; have hs5 : w.heap.size < w5.heap.size := (Array.getElem?_eq_some_iff.1 k5).1; have z1 := cell_blk (j := 1) k5 rfl; have z2 := cell_blk (j := 2) k5 rfl; have z3 := cell_blk (j := 3) k5 rfl; have z4 := cell_blk (j := 4) k5 rfl; have z5 := cell_blk (j := 5) k5 rfl) | (go_at_call 88; refine (HV1.out _ hb5).mono ?_; rintro e w2 ⟨rfl, hb2⟩; have hb3 : Below w.heap.size w w2 := bT hb5 hb2; have k6 := (hb2.block _ hs5).trans k5; have q1 := cell_blk (j := 1) k6 rfl; have q2 := cell_blk (j := 2) k6 rfl; have q3 := cell_blk (j := 3) k6 rfl; have q4 := cell_blk (j := 4) k6 rfl; have q5 := cell_blk (j := 5) k6 rfl)))
       all_goals
        go_wp2
        go_ret
        exact ⟨rfl, hb3⟩
      ·have g_vn : ((vls.length : Int) == (nms.length : Int)) = false := beq_eq_false_iff_ne.2 (by omega)
       have HQ : Hid (Cel.ok h i (⟨2, cS, cA, cB, nms, vls⟩ : Cel) = false) := by show _ = _; rw [HO.out]; unfold Cel.shape; simp [p_vn]
       rw [HQ.out]
       clear p_s0 p_ap p_bp p_vn
       go_enter Tryz.func114, Tryz.ntmps114
       go_wp2_with fail
       rw [HW.out]
       clear HW
       refine wp_region_held (S := (fun w' => Below w.heap.size w w' ∧ w'.cell? ⟨w.heap.size, 1, none⟩ = some (.string cS) ∧ w'.cell? ⟨w.heap.size, 2, none⟩ = some (.int .i64 cA) ∧ w'.cell? ⟨w.heap.size, 3, none⟩ = some (.int .i64 cB) ∧ w'.cell? ⟨w.heap.size, 4, none⟩ = some (.slice an nms.length cn) ∧ w'.cell? ⟨w.heap.size, 5, none⟩ = some (.slice av vls.length cv))) (by kernel_rfl) ?_
       have hS : (Below w.heap.size w wA.drew ∧ wA.drew.cell? ⟨w.heap.size, 1, none⟩ = some (.string cS) ∧ wA.drew.cell? ⟨w.heap.size, 2, none⟩ = some (.int .i64 cA) ∧ wA.drew.cell? ⟨w.heap.size, 3, none⟩ = some (.int .i64 cB) ∧ wA.drew.cell? ⟨w.heap.size, 4, none⟩ = some (.slice an nms.length cn) ∧ wA.drew.cell? ⟨w.heap.size, 5, none⟩ = some (.slice av vls.length cv)) := ⟨below_drewN hbA 1, x1, x2, x3, x4, x5⟩
       refine tK 0 (vP w.heap.size 1) rfl (by kernel_rfl) (fun _ _ _ h => h) (fun _ => by kernel_rfl) hS ?_
       refine eH (bb 36 1) ⟨#[vS b o h.length ca,vI i,vU,vU,vF,vP w.heap.size 0,vS b o h.length ca,vI i,vP b (o + i * 6),.agg #[vI 2,.string cS,vI cA,vI cB,.slice an nms.length cn,.slice av vls.length cv],vP w.heap.size 0,vI 2,vF,vF,vU,vU,vU,vU,vU,vU,vU,vU,vU,vU,vU,vU,vU,vU,vU,vU,vU,vU,vU,vU,vU,vU,vU,vU,vU,vU,vU,vU,vU,vU,vU,vU,vU,vT,vT,vP w.heap.size 1,vU,vU,vU,vU,vU,vU,vU,vU,vU,vU,vU,vU,vU,vU,vU,vU,vU,vU,vU,vU,vU,vU,vU,vU,vU,vU,vU,vU,vU,vU,vU,vU,vU,vU,vU,vU,vU,vU,vU,vU,vU,vU,vU,vU,vU,vU,vU,vU,vU,vU,vU,vU,vU,vU,vU,vU,vU,vU,vU,vU,vU,vU,vU,vU,vU,vU,vU,vU,vU,vU,vU,vU], []⟩ (by kernel_rfl) (by kernel_rfl) ?_
       refine tL 1 (.string cS) rfl (by kernel_rfl) (fun _ _ _ h => h) (fun w' hS' => run_v (ld9 hS'.2.1)) hS ?_
       refine eH (bb 36 3) ⟨#[vS b o h.length ca,vI i,vU,vU,vF,vP w.heap.size 0,vS b o h.length ca,vI i,vP b (o + i * 6),.agg #[vI 2,.string cS,vI cA,vI cB,.slice an nms.length cn,.slice av vls.length cv],vP w.heap.size 0,vI 2,vF,vF,vU,vU,vU,vU,vU,vU,vU,vU,vU,vU,vU,vU,vU,vU,vU,vU,vU,vU,vU,vU,vU,vU,vU,vU,vU,vU,vU,vU,vU,vU,vU,vU,vU,vT,vT,vP w.heap.size 1,.string cS,vU,vU,vU,vU,vU,vU,vU,vU,vU,vU,vU,vU,vU,vU,vU,vU,vU,vU,vU,vU,vU,vU,vU,vU,vU,vU,vU,vU,vU,vU,vU,vU,vU,vU,vU,vU,vU,vU,vU,vU,vU,vU,vU,vU,vU,vU,vU,vU,vU,vU,vU,vU,vU,vU,vU,vU,vU,vU,vU,vU,vU,vU,vU,vU,vU,vU,vU,vU,vU,vU,vU], []⟩ (by kernel_rfl) (by kernel_rfl) ?_
       refine tL 2 (.bool true) rfl (by kernel_rfl) (fun _ _ _ h => h) (fun w' hS' => run_v (eqs g_s0 w')) hS ?_
       refine tK 3 (vT) rfl (by kernel_rfl) (fun _ _ _ h => h) (fun _ => by kernel_rfl) hS ?_
       refine tK 4 (vP w.heap.size 2) rfl (by kernel_rfl) (fun _ _ _ h => h) (fun _ => by kernel_rfl) hS ?_
       refine eH (bb 36 31) ⟨#[vS b o h.length ca,vI i,vU,vU,vF,vP w.heap.size 0,vS b o h.length ca,vI i,vP b (o + i * 6),.agg #[vI 2,.string cS,vI cA,vI cB,.slice an nms.length cn,.slice av vls.length cv],vP w.heap.size 0,vI 2,vF,vF,vU,vU,vU,vU,vU,vU,vU,vU,vU,vU,vU,vU,vU,vU,vU,vU,vU,vU,vU,vU,vU,vU,vU,vU,vU,vU,vU,vU,vU,vU,vU,vU,vU,vT,vT,vP w.heap.size 1,.string cS,vT,vT,vP w.heap.size 2,vU,vU,vU,vU,vU,vU,vU,vU,vU,vU,vU,vU,vU,vU,vU,vU,vU,vU,vU,vU,vU,vU,vU,vU,vU,vU,vU,vU,vU,vU,vU,vU,vU,vU,vU,vU,vU,vU,vU,vU,vU,vU,vU,vU,vU,vU,vU,vU,vU,vU,vU,vU,vU,vU,vU,vU,vU,vU,vU,vU,vU,vU,vU,vU,vU,vU,vU,vU], []⟩ (by kernel_rfl) (by kernel_rfl) ?_
       refine tL 5 (.int .i64 cA) rfl (by kernel_rfl) (fun _ _ _ h => h) (fun w' hS' => run_v (ld3 hS'.2.2.1)) hS ?_
       refine eH (bb 36 63) ⟨#[vS b o h.length ca,vI i,vU,vU,vF,vP w.heap.size 0,vS b o h.length ca,vI i,vP b (o + i * 6),.agg #[vI 2,.string cS,vI cA,vI cB,.slice an nms.length cn,.slice av vls.length cv],vP w.heap.size 0,vI 2,vF,vF,vU,vU,vU,vU,vU,vU,vU,vU,vU,vU,vU,vU,vU,vU,vU,vU,vU,vU,vU,vU,vU,vU,vU,vU,vU,vU,vU,vU,vU,vU,vU,vU,vU,vT,vT,vP w.heap.size 1,.string cS,vT,vT,vP w.heap.size 2,vI cA,vU,vU,vU,vU,vU,vU,vU,vU,vU,vU,vU,vU,vU,vU,vU,vU,vU,vU,vU,vU,vU,vU,vU,vU,vU,vU,vU,vU,vU,vU,vU,vU,vU,vU,vU,vU,vU,vU,vU,vU,vU,vU,vU,vU,vU,vU,vU,vU,vU,vU,vU,vU,vU,vU,vU,vU,vU,vU,vU,vU,vU,vU,vU,vU,vU,vU,vU], []⟩ (by kernel_rfl) (by kernel_rfl) ?_
       refine tL 6 (.bool true) rfl (by kernel_rfl) (fun _ _ _ h => h) (fun w' hS' => run_v (ge0 g_ap w')) hS ?_
       refine tK 7 (vT) rfl (by kernel_rfl) (fun _ _ _ h => h) (fun _ => by kernel_rfl) hS ?_
       refine tK 8 (vT) rfl (by kernel_rfl) (fun _ _ _ h => h) (fun _ => by kernel_rfl) hS ?_
       refine tK 9 (vP w.heap.size 3) rfl (by kernel_rfl) (fun _ _ _ h => h) (fun _ => by kernel_rfl) hS ?_
       refine eH (bb 36 1023) ⟨#[vS b o h.length ca,vI i,vU,vU,vF,vP w.heap.size 0,vS b o h.length ca,vI i,vP b (o + i * 6),.agg #[vI 2,.string cS,vI cA,vI cB,.slice an nms.length cn,.slice av vls.length cv],vP w.heap.size 0,vI 2,vF,vF,vU,vU,vU,vU,vU,vU,vU,vU,vU,vU,vU,vU,vU,vU,vU,vU,vU,vU,vU,vU,vU,vU,vU,vU,vU,vU,vU,vU,vU,vU,vU,vU,vU,vT,vT,vP w.heap.size 1,.string cS,vT,vT,vP w.heap.size 2,vI cA,vT,vT,vT,vP w.heap.size 3,vU,vU,vU,vU,vU,vU,vU,vU,vU,vU,vU,vU,vU,vU,vU,vU,vU,vU,vU,vU,vU,vU,vU,vU,vU,vU,vU,vU,vU,vU,vU,vU,vU,vU,vU,vU,vU,vU,vU,vU,vU,vU,vU,vU,vU,vU,vU,vU,vU,vU,vU,vU,vU,vU,vU,vU,vU,vU,vU,vU,vU,vU,vU], []⟩ (by kernel_rfl) (by kernel_rfl) ?_
       refine tL 10 (.int .i64 cB) rfl (by kernel_rfl) (fun _ _ _ h => h) (fun w' hS' => run_v (ld3 hS'.2.2.2.1)) hS ?_
       refine eH (bb 36 2047) ⟨#[vS b o h.length ca,vI i,vU,vU,vF,vP w.heap.size 0,vS b o h.length ca,vI i,vP b (o + i * 6),.agg #[vI 2,.string cS,vI cA,vI cB,.slice an nms.length cn,.slice av vls.length cv],vP w.heap.size 0,vI 2,vF,vF,vU,vU,vU,vU,vU,vU,vU,vU,vU,vU,vU,vU,vU,vU,vU,vU,vU,vU,vU,vU,vU,vU,vU,vU,vU,vU,vU,vU,vU,vU,vU,vU,vU,vT,vT,vP w.heap.size 1,.string cS,vT,vT,vP w.heap.size 2,vI cA,vT,vT,vT,vP w.heap.size 3,vI cB,vU,vU,vU,vU,vU,vU,vU,vU,vU,vU,vU,vU,vU,vU,vU,vU,vU,vU,vU,vU,vU,vU,vU,vU,vU,vU,vU,vU,vU,vU,vU,vU,vU,vU,vU,vU,vU,vU,vU,vU,vU,vU,vU,vU,vU,vU,vU,vU,vU,vU,vU,vU,vU,vU,vU,vU,vU,vU,vU,vU,vU,vU], []⟩ (by kernel_rfl) (by kernel_rfl) ?_
       refine tL 11 (.bool true) rfl (by kernel_rfl) (fun _ _ _ h => h) (fun w' hS' => run_v (ge0 g_bp w')) hS ?_
       refine tK 12 (vT) rfl (by kernel_rfl) (fun _ _ _ h => h) (fun _ => by kernel_rfl) hS ?_
       refine tK 13 (vT) rfl (by kernel_rfl) (fun _ _ _ h => h) (fun _ => by kernel_rfl) hS ?_
       refine tK 14 (vP w.heap.size 4) rfl (by kernel_rfl) (fun _ _ _ h => h) (fun _ => by kernel_rfl) hS ?_
       refine eH (bb 36 32767) ⟨#[vS b o h.length ca,vI i,vU,vU,vF,vP w.heap.size 0,vS b o h.length ca,vI i,vP b (o + i * 6),.agg #[vI 2,.string cS,vI cA,vI cB,.slice an nms.length cn,.slice av vls.length cv],vP w.heap.size 0,vI 2,vF,vF,vU,vU,vU,vU,vU,vU,vU,vU,vU,vU,vU,vU,vU,vU,vU,vU,vU,vU,vU,vU,vU,vU,vU,vU,vU,vU,vU,vU,vU,vU,vU,vU,vU,vT,vT,vP w.heap.size 1,.string cS,vT,vT,vP w.heap.size 2,vI cA,vT,vT,vT,vP w.heap.size 3,vI cB,vT,vT,vT,vP w.heap.size 4,vU,vU,vU,vU,vU,vU,vU,vU,vU,vU,vU,vU,vU,vU,vU,vU,vU,vU,vU,vU,vU,vU,vU,vU,vU,vU,vU,vU,vU,vU,vU,vU,vU,vU,vU,vU,vU,vU,vU,vU,vU,vU,vU,vU,vU,vU,vU,vU,vU,vU,vU,vU,vU,vU,vU,vU,vU,vU], []⟩ (by kernel_rfl) (by kernel_rfl) ?_
       refine tL 15 (.slice an nms.length cn) rfl (by kernel_rfl) (fun _ _ _ h => h) (fun w' hS' => run_v (ld35 hS'.2.2.2.2.1)) hS ?_
       refine eH (bb 36 65535) ⟨#[vS b o h.length ca,vI i,vU,vU,vF,vP w.heap.size 0,vS b o h.length ca,vI i,vP b (o + i * 6),.agg #[vI 2,.string cS,vI cA,vI cB,.slice an nms.length cn,.slice av vls.length cv],vP w.heap.size 0,vI 2,vF,vF,vU,vU,vU,vU,vU,vU,vU,vU,vU,vU,vU,vU,vU,vU,vU,vU,vU,vU,vU,vU,vU,vU,vU,vU,vU,vU,vU,vU,vU,vU,vU,vU,vU,vT,vT,vP w.heap.size 1,.string cS,vT,vT,vP w.heap.size 2,vI cA,vT,vT,vT,vP w.heap.size 3,vI cB,vT,vT,vT,vP w.heap.size 4,.slice an nms.length cn,vU,vU,vU,vU,vU,vU,vU,vU,vU,vU,vU,vU,vU,vU,vU,vU,vU,vU,vU,vU,vU,vU,vU,vU,vU,vU,vU,vU,vU,vU,vU,vU,vU,vU,vU,vU,vU,vU,vU,vU,vU,vU,vU,vU,vU,vU,vU,vU,vU,vU,vU,vU,vU,vU,vU,vU,vU], []⟩ (by kernel_rfl) (by kernel_rfl) ?_
       refine wpAnyH_all (rs := [16]) (by kernel_rfl) (by simp) fun j hj => ?_
       obtain rfl : j = 16 := by simpa using hj
       refine opw_call (f := 134) (args := #[.slice an nms.length cn]) rfl (by kernel_rfl) (by kernel_rfl) ((HNA.out _ hS.1).mono ?_)
       rintro e w5 ⟨rfl, hb4⟩
       have hb5 : Below w.heap.size w w5 := hS.1.trans (hb4.mono hS.1.size)
       have k5 : w5.heap[w.heap.size]? = some _ := (hb4.block _ hsA).trans KA.out
       clear hS
       have hS : (Below w.heap.size w w5 ∧ w5.cell? ⟨w.heap.size, 1, none⟩ = some (.string cS) ∧ w5.cell? ⟨w.heap.size, 2, none⟩ = some (.int .i64 cA) ∧ w5.cell? ⟨w.heap.size, 3, none⟩ = some (.int .i64 cB) ∧ w5.cell? ⟨w.heap.size, 4, none⟩ = some (.slice an nms.length cn) ∧ w5.cell? ⟨w.heap.size, 5, none⟩ = some (.slice av vls.length cv)) := ⟨hb5, cell_blk (j := 1) k5 rfl, cell_blk (j := 2) k5 rfl, cell_blk (j := 3) k5 rfl, cell_blk (j := 4) k5 rfl, cell_blk (j := 5) k5 rfl⟩
       refine ⟨_, rfl, hS, ?_⟩
       refine tK 17 (vT) rfl (by kernel_rfl) (fun _ _ _ h => h) (fun _ => by kernel_rfl) hS ?_
       refine tK 18 (vT) rfl (by kernel_rfl) (fun _ _ _ h => h) (fun _ => by kernel_rfl) hS ?_
       refine tK 19 (vP w.heap.size 5) rfl (by kernel_rfl) (fun _ _ _ h => h) (fun _ => by kernel_rfl) hS ?_
       refine eH (bb 36 1048575) ⟨#[vS b o h.length ca,vI i,vU,vU,vF,vP w.heap.size 0,vS b o h.length ca,vI i,vP b (o + i * 6),.agg #[vI 2,.string cS,vI cA,vI cB,.slice an nms.length cn,.slice av vls.length cv],vP w.heap.size 0,vI 2,vF,vF,vU,vU,vU,vU,vU,vU,vU,vU,vU,vU,vU,vU,vU,vU,vU,vU,vU,vU,vU,vU,vU,vU,vU,vU,vU,vU,vU,vU,vU,vU,vU,vU,vU,vT,vT,vP w.heap.size 1,.string cS,vT,vT,vP w.heap.size 2,vI cA,vT,vT,vT,vP w.heap.size 3,vI cB,vT,vT,vT,vP w.heap.size 4,.slice an nms.length cn,vT,vT,vT,vP w.heap.size 5,vU,vU,vU,vU,vU,vU,vU,vU,vU,vU,vU,vU,vU,vU,vU,vU,vU,vU,vU,vU,vU,vU,vU,vU,vU,vU,vU,vU,vU,vU,vU,vU,vU,vU,vU,vU,vU,vU,vU,vU,vU,vU,vU,vU,vU,vU,vU,vU,vU,vU,vU,vU,vU], []⟩ (by kernel_rfl) (by kernel_rfl) ?_
       refine tL 20 (.slice av vls.length cv) rfl (by kernel_rfl) (fun _ _ _ h => h) (fun w' hS' => run_v (ld41 hS'.2.2.2.2.2)) hS ?_
       refine tK 21 (vI vls.length) rfl (by kernel_rfl) (fun _ _ _ h => h) (fun _ => by kernel_rfl) hS ?_
       refine tK 22 (vP w.heap.size 4) rfl (by kernel_rfl) (fun _ _ _ h => h) (fun _ => by kernel_rfl) hS ?_
       refine eH (bb 36 8388607) ⟨#[vS b o h.length ca,vI i,vU,vU,vF,vP w.heap.size 0,vS b o h.length ca,vI i,vP b (o + i * 6),.agg #[vI 2,.string cS,vI cA,vI cB,.slice an nms.length cn,.slice av vls.length cv],vP w.heap.size 0,vI 2,vF,vF,vU,vU,vU,vU,vU,vU,vU,vU,vU,vU,vU,vU,vU,vU,vU,vU,vU,vU,vU,vU,vU,vU,vU,vU,vU,vU,vU,vU,vU,vU,vU,vU,vU,vT,vT,vP w.heap.size 1,.string cS,vT,vT,vP w.heap.size 2,vI cA,vT,vT,vT,vP w.heap.size 3,vI cB,vT,vT,vT,vP w.heap.size 4,.slice an nms.length cn,vT,vT,vT,vP w.heap.size 5,.slice av vls.length cv,vI vls.length,vP w.heap.size 4,vU,vU,vU,vU,vU,vU,vU,vU,vU,vU,vU,vU,vU,vU,vU,vU,vU,vU,vU,vU,vU,vU,vU,vU,vU,vU,vU,vU,vU,vU,vU,vU,vU,vU,vU,vU,vU,vU,vU,vU,vU,vU,vU,vU,vU,vU,vU,vU,vU,vU], []⟩ (by kernel_rfl) (by kernel_rfl) ?_
       refine tL 23 (.slice an nms.length cn) rfl (by kernel_rfl) (fun _ _ _ h => h) (fun w' hS' => run_v (ld35 hS'.2.2.2.2.1)) hS ?_
       refine tK 24 (vI nms.length) rfl (by kernel_rfl) (fun _ _ _ h => h) (fun _ => by kernel_rfl) hS ?_
       refine eH (bb 36 33554431) ⟨#[vS b o h.length ca,vI i,vU,vU,vF,vP w.heap.size 0,vS b o h.length ca,vI i,vP b (o + i * 6),.agg #[vI 2,.string cS,vI cA,vI cB,.slice an nms.length cn,.slice av vls.length cv],vP w.heap.size 0,vI 2,vF,vF,vU,vU,vU,vU,vU,vU,vU,vU,vU,vU,vU,vU,vU,vU,vU,vU,vU,vU,vU,vU,vU,vU,vU,vU,vU,vU,vU,vU,vU,vU,vU,vU,vU,vT,vT,vP w.heap.size 1,.string cS,vT,vT,vP w.heap.size 2,vI cA,vT,vT,vT,vP w.heap.size 3,vI cB,vT,vT,vT,vP w.heap.size 4,.slice an nms.length cn,vT,vT,vT,vP w.heap.size 5,.slice av vls.length cv,vI vls.length,vP w.heap.size 4,.slice an nms.length cn,vI nms.length,vU,vU,vU,vU,vU,vU,vU,vU,vU,vU,vU,vU,vU,vU,vU,vU,vU,vU,vU,vU,vU,vU,vU,vU,vU,vU,vU,vU,vU,vU,vU,vU,vU,vU,vU,vU,vU,vU,vU,vU,vU,vU,vU,vU,vU,vU,vU,vU], []⟩ (by kernel_rfl) (by kernel_rfl) ?_
       refine tL 25 (.bool false) rfl (by kernel_rfl) (fun _ _ _ h => h) (fun w' hS' => run_v (eqn g_vn w')) hS ?_
       refine tK 26 (vF) rfl (by kernel_rfl) (fun _ _ _ h => h) (fun _ => by kernel_rfl) hS ?_
       refine tK 27 (vF) rfl (by kernel_rfl) (fun _ _ _ h => h) (fun _ => by kernel_rfl) hS ?_
       refine tU 28 rfl (by kernel_rfl) (fun _ _ _ h => h) hS ?_
       refine tU 29 rfl (by kernel_rfl) (fun _ _ _ h => h) hS ?_
       refine tU 30 rfl (by kernel_rfl) (fun _ _ _ h => h) hS ?_
       refine tU 31 rfl (by kernel_rfl) (fun _ _ _ h => h) hS ?_
       refine tU 32 rfl (by kernel_rfl) (fun _ _ _ h => h) hS ?_
       refine tU 33 rfl (by kernel_rfl) (fun _ _ _ h => h) hS ?_
       refine tK 34 (vF) rfl (by kernel_rfl) (fun _ _ _ h => h) (fun _ => by kernel_rfl) hS ?_
       refine tK 35 (vF) rfl (by kernel_rfl) (fun _ _ _ h => h) (fun _ => by kernel_rfl) hS ?_
       refine eH (bb 36 68719476735) ⟨#[.slice (some ⟨b, o, none⟩) h.length ca, .int .i64 i, undef, undef, .bool false, .pointer (some ⟨w.heap.size, 0, none⟩), .slice (some ⟨b, o, none⟩) h.length ca, .int .i64 i, .pointer (some ⟨b, o + i * 6, none⟩), .agg #[.int .i64 2, .string cS, .int .i64 cA, .int .i64 cB, .slice an nms.length cn, .slice av vls.length cv], .pointer (some ⟨w.heap.size, 0, none⟩), .int .i64 2, .bool false, .bool false, undef, undef, undef, undef, undef, undef, undef, undef, undef, undef, undef, undef, undef, undef, undef, undef, undef, undef, undef, undef, undef, undef, undef, undef, undef, undef, undef, undef, undef, undef, undef, undef, undef, .bool true, .bool true, .pointer (some ⟨w.heap.size, 1, none⟩), .string cS, .bool true, .bool true, .pointer (some ⟨w.heap.size, 2, none⟩), .int .i64 cA, .bool true, .bool true, .bool true, .pointer (some ⟨w.heap.size, 3, none⟩), .int .i64 cB, .bool true, .bool true, .bool true, .pointer (some ⟨w.heap.size, 4, none⟩), .slice an nms.length cn, .bool true, .bool true, .bool true, .pointer (some ⟨w.heap.size, 5, none⟩), .slice av vls.length cv, .int .i64 vls.length, .pointer (some ⟨w.heap.size, 4, none⟩), .slice an nms.length cn, .int .i64 nms.length, .bool false, .bool false, .bool false, undef, undef, undef, undef, undef, undef, .bool false, undef, undef, undef, undef, undef, undef, undef, undef, undef, undef, undef, undef, undef, undef, undef, undef, undef, undef, undef, undef, undef, undef, undef, undef, undef, undef, undef, undef, undef, undef, undef, undef, undef, undef, undef, undef, undef, undef], []⟩ (by kernel_rfl) (by kernel_rfl) ?_
       refine wpAnyH_done (by kernel_rfl) ?_ _
       go_wp2
       go_ret
       exact ⟨rfl, hb5⟩
    ·have g_bp : decide (0 ≤ cB) = false := decide_eq_false p_bp
     have HQ : Hid (Cel.ok h i (⟨2, cS, cA, cB, nms, vls⟩ : Cel) = false) := by show _ = _; rw [HO.out]; unfold Cel.shape; simp [p_bp]
     rw [HQ.out]
     clear p_s0 p_ap p_bp
     go_enter Tryz.func114, Tryz.ntmps114
     go_wp2_with fail
     rw [HW.out]
     clear HW
     go_quiet (fail)
     go_wp2
     go_ret
     exact ⟨rfl, below_drewN hbA _⟩
   ·have g_ap : decide (0 ≤ cA) = false := decide_eq_false p_ap
    have HQ : Hid (Cel.ok h i (⟨2, cS, cA, cB, nms, vls⟩ : Cel) = false) := by show _ = _; rw [HO.out]; unfold Cel.shape; simp [p_ap]
    rw [HQ.out]
    clear p_s0 p_ap
    go_enter Tryz.func114, Tryz.ntmps114
    go_wp2_with fail
    rw [HW.out]
    clear HW
    go_quiet (fail)
    go_wp2
    go_ret
    exact ⟨rfl, below_drewN hbA _⟩
  ·have g_s0 : (cS.toList == []) = false := str_ne p_s0
   have HQ : Hid (Cel.ok h i (⟨2, cS, cA, cB, nms, vls⟩ : Cel) = false) := by show _ = _; rw [HO.out]; unfold Cel.shape; simp [p_s0]
   rw [HQ.out]
   clear p_s0
   go_enter Tryz.func114, Tryz.ntmps114
   go_wp2_with fail
   rw [HW.out]
   clear HW
   go_quiet (fail)
   go_wp2
   go_ret
   exact ⟨rfl, below_drewN hbA _⟩
 by_cases h3 : ck = 3
 ·subst h3
  by_cases p_s0 : cS.size = 0
  ·have g_s0 : (cS.toList == []) = true := by rw [size_zero p_s0, ByteArray.toList_eq]; rfl
   have HQ : Hid (Cel.ok h i (⟨3, cS, cA, cB, nms, vls⟩ : Cel) = false) := by show _ = _; rw [HO.out]; unfold Cel.shape; simp [p_s0]
   rw [HQ.out]
   clear p_s0
   go_enter Tryz.func114, Tryz.ntmps114
   go_wp2
   go_ret
   exact ⟨by first | rfl | (simp; done), by rw [HW.out]; exact hbA⟩
  ·have g_s0 : (cS.toList == []) = false := str_ne p_s0
   by_cases p_ap : 0 ≤ cA
   ·have g_ap : decide (0 ≤ cA) = true := decide_eq_true p_ap
    by_cases p_al : cA ≤ 1000
    ·have g_al : decide (cA ≤ 1000) = true := decide_eq_true p_al
     by_cases p_b0 : cB = 0
     ·have g_b0 : (cB == 0) = true := beq_iff_eq.2 p_b0
      by_cases p_n0 : nms.length = 0
      ·have g_n0 : ((nms.length : Int) == 0) = true := beq_iff_eq.2 (by omega)
       by_cases p_v8 : vls.length ≤ 8
       ·have g_v8 : decide ((vls.length : Int) ≤ 8) = true := decide_eq_true (by omega)
        have HQ : Hid (Cel.ok h i (⟨3, cS, cA, cB, nms, vls⟩ : Cel) = vls.all (·.ok h)) := by show _ = _; rw [HO.out]; unfold Cel.shape Cel.fits; simp [p_s0, p_ap, p_al, p_b0, p_n0, p_v8]
        rw [HQ.out]
        clear HQ HO p_s0 p_ap p_al p_b0 p_n0 p_v8
        rw [← HW.out] at hbA hsA KA
        go_enter Tryz.func114, Tryz.ntmps114
        go_wp2_with (go_at_call 88; refine (HV3.out _ hbA).mono ?_; rintro e w2 ⟨rfl, hb2⟩)
        go_ret
        exact ⟨rfl, bT hbA hb2⟩
       ·have g_v8 : decide ((vls.length : Int) ≤ 8) = false := decide_eq_false (by omega)
        have HQ : Hid (Cel.ok h i (⟨3, cS, cA, cB, nms, vls⟩ : Cel) = false) := by show _ = _; rw [HO.out]; unfold Cel.shape; simp [p_v8]
        rw [HQ.out]
        clear p_s0 p_ap p_al p_b0 p_n0 p_v8
        go_enter Tryz.func114, Tryz.ntmps114
        go_wp2
        go_ret
        exact ⟨by first | rfl | (simp; done), by rw [HW.out]; exact hbA⟩
      ·have g_n0 : ((nms.length : Int) == 0) = false := beq_eq_false_iff_ne.2 (by omega)
       have HQ : Hid (Cel.ok h i (⟨3, cS, cA, cB, nms, vls⟩ : Cel) = false) := by show _ = _; rw [HO.out]; unfold Cel.shape; simp [p_n0]
       rw [HQ.out]
       clear p_s0 p_ap p_al p_b0 p_n0
       go_enter Tryz.func114, Tryz.ntmps114
       go_wp2
       go_ret
       exact ⟨by first | rfl | (simp; done), by rw [HW.out]; exact hbA⟩
     ·have g_b0 : (cB == 0) = false := beq_eq_false_iff_ne.2 p_b0
      have HQ : Hid (Cel.ok h i (⟨3, cS, cA, cB, nms, vls⟩ : Cel) = false) := by show _ = _; rw [HO.out]; unfold Cel.shape; simp [p_b0]
      rw [HQ.out]
      clear p_s0 p_ap p_al p_b0
      go_enter Tryz.func114, Tryz.ntmps114
      go_wp2
      go_ret
      exact ⟨by first | rfl | (simp; done), by rw [HW.out]; exact hbA⟩
    ·have g_al : decide (cA ≤ 1000) = false := decide_eq_false p_al
     have HQ : Hid (Cel.ok h i (⟨3, cS, cA, cB, nms, vls⟩ : Cel) = false) := by show _ = _; rw [HO.out]; unfold Cel.shape; simp [p_al]
     rw [HQ.out]
     clear p_s0 p_ap p_al
     go_enter Tryz.func114, Tryz.ntmps114
     go_wp2
     go_ret
     exact ⟨by first | rfl | (simp; done), by rw [HW.out]; exact hbA⟩
   ·have g_ap : decide (0 ≤ cA) = false := decide_eq_false p_ap
    have HQ : Hid (Cel.ok h i (⟨3, cS, cA, cB, nms, vls⟩ : Cel) = false) := by show _ = _; rw [HO.out]; unfold Cel.shape; simp [p_ap]
    rw [HQ.out]
    clear p_s0 p_ap
    go_enter Tryz.func114, Tryz.ntmps114
    go_wp2
    go_ret
    exact ⟨by first | rfl | (simp; done), by rw [HW.out]; exact hbA⟩
 have HQ : Hid (Cel.ok h i (⟨ck, cS, cA, cB, nms, vls⟩ : Cel) = false) := by show _ = _; rw [HO.out]; unfold Cel.shape; simp [h1, h2, h3]
 rw [HQ.out]
 go_enter Tryz.func114, Tryz.ntmps114
 go_wp2
 go_ret
 exact ⟨rfl, by rw [HW.out]; exact hbA⟩
theorem implHeap_any (a : Option Addr) (h : List Cel) (ca : Nat) (w : World) (hl : h.length ≤ 1048576) (hca : h.length ≤ ca) (hsm : ∀ d ∈ h, d.small) (hr : RowC w w.heap.size a h) :
  Calls Tryz.prog 81 #[.slice a h.length ca] w fun e w' => HpPost h w e w' := by
 by_cases h0 : 300 < h.length
 ·have g0 : decide ((300 : Int) < (h.length : Int)) = true := by simp; omega
  have HQ : Hid (¬ HeapP h) := fun hq => by have := hq.1; omega
  clear hr hsm
  go_enter Tryz.func81, Tryz.ntmps81
  go_wp2
  go_ret
  exact HpPost.no HQ.out (Below.refl _ _)
 ·have g0 : decide ((300 : Int) < (h.length : Int)) = false := by simp; omega
  have HC : Hid (∀ (i : Nat) (c : Cel) (w1 : World), h[i]? = some c → Below w.heap.size w w1 → Calls Tryz.prog 114 #[.slice a h.length ca, .int .i64 i] w1 fun e w' => Ans w1 (.bool (c.ok h i)) e w') := fun i c w1 hi hb => implCel_any a h ca i c w1 hl hca hi hsm ((hr.below hb).mono hb.size)
  have HP : Hid ((∀ (i : Nat) (c : Cel), h[i]? = some c → c.ok h i = true) → HeapP h) := fun hq => ⟨by omega, hq⟩
  clear hr hsm
  go_enter Tryz.func81, Tryz.ntmps81
  go_wp2
  go_loopw [9] (fun o wr => ∃ i : Nat, i ≤ h.length ∧ o = .int .i64 i ∧ (∀ (j : Nat) (c : Cel), j < i → h[j]? = some c → c.ok h j = true) ∧ Below w.heap.size w wr)
   (fun o _ => h.length - (intOf o).toNat)
  case atStart => exact ⟨0, by omega, rfl, fun j c hj => absurd hj (by omega), Below.refl _ _⟩
  case round =>
   obtain ⟨i, hi, rfl, hall, hb⟩ := hrel
   by_cases hlt : i < h.length
   ·obtain ⟨c, hc⟩ : ∃ c, h[i]? = some c := ⟨_, List.getElem?_eq_getElem hlt⟩
    have HC2 := HC.out i c wr hc hb
    have HC3 : Hid (Calls Tryz.prog 114 #[.slice a h.length ca, .int .i64 i] wr fun e w' => Ans wr (.bool (c.ok h i)) e w') := HC2
    clear HC2
    cases hok : c.ok h i
    ·rw [hok] at HC3
     have HQ : Hid (¬ HeapP h) := fun hq => by have := hq.2 i c hc; rw [hok] at this; cases this
     clear hall hok hc HC HP
     go_wp2_with (go_at_call 114; refine HC3.out.mono ?_; rintro e w2 ⟨rfl, hb2⟩)
     go_ret
     exact HpPost.no HQ.out (bT hb hb2)
    ·rw [hok] at HC3
     have HQ : Hid (∀ (j : Nat) (c : Cel), j < i + 1 → h[j]? = some c → c.ok h j = true) := fun j c' hj hc' => by
      by_cases hji : j = i
      ·subst hji
       obtain rfl : c = c' := Option.some.inj (hc.symm.trans hc')
       exact hok
      ·exact hall j c' (by omega) hc'
     clear hall hok hc HC HP
     go_wp2_with (go_at_call 114; refine HC3.out.mono ?_; rintro e w2 ⟨rfl, hb2⟩)
     go_roundw
     case rel => exact ⟨i + 1, by omega, by go_num, HQ.out, bT hb hb2⟩
     case measure => simp [intOf]; omega
   ·obtain rfl : i = h.length := by omega
    have HQ : Hid (HeapP h) := HP.out fun j c hc => hall j c (List.getElem?_eq_some_iff.1 hc).1 hc
    have hlt' : decide ((h.length : Int) < (h.length : Int)) = false := by simp
    clear hall HC HP
    go_wp2
    go_ret
    exact HpPost.yes HQ.out hb
end Go.Proofs.YtlacidojljilaaaGreatDoor
