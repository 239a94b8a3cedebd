/- Is what a library has right? The program's way. -/
import Derived.Test.YtlacidojljilaaaGreatDoorSia
import Derived.Test.YtlacidojljilaaaGreatDoorSib
set_option linter.unusedVariables false
set_option maxRecDepth 100000
set_option maxHeartbeats 8000000
namespace Go.Proofs.YtlacidojljilaaaGreatDoor
open Go.ChangeShapes Go.WideShapes Go.ChangeAt Go.RowKit
theorem contents_any (y : Sy) (x : Ins) (y1 y2 y3 y4 : Option Addr) (d1 d2 d3 d4 : Nat) (a1 a2 a3 a4 : Option Addr) (c1 c2 c3 c4 : Nat) (w : World) (hh : y.heap.length ≤ 1048576) (hi : y.insts.length ≤ 1048576) (hrh : RowC w w.heap.size y1 y.heap) (hs : x.small) (hr : InsRows w (fun b => b < w.heap.size) a1 a2 a3 a4 c1 c2 c3 c4 x) :
  Calls Tryz.prog 117 #[.agg #[.slice y1 y.heap.length d1, .slice y2 y.insts.length d2, .slice y3 y.units.length d3, .slice y4 y.out.length d4], .agg #[.string x.lib, .int .i64 x.ver, .slice a1 x.names.length c1, .slice a2 x.vals.length c2, .slice a3 x.links.length c3, .slice a4 x.types.length c4]] w fun e w' => Ans w (.bool (x.cont y.heap y.insts.length)) e w' := by
 have HS : Hid x.small := hs
 have HR : Hid (InsRows w (fun b => b < w.heap.size) a1 a2 a3 a4 c1 c2 c3 c4 x) := hr
 obtain ⟨_, _, ⟨s1, s1'⟩, ⟨s2, s2'⟩, ⟨s3, s3'⟩, ⟨s4, s4'⟩⟩ := hs
 obtain ⟨⟨r1, t1⟩, ⟨r2, t2⟩, ⟨r3, t3⟩, ⟨r4, t4⟩⟩ := hr
 have now : ∀ w2, Below w.heap.size w w2 → InsRows w2 (fun b => b < w2.heap.size) a1 a2 a3 a4 c1 c2 c3 c4 x := fun w2 h2 => HR.out.keep fun b hb => ⟨Nat.lt_of_lt_of_le hb h2.size, h2.block b hb⟩
 have HC0 : Hid (∀ w2, Below w.heap.size w w2 → Calls Tryz.prog 136 #[.agg #[.string x.lib, .int .i64 x.ver, .slice a1 x.names.length c1, .slice a2 x.vals.length c2, .slice a3 x.links.length c3, .slice a4 x.types.length c4]] w2 fun e w' => ∃ v, e = .returned v ∧ OwnS w' w2.heap.size v x.lns ∧ Below w2.heap.size w2 w') := fun w2 h2 => reached_any x a1 a2 a3 a4 c1 c2 c3 c4 w2 HS.out (now w2 h2)
 have HC1 : Hid (x.names.length ≤ 30 → x.links.length ≤ 30 → ∀ (w2 : World) (B : Nat) (a : Option Addr) (c : Nat), OwnS w2 B (.slice a x.lns.length c) x.lns → x.lns.length ≤ c → Calls Tryz.prog 135 #[.slice a x.lns.length c] w2 fun e w' => Ans w2 (.bool (nmA x.lns)) e w') := fun q1 q2 w2 B a c ho hc => namesOk_any a x.lns c w2 (by unfold Ins.lns; rw [List.length_append, List.length_map]; omega) hc ho.rowS (fun z hz => by
  unfold Ins.lns at hz
  rcases List.mem_append.1 hz with hz | hz
  ·exact s1' z hz
  ·obtain ⟨t, ht, rfl⟩ := List.mem_map.1 hz
   exact (s3' t ht).1)
 have HC2 : Hid (∀ w2, Below w.heap.size w w2 → Calls Tryz.prog 137 #[.slice y1 y.heap.length d1, .agg #[.string x.lib, .int .i64 x.ver, .slice a1 x.names.length c1, .slice a2 x.vals.length c2, .slice a3 x.links.length c3, .slice a4 x.types.length c4]] w2 fun e w' => Ans w2 (.bool (x.vok y.heap)) e w') := fun w2 h2 => ownValues_any y1 y.heap d1 x a1 a2 a3 a4 c1 c2 c3 c4 w2 hh ((hrh.below h2).mono h2.size) HS.out (now w2 h2)
 have HC3 : Hid (∀ w2, Below w.heap.size w w2 → Calls Tryz.prog 138 #[.slice y2 y.insts.length d2, .slice a3 x.links.length c3] w2 fun e w' => Ans w2 (.bool (x.links.all (Lnk.ok y.insts.length))) e w') := fun w2 h2 => linksOk_any y2 y.insts.length d2 a3 x.links c3 w2 s3 hi s3' (now w2 h2).2.2.1.1
 have HC4 : Hid (∀ w2, Below w.heap.size w w2 → Calls Tryz.prog 139 #[.slice a4 x.types.length c4] w2 fun e w' => Ans w2 (.bool (x.types.all Typ.ok && nmA x.tns)) e w') := fun w2 h2 => typesOk_any a4 x.types c4 w2 s4 s4' (now w2 h2).2.2.2.1
 have HQ : Hid (x.cont y.heap y.insts.length = (decide (x.names.length ≤ 30) && decide (x.links.length ≤ 30) && decide (x.types.length ≤ 8) && nmA x.lns && x.vok y.heap && x.links.all (Lnk.ok y.insts.length) && (x.types.all Typ.ok && nmA x.tns))) := rfl
 rw [HQ.out]
 have hb0 : Below w.heap.size w ((w.alloc (Obj.cells #[.slice y1 y.heap.length d1, .slice y2 y.insts.length d2, .slice y3 y.units.length d3, .slice y4 y.out.length d4] 41)).alloc (Obj.cells #[.string x.lib, .int .i64 x.ver, .slice a1 x.names.length c1, .slice a2 x.vals.length c2, .slice a3 x.links.length c3, .slice a4 x.types.length c4] 112)) := (bR _ _).alloc (by simp) _
 have k0 : ((w.alloc (Obj.cells #[.slice y1 y.heap.length d1, .slice y2 y.insts.length d2, .slice y3 y.units.length d3, .slice y4 y.out.length d4] 41)).alloc (Obj.cells #[.string x.lib, .int .i64 x.ver, .slice a1 x.names.length c1, .slice a2 x.vals.length c2, .slice a3 x.links.length c3, .slice a4 x.types.length c4] 112)).heap[w.heap.size]? = some (Obj.cells #[.slice y1 y.heap.length d1, .slice y2 y.insts.length d2, .slice y3 y.units.length d3, .slice y4 y.out.length d4] 41) := blk_past (blk_at _ _ _ rfl)
 have k1 : ((w.alloc (Obj.cells #[.slice y1 y.heap.length d1, .slice y2 y.insts.length d2, .slice y3 y.units.length d3, .slice y4 y.out.length d4] 41)).alloc (Obj.cells #[.string x.lib, .int .i64 x.ver, .slice a1 x.names.length c1, .slice a2 x.vals.length c2, .slice a3 x.links.length c3, .slice a4 x.types.length c4] 112)).heap[w.heap.size + 1]? = some (Obj.cells #[.string x.lib, .int .i64 x.ver, .slice a1 x.names.length c1, .slice a2 x.vals.length c2, .slice a3 x.links.length c3, .slice a4 x.types.length c4] 112) := blk_at _ _ _ (by simp)
 clear r1 r2 r3 r4 now hrh s1' s2' s3' s4' HR HS HQ
 by_cases g1 : x.names.length ≤ 30
 ·have f1 : decide ((x.names.length : Int) ≤ 30) = true := by simp; omega
  rw [decide_eq_true g1]
  by_cases g2 : x.links.length ≤ 30
  ·have f2 : decide ((x.links.length : Int) ≤ 30) = true := by simp; omega
   rw [decide_eq_true g2]
   by_cases g3 : x.types.length ≤ 8
   ·have f3 : decide ((x.types.length : Int) ≤ 8) = true := by simp; omega
    rw [decide_eq_true g3]
    cases bN : nmA x.lns
    ·skip
     simp only [Bool.and_false, Bool.false_and]
     go_enter Tryz.func117, Tryz.ntmps117
     go_wp2_with fail
     refine (HC0.out _ hb0).mono ?_
     rintro e v0 ⟨v, rfl, ho, hv⟩
     obtain ⟨va, vc, rfl, hvc⟩ := ho.slice
     have hb1 : Below w.heap.size w v0 := bT hb0 hv
     have k0 := bK k0 hv
     have k1 := bK k1 hv
     have HN : Hid (Calls Tryz.prog 135 #[.slice va x.lns.length vc] v0 fun e w' => Ans v0 (.bool (nmA x.lns)) e w') := HC1.out g1 g2 v0 _ va vc ho hvc
     first | rw [bN] at HN | skip
     clear ho hv
     generalize x.lns.length = nl at *
     go_wp2_with fail
     refine HN.out.mono ?_
     rintro e v1 ⟨rfl, hv⟩
     have hb2 : Below w.heap.size w v1 := bT hb1 hv
     have k0 := bK k0 hv
     have k1 := bK k1 hv
     clear hv
     obtain ⟨p0_0, p0_1, p0_2, p0_3⟩ := zn4 k0 rfl rfl rfl rfl
     obtain ⟨q0_0, q0_1, q0_2, q0_3, q0_4, q0_5⟩ := zn6 k1 rfl rfl rfl rfl rfl rfl
     go_wp2
     go_ret
     exact ⟨rfl, hb2⟩
    ·skip
     cases b2 : x.vok y.heap
     ·rw [b2] at HC2
      simp only [Bool.and_false, Bool.false_and]
      go_enter Tryz.func117, Tryz.ntmps117
      go_wp2_with fail
      refine (HC0.out _ hb0).mono ?_
      rintro e v0 ⟨v, rfl, ho, hv⟩
      obtain ⟨va, vc, rfl, hvc⟩ := ho.slice
      have hb1 : Below w.heap.size w v0 := bT hb0 hv
      have k0 := bK k0 hv
      have k1 := bK k1 hv
      have HN : Hid (Calls Tryz.prog 135 #[.slice va x.lns.length vc] v0 fun e w' => Ans v0 (.bool (nmA x.lns)) e w') := HC1.out g1 g2 v0 _ va vc ho hvc
      first | rw [bN] at HN | skip
      clear ho hv
      generalize x.lns.length = nl at *
      go_wp2_with fail
      refine HN.out.mono ?_
      rintro e v1 ⟨rfl, hv⟩
      have hb2 : Below w.heap.size w v1 := bT hb1 hv
      have k0 := bK k0 hv
      have k1 := bK k1 hv
      clear hv
      obtain ⟨p0_0, p0_1, p0_2, p0_3⟩ := zn4 k0 rfl rfl rfl rfl
      obtain ⟨q0_0, q0_1, q0_2, q0_3, q0_4, q0_5⟩ := zn6 k1 rfl rfl rfl rfl rfl rfl
      go_wp2_with fail
      refine (HC2.out _ hb2).mono ?_
      rintro e v2 ⟨rfl, hv⟩
      have hb3 : Below w.heap.size w v2 := bT hb2 hv
      have k0 := bK k0 hv
      have k1 := bK k1 hv
      clear hv
      obtain ⟨p1_0, p1_1, p1_2, p1_3⟩ := zn4 k0 rfl rfl rfl rfl
      obtain ⟨q1_0, q1_1, q1_2, q1_3, q1_4, q1_5⟩ := zn6 k1 rfl rfl rfl rfl rfl rfl
      go_wp2
      go_ret
      exact ⟨rfl, hb3⟩
     ·rw [b2] at HC2
      cases b3 : x.links.all (Lnk.ok y.insts.length)
      ·rw [b3] at HC3
       simp only [Bool.and_false, Bool.false_and]
       go_enter Tryz.func117, Tryz.ntmps117
       go_wp2_with fail
       refine (HC0.out _ hb0).mono ?_
       rintro e v0 ⟨v, rfl, ho, hv⟩
       obtain ⟨va, vc, rfl, hvc⟩ := ho.slice
       have hb1 : Below w.heap.size w v0 := bT hb0 hv
       have k0 := bK k0 hv
       have k1 := bK k1 hv
       have HN : Hid (Calls Tryz.prog 135 #[.slice va x.lns.length vc] v0 fun e w' => Ans v0 (.bool (nmA x.lns)) e w') := HC1.out g1 g2 v0 _ va vc ho hvc
       first | rw [bN] at HN | skip
       clear ho hv
       generalize x.lns.length = nl at *
       go_wp2_with fail
       refine HN.out.mono ?_
       rintro e v1 ⟨rfl, hv⟩
       have hb2 : Below w.heap.size w v1 := bT hb1 hv
       have k0 := bK k0 hv
       have k1 := bK k1 hv
       clear hv
       obtain ⟨p0_0, p0_1, p0_2, p0_3⟩ := zn4 k0 rfl rfl rfl rfl
       obtain ⟨q0_0, q0_1, q0_2, q0_3, q0_4, q0_5⟩ := zn6 k1 rfl rfl rfl rfl rfl rfl
       go_wp2_with fail
       refine (HC2.out _ hb2).mono ?_
       rintro e v2 ⟨rfl, hv⟩
       have hb3 : Below w.heap.size w v2 := bT hb2 hv
       have k0 := bK k0 hv
       have k1 := bK k1 hv
       clear hv
       obtain ⟨p1_0, p1_1, p1_2, p1_3⟩ := zn4 k0 rfl rfl rfl rfl
       obtain ⟨q1_0, q1_1, q1_2, q1_3, q1_4, q1_5⟩ := zn6 k1 rfl rfl rfl rfl rfl rfl
       go_wp2_with fail
       refine (HC3.out _ hb3).mono ?_
       rintro e v3 ⟨rfl, hv⟩
       have hb4 : Below w.heap.size w v3 := bT hb3 hv
       have k0 := bK k0 hv
       have k1 := bK k1 hv
       clear hv
       obtain ⟨p2_0, p2_1, p2_2, p2_3⟩ := zn4 k0 rfl rfl rfl rfl
       obtain ⟨q2_0, q2_1, q2_2, q2_3, q2_4, q2_5⟩ := zn6 k1 rfl rfl rfl rfl rfl rfl
       go_wp2
       go_ret
       exact ⟨rfl, hb4⟩
      ·rw [b3] at HC3
       cases b4 : (x.types.all Typ.ok && nmA x.tns)
       ·rw [b4] at HC4
        simp only [Bool.and_false]
        go_enter Tryz.func117, Tryz.ntmps117
        go_wp2_with fail
        refine (HC0.out _ hb0).mono ?_
        rintro e v0 ⟨v, rfl, ho, hv⟩
        obtain ⟨va, vc, rfl, hvc⟩ := ho.slice
        have hb1 : Below w.heap.size w v0 := bT hb0 hv
        have k0 := bK k0 hv
        have k1 := bK k1 hv
        have HN : Hid (Calls Tryz.prog 135 #[.slice va x.lns.length vc] v0 fun e w' => Ans v0 (.bool (nmA x.lns)) e w') := HC1.out g1 g2 v0 _ va vc ho hvc
        first | rw [bN] at HN | skip
        clear ho hv
        generalize x.lns.length = nl at *
        go_wp2_with fail
        refine HN.out.mono ?_
        rintro e v1 ⟨rfl, hv⟩
        have hb2 : Below w.heap.size w v1 := bT hb1 hv
        have k0 := bK k0 hv
        have k1 := bK k1 hv
        clear hv
        obtain ⟨p0_0, p0_1, p0_2, p0_3⟩ := zn4 k0 rfl rfl rfl rfl
        obtain ⟨q0_0, q0_1, q0_2, q0_3, q0_4, q0_5⟩ := zn6 k1 rfl rfl rfl rfl rfl rfl
        go_wp2_with fail
        refine (HC2.out _ hb2).mono ?_
        rintro e v2 ⟨rfl, hv⟩
        have hb3 : Below w.heap.size w v2 := bT hb2 hv
        have k0 := bK k0 hv
        have k1 := bK k1 hv
        clear hv
        obtain ⟨p1_0, p1_1, p1_2, p1_3⟩ := zn4 k0 rfl rfl rfl rfl
        obtain ⟨q1_0, q1_1, q1_2, q1_3, q1_4, q1_5⟩ := zn6 k1 rfl rfl rfl rfl rfl rfl
        go_wp2_with fail
        refine (HC3.out _ hb3).mono ?_
        rintro e v3 ⟨rfl, hv⟩
        have hb4 : Below w.heap.size w v3 := bT hb3 hv
        have k0 := bK k0 hv
        have k1 := bK k1 hv
        clear hv
        obtain ⟨p2_0, p2_1, p2_2, p2_3⟩ := zn4 k0 rfl rfl rfl rfl
        obtain ⟨q2_0, q2_1, q2_2, q2_3, q2_4, q2_5⟩ := zn6 k1 rfl rfl rfl rfl rfl rfl
        go_wp2_with fail
        refine (HC4.out _ hb4).mono ?_
        rintro e v4 ⟨rfl, hv⟩
        have hb5 : Below w.heap.size w v4 := bT hb4 hv
        have k0 := bK k0 hv
        have k1 := bK k1 hv
        clear hv
        obtain ⟨p3_0, p3_1, p3_2, p3_3⟩ := zn4 k0 rfl rfl rfl rfl
        obtain ⟨q3_0, q3_1, q3_2, q3_3, q3_4, q3_5⟩ := zn6 k1 rfl rfl rfl rfl rfl rfl
        go_wp2
        go_ret
        exact ⟨rfl, hb5⟩
       ·rw [b4] at HC4
        simp only [Bool.and_true]
        go_enter Tryz.func117, Tryz.ntmps117
        go_wp2_with fail
        refine (HC0.out _ hb0).mono ?_
        rintro e v0 ⟨v, rfl, ho, hv⟩
        obtain ⟨va, vc, rfl, hvc⟩ := ho.slice
        have hb1 : Below w.heap.size w v0 := bT hb0 hv
        have k0 := bK k0 hv
        have k1 := bK k1 hv
        have HN : Hid (Calls Tryz.prog 135 #[.slice va x.lns.length vc] v0 fun e w' => Ans v0 (.bool (nmA x.lns)) e w') := HC1.out g1 g2 v0 _ va vc ho hvc
        first | rw [bN] at HN | skip
        clear ho hv
        generalize x.lns.length = nl at *
        go_wp2_with fail
        refine HN.out.mono ?_
        rintro e v1 ⟨rfl, hv⟩
        have hb2 : Below w.heap.size w v1 := bT hb1 hv
        have k0 := bK k0 hv
        have k1 := bK k1 hv
        clear hv
        obtain ⟨p0_0, p0_1, p0_2, p0_3⟩ := zn4 k0 rfl rfl rfl rfl
        obtain ⟨q0_0, q0_1, q0_2, q0_3, q0_4, q0_5⟩ := zn6 k1 rfl rfl rfl rfl rfl rfl
        go_wp2_with fail
        refine (HC2.out _ hb2).mono ?_
        rintro e v2 ⟨rfl, hv⟩
        have hb3 : Below w.heap.size w v2 := bT hb2 hv
        have k0 := bK k0 hv
        have k1 := bK k1 hv
        clear hv
        obtain ⟨p1_0, p1_1, p1_2, p1_3⟩ := zn4 k0 rfl rfl rfl rfl
        obtain ⟨q1_0, q1_1, q1_2, q1_3, q1_4, q1_5⟩ := zn6 k1 rfl rfl rfl rfl rfl rfl
        go_wp2_with fail
        refine (HC3.out _ hb3).mono ?_
        rintro e v3 ⟨rfl, hv⟩
        have hb4 : Below w.heap.size w v3 := bT hb3 hv
        have k0 := bK k0 hv
        have k1 := bK k1 hv
        clear hv
        obtain ⟨p2_0, p2_1, p2_2, p2_3⟩ := zn4 k0 rfl rfl rfl rfl
        obtain ⟨q2_0, q2_1, q2_2, q2_3, q2_4, q2_5⟩ := zn6 k1 rfl rfl rfl rfl rfl rfl
        go_wp2_with fail
        refine (HC4.out _ hb4).mono ?_
        rintro e v4 ⟨rfl, hv⟩
        have hb5 : Below w.heap.size w v4 := bT hb4 hv
        have k0 := bK k0 hv
        have k1 := bK k1 hv
        clear hv
        obtain ⟨p3_0, p3_1, p3_2, p3_3⟩ := zn4 k0 rfl rfl rfl rfl
        obtain ⟨q3_0, q3_1, q3_2, q3_3, q3_4, q3_5⟩ := zn6 k1 rfl rfl rfl rfl rfl rfl
        go_wp2
        go_ret
        exact ⟨rfl, hb5⟩
   ·have f3 : decide ((x.types.length : Int) ≤ 8) = false := by simp; omega
    rw [decide_eq_false g3]
    simp only [Bool.and_false, Bool.false_and]
    go_enter Tryz.func117, Tryz.ntmps117
    go_wp2
    go_ret
    exact ⟨rfl, hb0⟩
  ·have f2 : decide ((x.links.length : Int) ≤ 30) = false := by simp; omega
   rw [decide_eq_false g2]
   simp only [Bool.and_false, Bool.false_and]
   go_enter Tryz.func117, Tryz.ntmps117
   go_wp2
   go_ret
   exact ⟨rfl, hb0⟩
 ·have f1 : decide ((x.names.length : Int) ≤ 30) = false := by simp; omega
  rw [decide_eq_false g1]
  simp only [Bool.false_and]
  go_enter Tryz.func117, Tryz.ntmps117
  go_wp2
  go_ret
  exact ⟨rfl, hb0⟩
end Go.Proofs.YtlacidojljilaaaGreatDoor
