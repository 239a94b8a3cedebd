/- Is what a library has right? The program's way. -/
import Derived.Test.YtmnkomgdcebniaaGreatSia
import Derived.Test.YtmnkomgdcebniaaGreatSib
import Derived.Deep.RegionWith
set_option linter.unusedVariables false
namespace Go.Proofs.YtmnkomgdcebniaaGreat
open Go.ChangeShapes Go.WideShapes Go.ChangeAt Go.RowKit
set_option maxRecDepth 100000 in
set_option maxHeartbeats 1000000 in
theorem contents_any (y : Sy) (x : Ins) (y1 y2 y3 y4 : Option Addr) (d1 d2 d3 d4 : Nat) (a1 a2 a3 a4 : Option Addr) (c1 c2 c3 c4 : Nat) (w : World) (hh : y.heap.length ≤ 1048576) (hi : y.insts.length ≤ 1048576) (hrh : RowC w w.heap.size y1 y.heap) (hs : x.small) (hr : InsRows w (fun b => b < w.heap.size) a1 a2 a3 a4 c1 c2 c3 c4 x) :
  Calls Tryz.prog 89 #[.agg #[.slice y1 y.heap.length d1, .slice y2 y.insts.length d2, .slice y3 y.units.length d3, .slice y4 y.out.length d4], .agg #[.string x.lib, .int .i64 x.ver, .slice a1 x.names.length c1, .slice a2 x.vals.length c2, .slice a3 x.links.length c3, .slice a4 x.types.length c4]] w fun e w' => Ans w (.bool (x.cont y.heap y.insts.length)) e w' := by
 have HS : Hid x.small := hs
 have HR : Hid (InsRows w (fun b => b < w.heap.size) a1 a2 a3 a4 c1 c2 c3 c4 x) := hr
 obtain ⟨_, _, ⟨s1, s1'⟩, ⟨s2, s2'⟩, ⟨s3, s3'⟩, ⟨s4, s4'⟩⟩ := hs
 obtain ⟨⟨r1, t1⟩, ⟨r2, t2⟩, ⟨r3, t3⟩, ⟨r4, t4⟩⟩ := hr
 have now : ∀ w2, Below w.heap.size w w2 → InsRows w2 (fun b => b < w2.heap.size) a1 a2 a3 a4 c1 c2 c3 c4 x := fun w2 h2 => HR.out.keep fun b hb => ⟨Nat.lt_of_lt_of_le hb h2.size, h2.block b hb⟩
 have HC0 : Hid (∀ w2, Below w.heap.size w w2 → Calls Tryz.prog 131 #[.agg #[.string x.lib, .int .i64 x.ver, .slice a1 x.names.length c1, .slice a2 x.vals.length c2, .slice a3 x.links.length c3, .slice a4 x.types.length c4]] w2 fun e w' => ∃ v, e = .returned v ∧ OwnS w' w2.heap.size v x.lns ∧ Below w2.heap.size w2 w') := fun w2 h2 => reached_any x a1 a2 a3 a4 c1 c2 c3 c4 w2 HS.out (now w2 h2)
 have HC1 : Hid (x.names.length ≤ 30 → x.links.length ≤ 30 → ∀ (w2 : World) (B : Nat) (a : Option Addr) (c : Nat), OwnS w2 B (.slice a x.lns.length c) x.lns → x.lns.length ≤ c → Calls Tryz.prog 130 #[.slice a x.lns.length c] w2 fun e w' => Ans w2 (.bool (nmA x.lns)) e w') := fun q1 q2 w2 B a c ho hc => namesOk_any a x.lns c w2 (by unfold Ins.lns; rw [List.length_append, List.length_map]; omega) hc ho.rowS (fun z hz => by
  unfold Ins.lns at hz
  rcases List.mem_append.1 hz with hz | hz
  ·exact s1' z hz
  ·obtain ⟨t, ht, rfl⟩ := List.mem_map.1 hz
   exact (s3' t ht).1)
 have HC2 : Hid (∀ w2, Below w.heap.size w w2 → Calls Tryz.prog 132 #[.slice y1 y.heap.length d1, .agg #[.string x.lib, .int .i64 x.ver, .slice a1 x.names.length c1, .slice a2 x.vals.length c2, .slice a3 x.links.length c3, .slice a4 x.types.length c4]] w2 fun e w' => Ans w2 (.bool (x.vok y.heap)) e w') := fun w2 h2 => ownValues_any y1 y.heap d1 x a1 a2 a3 a4 c1 c2 c3 c4 w2 hh ((hrh.below h2).mono h2.size) HS.out (now w2 h2)
 have HC3 : Hid (∀ w2, Below w.heap.size w w2 → Calls Tryz.prog 133 #[.slice y2 y.insts.length d2, .slice a3 x.links.length c3] w2 fun e w' => Ans w2 (.bool (x.links.all (Lnk.ok y.insts.length))) e w') := fun w2 h2 => linksOk_any y2 y.insts.length d2 a3 x.links c3 w2 s3 hi s3' (now w2 h2).2.2.1.1
 have HC4 : Hid (∀ w2, Below w.heap.size w w2 → Calls Tryz.prog 134 #[.slice a4 x.types.length c4] w2 fun e w' => Ans w2 (.bool (x.types.all Typ.ok && nmA x.tns)) e w') := fun w2 h2 => typesOk_any a4 x.types c4 w2 s4 s4' (now w2 h2).2.2.2.1
 have HQ : Hid (x.cont y.heap y.insts.length = (decide (x.names.length ≤ 30) && decide (x.links.length ≤ 30) && decide (x.types.length ≤ 8) && nmA x.lns && x.vok y.heap && x.links.all (Lnk.ok y.insts.length) && (x.types.all Typ.ok && nmA x.tns))) := rfl
 rw [HQ.out]
 have hb0 : Below w.heap.size w ((w.alloc (Obj.cells #[.slice y1 y.heap.length d1, .slice y2 y.insts.length d2, .slice y3 y.units.length d3, .slice y4 y.out.length d4] 34)).alloc (Obj.cells #[.string x.lib, .int .i64 x.ver, .slice a1 x.names.length c1, .slice a2 x.vals.length c2, .slice a3 x.links.length c3, .slice a4 x.types.length c4] 137)) := ((Below.refl _ _).alloc (Nat.le_refl _) _).alloc (by simp) _
 have k0 : ((w.alloc (Obj.cells #[.slice y1 y.heap.length d1, .slice y2 y.insts.length d2, .slice y3 y.units.length d3, .slice y4 y.out.length d4] 34)).alloc (Obj.cells #[.string x.lib, .int .i64 x.ver, .slice a1 x.names.length c1, .slice a2 x.vals.length c2, .slice a3 x.links.length c3, .slice a4 x.types.length c4] 137)).heap[w.heap.size]? = some (Obj.cells #[.slice y1 y.heap.length d1, .slice y2 y.insts.length d2, .slice y3 y.units.length d3, .slice y4 y.out.length d4] 34) := blk_past (blk_at _ _ _ rfl)
 have k1 : ((w.alloc (Obj.cells #[.slice y1 y.heap.length d1, .slice y2 y.insts.length d2, .slice y3 y.units.length d3, .slice y4 y.out.length d4] 34)).alloc (Obj.cells #[.string x.lib, .int .i64 x.ver, .slice a1 x.names.length c1, .slice a2 x.vals.length c2, .slice a3 x.links.length c3, .slice a4 x.types.length c4] 137)).heap[w.heap.size + 1]? = some (Obj.cells #[.string x.lib, .int .i64 x.ver, .slice a1 x.names.length c1, .slice a2 x.vals.length c2, .slice a3 x.links.length c3, .slice a4 x.types.length c4] 137) := blk_at _ _ _ (by simp)
 clear r1 r2 r3 r4 now hrh s1' s2' s3' s4' HR HS HQ
 by_cases g1 : x.names.length ≤ 30
 ·have f1 : decide ((x.names.length : Int) ≤ 30) = true := by simp; omega
  rw [decide_eq_true g1]
  by_cases g2 : x.links.length ≤ 30
  ·have f2 : decide ((x.links.length : Int) ≤ 30) = true := by simp; omega
   rw [decide_eq_true g2]
   by_cases g3 : x.types.length ≤ 8
   ·have f3 : decide ((x.types.length : Int) ≤ 8) = true := by simp; omega
    rw [decide_eq_true g3]
    cases bN : nmA x.lns
    ·skip
     simp only [Bool.and_false, Bool.false_and]
     go_enter Tryz.func89, Tryz.ntmps89
     go_wp2_with fail
     refine (HC0.out _ hb0).mono ?_
     rintro e v0 ⟨v, rfl, ho, hv⟩
     obtain ⟨va, vc, rfl, hvc⟩ := ho.slice
     have hb1 : Below w.heap.size w v0 := hb0.trans (hv.mono hb0.size)
     have k0 := blk_keep k0 hv (Array.getElem?_eq_some_iff.1 k0).1
     have k1 := blk_keep k1 hv (Array.getElem?_eq_some_iff.1 k1).1
     have HN : Hid (Calls Tryz.prog 130 #[.slice va x.lns.length vc] v0 fun e w' => Ans v0 (.bool (nmA x.lns)) e w') := HC1.out g1 g2 v0 _ va vc ho hvc
     first | rw [bN] at HN | skip
     clear ho hv
     generalize x.lns.length = nl at *
     go_wp2_with fail
     refine HN.out.mono ?_
     rintro e v1 ⟨rfl, hv⟩
     have hb2 : Below w.heap.size w v1 := hb1.trans (hv.mono hb1.size)
     have k0 := blk_keep k0 hv (Array.getElem?_eq_some_iff.1 k0).1
     have k1 := blk_keep k1 hv (Array.getElem?_eq_some_iff.1 k1).1
     clear hv
     have p0_0 := cell_blk (j := 0) k0 rfl
     have p0_1 := cell_blk (j := 1) k0 rfl
     have p0_2 := cell_blk (j := 2) k0 rfl
     have p0_3 := cell_blk (j := 3) k0 rfl
     have q0_0 := cell_blk (j := 0) k1 rfl
     have q0_1 := cell_blk (j := 1) k1 rfl
     have q0_2 := cell_blk (j := 2) k1 rfl
     have q0_3 := cell_blk (j := 3) k1 rfl
     have q0_4 := cell_blk (j := 4) k1 rfl
     have q0_5 := cell_blk (j := 5) k1 rfl
     go_wp2
     go_ret
     exact ⟨rfl, hb2⟩
    ·skip
     cases b2 : x.vok y.heap
     ·rw [b2] at HC2
      simp only [Bool.and_false, Bool.false_and]
      go_enter Tryz.func89, Tryz.ntmps89
      go_wp2_with fail
      refine (HC0.out _ hb0).mono ?_
      rintro e v0 ⟨v, rfl, ho, hv⟩
      obtain ⟨va, vc, rfl, hvc⟩ := ho.slice
      have hb1 : Below w.heap.size w v0 := hb0.trans (hv.mono hb0.size)
      have k0 := blk_keep k0 hv (Array.getElem?_eq_some_iff.1 k0).1
      have k1 := blk_keep k1 hv (Array.getElem?_eq_some_iff.1 k1).1
      have HN : Hid (Calls Tryz.prog 130 #[.slice va x.lns.length vc] v0 fun e w' => Ans v0 (.bool (nmA x.lns)) e w') := HC1.out g1 g2 v0 _ va vc ho hvc
      first | rw [bN] at HN | skip
      clear ho hv
      generalize x.lns.length = nl at *
      go_wp2_with fail
      refine HN.out.mono ?_
      rintro e v1 ⟨rfl, hv⟩
      have hb2 : Below w.heap.size w v1 := hb1.trans (hv.mono hb1.size)
      have k0 := blk_keep k0 hv (Array.getElem?_eq_some_iff.1 k0).1
      have k1 := blk_keep k1 hv (Array.getElem?_eq_some_iff.1 k1).1
      clear hv
      have p0_0 := cell_blk (j := 0) k0 rfl
      have p0_1 := cell_blk (j := 1) k0 rfl
      have p0_2 := cell_blk (j := 2) k0 rfl
      have p0_3 := cell_blk (j := 3) k0 rfl
      have q0_0 := cell_blk (j := 0) k1 rfl
      have q0_1 := cell_blk (j := 1) k1 rfl
      have q0_2 := cell_blk (j := 2) k1 rfl
      have q0_3 := cell_blk (j := 3) k1 rfl
      have q0_4 := cell_blk (j := 4) k1 rfl
      have q0_5 := cell_blk (j := 5) k1 rfl
      go_wp2_with fail
      refine (HC2.out _ hb2).mono ?_
      rintro e v2 ⟨rfl, hv⟩
      have hb3 : Below w.heap.size w v2 := hb2.trans (hv.mono hb2.size)
      have k0 := blk_keep k0 hv (Array.getElem?_eq_some_iff.1 k0).1
      have k1 := blk_keep k1 hv (Array.getElem?_eq_some_iff.1 k1).1
      clear hv
      have p1_0 := cell_blk (j := 0) k0 rfl
      have p1_1 := cell_blk (j := 1) k0 rfl
      have p1_2 := cell_blk (j := 2) k0 rfl
      have p1_3 := cell_blk (j := 3) k0 rfl
      have q1_0 := cell_blk (j := 0) k1 rfl
      have q1_1 := cell_blk (j := 1) k1 rfl
      have q1_2 := cell_blk (j := 2) k1 rfl
      have q1_3 := cell_blk (j := 3) k1 rfl
      have q1_4 := cell_blk (j := 4) k1 rfl
      have q1_5 := cell_blk (j := 5) k1 rfl
      go_wp2
      go_ret
      exact ⟨rfl, hb3⟩
     ·rw [b2] at HC2
      cases b3 : x.links.all (Lnk.ok y.insts.length)
      ·rw [b3] at HC3
       simp only [Bool.and_false, Bool.false_and]
       go_enter Tryz.func89, Tryz.ntmps89
       go_wp2_with fail
       refine (HC0.out _ hb0).mono ?_
       rintro e v0 ⟨v, rfl, ho, hv⟩
       obtain ⟨va, vc, rfl, hvc⟩ := ho.slice
       have hb1 : Below w.heap.size w v0 := hb0.trans (hv.mono hb0.size)
       have k0 := blk_keep k0 hv (Array.getElem?_eq_some_iff.1 k0).1
       have k1 := blk_keep k1 hv (Array.getElem?_eq_some_iff.1 k1).1
       have HN : Hid (Calls Tryz.prog 130 #[.slice va x.lns.length vc] v0 fun e w' => Ans v0 (.bool (nmA x.lns)) e w') := HC1.out g1 g2 v0 _ va vc ho hvc
       first | rw [bN] at HN | skip
       clear ho hv
       generalize x.lns.length = nl at *
       go_wp2_with fail
       refine HN.out.mono ?_
       rintro e v1 ⟨rfl, hv⟩
       have hb2 : Below w.heap.size w v1 := hb1.trans (hv.mono hb1.size)
       have k0 := blk_keep k0 hv (Array.getElem?_eq_some_iff.1 k0).1
       have k1 := blk_keep k1 hv (Array.getElem?_eq_some_iff.1 k1).1
       clear hv
       have p0_0 := cell_blk (j := 0) k0 rfl
       have p0_1 := cell_blk (j := 1) k0 rfl
       have p0_2 := cell_blk (j := 2) k0 rfl
       have p0_3 := cell_blk (j := 3) k0 rfl
       have q0_0 := cell_blk (j := 0) k1 rfl
       have q0_1 := cell_blk (j := 1) k1 rfl
       have q0_2 := cell_blk (j := 2) k1 rfl
       have q0_3 := cell_blk (j := 3) k1 rfl
       have q0_4 := cell_blk (j := 4) k1 rfl
       have q0_5 := cell_blk (j := 5) k1 rfl
       go_wp2_with fail
       refine (HC2.out _ hb2).mono ?_
       rintro e v2 ⟨rfl, hv⟩
       have hb3 : Below w.heap.size w v2 := hb2.trans (hv.mono hb2.size)
       have k0 := blk_keep k0 hv (Array.getElem?_eq_some_iff.1 k0).1
       have k1 := blk_keep k1 hv (Array.getElem?_eq_some_iff.1 k1).1
       clear hv
       have p1_0 := cell_blk (j := 0) k0 rfl
       have p1_1 := cell_blk (j := 1) k0 rfl
       have p1_2 := cell_blk (j := 2) k0 rfl
       have p1_3 := cell_blk (j := 3) k0 rfl
       have q1_0 := cell_blk (j := 0) k1 rfl
       have q1_1 := cell_blk (j := 1) k1 rfl
       have q1_2 := cell_blk (j := 2) k1 rfl
       have q1_3 := cell_blk (j := 3) k1 rfl
       have q1_4 := cell_blk (j := 4) k1 rfl
       have q1_5 := cell_blk (j := 5) k1 rfl
       go_wp2_with fail
       refine (HC3.out _ hb3).mono ?_
       rintro e v3 ⟨rfl, hv⟩
       have hb4 : Below w.heap.size w v3 := hb3.trans (hv.mono hb3.size)
       have k0 := blk_keep k0 hv (Array.getElem?_eq_some_iff.1 k0).1
       have k1 := blk_keep k1 hv (Array.getElem?_eq_some_iff.1 k1).1
       clear hv
       have p2_0 := cell_blk (j := 0) k0 rfl
       have p2_1 := cell_blk (j := 1) k0 rfl
       have p2_2 := cell_blk (j := 2) k0 rfl
       have p2_3 := cell_blk (j := 3) k0 rfl
       have q2_0 := cell_blk (j := 0) k1 rfl
       have q2_1 := cell_blk (j := 1) k1 rfl
       have q2_2 := cell_blk (j := 2) k1 rfl
       have q2_3 := cell_blk (j := 3) k1 rfl
       have q2_4 := cell_blk (j := 4) k1 rfl
       have q2_5 := cell_blk (j := 5) k1 rfl
       go_wp2
       go_ret
       exact ⟨rfl, hb4⟩
      ·rw [b3] at HC3
       cases b4 : (x.types.all Typ.ok && nmA x.tns)
       ·rw [b4] at HC4
        simp only [Bool.and_false]
        go_enter Tryz.func89, Tryz.ntmps89
        go_wp2_with fail
        refine (HC0.out _ hb0).mono ?_
        rintro e v0 ⟨v, rfl, ho, hv⟩
        obtain ⟨va, vc, rfl, hvc⟩ := ho.slice
        have hb1 : Below w.heap.size w v0 := hb0.trans (hv.mono hb0.size)
        have k0 := blk_keep k0 hv (Array.getElem?_eq_some_iff.1 k0).1
        have k1 := blk_keep k1 hv (Array.getElem?_eq_some_iff.1 k1).1
        have HN : Hid (Calls Tryz.prog 130 #[.slice va x.lns.length vc] v0 fun e w' => Ans v0 (.bool (nmA x.lns)) e w') := HC1.out g1 g2 v0 _ va vc ho hvc
        first | rw [bN] at HN | skip
        clear ho hv
        generalize x.lns.length = nl at *
        go_wp2_with fail
        refine HN.out.mono ?_
        rintro e v1 ⟨rfl, hv⟩
        have hb2 : Below w.heap.size w v1 := hb1.trans (hv.mono hb1.size)
        have k0 := blk_keep k0 hv (Array.getElem?_eq_some_iff.1 k0).1
        have k1 := blk_keep k1 hv (Array.getElem?_eq_some_iff.1 k1).1
        clear hv
        have p0_0 := cell_blk (j := 0) k0 rfl
        have p0_1 := cell_blk (j := 1) k0 rfl
        have p0_2 := cell_blk (j := 2) k0 rfl
        have p0_3 := cell_blk (j := 3) k0 rfl
        have q0_0 := cell_blk (j := 0) k1 rfl
        have q0_1 := cell_blk (j := 1) k1 rfl
        have q0_2 := cell_blk (j := 2) k1 rfl
        have q0_3 := cell_blk (j := 3) k1 rfl
        have q0_4 := cell_blk (j := 4) k1 rfl
        have q0_5 := cell_blk (j := 5) k1 rfl
        go_wp2_with fail
        refine (HC2.out _ hb2).mono ?_
        rintro e v2 ⟨rfl, hv⟩
        have hb3 : Below w.heap.size w v2 := hb2.trans (hv.mono hb2.size)
        have k0 := blk_keep k0 hv (Array.getElem?_eq_some_iff.1 k0).1
        have k1 := blk_keep k1 hv (Array.getElem?_eq_some_iff.1 k1).1
        clear hv
        have p1_0 := cell_blk (j := 0) k0 rfl
        have p1_1 := cell_blk (j := 1) k0 rfl
        have p1_2 := cell_blk (j := 2) k0 rfl
        have p1_3 := cell_blk (j := 3) k0 rfl
        have q1_0 := cell_blk (j := 0) k1 rfl
        have q1_1 := cell_blk (j := 1) k1 rfl
        have q1_2 := cell_blk (j := 2) k1 rfl
        have q1_3 := cell_blk (j := 3) k1 rfl
        have q1_4 := cell_blk (j := 4) k1 rfl
        have q1_5 := cell_blk (j := 5) k1 rfl
        go_wp2_with fail
        refine (HC3.out _ hb3).mono ?_
        rintro e v3 ⟨rfl, hv⟩
        have hb4 : Below w.heap.size w v3 := hb3.trans (hv.mono hb3.size)
        have k0 := blk_keep k0 hv (Array.getElem?_eq_some_iff.1 k0).1
        have k1 := blk_keep k1 hv (Array.getElem?_eq_some_iff.1 k1).1
        clear hv
        have p2_0 := cell_blk (j := 0) k0 rfl
        have p2_1 := cell_blk (j := 1) k0 rfl
        have p2_2 := cell_blk (j := 2) k0 rfl
        have p2_3 := cell_blk (j := 3) k0 rfl
        have q2_0 := cell_blk (j := 0) k1 rfl
        have q2_1 := cell_blk (j := 1) k1 rfl
        have q2_2 := cell_blk (j := 2) k1 rfl
        have q2_3 := cell_blk (j := 3) k1 rfl
        have q2_4 := cell_blk (j := 4) k1 rfl
        have q2_5 := cell_blk (j := 5) k1 rfl
        go_wp2_with fail
        refine (HC4.out _ hb4).mono ?_
        rintro e v4 ⟨rfl, hv⟩
        have hb5 : Below w.heap.size w v4 := hb4.trans (hv.mono hb4.size)
        have k0 := blk_keep k0 hv (Array.getElem?_eq_some_iff.1 k0).1
        have k1 := blk_keep k1 hv (Array.getElem?_eq_some_iff.1 k1).1
        clear hv
        have p3_0 := cell_blk (j := 0) k0 rfl
        have p3_1 := cell_blk (j := 1) k0 rfl
        have p3_2 := cell_blk (j := 2) k0 rfl
        have p3_3 := cell_blk (j := 3) k0 rfl
        have q3_0 := cell_blk (j := 0) k1 rfl
        have q3_1 := cell_blk (j := 1) k1 rfl
        have q3_2 := cell_blk (j := 2) k1 rfl
        have q3_3 := cell_blk (j := 3) k1 rfl
        have q3_4 := cell_blk (j := 4) k1 rfl
        have q3_5 := cell_blk (j := 5) k1 rfl
        go_wp2
        go_ret
        exact ⟨rfl, hb5⟩
       ·rw [b4] at HC4
        simp only [Bool.and_true]
        go_enter Tryz.func89, Tryz.ntmps89
        go_wp2_with fail
        refine (HC0.out _ hb0).mono ?_
        rintro e v0 ⟨v, rfl, ho, hv⟩
        obtain ⟨va, vc, rfl, hvc⟩ := ho.slice
        have hb1 : Below w.heap.size w v0 := hb0.trans (hv.mono hb0.size)
        have k0 := blk_keep k0 hv (Array.getElem?_eq_some_iff.1 k0).1
        have k1 := blk_keep k1 hv (Array.getElem?_eq_some_iff.1 k1).1
        have HN : Hid (Calls Tryz.prog 130 #[.slice va x.lns.length vc] v0 fun e w' => Ans v0 (.bool (nmA x.lns)) e w') := HC1.out g1 g2 v0 _ va vc ho hvc
        first | rw [bN] at HN | skip
        clear ho hv
        generalize x.lns.length = nl at *
        go_wp2_with fail
        refine HN.out.mono ?_
        rintro e v1 ⟨rfl, hv⟩
        have hb2 : Below w.heap.size w v1 := hb1.trans (hv.mono hb1.size)
        have k0 := blk_keep k0 hv (Array.getElem?_eq_some_iff.1 k0).1
        have k1 := blk_keep k1 hv (Array.getElem?_eq_some_iff.1 k1).1
        clear hv
        have p0_0 := cell_blk (j := 0) k0 rfl
        have p0_1 := cell_blk (j := 1) k0 rfl
        have p0_2 := cell_blk (j := 2) k0 rfl
        have p0_3 := cell_blk (j := 3) k0 rfl
        have q0_0 := cell_blk (j := 0) k1 rfl
        have q0_1 := cell_blk (j := 1) k1 rfl
        have q0_2 := cell_blk (j := 2) k1 rfl
        have q0_3 := cell_blk (j := 3) k1 rfl
        have q0_4 := cell_blk (j := 4) k1 rfl
        have q0_5 := cell_blk (j := 5) k1 rfl
        go_wp2_with fail
        refine (HC2.out _ hb2).mono ?_
        rintro e v2 ⟨rfl, hv⟩
        have hb3 : Below w.heap.size w v2 := hb2.trans (hv.mono hb2.size)
        have k0 := blk_keep k0 hv (Array.getElem?_eq_some_iff.1 k0).1
        have k1 := blk_keep k1 hv (Array.getElem?_eq_some_iff.1 k1).1
        clear hv
        have p1_0 := cell_blk (j := 0) k0 rfl
        have p1_1 := cell_blk (j := 1) k0 rfl
        have p1_2 := cell_blk (j := 2) k0 rfl
        have p1_3 := cell_blk (j := 3) k0 rfl
        have q1_0 := cell_blk (j := 0) k1 rfl
        have q1_1 := cell_blk (j := 1) k1 rfl
        have q1_2 := cell_blk (j := 2) k1 rfl
        have q1_3 := cell_blk (j := 3) k1 rfl
        have q1_4 := cell_blk (j := 4) k1 rfl
        have q1_5 := cell_blk (j := 5) k1 rfl
        go_wp2_with fail
        refine (HC3.out _ hb3).mono ?_
        rintro e v3 ⟨rfl, hv⟩
        have hb4 : Below w.heap.size w v3 := hb3.trans (hv.mono hb3.size)
        have k0 := blk_keep k0 hv (Array.getElem?_eq_some_iff.1 k0).1
        have k1 := blk_keep k1 hv (Array.getElem?_eq_some_iff.1 k1).1
        clear hv
        have p2_0 := cell_blk (j := 0) k0 rfl
        have p2_1 := cell_blk (j := 1) k0 rfl
        have p2_2 := cell_blk (j := 2) k0 rfl
        have p2_3 := cell_blk (j := 3) k0 rfl
        have q2_0 := cell_blk (j := 0) k1 rfl
        have q2_1 := cell_blk (j := 1) k1 rfl
        have q2_2 := cell_blk (j := 2) k1 rfl
        have q2_3 := cell_blk (j := 3) k1 rfl
        have q2_4 := cell_blk (j := 4) k1 rfl
        have q2_5 := cell_blk (j := 5) k1 rfl
        go_wp2_with fail
        refine (HC4.out _ hb4).mono ?_
        rintro e v4 ⟨rfl, hv⟩
        have hb5 : Below w.heap.size w v4 := hb4.trans (hv.mono hb4.size)
        have k0 := blk_keep k0 hv (Array.getElem?_eq_some_iff.1 k0).1
        have k1 := blk_keep k1 hv (Array.getElem?_eq_some_iff.1 k1).1
        clear hv
        have p3_0 := cell_blk (j := 0) k0 rfl
        have p3_1 := cell_blk (j := 1) k0 rfl
        have p3_2 := cell_blk (j := 2) k0 rfl
        have p3_3 := cell_blk (j := 3) k0 rfl
        have q3_0 := cell_blk (j := 0) k1 rfl
        have q3_1 := cell_blk (j := 1) k1 rfl
        have q3_2 := cell_blk (j := 2) k1 rfl
        have q3_3 := cell_blk (j := 3) k1 rfl
        have q3_4 := cell_blk (j := 4) k1 rfl
        have q3_5 := cell_blk (j := 5) k1 rfl
        go_wp2
        go_ret
        exact ⟨rfl, hb5⟩
   ·have f3 : decide ((x.types.length : Int) ≤ 8) = false := by simp; omega
    rw [decide_eq_false g3]
    simp only [Bool.and_false, Bool.false_and]
    go_enter Tryz.func89, Tryz.ntmps89
    go_wp2
    go_ret
    exact ⟨rfl, hb0⟩
  ·have f2 : decide ((x.links.length : Int) ≤ 30) = false := by simp; omega
   rw [decide_eq_false g2]
   simp only [Bool.and_false, Bool.false_and]
   go_enter Tryz.func89, Tryz.ntmps89
   go_wp2
   go_ret
   exact ⟨rfl, hb0⟩
 ·have f1 : decide ((x.names.length : Int) ≤ 30) = false := by simp; omega
  rw [decide_eq_false g1]
  simp only [Bool.false_and]
  go_enter Tryz.func89, Tryz.ntmps89
  go_wp2
  go_ret
  exact ⟨rfl, hb0⟩
end Go.Proofs.YtmnkomgdcebniaaGreat
