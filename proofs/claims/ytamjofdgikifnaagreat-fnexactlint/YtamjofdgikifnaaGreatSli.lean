/- The model: right sources. -/
import Derived.Test.YtamjofdgikifnaaGreatSlf
import Derived.Deep.RegionWith
set_option linter.unusedVariables false
namespace Go.Proofs.YtamjofdgikifnaaGreat
open Go.ChangeShapes Go.WideShapes Go.ChangeAt Go.RowKit
theorem Srx.ok_rest {x : Srx} (h0 : nB x.name = true) (h1 : x.many = false) (h2 : x.dup = false) (h3 : (!x.known) = false) (h4 : x.imps.all nB = true) (h5 : x.exps.all nB = true) (h6 : x.tns.all nB = true) (h7 : x.dns.all nB = true) (h8 : x.cns.all nB = true) : x.ok = (x.types.all Typ.ok && x.defs.all Dfn.ok && x.convs.all Dfn.ok) := by
 have h3' : x.known = true := by simpa using h3
 unfold Srx.ok Srx.names
 rw [h0, h1, h2, h3', h4, h5, h6, h7, h8]
 rfl
set_option maxRecDepth 100000 in
set_option maxHeartbeats 4000000 in
theorem specSrc_any (x : Srx) (a1 a2 a3 a4 a5 : Option Addr) (c1 c2 c3 c4 c5 : Nat) (w : World) (hs : x.small) (hr : SrxRows w (fun b => b < w.heap.size) a1 a2 a3 a4 a5 c1 c2 c3 c4 c5 x) (hfd : ∀ d ∈ x.defs, (flat d.prog.nodes).length ≤ 1048576) (hfv : ∀ d ∈ x.convs, (flat d.prog.nodes).length ≤ 1048576) :
  Calls Tryz.prog 23 #[.agg #[.string x.name, .slice a1 x.imps.length c1, .slice a2 x.exps.length c2, .slice a3 x.types.length c3, .slice a4 x.defs.length c4, .slice a5 x.convs.length c5]] w fun e w' => Ans w (.bool x.ok) e w' := by
 have HR : Hid (SrxRows w (fun b => b < w.heap.size) a1 a2 a3 a4 a5 c1 c2 c3 c4 c5 x) := hr
 have HS : Hid x.small := hs
 have S : Hid (SrxAt x a1 a2 a3 a4 a5 c1 c2 c3 c4 c5 w) := srxAt x a1 a2 a3 a4 a5 c1 c2 c3 c4 c5 w hs hr
 clear hs hr
 have hb0 : Below w.heap.size w (w.alloc (Obj.cells #[.string x.name, .slice a1 x.imps.length c1, .slice a2 x.exps.length c2, .slice a3 x.types.length c3, .slice a4 x.defs.length c4, .slice a5 x.convs.length c5] 34)) := (Below.refl _ _).alloc (Nat.le_refl _) _
 have k0 : (w.alloc (Obj.cells #[.string x.name, .slice a1 x.imps.length c1, .slice a2 x.exps.length c2, .slice a3 x.types.length c3, .slice a4 x.defs.length c4, .slice a5 x.convs.length c5] 34)).heap[w.heap.size]? = some (Obj.cells #[.string x.name, .slice a1 x.imps.length c1, .slice a2 x.exps.length c2, .slice a3 x.types.length c3, .slice a4 x.defs.length c4, .slice a5 x.convs.length c5] 34) := blk_at _ _ _ rfl
 have HC0 : Hid (∀ w2, Below w.heap.size w w2 → Calls Tryz.prog 51 #[.string x.name] w2 fun e w' => Ans w2 (.bool (nB x.name)) e w') := fun w2 h2 => specNa_any x.name w2 S.out.sname
 have HC1 : Hid (∀ w2, Below w.heap.size w w2 → Calls Tryz.prog 52 #[.agg #[.string x.name, .slice a1 x.imps.length c1, .slice a2 x.exps.length c2, .slice a3 x.types.length c3, .slice a4 x.defs.length c4, .slice a5 x.convs.length c5]] w2 fun e w' => Ans w2 (.bool (x.many)) e w') := fun w2 h2 => l11Many_any x a1 a2 a3 a4 a5 c1 c2 c3 c4 c5 w2 HS.out (SrxRows.keep HR.out fun b h => ⟨Nat.lt_of_lt_of_le h h2.size, h2.block b h⟩)
 have HC2 : Hid (∀ w2, Below w.heap.size w w2 → Calls Tryz.prog 53 #[.agg #[.string x.name, .slice a1 x.imps.length c1, .slice a2 x.exps.length c2, .slice a3 x.types.length c3, .slice a4 x.defs.length c4, .slice a5 x.convs.length c5]] w2 fun e w' => Ans w2 (.bool (x.dup)) e w') := fun w2 h2 => l11Dup_any x a1 a2 a3 a4 a5 c1 c2 c3 c4 c5 w2 HS.out (SrxRows.keep HR.out fun b h => ⟨Nat.lt_of_lt_of_le h h2.size, h2.block b h⟩)
 have HC3 : Hid (∀ w2, Below w.heap.size w w2 → Calls Tryz.prog 54 #[.agg #[.string x.name, .slice a1 x.imps.length c1, .slice a2 x.exps.length c2, .slice a3 x.types.length c3, .slice a4 x.defs.length c4, .slice a5 x.convs.length c5]] w2 fun e w' => Ans w2 (.bool (!x.known)) e w') := fun w2 h2 => l11Lacks_any x a1 a2 a3 a4 a5 c1 c2 c3 c4 c5 w2 HS.out (SrxRows.keep HR.out fun b h => ⟨Nat.lt_of_lt_of_le h h2.size, h2.block b h⟩)
 have HC4 : Hid (∀ w2, Below w.heap.size w w2 → Calls Tryz.prog 55 #[.slice a1 x.imps.length c1] w2 fun e w' => Ans w2 (.bool (x.imps.all nB)) e w') := fun w2 h2 => all_at S.out.l1 S.out.simps (S.out.imps w2 h2)
 have HC5 : Hid (∀ w2, Below w.heap.size w w2 → Calls Tryz.prog 55 #[.slice a2 x.exps.length c2] w2 fun e w' => Ans w2 (.bool (x.exps.all nB)) e w') := fun w2 h2 => all_at S.out.l2 S.out.sexps (S.out.exps w2 h2)
 have HN6 : Hid (∀ w2, Below w.heap.size w w2 → Calls Tryz.prog 56 #[.slice a3 x.types.length c3] w2 fun e w' => NmP x.tns x.types.length w2 e w') := fun w2 h2 => (l11TypeNames_any a3 x.types c3 w2 S.out.l3 (S.out.types w2 h2)).mono fun e w' h => NmPost.to h
 have HC6 : Hid (∀ w2 a cap, NmsAt x.tns x.types.length w2 a cap → Calls Tryz.prog 55 #[.slice a x.types.length cap] w2 fun e w' => Ans w2 (.bool (x.tns.all nB)) e w') := fun w2 a cap h => all_at S.out.l3 S.out.stns h
 have HN7 : Hid (∀ w2, Below w.heap.size w w2 → Calls Tryz.prog 24 #[.slice a4 x.defs.length c4] w2 fun e w' => NmP x.dns x.defs.length w2 e w') := fun w2 h2 => (l11DefNames_any a4 x.defs c4 w2 S.out.l4 (S.out.defs w2 h2)).mono fun e w' h => NmPost.to h
 have HC7 : Hid (∀ w2 a cap, NmsAt x.dns x.defs.length w2 a cap → Calls Tryz.prog 55 #[.slice a x.defs.length cap] w2 fun e w' => Ans w2 (.bool (x.dns.all nB)) e w') := fun w2 a cap h => all_at S.out.l4 S.out.sdns h
 have HN8 : Hid (∀ w2, Below w.heap.size w w2 → Calls Tryz.prog 24 #[.slice a5 x.convs.length c5] w2 fun e w' => NmP x.cns x.convs.length w2 e w') := fun w2 h2 => (l11DefNames_any a5 x.convs c5 w2 S.out.l5 (S.out.convs w2 h2)).mono fun e w' h => NmPost.to h
 have HC8 : Hid (∀ w2 a cap, NmsAt x.cns x.convs.length w2 a cap → Calls Tryz.prog 55 #[.slice a x.convs.length cap] w2 fun e w' => Ans w2 (.bool (x.cns.all nB)) e w') := fun w2 a cap h => all_at S.out.l5 S.out.scns h
 have HRT : Hid (∀ w2, Below w.heap.size w w2 → rgT.Row w2 (fun b => b < w2.heap.size) a3 x.types) := fun w2 h2 => S.out.types w2 h2
 have HRD : Hid (∀ w2, Below w.heap.size w w2 → rgD.Row w2 (fun b => b < w2.heap.size) a4 x.defs) := fun w2 h2 => S.out.defs w2 h2
 have HRV : Hid (∀ w2, Below w.heap.size w w2 → rgD.Row w2 (fun b => b < w2.heap.size) a5 x.convs) := fun w2 h2 => S.out.convs w2 h2
 have HSD : Hid (∀ d ∈ x.defs, Dfn.small d) := S.out.sdefs
 have HSV : Hid (∀ d ∈ x.convs, Dfn.small d) := S.out.sconvs
 have HFD : Hid (∀ d ∈ x.defs, (flat d.prog.nodes).length ≤ 1048576) := hfd
 have HFV : Hid (∀ d ∈ x.convs, (flat d.prog.nodes).length ≤ 1048576) := hfv
 have HLI : Hid (∀ (z : Int) (w1 : World), Calls Tryz.prog 57 #[.int .i64 z, .int .i64 0, .int .i64 8] w1 fun e w' => e = .returned (.bool (decide (0 ≤ z) && decide (z ≤ 8))) ∧ w' = w1) := fun z w1 => l1In_any z 0 8 w1
 have s3 := S.out.l3
 have s4 := S.out.l4
 have s5 := S.out.l5
 clear hfd hfv
 clear S HR HS
 cases h0 : nB x.name
 ·rw [h0] at HC0
  have HQ : Hid (x.ok = false) := by
   show _ = _
   unfold Srx.ok Srx.names
   rw [h0]
   simp
  clear h0 HRT HRD HRV HSD HSV HFD HFV HLI s3 s4 s5
  go_enter Tryz.func23, Tryz.ntmps23
  go_wp2_with fail
  refine (HC0.out _ hb0).mono ?_
  rintro e v0 ⟨rfl, hv0⟩
  have hb1 : Below w.heap.size w v0 := hb0.trans (hv0.mono hb0.size)
  have k1 := blk_keep k0 hv0 (Array.getElem?_eq_some_iff.1 k0).1
  have z0_0 := cell_blk (j := 0) k1 rfl
  have z0_1 := cell_blk (j := 1) k1 rfl
  have z0_2 := cell_blk (j := 2) k1 rfl
  have z0_3 := cell_blk (j := 3) k1 rfl
  have z0_4 := cell_blk (j := 4) k1 rfl
  have z0_5 := cell_blk (j := 5) k1 rfl
  go_wp2
  go_ret
  exact ⟨by rw [HQ.out]; rfl, hb1⟩
 ·rw [h0] at HC0
  cases h1 : x.many
  ·rw [h1] at HC1
   cases h2 : x.dup
   ·rw [h2] at HC2
    cases h3 : (!x.known)
    ·rw [h3] at HC3
     cases h4 : x.imps.all nB
     ·rw [h4] at HC4
      have HQ : Hid (x.ok = false) := by
       show _ = _
       unfold Srx.ok Srx.names
       rw [Bool.not_eq_false'] at h3
       rw [h4]
       simp
      clear h0 h1 h2 h3 h4 HRT HRD HRV HSD HSV HFD HFV HLI s3 s4 s5
      go_enter Tryz.func23, Tryz.ntmps23
      go_wp2_with fail
      refine (HC0.out _ hb0).mono ?_
      rintro e v0 ⟨rfl, hv0⟩
      have hb1 : Below w.heap.size w v0 := hb0.trans (hv0.mono hb0.size)
      have k1 := blk_keep k0 hv0 (Array.getElem?_eq_some_iff.1 k0).1
      have z0_0 := cell_blk (j := 0) k1 rfl
      have z0_1 := cell_blk (j := 1) k1 rfl
      have z0_2 := cell_blk (j := 2) k1 rfl
      have z0_3 := cell_blk (j := 3) k1 rfl
      have z0_4 := cell_blk (j := 4) k1 rfl
      have z0_5 := cell_blk (j := 5) k1 rfl
      go_wp2_with fail
      refine (HC1.out _ hb1).mono ?_
      rintro e v1 ⟨rfl, hv1⟩
      have hb2 : Below w.heap.size w v1 := hb1.trans (hv1.mono hb1.size)
      have k2 := blk_keep k1 hv1 (Array.getElem?_eq_some_iff.1 k1).1
      have z1_0 := cell_blk (j := 0) k2 rfl
      have z1_1 := cell_blk (j := 1) k2 rfl
      have z1_2 := cell_blk (j := 2) k2 rfl
      have z1_3 := cell_blk (j := 3) k2 rfl
      have z1_4 := cell_blk (j := 4) k2 rfl
      have z1_5 := cell_blk (j := 5) k2 rfl
      go_wp2_with fail
      refine (HC2.out _ hb2).mono ?_
      rintro e v2 ⟨rfl, hv2⟩
      have hb3 : Below w.heap.size w v2 := hb2.trans (hv2.mono hb2.size)
      have k3 := blk_keep k2 hv2 (Array.getElem?_eq_some_iff.1 k2).1
      have z2_0 := cell_blk (j := 0) k3 rfl
      have z2_1 := cell_blk (j := 1) k3 rfl
      have z2_2 := cell_blk (j := 2) k3 rfl
      have z2_3 := cell_blk (j := 3) k3 rfl
      have z2_4 := cell_blk (j := 4) k3 rfl
      have z2_5 := cell_blk (j := 5) k3 rfl
      go_wp2_with fail
      refine (HC3.out _ hb3).mono ?_
      rintro e v3 ⟨rfl, hv3⟩
      have hb4 : Below w.heap.size w v3 := hb3.trans (hv3.mono hb3.size)
      have k4 := blk_keep k3 hv3 (Array.getElem?_eq_some_iff.1 k3).1
      have z3_0 := cell_blk (j := 0) k4 rfl
      have z3_1 := cell_blk (j := 1) k4 rfl
      have z3_2 := cell_blk (j := 2) k4 rfl
      have z3_3 := cell_blk (j := 3) k4 rfl
      have z3_4 := cell_blk (j := 4) k4 rfl
      have z3_5 := cell_blk (j := 5) k4 rfl
      go_wp2_with fail
      refine (HC4.out _ hb4).mono ?_
      rintro e v4 ⟨rfl, hv4⟩
      have hb5 : Below w.heap.size w v4 := hb4.trans (hv4.mono hb4.size)
      have k5 := blk_keep k4 hv4 (Array.getElem?_eq_some_iff.1 k4).1
      have z4_0 := cell_blk (j := 0) k5 rfl
      have z4_1 := cell_blk (j := 1) k5 rfl
      have z4_2 := cell_blk (j := 2) k5 rfl
      have z4_3 := cell_blk (j := 3) k5 rfl
      have z4_4 := cell_blk (j := 4) k5 rfl
      have z4_5 := cell_blk (j := 5) k5 rfl
      go_wp2
      go_ret
      exact ⟨by rw [HQ.out]; rfl, hb5⟩
     ·rw [h4] at HC4
      cases h5 : x.exps.all nB
      ·rw [h5] at HC5
       have HQ : Hid (x.ok = false) := by
        show _ = _
        unfold Srx.ok Srx.names
        rw [Bool.not_eq_false'] at h3
        rw [h5]
        simp
       clear h0 h1 h2 h3 h4 h5 HRT HRD HRV HSD HSV HFD HFV HLI s3 s4 s5
       go_enter Tryz.func23, Tryz.ntmps23
       go_wp2_with fail
       refine (HC0.out _ hb0).mono ?_
       rintro e v0 ⟨rfl, hv0⟩
       have hb1 : Below w.heap.size w v0 := hb0.trans (hv0.mono hb0.size)
       have k1 := blk_keep k0 hv0 (Array.getElem?_eq_some_iff.1 k0).1
       have z0_0 := cell_blk (j := 0) k1 rfl
       have z0_1 := cell_blk (j := 1) k1 rfl
       have z0_2 := cell_blk (j := 2) k1 rfl
       have z0_3 := cell_blk (j := 3) k1 rfl
       have z0_4 := cell_blk (j := 4) k1 rfl
       have z0_5 := cell_blk (j := 5) k1 rfl
       go_wp2_with fail
       refine (HC1.out _ hb1).mono ?_
       rintro e v1 ⟨rfl, hv1⟩
       have hb2 : Below w.heap.size w v1 := hb1.trans (hv1.mono hb1.size)
       have k2 := blk_keep k1 hv1 (Array.getElem?_eq_some_iff.1 k1).1
       have z1_0 := cell_blk (j := 0) k2 rfl
       have z1_1 := cell_blk (j := 1) k2 rfl
       have z1_2 := cell_blk (j := 2) k2 rfl
       have z1_3 := cell_blk (j := 3) k2 rfl
       have z1_4 := cell_blk (j := 4) k2 rfl
       have z1_5 := cell_blk (j := 5) k2 rfl
       go_wp2_with fail
       refine (HC2.out _ hb2).mono ?_
       rintro e v2 ⟨rfl, hv2⟩
       have hb3 : Below w.heap.size w v2 := hb2.trans (hv2.mono hb2.size)
       have k3 := blk_keep k2 hv2 (Array.getElem?_eq_some_iff.1 k2).1
       have z2_0 := cell_blk (j := 0) k3 rfl
       have z2_1 := cell_blk (j := 1) k3 rfl
       have z2_2 := cell_blk (j := 2) k3 rfl
       have z2_3 := cell_blk (j := 3) k3 rfl
       have z2_4 := cell_blk (j := 4) k3 rfl
       have z2_5 := cell_blk (j := 5) k3 rfl
       go_wp2_with fail
       refine (HC3.out _ hb3).mono ?_
       rintro e v3 ⟨rfl, hv3⟩
       have hb4 : Below w.heap.size w v3 := hb3.trans (hv3.mono hb3.size)
       have k4 := blk_keep k3 hv3 (Array.getElem?_eq_some_iff.1 k3).1
       have z3_0 := cell_blk (j := 0) k4 rfl
       have z3_1 := cell_blk (j := 1) k4 rfl
       have z3_2 := cell_blk (j := 2) k4 rfl
       have z3_3 := cell_blk (j := 3) k4 rfl
       have z3_4 := cell_blk (j := 4) k4 rfl
       have z3_5 := cell_blk (j := 5) k4 rfl
       go_wp2_with fail
       refine (HC4.out _ hb4).mono ?_
       rintro e v4 ⟨rfl, hv4⟩
       have hb5 : Below w.heap.size w v4 := hb4.trans (hv4.mono hb4.size)
       have k5 := blk_keep k4 hv4 (Array.getElem?_eq_some_iff.1 k4).1
       have z4_0 := cell_blk (j := 0) k5 rfl
       have z4_1 := cell_blk (j := 1) k5 rfl
       have z4_2 := cell_blk (j := 2) k5 rfl
       have z4_3 := cell_blk (j := 3) k5 rfl
       have z4_4 := cell_blk (j := 4) k5 rfl
       have z4_5 := cell_blk (j := 5) k5 rfl
       go_wp2_with fail
       refine (HC5.out _ hb5).mono ?_
       rintro e v5 ⟨rfl, hv5⟩
       have hb6 : Below w.heap.size w v5 := hb5.trans (hv5.mono hb5.size)
       have k6 := blk_keep k5 hv5 (Array.getElem?_eq_some_iff.1 k5).1
       have z5_0 := cell_blk (j := 0) k6 rfl
       have z5_1 := cell_blk (j := 1) k6 rfl
       have z5_2 := cell_blk (j := 2) k6 rfl
       have z5_3 := cell_blk (j := 3) k6 rfl
       have z5_4 := cell_blk (j := 4) k6 rfl
       have z5_5 := cell_blk (j := 5) k6 rfl
       go_wp2
       go_ret
       exact ⟨by rw [HQ.out]; rfl, hb6⟩
      ·rw [h5] at HC5
       cases h6 : x.tns.all nB
       ·rw [h6] at HC6
        have HQ : Hid (x.ok = false) := by
         show _ = _
         unfold Srx.ok Srx.names
         rw [Bool.not_eq_false'] at h3
         rw [h6]
         simp
        clear h0 h1 h2 h3 h4 h5 h6 HRT HRD HRV HSD HSV HFD HFV HLI s3 s4 s5
        go_enter Tryz.func23, Tryz.ntmps23
        go_wp2_with fail
        refine (HC0.out _ hb0).mono ?_
        rintro e v0 ⟨rfl, hv0⟩
        have hb1 : Below w.heap.size w v0 := hb0.trans (hv0.mono hb0.size)
        have k1 := blk_keep k0 hv0 (Array.getElem?_eq_some_iff.1 k0).1
        have z0_0 := cell_blk (j := 0) k1 rfl
        have z0_1 := cell_blk (j := 1) k1 rfl
        have z0_2 := cell_blk (j := 2) k1 rfl
        have z0_3 := cell_blk (j := 3) k1 rfl
        have z0_4 := cell_blk (j := 4) k1 rfl
        have z0_5 := cell_blk (j := 5) k1 rfl
        go_wp2_with fail
        refine (HC1.out _ hb1).mono ?_
        rintro e v1 ⟨rfl, hv1⟩
        have hb2 : Below w.heap.size w v1 := hb1.trans (hv1.mono hb1.size)
        have k2 := blk_keep k1 hv1 (Array.getElem?_eq_some_iff.1 k1).1
        have z1_0 := cell_blk (j := 0) k2 rfl
        have z1_1 := cell_blk (j := 1) k2 rfl
        have z1_2 := cell_blk (j := 2) k2 rfl
        have z1_3 := cell_blk (j := 3) k2 rfl
        have z1_4 := cell_blk (j := 4) k2 rfl
        have z1_5 := cell_blk (j := 5) k2 rfl
        go_wp2_with fail
        refine (HC2.out _ hb2).mono ?_
        rintro e v2 ⟨rfl, hv2⟩
        have hb3 : Below w.heap.size w v2 := hb2.trans (hv2.mono hb2.size)
        have k3 := blk_keep k2 hv2 (Array.getElem?_eq_some_iff.1 k2).1
        have z2_0 := cell_blk (j := 0) k3 rfl
        have z2_1 := cell_blk (j := 1) k3 rfl
        have z2_2 := cell_blk (j := 2) k3 rfl
        have z2_3 := cell_blk (j := 3) k3 rfl
        have z2_4 := cell_blk (j := 4) k3 rfl
        have z2_5 := cell_blk (j := 5) k3 rfl
        go_wp2_with fail
        refine (HC3.out _ hb3).mono ?_
        rintro e v3 ⟨rfl, hv3⟩
        have hb4 : Below w.heap.size w v3 := hb3.trans (hv3.mono hb3.size)
        have k4 := blk_keep k3 hv3 (Array.getElem?_eq_some_iff.1 k3).1
        have z3_0 := cell_blk (j := 0) k4 rfl
        have z3_1 := cell_blk (j := 1) k4 rfl
        have z3_2 := cell_blk (j := 2) k4 rfl
        have z3_3 := cell_blk (j := 3) k4 rfl
        have z3_4 := cell_blk (j := 4) k4 rfl
        have z3_5 := cell_blk (j := 5) k4 rfl
        go_wp2_with fail
        refine (HC4.out _ hb4).mono ?_
        rintro e v4 ⟨rfl, hv4⟩
        have hb5 : Below w.heap.size w v4 := hb4.trans (hv4.mono hb4.size)
        have k5 := blk_keep k4 hv4 (Array.getElem?_eq_some_iff.1 k4).1
        have z4_0 := cell_blk (j := 0) k5 rfl
        have z4_1 := cell_blk (j := 1) k5 rfl
        have z4_2 := cell_blk (j := 2) k5 rfl
        have z4_3 := cell_blk (j := 3) k5 rfl
        have z4_4 := cell_blk (j := 4) k5 rfl
        have z4_5 := cell_blk (j := 5) k5 rfl
        go_wp2_with fail
        refine (HC5.out _ hb5).mono ?_
        rintro e v5 ⟨rfl, hv5⟩
        have hb6 : Below w.heap.size w v5 := hb5.trans (hv5.mono hb5.size)
        have k6 := blk_keep k5 hv5 (Array.getElem?_eq_some_iff.1 k5).1
        have z5_0 := cell_blk (j := 0) k6 rfl
        have z5_1 := cell_blk (j := 1) k6 rfl
        have z5_2 := cell_blk (j := 2) k6 rfl
        have z5_3 := cell_blk (j := 3) k6 rfl
        have z5_4 := cell_blk (j := 4) k6 rfl
        have z5_5 := cell_blk (j := 5) k6 rfl
        go_wp2_with fail
        refine (HN6.out _ hb6).mono ?_
        rintro e v6 ⟨oa6, oc6, rfl, ho6, hv6⟩
        have HT6 := HC6.out v6 oa6 oc6 ho6
        clear ho6
        have hb7 : Below w.heap.size w v6 := hb6.trans (hv6.mono hb6.size)
        have k7 := blk_keep k6 hv6 (Array.getElem?_eq_some_iff.1 k6).1
        have z6_0 := cell_blk (j := 0) k7 rfl
        have z6_1 := cell_blk (j := 1) k7 rfl
        have z6_2 := cell_blk (j := 2) k7 rfl
        have z6_3 := cell_blk (j := 3) k7 rfl
        have z6_4 := cell_blk (j := 4) k7 rfl
        have z6_5 := cell_blk (j := 5) k7 rfl
        go_wp2_with fail
        refine HT6.mono ?_
        rintro e v7 ⟨rfl, hv7⟩
        have hb8 : Below w.heap.size w v7 := hb7.trans (hv7.mono hb7.size)
        have k8 := blk_keep k7 hv7 (Array.getElem?_eq_some_iff.1 k7).1
        have z7_0 := cell_blk (j := 0) k8 rfl
        have z7_1 := cell_blk (j := 1) k8 rfl
        have z7_2 := cell_blk (j := 2) k8 rfl
        have z7_3 := cell_blk (j := 3) k8 rfl
        have z7_4 := cell_blk (j := 4) k8 rfl
        have z7_5 := cell_blk (j := 5) k8 rfl
        go_wp2
        go_ret
        exact ⟨by rw [HQ.out]; rfl, hb8⟩
       ·rw [h6] at HC6
        cases h7 : x.dns.all nB
        ·rw [h7] at HC7
         have HQ : Hid (x.ok = false) := by
          show _ = _
          unfold Srx.ok Srx.names
          rw [Bool.not_eq_false'] at h3
          rw [h7]
          simp
         clear h0 h1 h2 h3 h4 h5 h6 h7 HRT HRD HRV HSD HSV HFD HFV HLI s3 s4 s5
         go_enter Tryz.func23, Tryz.ntmps23
         go_wp2_with fail
         refine (HC0.out _ hb0).mono ?_
         rintro e v0 ⟨rfl, hv0⟩
         have hb1 : Below w.heap.size w v0 := hb0.trans (hv0.mono hb0.size)
         have k1 := blk_keep k0 hv0 (Array.getElem?_eq_some_iff.1 k0).1
         have z0_0 := cell_blk (j := 0) k1 rfl
         have z0_1 := cell_blk (j := 1) k1 rfl
         have z0_2 := cell_blk (j := 2) k1 rfl
         have z0_3 := cell_blk (j := 3) k1 rfl
         have z0_4 := cell_blk (j := 4) k1 rfl
         have z0_5 := cell_blk (j := 5) k1 rfl
         go_wp2_with fail
         refine (HC1.out _ hb1).mono ?_
         rintro e v1 ⟨rfl, hv1⟩
         have hb2 : Below w.heap.size w v1 := hb1.trans (hv1.mono hb1.size)
         have k2 := blk_keep k1 hv1 (Array.getElem?_eq_some_iff.1 k1).1
         have z1_0 := cell_blk (j := 0) k2 rfl
         have z1_1 := cell_blk (j := 1) k2 rfl
         have z1_2 := cell_blk (j := 2) k2 rfl
         have z1_3 := cell_blk (j := 3) k2 rfl
         have z1_4 := cell_blk (j := 4) k2 rfl
         have z1_5 := cell_blk (j := 5) k2 rfl
         go_wp2_with fail
         refine (HC2.out _ hb2).mono ?_
         rintro e v2 ⟨rfl, hv2⟩
         have hb3 : Below w.heap.size w v2 := hb2.trans (hv2.mono hb2.size)
         have k3 := blk_keep k2 hv2 (Array.getElem?_eq_some_iff.1 k2).1
         have z2_0 := cell_blk (j := 0) k3 rfl
         have z2_1 := cell_blk (j := 1) k3 rfl
         have z2_2 := cell_blk (j := 2) k3 rfl
         have z2_3 := cell_blk (j := 3) k3 rfl
         have z2_4 := cell_blk (j := 4) k3 rfl
         have z2_5 := cell_blk (j := 5) k3 rfl
         go_wp2_with fail
         refine (HC3.out _ hb3).mono ?_
         rintro e v3 ⟨rfl, hv3⟩
         have hb4 : Below w.heap.size w v3 := hb3.trans (hv3.mono hb3.size)
         have k4 := blk_keep k3 hv3 (Array.getElem?_eq_some_iff.1 k3).1
         have z3_0 := cell_blk (j := 0) k4 rfl
         have z3_1 := cell_blk (j := 1) k4 rfl
         have z3_2 := cell_blk (j := 2) k4 rfl
         have z3_3 := cell_blk (j := 3) k4 rfl
         have z3_4 := cell_blk (j := 4) k4 rfl
         have z3_5 := cell_blk (j := 5) k4 rfl
         go_wp2_with fail
         refine (HC4.out _ hb4).mono ?_
         rintro e v4 ⟨rfl, hv4⟩
         have hb5 : Below w.heap.size w v4 := hb4.trans (hv4.mono hb4.size)
         have k5 := blk_keep k4 hv4 (Array.getElem?_eq_some_iff.1 k4).1
         have z4_0 := cell_blk (j := 0) k5 rfl
         have z4_1 := cell_blk (j := 1) k5 rfl
         have z4_2 := cell_blk (j := 2) k5 rfl
         have z4_3 := cell_blk (j := 3) k5 rfl
         have z4_4 := cell_blk (j := 4) k5 rfl
         have z4_5 := cell_blk (j := 5) k5 rfl
         go_wp2_with fail
         refine (HC5.out _ hb5).mono ?_
         rintro e v5 ⟨rfl, hv5⟩
         have hb6 : Below w.heap.size w v5 := hb5.trans (hv5.mono hb5.size)
         have k6 := blk_keep k5 hv5 (Array.getElem?_eq_some_iff.1 k5).1
         have z5_0 := cell_blk (j := 0) k6 rfl
         have z5_1 := cell_blk (j := 1) k6 rfl
         have z5_2 := cell_blk (j := 2) k6 rfl
         have z5_3 := cell_blk (j := 3) k6 rfl
         have z5_4 := cell_blk (j := 4) k6 rfl
         have z5_5 := cell_blk (j := 5) k6 rfl
         go_wp2_with fail
         refine (HN6.out _ hb6).mono ?_
         rintro e v6 ⟨oa6, oc6, rfl, ho6, hv6⟩
         have HT6 := HC6.out v6 oa6 oc6 ho6
         clear ho6
         have hb7 : Below w.heap.size w v6 := hb6.trans (hv6.mono hb6.size)
         have k7 := blk_keep k6 hv6 (Array.getElem?_eq_some_iff.1 k6).1
         have z6_0 := cell_blk (j := 0) k7 rfl
         have z6_1 := cell_blk (j := 1) k7 rfl
         have z6_2 := cell_blk (j := 2) k7 rfl
         have z6_3 := cell_blk (j := 3) k7 rfl
         have z6_4 := cell_blk (j := 4) k7 rfl
         have z6_5 := cell_blk (j := 5) k7 rfl
         go_wp2_with fail
         refine HT6.mono ?_
         rintro e v7 ⟨rfl, hv7⟩
         have hb8 : Below w.heap.size w v7 := hb7.trans (hv7.mono hb7.size)
         have k8 := blk_keep k7 hv7 (Array.getElem?_eq_some_iff.1 k7).1
         have z7_0 := cell_blk (j := 0) k8 rfl
         have z7_1 := cell_blk (j := 1) k8 rfl
         have z7_2 := cell_blk (j := 2) k8 rfl
         have z7_3 := cell_blk (j := 3) k8 rfl
         have z7_4 := cell_blk (j := 4) k8 rfl
         have z7_5 := cell_blk (j := 5) k8 rfl
         go_wp2_with fail
         refine (HN7.out _ hb8).mono ?_
         rintro e v8 ⟨oa8, oc8, rfl, ho8, hv8⟩
         have HT8 := HC7.out v8 oa8 oc8 ho8
         clear ho8
         have hb9 : Below w.heap.size w v8 := hb8.trans (hv8.mono hb8.size)
         have k9 := blk_keep k8 hv8 (Array.getElem?_eq_some_iff.1 k8).1
         have z8_0 := cell_blk (j := 0) k9 rfl
         have z8_1 := cell_blk (j := 1) k9 rfl
         have z8_2 := cell_blk (j := 2) k9 rfl
         have z8_3 := cell_blk (j := 3) k9 rfl
         have z8_4 := cell_blk (j := 4) k9 rfl
         have z8_5 := cell_blk (j := 5) k9 rfl
         go_wp2_with fail
         refine HT8.mono ?_
         rintro e v9 ⟨rfl, hv9⟩
         have hb10 : Below w.heap.size w v9 := hb9.trans (hv9.mono hb9.size)
         have k10 := blk_keep k9 hv9 (Array.getElem?_eq_some_iff.1 k9).1
         have z9_0 := cell_blk (j := 0) k10 rfl
         have z9_1 := cell_blk (j := 1) k10 rfl
         have z9_2 := cell_blk (j := 2) k10 rfl
         have z9_3 := cell_blk (j := 3) k10 rfl
         have z9_4 := cell_blk (j := 4) k10 rfl
         have z9_5 := cell_blk (j := 5) k10 rfl
         go_wp2
         go_ret
         exact ⟨by rw [HQ.out]; rfl, hb10⟩
        ·rw [h7] at HC7
         cases h8 : x.cns.all nB
         ·rw [h8] at HC8
          have HQ : Hid (x.ok = false) := by
           show _ = _
           unfold Srx.ok Srx.names
           rw [Bool.not_eq_false'] at h3
           rw [h8]
           simp
          clear h0 h1 h2 h3 h4 h5 h6 h7 h8 HRT HRD HRV HSD HSV HFD HFV HLI s3 s4 s5
          go_enter Tryz.func23, Tryz.ntmps23
          go_wp2_with fail
          refine (HC0.out _ hb0).mono ?_
          rintro e v0 ⟨rfl, hv0⟩
          have hb1 : Below w.heap.size w v0 := hb0.trans (hv0.mono hb0.size)
          have k1 := blk_keep k0 hv0 (Array.getElem?_eq_some_iff.1 k0).1
          have z0_0 := cell_blk (j := 0) k1 rfl
          have z0_1 := cell_blk (j := 1) k1 rfl
          have z0_2 := cell_blk (j := 2) k1 rfl
          have z0_3 := cell_blk (j := 3) k1 rfl
          have z0_4 := cell_blk (j := 4) k1 rfl
          have z0_5 := cell_blk (j := 5) k1 rfl
          go_wp2_with fail
          refine (HC1.out _ hb1).mono ?_
          rintro e v1 ⟨rfl, hv1⟩
          have hb2 : Below w.heap.size w v1 := hb1.trans (hv1.mono hb1.size)
          have k2 := blk_keep k1 hv1 (Array.getElem?_eq_some_iff.1 k1).1
          have z1_0 := cell_blk (j := 0) k2 rfl
          have z1_1 := cell_blk (j := 1) k2 rfl
          have z1_2 := cell_blk (j := 2) k2 rfl
          have z1_3 := cell_blk (j := 3) k2 rfl
          have z1_4 := cell_blk (j := 4) k2 rfl
          have z1_5 := cell_blk (j := 5) k2 rfl
          go_wp2_with fail
          refine (HC2.out _ hb2).mono ?_
          rintro e v2 ⟨rfl, hv2⟩
          have hb3 : Below w.heap.size w v2 := hb2.trans (hv2.mono hb2.size)
          have k3 := blk_keep k2 hv2 (Array.getElem?_eq_some_iff.1 k2).1
          have z2_0 := cell_blk (j := 0) k3 rfl
          have z2_1 := cell_blk (j := 1) k3 rfl
          have z2_2 := cell_blk (j := 2) k3 rfl
          have z2_3 := cell_blk (j := 3) k3 rfl
          have z2_4 := cell_blk (j := 4) k3 rfl
          have z2_5 := cell_blk (j := 5) k3 rfl
          go_wp2_with fail
          refine (HC3.out _ hb3).mono ?_
          rintro e v3 ⟨rfl, hv3⟩
          have hb4 : Below w.heap.size w v3 := hb3.trans (hv3.mono hb3.size)
          have k4 := blk_keep k3 hv3 (Array.getElem?_eq_some_iff.1 k3).1
          have z3_0 := cell_blk (j := 0) k4 rfl
          have z3_1 := cell_blk (j := 1) k4 rfl
          have z3_2 := cell_blk (j := 2) k4 rfl
          have z3_3 := cell_blk (j := 3) k4 rfl
          have z3_4 := cell_blk (j := 4) k4 rfl
          have z3_5 := cell_blk (j := 5) k4 rfl
          go_wp2_with fail
          refine (HC4.out _ hb4).mono ?_
          rintro e v4 ⟨rfl, hv4⟩
          have hb5 : Below w.heap.size w v4 := hb4.trans (hv4.mono hb4.size)
          have k5 := blk_keep k4 hv4 (Array.getElem?_eq_some_iff.1 k4).1
          have z4_0 := cell_blk (j := 0) k5 rfl
          have z4_1 := cell_blk (j := 1) k5 rfl
          have z4_2 := cell_blk (j := 2) k5 rfl
          have z4_3 := cell_blk (j := 3) k5 rfl
          have z4_4 := cell_blk (j := 4) k5 rfl
          have z4_5 := cell_blk (j := 5) k5 rfl
          go_wp2_with fail
          refine (HC5.out _ hb5).mono ?_
          rintro e v5 ⟨rfl, hv5⟩
          have hb6 : Below w.heap.size w v5 := hb5.trans (hv5.mono hb5.size)
          have k6 := blk_keep k5 hv5 (Array.getElem?_eq_some_iff.1 k5).1
          have z5_0 := cell_blk (j := 0) k6 rfl
          have z5_1 := cell_blk (j := 1) k6 rfl
          have z5_2 := cell_blk (j := 2) k6 rfl
          have z5_3 := cell_blk (j := 3) k6 rfl
          have z5_4 := cell_blk (j := 4) k6 rfl
          have z5_5 := cell_blk (j := 5) k6 rfl
          go_wp2_with fail
          refine (HN6.out _ hb6).mono ?_
          rintro e v6 ⟨oa6, oc6, rfl, ho6, hv6⟩
          have HT6 := HC6.out v6 oa6 oc6 ho6
          clear ho6
          have hb7 : Below w.heap.size w v6 := hb6.trans (hv6.mono hb6.size)
          have k7 := blk_keep k6 hv6 (Array.getElem?_eq_some_iff.1 k6).1
          have z6_0 := cell_blk (j := 0) k7 rfl
          have z6_1 := cell_blk (j := 1) k7 rfl
          have z6_2 := cell_blk (j := 2) k7 rfl
          have z6_3 := cell_blk (j := 3) k7 rfl
          have z6_4 := cell_blk (j := 4) k7 rfl
          have z6_5 := cell_blk (j := 5) k7 rfl
          go_wp2_with fail
          refine HT6.mono ?_
          rintro e v7 ⟨rfl, hv7⟩
          have hb8 : Below w.heap.size w v7 := hb7.trans (hv7.mono hb7.size)
          have k8 := blk_keep k7 hv7 (Array.getElem?_eq_some_iff.1 k7).1
          have z7_0 := cell_blk (j := 0) k8 rfl
          have z7_1 := cell_blk (j := 1) k8 rfl
          have z7_2 := cell_blk (j := 2) k8 rfl
          have z7_3 := cell_blk (j := 3) k8 rfl
          have z7_4 := cell_blk (j := 4) k8 rfl
          have z7_5 := cell_blk (j := 5) k8 rfl
          go_wp2_with fail
          refine (HN7.out _ hb8).mono ?_
          rintro e v8 ⟨oa8, oc8, rfl, ho8, hv8⟩
          have HT8 := HC7.out v8 oa8 oc8 ho8
          clear ho8
          have hb9 : Below w.heap.size w v8 := hb8.trans (hv8.mono hb8.size)
          have k9 := blk_keep k8 hv8 (Array.getElem?_eq_some_iff.1 k8).1
          have z8_0 := cell_blk (j := 0) k9 rfl
          have z8_1 := cell_blk (j := 1) k9 rfl
          have z8_2 := cell_blk (j := 2) k9 rfl
          have z8_3 := cell_blk (j := 3) k9 rfl
          have z8_4 := cell_blk (j := 4) k9 rfl
          have z8_5 := cell_blk (j := 5) k9 rfl
          go_wp2_with fail
          refine HT8.mono ?_
          rintro e v9 ⟨rfl, hv9⟩
          have hb10 : Below w.heap.size w v9 := hb9.trans (hv9.mono hb9.size)
          have k10 := blk_keep k9 hv9 (Array.getElem?_eq_some_iff.1 k9).1
          have z9_0 := cell_blk (j := 0) k10 rfl
          have z9_1 := cell_blk (j := 1) k10 rfl
          have z9_2 := cell_blk (j := 2) k10 rfl
          have z9_3 := cell_blk (j := 3) k10 rfl
          have z9_4 := cell_blk (j := 4) k10 rfl
          have z9_5 := cell_blk (j := 5) k10 rfl
          go_wp2_with fail
          refine (HN8.out _ hb10).mono ?_
          rintro e v10 ⟨oa10, oc10, rfl, ho10, hv10⟩
          have HT10 := HC8.out v10 oa10 oc10 ho10
          clear ho10
          have hb11 : Below w.heap.size w v10 := hb10.trans (hv10.mono hb10.size)
          have k11 := blk_keep k10 hv10 (Array.getElem?_eq_some_iff.1 k10).1
          have z10_0 := cell_blk (j := 0) k11 rfl
          have z10_1 := cell_blk (j := 1) k11 rfl
          have z10_2 := cell_blk (j := 2) k11 rfl
          have z10_3 := cell_blk (j := 3) k11 rfl
          have z10_4 := cell_blk (j := 4) k11 rfl
          have z10_5 := cell_blk (j := 5) k11 rfl
          go_wp2_with fail
          refine HT10.mono ?_
          rintro e v11 ⟨rfl, hv11⟩
          have hb12 : Below w.heap.size w v11 := hb11.trans (hv11.mono hb11.size)
          have k12 := blk_keep k11 hv11 (Array.getElem?_eq_some_iff.1 k11).1
          have z11_0 := cell_blk (j := 0) k12 rfl
          have z11_1 := cell_blk (j := 1) k12 rfl
          have z11_2 := cell_blk (j := 2) k12 rfl
          have z11_3 := cell_blk (j := 3) k12 rfl
          have z11_4 := cell_blk (j := 4) k12 rfl
          have z11_5 := cell_blk (j := 5) k12 rfl
          go_wp2
          go_ret
          exact ⟨by rw [HQ.out]; rfl, hb12⟩
         ·rw [h8] at HC8
          have HQ0 : Hid (x.ok = (x.types.all Typ.ok && x.defs.all Dfn.ok && x.convs.all Dfn.ok)) := Srx.ok_rest h0 h1 h2 h3 h4 h5 h6 h7 h8
          clear h0 h1 h2 h3 h4 h5 h6 h7 h8
          go_enter Tryz.func23, Tryz.ntmps23
          go_wp2_with fail
          refine (HC0.out _ hb0).mono ?_
          rintro e v0 ⟨rfl, hv0⟩
          have hb1 : Below w.heap.size w v0 := hb0.trans (hv0.mono hb0.size)
          have k1 := blk_keep k0 hv0 (Array.getElem?_eq_some_iff.1 k0).1
          have z0_0 := cell_blk (j := 0) k1 rfl
          have z0_1 := cell_blk (j := 1) k1 rfl
          have z0_2 := cell_blk (j := 2) k1 rfl
          have z0_3 := cell_blk (j := 3) k1 rfl
          have z0_4 := cell_blk (j := 4) k1 rfl
          have z0_5 := cell_blk (j := 5) k1 rfl
          go_wp2_with fail
          refine (HC1.out _ hb1).mono ?_
          rintro e v1 ⟨rfl, hv1⟩
          have hb2 : Below w.heap.size w v1 := hb1.trans (hv1.mono hb1.size)
          have k2 := blk_keep k1 hv1 (Array.getElem?_eq_some_iff.1 k1).1
          have z1_0 := cell_blk (j := 0) k2 rfl
          have z1_1 := cell_blk (j := 1) k2 rfl
          have z1_2 := cell_blk (j := 2) k2 rfl
          have z1_3 := cell_blk (j := 3) k2 rfl
          have z1_4 := cell_blk (j := 4) k2 rfl
          have z1_5 := cell_blk (j := 5) k2 rfl
          go_wp2_with fail
          refine (HC2.out _ hb2).mono ?_
          rintro e v2 ⟨rfl, hv2⟩
          have hb3 : Below w.heap.size w v2 := hb2.trans (hv2.mono hb2.size)
          have k3 := blk_keep k2 hv2 (Array.getElem?_eq_some_iff.1 k2).1
          have z2_0 := cell_blk (j := 0) k3 rfl
          have z2_1 := cell_blk (j := 1) k3 rfl
          have z2_2 := cell_blk (j := 2) k3 rfl
          have z2_3 := cell_blk (j := 3) k3 rfl
          have z2_4 := cell_blk (j := 4) k3 rfl
          have z2_5 := cell_blk (j := 5) k3 rfl
          go_wp2_with fail
          refine (HC3.out _ hb3).mono ?_
          rintro e v3 ⟨rfl, hv3⟩
          have hb4 : Below w.heap.size w v3 := hb3.trans (hv3.mono hb3.size)
          have k4 := blk_keep k3 hv3 (Array.getElem?_eq_some_iff.1 k3).1
          have z3_0 := cell_blk (j := 0) k4 rfl
          have z3_1 := cell_blk (j := 1) k4 rfl
          have z3_2 := cell_blk (j := 2) k4 rfl
          have z3_3 := cell_blk (j := 3) k4 rfl
          have z3_4 := cell_blk (j := 4) k4 rfl
          have z3_5 := cell_blk (j := 5) k4 rfl
          go_wp2_with fail
          refine (HC4.out _ hb4).mono ?_
          rintro e v4 ⟨rfl, hv4⟩
          have hb5 : Below w.heap.size w v4 := hb4.trans (hv4.mono hb4.size)
          have k5 := blk_keep k4 hv4 (Array.getElem?_eq_some_iff.1 k4).1
          have z4_0 := cell_blk (j := 0) k5 rfl
          have z4_1 := cell_blk (j := 1) k5 rfl
          have z4_2 := cell_blk (j := 2) k5 rfl
          have z4_3 := cell_blk (j := 3) k5 rfl
          have z4_4 := cell_blk (j := 4) k5 rfl
          have z4_5 := cell_blk (j := 5) k5 rfl
          go_wp2_with fail
          refine (HC5.out _ hb5).mono ?_
          rintro e v5 ⟨rfl, hv5⟩
          have hb6 : Below w.heap.size w v5 := hb5.trans (hv5.mono hb5.size)
          have k6 := blk_keep k5 hv5 (Array.getElem?_eq_some_iff.1 k5).1
          have z5_0 := cell_blk (j := 0) k6 rfl
          have z5_1 := cell_blk (j := 1) k6 rfl
          have z5_2 := cell_blk (j := 2) k6 rfl
          have z5_3 := cell_blk (j := 3) k6 rfl
          have z5_4 := cell_blk (j := 4) k6 rfl
          have z5_5 := cell_blk (j := 5) k6 rfl
          go_wp2_with fail
          refine (HN6.out _ hb6).mono ?_
          rintro e v6 ⟨oa6, oc6, rfl, ho6, hv6⟩
          have HT6 := HC6.out v6 oa6 oc6 ho6
          clear ho6
          have hb7 : Below w.heap.size w v6 := hb6.trans (hv6.mono hb6.size)
          have k7 := blk_keep k6 hv6 (Array.getElem?_eq_some_iff.1 k6).1
          have z6_0 := cell_blk (j := 0) k7 rfl
          have z6_1 := cell_blk (j := 1) k7 rfl
          have z6_2 := cell_blk (j := 2) k7 rfl
          have z6_3 := cell_blk (j := 3) k7 rfl
          have z6_4 := cell_blk (j := 4) k7 rfl
          have z6_5 := cell_blk (j := 5) k7 rfl
          go_wp2_with fail
          refine HT6.mono ?_
          rintro e v7 ⟨rfl, hv7⟩
          have hb8 : Below w.heap.size w v7 := hb7.trans (hv7.mono hb7.size)
          have k8 := blk_keep k7 hv7 (Array.getElem?_eq_some_iff.1 k7).1
          have z7_0 := cell_blk (j := 0) k8 rfl
          have z7_1 := cell_blk (j := 1) k8 rfl
          have z7_2 := cell_blk (j := 2) k8 rfl
          have z7_3 := cell_blk (j := 3) k8 rfl
          have z7_4 := cell_blk (j := 4) k8 rfl
          have z7_5 := cell_blk (j := 5) k8 rfl
          go_wp2_with fail
          refine (HN7.out _ hb8).mono ?_
          rintro e v8 ⟨oa8, oc8, rfl, ho8, hv8⟩
          have HT8 := HC7.out v8 oa8 oc8 ho8
          clear ho8
          have hb9 : Below w.heap.size w v8 := hb8.trans (hv8.mono hb8.size)
          have k9 := blk_keep k8 hv8 (Array.getElem?_eq_some_iff.1 k8).1
          have z8_0 := cell_blk (j := 0) k9 rfl
          have z8_1 := cell_blk (j := 1) k9 rfl
          have z8_2 := cell_blk (j := 2) k9 rfl
          have z8_3 := cell_blk (j := 3) k9 rfl
          have z8_4 := cell_blk (j := 4) k9 rfl
          have z8_5 := cell_blk (j := 5) k9 rfl
          go_wp2_with fail
          refine HT8.mono ?_
          rintro e v9 ⟨rfl, hv9⟩
          have hb10 : Below w.heap.size w v9 := hb9.trans (hv9.mono hb9.size)
          have k10 := blk_keep k9 hv9 (Array.getElem?_eq_some_iff.1 k9).1
          have z9_0 := cell_blk (j := 0) k10 rfl
          have z9_1 := cell_blk (j := 1) k10 rfl
          have z9_2 := cell_blk (j := 2) k10 rfl
          have z9_3 := cell_blk (j := 3) k10 rfl
          have z9_4 := cell_blk (j := 4) k10 rfl
          have z9_5 := cell_blk (j := 5) k10 rfl
          go_wp2_with fail
          refine (HN8.out _ hb10).mono ?_
          rintro e v10 ⟨oa10, oc10, rfl, ho10, hv10⟩
          have HT10 := HC8.out v10 oa10 oc10 ho10
          clear ho10
          have hb11 : Below w.heap.size w v10 := hb10.trans (hv10.mono hb10.size)
          have k11 := blk_keep k10 hv10 (Array.getElem?_eq_some_iff.1 k10).1
          have z10_0 := cell_blk (j := 0) k11 rfl
          have z10_1 := cell_blk (j := 1) k11 rfl
          have z10_2 := cell_blk (j := 2) k11 rfl
          have z10_3 := cell_blk (j := 3) k11 rfl
          have z10_4 := cell_blk (j := 4) k11 rfl
          have z10_5 := cell_blk (j := 5) k11 rfl
          go_wp2_with fail
          refine HT10.mono ?_
          rintro e v11 ⟨rfl, hv11⟩
          have hb12 : Below w.heap.size w v11 := hb11.trans (hv11.mono hb11.size)
          have k12 := blk_keep k11 hv11 (Array.getElem?_eq_some_iff.1 k11).1
          have z11_0 := cell_blk (j := 0) k12 rfl
          have z11_1 := cell_blk (j := 1) k12 rfl
          have z11_2 := cell_blk (j := 2) k12 rfl
          have z11_3 := cell_blk (j := 3) k12 rfl
          have z11_4 := cell_blk (j := 4) k12 rfl
          have z11_5 := cell_blk (j := 5) k12 rfl
          go_wp2
          go_loopw [3] (fun o wr => ∃ i : Nat, i ≤ x.types.length ∧ o = .int .i64 i ∧ (x.types.take i).all Typ.ok = true ∧ Below v11.heap.size v11 wr)
           (fun o _ => x.types.length - (intOf o).toNat)
          case atStart => exact ⟨0, by omega, rfl, by simp, Below.refl _ _⟩
          case round =>
           obtain ⟨i, hi, rfl, hall, hbW⟩ := hrel
           have hb : Below w.heap.size w wr := hb12.trans (hbW.mono hb12.size)
           have hk := blk_keep k12 hbW (Array.getElem?_eq_some_iff.1 k12).1
           have z3 := cell_blk (j := 3) hk rfl
           by_cases hlt : i < x.types.length
           ·obtain ⟨d, hd⟩ : ∃ d, x.types[i]? = some d := ⟨_, List.getElem?_eq_getElem hlt⟩
            obtain ⟨b1, o1, cs, rfl, hbb, rfl, hl⟩ := (HRT.out wr hb) i d hd
            have y0 : wr.cell? ⟨b1, o1 + i * 2, none⟩ = some (.string d.name) := hl 0 _ rfl
            have y1 : wr.cell? ⟨b1, o1 + i * 2 + 1, none⟩ = some (.int .i64 d.size) := hl 1 _ rfl
            have HL : Hid (∀ w1 : World, Calls Tryz.prog 57 #[.int .i64 d.size, .int .i64 0, .int .i64 8] w1 fun e w' => e = .returned (.bool d.ok) ∧ w' = w1) := fun w1 => HLI.out d.size w1
            cases hok : d.ok
            ·rw [hok] at HL
             have HQ : Hid (x.ok = false) := by show _ = _; rw [HQ0.out, all_of_bad _ hd hok]; simp
             clear hok hall hd hl
             go_wp2_with fail
             refine (HL.out _).mono ?_
             rintro e w2 ⟨rfl, rfl⟩
             go_wp2
             go_ret
             exact ⟨by rw [HQ.out]; rfl, hb⟩
            ·rw [hok] at HL
             have HQ : Hid ((x.types.take (i + 1)).all Typ.ok = true) := by show _ = _; rw [all_take_succ _ hd, hall, hok]; rfl
             clear hok hall hd hl
             go_wp2_with fail
             refine (HL.out _).mono ?_
             rintro e w2 ⟨rfl, rfl⟩
             go_wp2
             go_roundw
             case rel => exact ⟨i + 1, by omega, by go_num, HQ.out, hbW⟩
             case measure => simp [intOf]; omega
           ·have hlt' : decide ((i : Int) < (x.types.length : Int)) = false := by simp; omega
            obtain rfl : i = x.types.length := by omega
            rw [List.take_length] at hall
            have HQ1 : Hid (x.ok = (x.defs.all Dfn.ok && x.convs.all Dfn.ok)) := by show _ = _; rw [HQ0.out, hall]; rfl
            have HBW : Hid _ := hbW
            clear hall hb hk hbW
            go_wp2
            go_loopw [4] (fun o wr => ∃ i : Nat, i ≤ x.defs.length ∧ o = .int .i64 i ∧ (x.defs.take i).all Dfn.ok = true ∧ Below v11.heap.size v11 wr)
             (fun o _ => x.defs.length - (intOf o).toNat)
            case atStart => exact ⟨0, by omega, rfl, by simp, HBW.out⟩
            case round =>
             obtain ⟨i, hi, rfl, hall, hbW⟩ := hrel
             have hb : Below w.heap.size w wr := hb12.trans (hbW.mono hb12.size)
             have hk := blk_keep k12 hbW (Array.getElem?_eq_some_iff.1 k12).1
             have z4 := cell_blk (j := 4) hk rfl
             by_cases hlt : i < x.defs.length
             ·obtain ⟨d, hd⟩ : ∃ d, x.defs[i]? = some d := ⟨_, List.getElem?_eq_getElem hlt⟩
              obtain ⟨b1, o1, cs, rfl, hbb, ⟨an, cn, rfl, hrn, hcn⟩, hl⟩ := (HRD.out wr hb) i d hd
              have y0 : wr.cell? ⟨b1, o1 + i * 3, none⟩ = some (.string d.name) := hl 0 _ rfl
              have y1 : wr.cell? ⟨b1, o1 + i * 3 + 1, none⟩ = some (.slice an d.prog.nodes.length cn) := hl 1 _ rfl
              have y2 : wr.cell? ⟨b1, o1 + i * 3 + 2, none⟩ = some (.int .i64 d.prog.root) := hl 2 _ rfl
              obtain ⟨_, ⟨n1, n2⟩, _⟩ := HSD.out d (List.mem_of_getElem? hd)
              have HP : Hid (Calls Tryz.prog 58 #[.agg #[.slice an d.prog.nodes.length cn, .int .i64 d.prog.root]] wr fun e w' => OkPost d.prog.nodes d.prog.root wr e w') := specOk_any an d.prog.nodes cn d.prog.root wr n1 (HFD.out d (List.mem_of_getElem? hd)) (rowN_iff.1 hrn) n2
              have hdW : ∀ v, Below wr.heap.size wr v → Below v11.heap.size v11 v := fun v h => hbW.trans (h.mono hbW.size)
              have good : d.ok = true → Hid ((x.defs.take (i + 1)).all Dfn.ok = true) := fun q => by show _ = _; rw [all_take_succ _ hd, hall, q]; rfl
              have bad : d.ok = false → Hid (x.ok = false) := fun q => by show _ = _; simp [HQ1.out, all_of_bad _ hd q]
              clear hl hd hrn n1 n2 hall
              go_wp2_with fail
              refine HP.out.mono ?_
              rintro e w2 ⟨b, rfl, hq, hb2⟩
              have hq2 : b = d.ok := holds_of hq
              cases b
              ·have HQ := bad hq2.symm
               clear bad good hq hq2
               go_wp2
               go_ret
               exact ⟨by rw [HQ.out]; rfl, hb.trans (hb2.mono hb.size)⟩
              ·have HQ := good hq2.symm
               have HDW : Hid _ := hdW w2 hb2
               clear bad good hq hq2 hdW
               go_wp2
               go_roundw
               case rel => exact ⟨i + 1, by omega, by go_num, HQ.out, HDW.out⟩
               case measure => simp [intOf]; omega
             ·have hlt' : decide ((i : Int) < (x.defs.length : Int)) = false := by simp; omega
              obtain rfl : i = x.defs.length := by omega
              rw [List.take_length] at hall
              have HQ2 : Hid (x.ok = x.convs.all Dfn.ok) := by show _ = _; rw [HQ1.out, hall]; rfl
              have HBW : Hid _ := hbW
              clear hall hb hk hbW
              go_wp2
              go_loopw [5] (fun o wr => ∃ i : Nat, i ≤ x.convs.length ∧ o = .int .i64 i ∧ (x.convs.take i).all Dfn.ok = true ∧ Below v11.heap.size v11 wr)
               (fun o _ => x.convs.length - (intOf o).toNat)
              case atStart => exact ⟨0, by omega, rfl, by simp, HBW.out⟩
              case round =>
               obtain ⟨i, hi, rfl, hall, hbW⟩ := hrel
               have hb : Below w.heap.size w wr := hb12.trans (hbW.mono hb12.size)
               have hk := blk_keep k12 hbW (Array.getElem?_eq_some_iff.1 k12).1
               have z5 := cell_blk (j := 5) hk rfl
               by_cases hlt : i < x.convs.length
               ·obtain ⟨d, hd⟩ : ∃ d, x.convs[i]? = some d := ⟨_, List.getElem?_eq_getElem hlt⟩
                obtain ⟨b1, o1, cs, rfl, hbb, ⟨an, cn, rfl, hrn, hcn⟩, hl⟩ := (HRV.out wr hb) i d hd
                have y0 : wr.cell? ⟨b1, o1 + i * 3, none⟩ = some (.string d.name) := hl 0 _ rfl
                have y1 : wr.cell? ⟨b1, o1 + i * 3 + 1, none⟩ = some (.slice an d.prog.nodes.length cn) := hl 1 _ rfl
                have y2 : wr.cell? ⟨b1, o1 + i * 3 + 2, none⟩ = some (.int .i64 d.prog.root) := hl 2 _ rfl
                obtain ⟨_, ⟨n1, n2⟩, _⟩ := HSV.out d (List.mem_of_getElem? hd)
                have HP : Hid (Calls Tryz.prog 58 #[.agg #[.slice an d.prog.nodes.length cn, .int .i64 d.prog.root]] wr fun e w' => OkPost d.prog.nodes d.prog.root wr e w') := specOk_any an d.prog.nodes cn d.prog.root wr n1 (HFV.out d (List.mem_of_getElem? hd)) (rowN_iff.1 hrn) n2
                have hdW : ∀ v, Below wr.heap.size wr v → Below v11.heap.size v11 v := fun v h => hbW.trans (h.mono hbW.size)
                have good : d.ok = true → Hid ((x.convs.take (i + 1)).all Dfn.ok = true) := fun q => by show _ = _; rw [all_take_succ _ hd, hall, q]; rfl
                have bad : d.ok = false → Hid (x.ok = false) := fun q => by show _ = _; simp [HQ2.out, all_of_bad _ hd q]
                clear hl hd hrn n1 n2 hall
                go_wp2_with fail
                refine HP.out.mono ?_
                rintro e w2 ⟨b, rfl, hq, hb2⟩
                have hq2 : b = d.ok := holds_of hq
                cases b
                ·have HQ := bad hq2.symm
                 clear bad good hq hq2
                 go_wp2
                 go_ret
                 exact ⟨by rw [HQ.out]; rfl, hb.trans (hb2.mono hb.size)⟩
                ·have HQ := good hq2.symm
                 have HDW : Hid _ := hdW w2 hb2
                 clear bad good hq hq2 hdW
                 go_wp2
                 go_roundw
                 case rel => exact ⟨i + 1, by omega, by go_num, HQ.out, HDW.out⟩
                 case measure => simp [intOf]; omega
               ·have hlt' : decide ((i : Int) < (x.convs.length : Int)) = false := by simp; omega
                obtain rfl : i = x.convs.length := by omega
                rw [List.take_length] at hall
                have HQ : Hid (x.ok = true) := by show _ = _; rw [HQ2.out, hall]
                clear hall
                go_wp2
                go_ret
                exact ⟨by rw [HQ.out]; rfl, hb⟩
    ·rw [h3] at HC3
     have HQ : Hid (x.ok = false) := by
      show _ = _
      unfold Srx.ok Srx.names
      rw [Bool.not_eq_true'] at h3
      rw [h3]
      simp
     clear h0 h1 h2 h3 HRT HRD HRV HSD HSV HFD HFV HLI s3 s4 s5
     go_enter Tryz.func23, Tryz.ntmps23
     go_wp2_with fail
     refine (HC0.out _ hb0).mono ?_
     rintro e v0 ⟨rfl, hv0⟩
     have hb1 : Below w.heap.size w v0 := hb0.trans (hv0.mono hb0.size)
     have k1 := blk_keep k0 hv0 (Array.getElem?_eq_some_iff.1 k0).1
     have z0_0 := cell_blk (j := 0) k1 rfl
     have z0_1 := cell_blk (j := 1) k1 rfl
     have z0_2 := cell_blk (j := 2) k1 rfl
     have z0_3 := cell_blk (j := 3) k1 rfl
     have z0_4 := cell_blk (j := 4) k1 rfl
     have z0_5 := cell_blk (j := 5) k1 rfl
     go_wp2_with fail
     refine (HC1.out _ hb1).mono ?_
     rintro e v1 ⟨rfl, hv1⟩
     have hb2 : Below w.heap.size w v1 := hb1.trans (hv1.mono hb1.size)
     have k2 := blk_keep k1 hv1 (Array.getElem?_eq_some_iff.1 k1).1
     have z1_0 := cell_blk (j := 0) k2 rfl
     have z1_1 := cell_blk (j := 1) k2 rfl
     have z1_2 := cell_blk (j := 2) k2 rfl
     have z1_3 := cell_blk (j := 3) k2 rfl
     have z1_4 := cell_blk (j := 4) k2 rfl
     have z1_5 := cell_blk (j := 5) k2 rfl
     go_wp2_with fail
     refine (HC2.out _ hb2).mono ?_
     rintro e v2 ⟨rfl, hv2⟩
     have hb3 : Below w.heap.size w v2 := hb2.trans (hv2.mono hb2.size)
     have k3 := blk_keep k2 hv2 (Array.getElem?_eq_some_iff.1 k2).1
     have z2_0 := cell_blk (j := 0) k3 rfl
     have z2_1 := cell_blk (j := 1) k3 rfl
     have z2_2 := cell_blk (j := 2) k3 rfl
     have z2_3 := cell_blk (j := 3) k3 rfl
     have z2_4 := cell_blk (j := 4) k3 rfl
     have z2_5 := cell_blk (j := 5) k3 rfl
     go_wp2_with fail
     refine (HC3.out _ hb3).mono ?_
     rintro e v3 ⟨rfl, hv3⟩
     have hb4 : Below w.heap.size w v3 := hb3.trans (hv3.mono hb3.size)
     have k4 := blk_keep k3 hv3 (Array.getElem?_eq_some_iff.1 k3).1
     have z3_0 := cell_blk (j := 0) k4 rfl
     have z3_1 := cell_blk (j := 1) k4 rfl
     have z3_2 := cell_blk (j := 2) k4 rfl
     have z3_3 := cell_blk (j := 3) k4 rfl
     have z3_4 := cell_blk (j := 4) k4 rfl
     have z3_5 := cell_blk (j := 5) k4 rfl
     go_wp2
     go_ret
     exact ⟨by rw [HQ.out]; rfl, hb4⟩
   ·rw [h2] at HC2
    have HQ : Hid (x.ok = false) := by
     show _ = _
     unfold Srx.ok Srx.names
     rw [h2]
     simp
    clear h0 h1 h2 HRT HRD HRV HSD HSV HFD HFV HLI s3 s4 s5
    go_enter Tryz.func23, Tryz.ntmps23
    go_wp2_with fail
    refine (HC0.out _ hb0).mono ?_
    rintro e v0 ⟨rfl, hv0⟩
    have hb1 : Below w.heap.size w v0 := hb0.trans (hv0.mono hb0.size)
    have k1 := blk_keep k0 hv0 (Array.getElem?_eq_some_iff.1 k0).1
    have z0_0 := cell_blk (j := 0) k1 rfl
    have z0_1 := cell_blk (j := 1) k1 rfl
    have z0_2 := cell_blk (j := 2) k1 rfl
    have z0_3 := cell_blk (j := 3) k1 rfl
    have z0_4 := cell_blk (j := 4) k1 rfl
    have z0_5 := cell_blk (j := 5) k1 rfl
    go_wp2_with fail
    refine (HC1.out _ hb1).mono ?_
    rintro e v1 ⟨rfl, hv1⟩
    have hb2 : Below w.heap.size w v1 := hb1.trans (hv1.mono hb1.size)
    have k2 := blk_keep k1 hv1 (Array.getElem?_eq_some_iff.1 k1).1
    have z1_0 := cell_blk (j := 0) k2 rfl
    have z1_1 := cell_blk (j := 1) k2 rfl
    have z1_2 := cell_blk (j := 2) k2 rfl
    have z1_3 := cell_blk (j := 3) k2 rfl
    have z1_4 := cell_blk (j := 4) k2 rfl
    have z1_5 := cell_blk (j := 5) k2 rfl
    go_wp2_with fail
    refine (HC2.out _ hb2).mono ?_
    rintro e v2 ⟨rfl, hv2⟩
    have hb3 : Below w.heap.size w v2 := hb2.trans (hv2.mono hb2.size)
    have k3 := blk_keep k2 hv2 (Array.getElem?_eq_some_iff.1 k2).1
    have z2_0 := cell_blk (j := 0) k3 rfl
    have z2_1 := cell_blk (j := 1) k3 rfl
    have z2_2 := cell_blk (j := 2) k3 rfl
    have z2_3 := cell_blk (j := 3) k3 rfl
    have z2_4 := cell_blk (j := 4) k3 rfl
    have z2_5 := cell_blk (j := 5) k3 rfl
    go_wp2
    go_ret
    exact ⟨by rw [HQ.out]; rfl, hb3⟩
  ·rw [h1] at HC1
   have HQ : Hid (x.ok = false) := by
    show _ = _
    unfold Srx.ok Srx.names
    rw [h1]
    simp
   clear h0 h1 HRT HRD HRV HSD HSV HFD HFV HLI s3 s4 s5
   go_enter Tryz.func23, Tryz.ntmps23
   go_wp2_with fail
   refine (HC0.out _ hb0).mono ?_
   rintro e v0 ⟨rfl, hv0⟩
   have hb1 : Below w.heap.size w v0 := hb0.trans (hv0.mono hb0.size)
   have k1 := blk_keep k0 hv0 (Array.getElem?_eq_some_iff.1 k0).1
   have z0_0 := cell_blk (j := 0) k1 rfl
   have z0_1 := cell_blk (j := 1) k1 rfl
   have z0_2 := cell_blk (j := 2) k1 rfl
   have z0_3 := cell_blk (j := 3) k1 rfl
   have z0_4 := cell_blk (j := 4) k1 rfl
   have z0_5 := cell_blk (j := 5) k1 rfl
   go_wp2_with fail
   refine (HC1.out _ hb1).mono ?_
   rintro e v1 ⟨rfl, hv1⟩
   have hb2 : Below w.heap.size w v1 := hb1.trans (hv1.mono hb1.size)
   have k2 := blk_keep k1 hv1 (Array.getElem?_eq_some_iff.1 k1).1
   have z1_0 := cell_blk (j := 0) k2 rfl
   have z1_1 := cell_blk (j := 1) k2 rfl
   have z1_2 := cell_blk (j := 2) k2 rfl
   have z1_3 := cell_blk (j := 3) k2 rfl
   have z1_4 := cell_blk (j := 4) k2 rfl
   have z1_5 := cell_blk (j := 5) k2 rfl
   go_wp2
   go_ret
   exact ⟨by rw [HQ.out]; rfl, hb2⟩
end Go.Proofs.YtamjofdgikifnaaGreat
