/- The program: right programs, right sources. -/
import Derived.Test.YtamjofdgikifnaaGreatSlg
import Derived.Test.YtamjofdgikifnaaGreatSle
import Derived.Deep.RegionWith
set_option linter.unusedVariables false
namespace Go.Proofs.YtamjofdgikifnaaGreat
open Go.ChangeShapes Go.WideShapes Go.ChangeAt Go.RowKit
set_option maxRecDepth 100000 in
set_option maxHeartbeats 1000000 in
theorem programs_any (x : Srx) (a1 a2 a3 a4 a5 : Option Addr) (c1 c2 c3 c4 c5 : Nat) (w : World) (hs : x.small) (hr : SrxRows w (fun b => b < w.heap.size) a1 a2 a3 a4 a5 c1 c2 c3 c4 c5 x) :
  Calls Tryz.prog 65 #[.agg #[.string x.name, .slice a1 x.imps.length c1, .slice a2 x.exps.length c2, .slice a3 x.types.length c3, .slice a4 x.defs.length c4, .slice a5 x.convs.length c5]] w fun e w' => Ans w (.bool x.progs) e w' := by
 have S : Hid (SrxAt x a1 a2 a3 a4 a5 c1 c2 c3 c4 c5 w) := srxAt x a1 a2 a3 a4 a5 c1 c2 c3 c4 c5 w hs hr
 clear hs hr
 have hb0 : Below w.heap.size w (w.alloc (Obj.cells #[.string x.name, .slice a1 x.imps.length c1, .slice a2 x.exps.length c2, .slice a3 x.types.length c3, .slice a4 x.defs.length c4, .slice a5 x.convs.length c5] 34)) := (Below.refl _ _).alloc (Nat.le_refl _) _
 have k0 : (w.alloc (Obj.cells #[.string x.name, .slice a1 x.imps.length c1, .slice a2 x.exps.length c2, .slice a3 x.types.length c3, .slice a4 x.defs.length c4, .slice a5 x.convs.length c5] 34)).heap[w.heap.size]? = some (Obj.cells #[.string x.name, .slice a1 x.imps.length c1, .slice a2 x.exps.length c2, .slice a3 x.types.length c3, .slice a4 x.defs.length c4, .slice a5 x.convs.length c5] 34) := blk_at _ _ _ rfl
 have z0 : (w.alloc (Obj.cells #[.string x.name, .slice a1 x.imps.length c1, .slice a2 x.exps.length c2, .slice a3 x.types.length c3, .slice a4 x.defs.length c4, .slice a5 x.convs.length c5] 34)).heap.size = w.heap.size + 1 := by simp
 have HQ0 : Hid (x.progs = (x.defs ++ x.convs).all Dfn.ok) := by show _ = _; rw [List.all_append]; rfl
 have s4 := S.out.l4
 have s5 := S.out.l5
 have HSM : Hid (∀ d ∈ x.defs ++ x.convs, Dfn.small d) := fun d hd => by
  rcases List.mem_append.1 hd with h | h
  ·exact S.out.sdefs d h
  ·exact S.out.sconvs d h
 go_enter Tryz.func65, Tryz.ntmps65
 go_wp2_with fail
 refine (shapes_any _).mono ?_
 rintro e W9 ⟨m, rfl, hM, hml, hb3⟩
 have hb9 : Below w.heap.size w W9 := hb0.trans (hb3.mono hb0.size)
 have k9 := blk_keep k0 hb3 (by rw [z0]; omega)
 have HML : Hid (m < W9.heap.size) := hM.lt
 have HM : Hid (MapIs W9 m 39 (F2 9)) := hM
 have e4 := cell_blk (j := 4) k9 rfl
 have e5 := cell_blk (j := 5) k9 rfl
 clear hM hml hb3 hb0 k0 z0
 have hbX : Below W9.heap.size W9 (W9.alloc (Obj.cells #[.slice a4 x.defs.length c4, .slice a5 x.convs.length c5] 32)) := (Below.refl _ _).alloc (Nat.le_refl _) _
 have hb10 : Below w.heap.size w (W9.alloc (Obj.cells #[.slice a4 x.defs.length c4, .slice a5 x.convs.length c5] 32)) := hb9.alloc hb9.size _
 have kX : (W9.alloc (Obj.cells #[.slice a4 x.defs.length c4, .slice a5 x.convs.length c5] 32)).heap[W9.heap.size]? = some (Obj.cells #[.slice a4 x.defs.length c4, .slice a5 x.convs.length c5] 32) := blk_at _ _ _ rfl
 have HC : Hid (Calls Tryz.prog 32 #[.slice (some ⟨W9.heap.size, 0, none⟩) 2 2] (W9.alloc (Obj.cells #[.slice a4 x.defs.length c4, .slice a5 x.convs.length c5] 32)) fun e w' => CcPost (x.defs ++ x.convs) (x.defs.length + x.convs.length) (W9.alloc (Obj.cells #[.slice a4 x.defs.length c4, .slice a5 x.convs.length c5] 32)) e w') :=
  concat_any x.defs x.convs a4 a5 c4 c5 W9.heap.size _ S.out.l4 S.out.l5 (by simp) (cell_blk (j := 0) kX rfl) (cell_blk (j := 1) kX rfl) (S.out.defs _ hb10) (S.out.convs _ hb10)
 clear S kX
 go_wp2_with fail
 refine HC.out.mono ?_
 rintro e W2 ⟨qa, qc, rfl, hql, hqr, hb4⟩
 have HR : Hid (rgD.Row W2 (fun b => b < W2.heap.size) qa (x.defs ++ x.convs)) := hqr
 have hbY : Below W9.heap.size W9 W2 := hbX.trans (hb4.mono hbX.size)
 have hb2w : Below w.heap.size w W2 := hb10.trans (hb4.mono hb10.size)
 clear hqr hb4 HC hb10 hbX hb9
 obtain ⟨n, hn⟩ : ∃ n, n = x.defs.length + x.convs.length := ⟨_, rfl⟩
 have hnI : (x.defs.length : Int) + (x.convs.length : Int) = (n : Int) := by omega
 rw [← hn] at hql
 have hn2 : n ≤ 2097152 := by omega
 generalize hll : x.defs ++ x.convs = ll at *
 clear hll
 subst hql
 rw [← hn]
 clear hn s4 s5
 go_wp2
 go_loopw [14] (fun o wr => ∃ i : Nat, i ≤ ll.length ∧ o = .int .i64 i ∧ (ll.take i).all Dfn.ok = true ∧ Below W2.heap.size W2 wr)
  (fun o _ => ll.length - (intOf o).toNat)
 case atStart => exact ⟨0, by omega, rfl, by simp, Below.refl _ _⟩
 case round =>
  obtain ⟨i, hi, rfl, hall, hbW⟩ := hrel
  have hb : Below w.heap.size w wr := hb2w.trans (hbW.mono hb2w.size)
  by_cases hlt : i < ll.length
  ·obtain ⟨d, hd⟩ : ∃ d, ll[i]? = some d := ⟨_, List.getElem?_eq_getElem hlt⟩
   obtain ⟨b1, o1, cs, rfl, hbb, ⟨an, cn, rfl, hrn, hcn⟩, hl⟩ := (HR.out.below hbW) i d hd
   have x0 : wr.cell? ⟨b1, o1 + i * 3, none⟩ = some (.string d.name) := hl 0 _ rfl
   have x1 : wr.cell? ⟨b1, o1 + i * 3 + 1, none⟩ = some (.slice an d.prog.nodes.length cn) := hl 1 _ rfl
   have x2 : wr.cell? ⟨b1, o1 + i * 3 + 2, none⟩ = some (.int .i64 d.prog.root) := hl 2 _ rfl
   have hbA : Below w.heap.size w (wr.alloc (Obj.cells #[.string d.name, .slice an d.prog.nodes.length cn, .int .i64 d.prog.root] 63)) := hb.alloc hb.size _
   have hbB : Below W2.heap.size W2 (wr.alloc (Obj.cells #[.string d.name, .slice an d.prog.nodes.length cn, .int .i64 d.prog.root] 63)) := hbW.alloc hbW.size _
   have hbA' : Below wr.heap.size wr (wr.alloc (Obj.cells #[.string d.name, .slice an d.prog.nodes.length cn, .int .i64 d.prog.root] 63)) := (Below.refl _ _).alloc (Nat.le_refl _) _
   obtain ⟨_, ⟨n1, n2⟩, _⟩ := HSM.out d (List.mem_of_getElem? hd)
   have hwr := hbW.size
   have hW9 := hbY.size
   have HP : Hid (∀ w1, Below wr.heap.size wr w1 → Calls Tryz.prog 93 #[.agg #[.slice an d.prog.nodes.length cn, .int .i64 d.prog.root], .map (some m)] w1 fun e w' => OkPost d.prog.nodes d.prog.root w1 e w') := fun w1 h1 => fits_any an d.prog.nodes cn d.prog.root m w1 n1 (rowN_iff.1 (hrn.keep fun b hb' => ⟨by have := h1.size; have : b < W2.heap.size := hb'; omega, h1.block b (by have : b < W2.heap.size := hb'; omega)⟩)) n2 (MapIs.keep (MapIs.keep (MapIs.keep HM.out hbY HML.out) hbW (by have := HML.out; omega)) h1 (by have := HML.out; omega))
   have good : d.ok = true → Hid ((ll.take (i + 1)).all Dfn.ok = true) := fun q => by show _ = _; rw [all_take_succ _ hd, hall, q]; rfl
   have bad : d.ok = false → Hid (ll.all Dfn.ok = false) := fun q => all_of_bad _ hd q
   clear hl hd hrn n1 n2
   go_wp2_with fail
   refine (HP.out _ hbA').mono ?_
   rintro e w2 ⟨b, rfl, hq, hb2⟩
   have hq2 : b = d.ok := holds_of hq
   cases b
   ·have HQ := bad hq2.symm
    clear bad good hall hq hq2
    go_wp2
    go_ret
    exact ⟨by rw [HQ0.out, HQ.out]; rfl, hbA.trans (hb2.mono hbA.size)⟩
   ·have HQ := good hq2.symm
    clear bad good hall hq hq2
    go_wp2
    go_roundw
    case rel => exact ⟨i + 1, by omega, by go_num, HQ.out, hbB.trans (hb2.mono hbB.size)⟩
    case measure => simp [intOf]; omega
  ·obtain rfl : i = ll.length := by omega
   rw [List.take_length] at hall
   have HQ : Hid (ll.all Dfn.ok = true) := hall
   have hlt' : decide ((ll.length : Int) < (ll.length : Int)) = false := by simp
   clear hall
   go_wp2
   go_ret
   exact ⟨by rw [HQ0.out, HQ.out]; rfl, hb⟩
set_option maxRecDepth 100000 in
set_option maxHeartbeats 1000000 in
theorem implSrc_any (x : Srx) (a1 a2 a3 a4 a5 : Option Addr) (c1 c2 c3 c4 c5 : Nat) (w : World) (hs : x.small) (hr : SrxRows w (fun b => b < w.heap.size) a1 a2 a3 a4 a5 c1 c2 c3 c4 c5 x) :
  Calls Tryz.prog 31 #[.agg #[.string x.name, .slice a1 x.imps.length c1, .slice a2 x.exps.length c2, .slice a3 x.types.length c3, .slice a4 x.defs.length c4, .slice a5 x.convs.length c5]] w fun e w' => Ans w (.bool (x.ok)) e w' := by
 have HR : Hid (SrxRows w (fun b => b < w.heap.size) a1 a2 a3 a4 a5 c1 c2 c3 c4 c5 x) := hr
 have HS : Hid x.small := hs
 have S : Hid (SrxAt x a1 a2 a3 a4 a5 c1 c2 c3 c4 c5 w) := srxAt x a1 a2 a3 a4 a5 c1 c2 c3 c4 c5 w hs hr
 clear hs hr
 have hb0 : Below w.heap.size w (w.alloc (Obj.cells #[.string x.name, .slice a1 x.imps.length c1, .slice a2 x.exps.length c2, .slice a3 x.types.length c3, .slice a4 x.defs.length c4, .slice a5 x.convs.length c5] 34)) := (Below.refl _ _).alloc (Nat.le_refl _) _
 have k0 : (w.alloc (Obj.cells #[.string x.name, .slice a1 x.imps.length c1, .slice a2 x.exps.length c2, .slice a3 x.types.length c3, .slice a4 x.defs.length c4, .slice a5 x.convs.length c5] 34)).heap[w.heap.size]? = some (Obj.cells #[.string x.name, .slice a1 x.imps.length c1, .slice a2 x.exps.length c2, .slice a3 x.types.length c3, .slice a4 x.defs.length c4, .slice a5 x.convs.length c5] 34) := blk_at _ _ _ rfl
 have HC0 : Hid (∀ w2, Below w.heap.size w w2 → Calls Tryz.prog 61 #[.string x.name] w2 fun e w' => Ans w2 (.bool (nB x.name)) e w') := fun w2 h2 => implNa_any x.name w2 S.out.sname
 have HC1 : Hid (∀ w2, Below w.heap.size w w2 → Calls Tryz.prog 62 #[.agg #[.string x.name, .slice a1 x.imps.length c1, .slice a2 x.exps.length c2, .slice a3 x.types.length c3, .slice a4 x.defs.length c4, .slice a5 x.convs.length c5]] w2 fun e w' => Ans w2 (.bool (!x.many)) e w') := fun w2 h2 => notTooMany_any x a1 a2 a3 a4 a5 c1 c2 c3 c4 c5 w2 HS.out (SrxRows.keep HR.out fun b h => ⟨Nat.lt_of_lt_of_le h h2.size, h2.block b h⟩)
 have HC2 : Hid (∀ w2, Below w.heap.size w w2 → Calls Tryz.prog 63 #[.agg #[.string x.name, .slice a1 x.imps.length c1, .slice a2 x.exps.length c2, .slice a3 x.types.length c3, .slice a4 x.defs.length c4, .slice a5 x.convs.length c5]] w2 fun e w' => Ans w2 (.bool (x.alike)) e w') := fun w2 h2 => allUnlike_any x a1 a2 a3 a4 a5 c1 c2 c3 c4 c5 w2 HS.out (SrxRows.keep HR.out fun b h => ⟨Nat.lt_of_lt_of_le h h2.size, h2.block b h⟩)
 have HC3 : Hid (∀ w2, Below w.heap.size w w2 → Calls Tryz.prog 64 #[.agg #[.string x.name, .slice a1 x.imps.length c1, .slice a2 x.exps.length c2, .slice a3 x.types.length c3, .slice a4 x.defs.length c4, .slice a5 x.convs.length c5]] w2 fun e w' => Ans w2 (.bool (x.known)) e w') := fun w2 h2 => allKnown_any x a1 a2 a3 a4 a5 c1 c2 c3 c4 c5 w2 HS.out (SrxRows.keep HR.out fun b h => ⟨Nat.lt_of_lt_of_le h h2.size, h2.block b h⟩)
 have HC4 : Hid (∀ w2, Below w.heap.size w w2 → Calls Tryz.prog 65 #[.agg #[.string x.name, .slice a1 x.imps.length c1, .slice a2 x.exps.length c2, .slice a3 x.types.length c3, .slice a4 x.defs.length c4, .slice a5 x.convs.length c5]] w2 fun e w' => Ans w2 (.bool (x.progs)) e w') := fun w2 h2 => programs_any x a1 a2 a3 a4 a5 c1 c2 c3 c4 c5 w2 HS.out (SrxRows.keep HR.out fun b h => ⟨Nat.lt_of_lt_of_le h h2.size, h2.block b h⟩)
 clear S HR HS
 cases h0 : nB x.name
 ·rw [h0] at HC0
  have HQ : Hid ((x.ok) = false) := by show _ = _; rw [← Srx.ok_eq]; simp [h0]
  clear h0
  go_enter Tryz.func31, Tryz.ntmps31
  go_wp2_with fail
  refine (HC0.out _ hb0).mono ?_
  rintro e v0 ⟨rfl, hv0⟩
  have hb1 : Below w.heap.size w v0 := hb0.trans (hv0.mono hb0.size)
  have k1 := blk_keep k0 hv0 (Array.getElem?_eq_some_iff.1 k0).1
  have z0_0 := cell_blk (j := 0) k1 rfl
  have z0_1 := cell_blk (j := 1) k1 rfl
  have z0_2 := cell_blk (j := 2) k1 rfl
  have z0_3 := cell_blk (j := 3) k1 rfl
  have z0_4 := cell_blk (j := 4) k1 rfl
  have z0_5 := cell_blk (j := 5) k1 rfl
  go_wp2
  go_ret
  exact ⟨by rw [HQ.out]; rfl, hb1⟩
 ·rw [h0] at HC0
  cases h1 : (!x.many)
  ·rw [h1] at HC1
   have HQ : Hid ((x.ok) = false) := by show _ = _; rw [← Srx.ok_eq]; simp [h0, h1]
   clear h0 h1
   go_enter Tryz.func31, Tryz.ntmps31
   go_wp2_with fail
   refine (HC0.out _ hb0).mono ?_
   rintro e v0 ⟨rfl, hv0⟩
   have hb1 : Below w.heap.size w v0 := hb0.trans (hv0.mono hb0.size)
   have k1 := blk_keep k0 hv0 (Array.getElem?_eq_some_iff.1 k0).1
   have z0_0 := cell_blk (j := 0) k1 rfl
   have z0_1 := cell_blk (j := 1) k1 rfl
   have z0_2 := cell_blk (j := 2) k1 rfl
   have z0_3 := cell_blk (j := 3) k1 rfl
   have z0_4 := cell_blk (j := 4) k1 rfl
   have z0_5 := cell_blk (j := 5) k1 rfl
   go_wp2_with fail
   refine (HC1.out _ hb1).mono ?_
   rintro e v1 ⟨rfl, hv1⟩
   have hb2 : Below w.heap.size w v1 := hb1.trans (hv1.mono hb1.size)
   have k2 := blk_keep k1 hv1 (Array.getElem?_eq_some_iff.1 k1).1
   have z1_0 := cell_blk (j := 0) k2 rfl
   have z1_1 := cell_blk (j := 1) k2 rfl
   have z1_2 := cell_blk (j := 2) k2 rfl
   have z1_3 := cell_blk (j := 3) k2 rfl
   have z1_4 := cell_blk (j := 4) k2 rfl
   have z1_5 := cell_blk (j := 5) k2 rfl
   go_wp2
   go_ret
   exact ⟨by rw [HQ.out]; rfl, hb2⟩
  ·rw [h1] at HC1
   cases h2 : x.alike
   ·rw [h2] at HC2
    have HQ : Hid ((x.ok) = false) := by show _ = _; rw [← Srx.ok_eq]; simp [h0, h1, h2]
    clear h0 h1 h2
    go_enter Tryz.func31, Tryz.ntmps31
    go_wp2_with fail
    refine (HC0.out _ hb0).mono ?_
    rintro e v0 ⟨rfl, hv0⟩
    have hb1 : Below w.heap.size w v0 := hb0.trans (hv0.mono hb0.size)
    have k1 := blk_keep k0 hv0 (Array.getElem?_eq_some_iff.1 k0).1
    have z0_0 := cell_blk (j := 0) k1 rfl
    have z0_1 := cell_blk (j := 1) k1 rfl
    have z0_2 := cell_blk (j := 2) k1 rfl
    have z0_3 := cell_blk (j := 3) k1 rfl
    have z0_4 := cell_blk (j := 4) k1 rfl
    have z0_5 := cell_blk (j := 5) k1 rfl
    go_wp2_with fail
    refine (HC1.out _ hb1).mono ?_
    rintro e v1 ⟨rfl, hv1⟩
    have hb2 : Below w.heap.size w v1 := hb1.trans (hv1.mono hb1.size)
    have k2 := blk_keep k1 hv1 (Array.getElem?_eq_some_iff.1 k1).1
    have z1_0 := cell_blk (j := 0) k2 rfl
    have z1_1 := cell_blk (j := 1) k2 rfl
    have z1_2 := cell_blk (j := 2) k2 rfl
    have z1_3 := cell_blk (j := 3) k2 rfl
    have z1_4 := cell_blk (j := 4) k2 rfl
    have z1_5 := cell_blk (j := 5) k2 rfl
    go_wp2_with fail
    refine (HC2.out _ hb2).mono ?_
    rintro e v2 ⟨rfl, hv2⟩
    have hb3 : Below w.heap.size w v2 := hb2.trans (hv2.mono hb2.size)
    have k3 := blk_keep k2 hv2 (Array.getElem?_eq_some_iff.1 k2).1
    have z2_0 := cell_blk (j := 0) k3 rfl
    have z2_1 := cell_blk (j := 1) k3 rfl
    have z2_2 := cell_blk (j := 2) k3 rfl
    have z2_3 := cell_blk (j := 3) k3 rfl
    have z2_4 := cell_blk (j := 4) k3 rfl
    have z2_5 := cell_blk (j := 5) k3 rfl
    go_wp2
    go_ret
    exact ⟨by rw [HQ.out]; rfl, hb3⟩
   ·rw [h2] at HC2
    cases h3 : x.known
    ·rw [h3] at HC3
     have HQ : Hid ((x.ok) = false) := by show _ = _; rw [← Srx.ok_eq]; simp [h0, h1, h2, h3]
     clear h0 h1 h2 h3
     go_enter Tryz.func31, Tryz.ntmps31
     go_wp2_with fail
     refine (HC0.out _ hb0).mono ?_
     rintro e v0 ⟨rfl, hv0⟩
     have hb1 : Below w.heap.size w v0 := hb0.trans (hv0.mono hb0.size)
     have k1 := blk_keep k0 hv0 (Array.getElem?_eq_some_iff.1 k0).1
     have z0_0 := cell_blk (j := 0) k1 rfl
     have z0_1 := cell_blk (j := 1) k1 rfl
     have z0_2 := cell_blk (j := 2) k1 rfl
     have z0_3 := cell_blk (j := 3) k1 rfl
     have z0_4 := cell_blk (j := 4) k1 rfl
     have z0_5 := cell_blk (j := 5) k1 rfl
     go_wp2_with fail
     refine (HC1.out _ hb1).mono ?_
     rintro e v1 ⟨rfl, hv1⟩
     have hb2 : Below w.heap.size w v1 := hb1.trans (hv1.mono hb1.size)
     have k2 := blk_keep k1 hv1 (Array.getElem?_eq_some_iff.1 k1).1
     have z1_0 := cell_blk (j := 0) k2 rfl
     have z1_1 := cell_blk (j := 1) k2 rfl
     have z1_2 := cell_blk (j := 2) k2 rfl
     have z1_3 := cell_blk (j := 3) k2 rfl
     have z1_4 := cell_blk (j := 4) k2 rfl
     have z1_5 := cell_blk (j := 5) k2 rfl
     go_wp2_with fail
     refine (HC2.out _ hb2).mono ?_
     rintro e v2 ⟨rfl, hv2⟩
     have hb3 : Below w.heap.size w v2 := hb2.trans (hv2.mono hb2.size)
     have k3 := blk_keep k2 hv2 (Array.getElem?_eq_some_iff.1 k2).1
     have z2_0 := cell_blk (j := 0) k3 rfl
     have z2_1 := cell_blk (j := 1) k3 rfl
     have z2_2 := cell_blk (j := 2) k3 rfl
     have z2_3 := cell_blk (j := 3) k3 rfl
     have z2_4 := cell_blk (j := 4) k3 rfl
     have z2_5 := cell_blk (j := 5) k3 rfl
     go_wp2_with fail
     refine (HC3.out _ hb3).mono ?_
     rintro e v3 ⟨rfl, hv3⟩
     have hb4 : Below w.heap.size w v3 := hb3.trans (hv3.mono hb3.size)
     have k4 := blk_keep k3 hv3 (Array.getElem?_eq_some_iff.1 k3).1
     have z3_0 := cell_blk (j := 0) k4 rfl
     have z3_1 := cell_blk (j := 1) k4 rfl
     have z3_2 := cell_blk (j := 2) k4 rfl
     have z3_3 := cell_blk (j := 3) k4 rfl
     have z3_4 := cell_blk (j := 4) k4 rfl
     have z3_5 := cell_blk (j := 5) k4 rfl
     go_wp2
     go_ret
     exact ⟨by rw [HQ.out]; rfl, hb4⟩
    ·rw [h3] at HC3
     cases h4 : x.progs
     ·rw [h4] at HC4
      have HQ : Hid ((x.ok) = false) := by show _ = _; rw [← Srx.ok_eq]; simp [h0, h1, h2, h3, h4]
      clear h0 h1 h2 h3 h4
      go_enter Tryz.func31, Tryz.ntmps31
      go_wp2_with fail
      refine (HC0.out _ hb0).mono ?_
      rintro e v0 ⟨rfl, hv0⟩
      have hb1 : Below w.heap.size w v0 := hb0.trans (hv0.mono hb0.size)
      have k1 := blk_keep k0 hv0 (Array.getElem?_eq_some_iff.1 k0).1
      have z0_0 := cell_blk (j := 0) k1 rfl
      have z0_1 := cell_blk (j := 1) k1 rfl
      have z0_2 := cell_blk (j := 2) k1 rfl
      have z0_3 := cell_blk (j := 3) k1 rfl
      have z0_4 := cell_blk (j := 4) k1 rfl
      have z0_5 := cell_blk (j := 5) k1 rfl
      go_wp2_with fail
      refine (HC1.out _ hb1).mono ?_
      rintro e v1 ⟨rfl, hv1⟩
      have hb2 : Below w.heap.size w v1 := hb1.trans (hv1.mono hb1.size)
      have k2 := blk_keep k1 hv1 (Array.getElem?_eq_some_iff.1 k1).1
      have z1_0 := cell_blk (j := 0) k2 rfl
      have z1_1 := cell_blk (j := 1) k2 rfl
      have z1_2 := cell_blk (j := 2) k2 rfl
      have z1_3 := cell_blk (j := 3) k2 rfl
      have z1_4 := cell_blk (j := 4) k2 rfl
      have z1_5 := cell_blk (j := 5) k2 rfl
      go_wp2_with fail
      refine (HC2.out _ hb2).mono ?_
      rintro e v2 ⟨rfl, hv2⟩
      have hb3 : Below w.heap.size w v2 := hb2.trans (hv2.mono hb2.size)
      have k3 := blk_keep k2 hv2 (Array.getElem?_eq_some_iff.1 k2).1
      have z2_0 := cell_blk (j := 0) k3 rfl
      have z2_1 := cell_blk (j := 1) k3 rfl
      have z2_2 := cell_blk (j := 2) k3 rfl
      have z2_3 := cell_blk (j := 3) k3 rfl
      have z2_4 := cell_blk (j := 4) k3 rfl
      have z2_5 := cell_blk (j := 5) k3 rfl
      go_wp2_with fail
      refine (HC3.out _ hb3).mono ?_
      rintro e v3 ⟨rfl, hv3⟩
      have hb4 : Below w.heap.size w v3 := hb3.trans (hv3.mono hb3.size)
      have k4 := blk_keep k3 hv3 (Array.getElem?_eq_some_iff.1 k3).1
      have z3_0 := cell_blk (j := 0) k4 rfl
      have z3_1 := cell_blk (j := 1) k4 rfl
      have z3_2 := cell_blk (j := 2) k4 rfl
      have z3_3 := cell_blk (j := 3) k4 rfl
      have z3_4 := cell_blk (j := 4) k4 rfl
      have z3_5 := cell_blk (j := 5) k4 rfl
      go_wp2_with fail
      refine (HC4.out _ hb4).mono ?_
      rintro e v4 ⟨rfl, hv4⟩
      have hb5 : Below w.heap.size w v4 := hb4.trans (hv4.mono hb4.size)
      have k5 := blk_keep k4 hv4 (Array.getElem?_eq_some_iff.1 k4).1
      have z4_0 := cell_blk (j := 0) k5 rfl
      have z4_1 := cell_blk (j := 1) k5 rfl
      have z4_2 := cell_blk (j := 2) k5 rfl
      have z4_3 := cell_blk (j := 3) k5 rfl
      have z4_4 := cell_blk (j := 4) k5 rfl
      have z4_5 := cell_blk (j := 5) k5 rfl
      go_wp2
      go_ret
      exact ⟨by rw [HQ.out]; rfl, hb5⟩
     ·rw [h4] at HC4
      have HQ : Hid ((x.ok) = true) := by show _ = _; rw [← Srx.ok_eq]; simp [h0, h1, h2, h3, h4]
      clear h0 h1 h2 h3 h4
      go_enter Tryz.func31, Tryz.ntmps31
      go_wp2_with fail
      refine (HC0.out _ hb0).mono ?_
      rintro e v0 ⟨rfl, hv0⟩
      have hb1 : Below w.heap.size w v0 := hb0.trans (hv0.mono hb0.size)
      have k1 := blk_keep k0 hv0 (Array.getElem?_eq_some_iff.1 k0).1
      have z0_0 := cell_blk (j := 0) k1 rfl
      have z0_1 := cell_blk (j := 1) k1 rfl
      have z0_2 := cell_blk (j := 2) k1 rfl
      have z0_3 := cell_blk (j := 3) k1 rfl
      have z0_4 := cell_blk (j := 4) k1 rfl
      have z0_5 := cell_blk (j := 5) k1 rfl
      go_wp2_with fail
      refine (HC1.out _ hb1).mono ?_
      rintro e v1 ⟨rfl, hv1⟩
      have hb2 : Below w.heap.size w v1 := hb1.trans (hv1.mono hb1.size)
      have k2 := blk_keep k1 hv1 (Array.getElem?_eq_some_iff.1 k1).1
      have z1_0 := cell_blk (j := 0) k2 rfl
      have z1_1 := cell_blk (j := 1) k2 rfl
      have z1_2 := cell_blk (j := 2) k2 rfl
      have z1_3 := cell_blk (j := 3) k2 rfl
      have z1_4 := cell_blk (j := 4) k2 rfl
      have z1_5 := cell_blk (j := 5) k2 rfl
      go_wp2_with fail
      refine (HC2.out _ hb2).mono ?_
      rintro e v2 ⟨rfl, hv2⟩
      have hb3 : Below w.heap.size w v2 := hb2.trans (hv2.mono hb2.size)
      have k3 := blk_keep k2 hv2 (Array.getElem?_eq_some_iff.1 k2).1
      have z2_0 := cell_blk (j := 0) k3 rfl
      have z2_1 := cell_blk (j := 1) k3 rfl
      have z2_2 := cell_blk (j := 2) k3 rfl
      have z2_3 := cell_blk (j := 3) k3 rfl
      have z2_4 := cell_blk (j := 4) k3 rfl
      have z2_5 := cell_blk (j := 5) k3 rfl
      go_wp2_with fail
      refine (HC3.out _ hb3).mono ?_
      rintro e v3 ⟨rfl, hv3⟩
      have hb4 : Below w.heap.size w v3 := hb3.trans (hv3.mono hb3.size)
      have k4 := blk_keep k3 hv3 (Array.getElem?_eq_some_iff.1 k3).1
      have z3_0 := cell_blk (j := 0) k4 rfl
      have z3_1 := cell_blk (j := 1) k4 rfl
      have z3_2 := cell_blk (j := 2) k4 rfl
      have z3_3 := cell_blk (j := 3) k4 rfl
      have z3_4 := cell_blk (j := 4) k4 rfl
      have z3_5 := cell_blk (j := 5) k4 rfl
      go_wp2_with fail
      refine (HC4.out _ hb4).mono ?_
      rintro e v4 ⟨rfl, hv4⟩
      have hb5 : Below w.heap.size w v4 := hb4.trans (hv4.mono hb4.size)
      have k5 := blk_keep k4 hv4 (Array.getElem?_eq_some_iff.1 k4).1
      have z4_0 := cell_blk (j := 0) k5 rfl
      have z4_1 := cell_blk (j := 1) k5 rfl
      have z4_2 := cell_blk (j := 2) k5 rfl
      have z4_3 := cell_blk (j := 3) k5 rfl
      have z4_4 := cell_blk (j := 4) k5 rfl
      have z4_5 := cell_blk (j := 5) k5 rfl
      go_wp2
      go_ret
      exact ⟨by rw [HQ.out]; rfl, hb5⟩
end Go.Proofs.YtamjofdgikifnaaGreat
