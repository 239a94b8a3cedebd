/- The law FnExactSrcOk walked: for whatever system the program and the model say the same, and the argument stays as it was. -/
import Derived.Test.YtddcoegcpoapcaaSli
import Derived.Test.YtddcoegcpoapcaaSlh
import Derived.Test.YtddcoegcpoapcaaSyz
import Derived.Test.YtddcoegcpoapcaaSyt
import Derived.Test.YtddcoegcpoapcaaSye
import Derived.Deep.RegionWith
set_option linter.unusedVariables false
namespace Go.Proofs.Ytddcoegcpoapcaa
open Go.ChangeShapes Go.WideShapes Go.ChangeAt Go.RowKit
theorem below_drewN {B : Nat} {w w' : World} (h : Below B w w') (n : Nat) : Below B w (w'.drewN n) := ⟨h.os, h.tape, h.output, h.size, h.block⟩
theorem Srx.flat_of {y : Srx} (h : y.bulk ≤ 1048576) : (∀ u ∈ y.defs, (flat u.prog.nodes).length ≤ 1048576) ∧ ∀ u ∈ y.convs, (flat u.prog.nodes).length ≤ 1048576 := by
  unfold Srx.bulk at h
  refine ⟨fun u hu => ?_, fun u hu => ?_⟩
  · have h1 := bulkOf_mem Dfn.bulk hu
    have h2 := bulkN_flat u.prog.nodes
    have h3 : u.bulk = u.name.size + bulkN u.prog.nodes := rfl
    omega
  · have h1 := bulkOf_mem Dfn.bulk hu
    have h2 := bulkN_flat u.prog.nodes
    have h3 : u.bulk = u.name.size + bulkN u.prog.nodes := rfl
    omega
namespace fnExactSrcOk
set_option maxRecDepth 100000 in
set_option maxHeartbeats 4000000 in
theorem walk (y : Srx) (a1 a2 a3 a4 a5 : Option Addr) (c1 c2 c3 c4 c5 : Nat) (w : World) (hwf : y.wf) (hr : SrxRows w (fun b => b < w.heap.size) a1 a2 a3 a4 a5 c1 c2 c3 c4 c5 y) :
    Calls Try.prog 3 #[.agg #[.string y.name, .slice a1 y.imps.length c1, .slice a2 y.exps.length c2, .slice a3 y.types.length c3, .slice a4 y.defs.length c4, .slice a5 y.convs.length c5]] w fun e w' => Ans w (.bool true) e w' := by
  have HR : Hid (SrxRows w (fun b => b < w.heap.size) a1 a2 a3 a4 a5 c1 c2 c3 c4 c5 y) := hr
  have now : ∀ w2, Below w.heap.size w w2 → SrxRows w2 (fun b => b < w2.heap.size) a1 a2 a3 a4 a5 c1 c2 c3 c4 c5 y := fun w2 h2 => HR.out.keep fun b hb => ⟨Nat.lt_of_lt_of_le hb h2.size, h2.block b hb⟩
  have HZ : Hid (∀ w1, Below w.heap.size w w1 → Calls Try.prog 4 #[.agg #[.string y.name, .slice a1 y.imps.length c1, .slice a2 y.exps.length c2, .slice a3 y.types.length c3, .slice a4 y.defs.length c4, .slice a5 y.convs.length c5], .int .i64 1048576] w1 fun e w' => Ans w1 (.int .i64 (leftOf 1048576 y.bulk)) e w') := fun w1 h => szE_Src y a1 a2 a3 a4 a5 c1 c2 c3 c4 c5 1048576 w1 (by omega) hwf (now w1 h)
  have hb0 : Below w.heap.size w (w.alloc (Obj.cells #[.string y.name, .slice a1 y.imps.length c1, .slice a2 y.exps.length c2, .slice a3 y.types.length c3, .slice a4 y.defs.length c4, .slice a5 y.convs.length c5] 26)) := (Below.refl _ _).alloc (Nat.le_refl _) _
  by_cases hbk : 1048576 < y.bulk
  · rw [leftOf_neg hbk] at HZ
    clear hr hwf now HR
    go_enter Try.func3, Try.ntmps3
    go_wp2_with fail
    refine (HZ.out _ hb0).mono ?_
    rintro e w1 ⟨rfl, hb1⟩
    have hb2 := hb0.trans (hb1.mono hb0.size)
    go_wp2
    go_ret
    exact ⟨rfl, hb2⟩
  · have hbk' : y.bulk ≤ 1048576 := by omega
    have hsm := Srx.small_of hwf hbk'
    have hfl := Srx.flat_of hbk'
    rw [leftOf_nat hbk] at HZ
    generalize 1048576 - y.bulk = q at *
    have HTO : Hid (∀ w1, Below w.heap.size w w1 → Calls Try.prog 6 #[.agg #[.string y.name, .slice a1 y.imps.length c1, .slice a2 y.exps.length c2, .slice a3 y.types.length c3, .slice a4 y.defs.length c4, .slice a5 y.convs.length c5]] w1 fun e w' => MadeE rgX y w1 e w') := fun w1 h => toE_Src y a1 a2 a3 a4 a5 c1 c2 c3 c4 c5 w1 hsm (now w1 h)
    have HSP : Hid (∀ (ap1 ap2 ap3 ap4 ap5 : Option Addr) (cp1 cp2 cp3 cp4 cp5 : Nat) (w1 : World), SrxRows w1 (fun b => b < w1.heap.size) ap1 ap2 ap3 ap4 ap5 cp1 cp2 cp3 cp4 cp5 y → Calls Try.prog 5 #[.agg #[.string y.name, .slice ap1 y.imps.length cp1, .slice ap2 y.exps.length cp2, .slice ap3 y.types.length cp3, .slice ap4 y.defs.length cp4, .slice ap5 y.convs.length cp5]] w1 fun e w' => Ans w1 (.bool y.ok) e w') := fun ap1 ap2 ap3 ap4 ap5 cp1 cp2 cp3 cp4 cp5 w1 h1 => specSrc_any y ap1 ap2 ap3 ap4 ap5 cp1 cp2 cp3 cp4 cp5 w1 hsm h1 hfl.1 hfl.2
    have HIM : Hid (∀ (ap1 ap2 ap3 ap4 ap5 : Option Addr) (cp1 cp2 cp3 cp4 cp5 : Nat) (w1 : World), SrxRows w1 (fun b => b < w1.heap.size) ap1 ap2 ap3 ap4 ap5 cp1 cp2 cp3 cp4 cp5 y → Calls Try.prog 7 #[.agg #[.string y.name, .slice ap1 y.imps.length cp1, .slice ap2 y.exps.length cp2, .slice ap3 y.types.length cp3, .slice ap4 y.defs.length cp4, .slice ap5 y.convs.length cp5]] w1 fun e w' => Ans w1 (.bool y.ok) e w') := fun ap1 ap2 ap3 ap4 ap5 cp1 cp2 cp3 cp4 cp5 w1 h1 => implSrc_any y ap1 ap2 ap3 ap4 ap5 cp1 cp2 cp3 cp4 cp5 w1 hsm h1
    have HEQ : Hid (∀ (ap1 ap2 ap3 ap4 ap5 : Option Addr) (cp1 cp2 cp3 cp4 cp5 : Nat) (ar1 ar2 ar3 ar4 ar5 : Option Addr) (cr1 cr2 cr3 cr4 cr5 : Nat) (w1 : World), SrxRows w1 (fun b => b < w1.heap.size) ap1 ap2 ap3 ap4 ap5 cp1 cp2 cp3 cp4 cp5 y → SrxRows w1 (fun b => b < w1.heap.size) ar1 ar2 ar3 ar4 ar5 cr1 cr2 cr3 cr4 cr5 y → Calls Try.prog 8 #[.agg #[.string y.name, .slice ap1 y.imps.length cp1, .slice ap2 y.exps.length cp2, .slice ap3 y.types.length cp3, .slice ap4 y.defs.length cp4, .slice ap5 y.convs.length cp5], .agg #[.string y.name, .slice ar1 y.imps.length cr1, .slice ar2 y.exps.length cr2, .slice ar3 y.types.length cr3, .slice ar4 y.defs.length cr4, .slice ar5 y.convs.length cr5]] w1 fun e w' => Ans w1 (.bool true) e w') := fun ap1 ap2 ap3 ap4 ap5 cp1 cp2 cp3 cp4 cp5 ar1 ar2 ar3 ar4 ar5 cr1 cr2 cr3 cr4 cr5 w1 h1 h2 => eqE_Src y ap1 ap2 ap3 ap4 ap5 cp1 cp2 cp3 cp4 cp5 ar1 ar2 ar3 ar4 ar5 cr1 cr2 cr3 cr4 cr5 w1 hsm h1 h2
    clear hr hwf hbk hbk' hsm hfl now HR
    go_enter Try.func3, Try.ntmps3
    go_wp2_with fail
    refine (HZ.out _ hb0).mono ?_
    rintro e w1 ⟨rfl, hb1⟩
    have hk1 := blk_keep (blk_alloc w (Obj.cells #[.string y.name, .slice a1 y.imps.length c1, .slice a2 y.exps.length c2, .slice a3 y.types.length c3, .slice a4 y.defs.length c4, .slice a5 y.convs.length c5] 26)) hb1 (by simp)
    have hb2 := hb0.trans (hb1.mono hb0.size)
    have e0 := cell_blk (j := 0) hk1 rfl
    have e1 := cell_blk (j := 1) hk1 rfl
    have e2 := cell_blk (j := 2) hk1 rfl
    have e3 := cell_blk (j := 3) hk1 rfl
    have e4 := cell_blk (j := 4) hk1 rfl
    have e5 := cell_blk (j := 5) hk1 rfl
    have HK1 : Hid (w1.heap[w.heap.size]? = some (Obj.cells #[.string y.name, .slice a1 y.imps.length c1, .slice a2 y.exps.length c2, .slice a3 y.types.length c3, .slice a4 y.defs.length c4, .slice a5 y.convs.length c5] 26)) := hk1
    have hs1 : w.heap.size < w1.heap.size := (Array.getElem?_eq_some_iff.1 hk1).1
    clear hb0 hb1 hk1
    go_wp2_with fail
    refine (HTO.out _ hb2).mono ?_
    rintro e w2 ⟨cs, rfl, ⟨ap1, ap2, ap3, ap4, ap5, cp1, cp2, cp3, cp4, cp5, rfl, hrd2⟩, hb3⟩
    have hb4 := hb2.trans (hb3.mono hb2.size)
    have HK2 : Hid (w2.heap[w.heap.size]? = some (Obj.cells #[.string y.name, .slice a1 y.imps.length c1, .slice a2 y.exps.length c2, .slice a3 y.types.length c3, .slice a4 y.defs.length c4, .slice a5 y.convs.length c5] 26)) := blk_keep HK1.out hb3 hs1
    have hrd2' : SrxRows w2 (fun b => b < w2.heap.size) ap1 ap2 ap3 ap4 ap5 cp1 cp2 cp3 cp4 cp5 y := hrd2.keep fun b hb => ⟨hb.2, rfl⟩
    clear e0 e1 e2 e3 e4 e5 hrd2
    go_wp2_with fail
    refine (HSP.out _ _ _ _ _ _ _ _ _ _ _ hrd2').mono ?_
    clear hrd2'
    rintro e w3 ⟨rfl, hb5⟩
    have hb6 := hb4.trans (hb5.mono hb4.size)
    have hs2 := hb3.size
    have hk3 := blk_keep HK2.out hb5 (by omega)
    have HK3 : Hid (w3.heap[w.heap.size]? = some (Obj.cells #[.string y.name, .slice a1 y.imps.length c1, .slice a2 y.exps.length c2, .slice a3 y.types.length c3, .slice a4 y.defs.length c4, .slice a5 y.convs.length c5] 26)) := hk3
    have e0 := cell_blk (j := 0) hk3 rfl
    have e1 := cell_blk (j := 1) hk3 rfl
    have e2 := cell_blk (j := 2) hk3 rfl
    have e3 := cell_blk (j := 3) hk3 rfl
    have e4 := cell_blk (j := 4) hk3 rfl
    have e5 := cell_blk (j := 5) hk3 rfl
    clear hk3 hb3 hb5 hb2 hb4
    go_wp2_with fail
    refine (HTO.out _ hb6).mono ?_
    rintro e w4 ⟨cs, rfl, ⟨ar1, ar2, ar3, ar4, ar5, cr1, cr2, cr3, cr4, cr5, rfl, hrd4⟩, hb7⟩
    have hb8 := hb6.trans (hb7.mono hb6.size)
    have hs4 := hb7.size
    have hs3 : w.heap.size < w3.heap.size := (Array.getElem?_eq_some_iff.1 HK3.out).1
    have HK4 : Hid (w4.heap[w.heap.size]? = some (Obj.cells #[.string y.name, .slice a1 y.imps.length c1, .slice a2 y.exps.length c2, .slice a3 y.types.length c3, .slice a4 y.defs.length c4, .slice a5 y.convs.length c5] 26)) := blk_keep HK3.out hb7 hs3
    have HRD : Hid (SrxRows w4 (fun b => b < w4.heap.size) ar1 ar2 ar3 ar4 ar5 cr1 cr2 cr3 cr4 cr5 y) := hrd4.keep fun b hb => ⟨hb.2, rfl⟩
    clear e0 e1 e2 e3 e4 e5 hb6 hb7 hrd4 HK3 HK2 HK1
    go_wp2_with fail
    have hb9 : Below w4.heap.size w4 (w4.alloc (Obj.cells #[.string y.name, .slice ar1 y.imps.length cr1, .slice ar2 y.exps.length cr2, .slice ar3 y.types.length cr3, .slice ar4 y.defs.length cr4, .slice ar5 y.convs.length cr5] 32)) := (Below.refl _ _).alloc (Nat.le_refl _) _
    have hb10 := hb8.trans (hb9.mono hb8.size)
    refine (HIM.out _ _ _ _ _ _ _ _ _ _ _ (HRD.out.keep fun b hb => ⟨Nat.lt_of_lt_of_le hb hb9.size, hb9.block b hb⟩)).mono ?_
    rintro e w5 ⟨rfl, hb11⟩
    have hb12 : Below w4.heap.size w4 w5 := hb9.trans (hb11.mono hb9.size)
    have hb13 := hb10.trans (hb11.mono hb10.size)
    have hk5 := blk_keep HK4.out hb12 (by omega)
    have hx5 := blk_keep (blk_alloc w4 (Obj.cells #[.string y.name, .slice ar1 y.imps.length cr1, .slice ar2 y.exps.length cr2, .slice ar3 y.types.length cr3, .slice ar4 y.defs.length cr4, .slice ar5 y.convs.length cr5] 32)) hb11 (by simp)
    have HD5 : Hid (SrxRows w5 (fun b => b < w4.heap.size) ar1 ar2 ar3 ar4 ar5 cr1 cr2 cr3 cr4 cr5 y) := HRD.out.keep fun b hb => ⟨hb, hb12.block b hb⟩
    have e0 := cell_blk (j := 0) hk5 rfl
    have e1 := cell_blk (j := 1) hk5 rfl
    have e2 := cell_blk (j := 2) hk5 rfl
    have e3 := cell_blk (j := 3) hk5 rfl
    have e4 := cell_blk (j := 4) hk5 rfl
    have e5 := cell_blk (j := 5) hk5 rfl
    have x0 := cell_blk (j := 0) hx5 rfl
    have x1 := cell_blk (j := 1) hx5 rfl
    have x2 := cell_blk (j := 2) hx5 rfl
    have x3 := cell_blk (j := 3) hx5 rfl
    have x4 := cell_blk (j := 4) hx5 rfl
    have x5 := cell_blk (j := 5) hx5 rfl
    have HX5 : Hid (w5.heap[w4.heap.size]? = some (Obj.cells #[.string y.name, .slice ar1 y.imps.length cr1, .slice ar2 y.exps.length cr2, .slice ar3 y.types.length cr3, .slice ar4 y.defs.length cr4, .slice ar5 y.convs.length cr5] 32)) := hx5
    have hs5 : w4.heap.size < w5.heap.size := (Array.getElem?_eq_some_iff.1 hx5).1
    clear hb8 hb9 hb10 hb11 hb12 hk5 hx5 HRD HK4
    go_wp2_with fail
    go_region_with (first
      | (go_at_call 6; refine (HTO.out _ ?_).mono ?_; exact below_drewN hb13 _; rintro e w6 ⟨cs, rfl, ⟨at1, at2, at3, at4, at5, ct1, ct2, ct3, ct4, ct5, rfl, hrd6⟩, hb14⟩; have hx6 : w6.heap[w4.heap.size]? = some (Obj.cells #[.string y.name, .slice ar1 y.imps.length cr1, .slice ar2 y.exps.length cr2, .slice ar3 y.types.length cr3, .slice ar4 y.defs.length cr4, .slice ar5 y.convs.length cr5] 32) := (hb14.block _ hs5).trans HX5.out; have y0 := cell_blk (j := 0) hx6 rfl; have y1 := cell_blk (j := 1) hx6 rfl; have y2 := cell_blk (j := 2) hx6 rfl; have y3 := cell_blk (j := 3) hx6 rfl; have y4 := cell_blk (j := 4) hx6 rfl; have y5 := cell_blk (j := 5) hx6 rfl; have hrd6' : SrxRows w6 (fun b => b < w6.heap.size) at1 at2 at3 at4 at5 ct1 ct2 ct3 ct4 ct5 y := hrd6.keep (fun b hb => ⟨hb.2, rfl⟩); have hd6 : SrxRows w6 (fun b => b < w6.heap.size) ar1 ar2 ar3 ar4 ar5 cr1 cr2 cr3 cr4 cr5 y := HD5.out.keep (fun b hb => ⟨Nat.lt_of_lt_of_le hb (Nat.le_trans (Nat.le_of_lt hs5) hb14.size), hb14.block b (Nat.lt_trans hb hs5)⟩))
      | (go_at_call 8; refine (HEQ.out _ _ _ _ _ _ _ _ _ _ _ _ _ _ _ _ _ _ _ _ _ ?_ ?_).mono ?_; exact hd6; exact hrd6'; rintro e w7 ⟨rfl, hb15⟩))
    all_goals
      have hb16 : Below w.heap.size w w7 := ((below_drewN hb13 _).trans (hb14.mono hb13.size)).trans (hb15.mono (Nat.le_trans hb13.size hb14.size))
      go_wp2
      go_ret
      exact ⟨rfl, hb16⟩
end fnExactSrcOk
end Go.Proofs.Ytddcoegcpoapcaa
