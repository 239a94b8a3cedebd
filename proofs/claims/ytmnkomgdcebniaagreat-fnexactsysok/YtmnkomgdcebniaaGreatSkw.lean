/- The law FnExactSysOk walked: for whatever system the program and the model say the same, and the argument stays as it was. -/
import Derived.Test.YtmnkomgdcebniaaGreatSsd
import Derived.Test.YtmnkomgdcebniaaGreatSie
import Derived.Test.YtmnkomgdcebniaaGreatSyz
import Derived.Test.YtmnkomgdcebniaaGreatSyt
import Derived.Test.YtmnkomgdcebniaaGreatSye
import Derived.Test.YtmnkomgdcebniaaGreatSyf
import Derived.Deep.RegionWith
set_option linter.unusedVariables false
namespace Go.Proofs.YtmnkomgdcebniaaGreat
open Go.ChangeShapes Go.WideShapes Go.ChangeAt Go.RowKit
namespace fnExactSysOk
set_option maxRecDepth 100000 in
set_option maxHeartbeats 4000000 in
theorem walk (y : Sy) (a1 a2 a3 a4 : Option Addr) (c1 c2 c3 c4 : Nat) (w : World) (hwf : y.wf) (hr : SyRows w (fun b => b < w.heap.size) a1 a2 a3 a4 c1 c2 c3 c4 y) :
    Calls Tryz.prog 3 #[.agg #[.slice a1 y.heap.length c1, .slice a2 y.insts.length c2, .slice a3 y.units.length c3, .slice a4 y.out.length c4]] w fun e w' => Ans w (.bool true) e w' := by
  have HR : Hid (SyRows w (fun b => b < w.heap.size) a1 a2 a3 a4 c1 c2 c3 c4 y) := hr
  have now : ∀ w2, Below w.heap.size w w2 → SyRows w2 (fun b => b < w2.heap.size) a1 a2 a3 a4 c1 c2 c3 c4 y := fun w2 h2 => HR.out.keep fun b hb => ⟨Nat.lt_of_lt_of_le hb h2.size, h2.block b hb⟩
  have HZ : Hid (∀ w1, Below w.heap.size w w1 → Calls Tryz.prog 8 #[.agg #[.slice a1 y.heap.length c1, .slice a2 y.insts.length c2, .slice a3 y.units.length c3, .slice a4 y.out.length c4], .int .i64 1048576] w1 fun e w' => Ans w1 (.int .i64 (leftOf 1048576 y.bulk)) e w') := fun w1 h => szE_Sys y a1 a2 a3 a4 c1 c2 c3 c4 1048576 w1 (by omega) hwf (now w1 h)
  have hb0 : Below w.heap.size w (w.alloc (Obj.cells #[.slice a1 y.heap.length c1, .slice a2 y.insts.length c2, .slice a3 y.units.length c3, .slice a4 y.out.length c4] 27)) := (Below.refl _ _).alloc (Nat.le_refl _) _
  by_cases hbk : 1048576 < y.bulk
  · rw [leftOf_neg hbk] at HZ
    clear hr hwf now HR
    go_enter Tryz.func3, Tryz.ntmps3
    go_wp2_with fail
    refine (HZ.out _ hb0).mono ?_
    rintro e w1 ⟨rfl, hb1⟩
    have hb2 := hb0.trans (hb1.mono hb0.size)
    go_wp2
    go_ret
    exact ⟨rfl, hb2⟩
  · have hbk' : y.bulk ≤ 1048576 := by omega
    have hsm := Sy.small_of hwf hbk'
    have hfl := Sy.flat_of hbk'
    rw [leftOf_nat hbk] at HZ
    generalize 1048576 - y.bulk = q at *
    have HTO : Hid (∀ w1, Below w.heap.size w w1 → Calls Tryz.prog 10 #[.agg #[.slice a1 y.heap.length c1, .slice a2 y.insts.length c2, .slice a3 y.units.length c3, .slice a4 y.out.length c4]] w1 fun e w' => MadeE rgY y w1 e w') := fun w1 h => toE_Sys y a1 a2 a3 a4 c1 c2 c3 c4 w1 hsm (now w1 h)
    have HSP : Hid (∀ (ap1 ap2 ap3 ap4 : Option Addr) (cp1 cp2 cp3 cp4 : Nat) (w1 : World), SyRows w1 (fun b => b < w1.heap.size) ap1 ap2 ap3 ap4 cp1 cp2 cp3 cp4 y → Calls Tryz.prog 9 #[.agg #[.slice ap1 y.heap.length cp1, .slice ap2 y.insts.length cp2, .slice ap3 y.units.length cp3, .slice ap4 y.out.length cp4]] w1 fun e w' => Ans w1 (.bool y.ok) e w') := fun ap1 ap2 ap3 ap4 cp1 cp2 cp3 cp4 w1 h1 => specSys_any y ap1 ap2 ap3 ap4 cp1 cp2 cp3 cp4 w1 hsm h1 hfl
    have HIM : Hid (∀ (ap1 ap2 ap3 ap4 : Option Addr) (cp1 cp2 cp3 cp4 : Nat) (w1 : World), SyRows w1 (fun b => b < w1.heap.size) ap1 ap2 ap3 ap4 cp1 cp2 cp3 cp4 y → Calls Tryz.prog 11 #[.agg #[.slice ap1 y.heap.length cp1, .slice ap2 y.insts.length cp2, .slice ap3 y.units.length cp3, .slice ap4 y.out.length cp4]] w1 fun e w' => Ans w1 (.bool y.ok) e w') := fun ap1 ap2 ap3 ap4 cp1 cp2 cp3 cp4 w1 h1 => implSys_any y ap1 ap2 ap3 ap4 cp1 cp2 cp3 cp4 w1 hsm h1
    have HEQ : Hid (∀ (ap1 ap2 ap3 ap4 : Option Addr) (cp1 cp2 cp3 cp4 : Nat) (ar1 ar2 ar3 ar4 : Option Addr) (cr1 cr2 cr3 cr4 : Nat) (w1 : World), SyRows w1 (fun b => b < w1.heap.size) ap1 ap2 ap3 ap4 cp1 cp2 cp3 cp4 y → SyRows w1 (fun b => b < w1.heap.size) ar1 ar2 ar3 ar4 cr1 cr2 cr3 cr4 y → Calls Tryz.prog 12 #[.agg #[.slice ap1 y.heap.length cp1, .slice ap2 y.insts.length cp2, .slice ap3 y.units.length cp3, .slice ap4 y.out.length cp4], .agg #[.slice ar1 y.heap.length cr1, .slice ar2 y.insts.length cr2, .slice ar3 y.units.length cr3, .slice ar4 y.out.length cr4]] w1 fun e w' => Ans w1 (.bool true) e w') := fun ap1 ap2 ap3 ap4 cp1 cp2 cp3 cp4 ar1 ar2 ar3 ar4 cr1 cr2 cr3 cr4 w1 h1 h2 => eqE_Sys y ap1 ap2 ap3 ap4 cp1 cp2 cp3 cp4 ar1 ar2 ar3 ar4 cr1 cr2 cr3 cr4 w1 hsm h1 h2
    clear hr hwf hbk hbk' hsm hfl now HR
    go_enter Tryz.func3, Tryz.ntmps3
    go_wp2_with fail
    refine (HZ.out _ hb0).mono ?_
    rintro e w1 ⟨rfl, hb1⟩
    have hk1 := blk_keep (blk_alloc w (Obj.cells #[.slice a1 y.heap.length c1, .slice a2 y.insts.length c2, .slice a3 y.units.length c3, .slice a4 y.out.length c4] 27)) hb1 (by simp)
    have hb2 := hb0.trans (hb1.mono hb0.size)
    have e0 := cell_blk (j := 0) hk1 rfl
    have e1 := cell_blk (j := 1) hk1 rfl
    have e2 := cell_blk (j := 2) hk1 rfl
    have e3 := cell_blk (j := 3) hk1 rfl
    have HK1 : Hid (w1.heap[w.heap.size]? = some (Obj.cells #[.slice a1 y.heap.length c1, .slice a2 y.insts.length c2, .slice a3 y.units.length c3, .slice a4 y.out.length c4] 27)) := hk1
    have hs1 : w.heap.size < w1.heap.size := (Array.getElem?_eq_some_iff.1 hk1).1
    clear hb0 hb1 hk1
    go_wp2_with fail
    refine (HTO.out _ hb2).mono ?_
    rintro e w2 ⟨cs, rfl, ⟨ap1, ap2, ap3, ap4, cp1, cp2, cp3, cp4, rfl, hrd2⟩, hb3⟩
    have hb4 := hb2.trans (hb3.mono hb2.size)
    have HK2 : Hid (w2.heap[w.heap.size]? = some (Obj.cells #[.slice a1 y.heap.length c1, .slice a2 y.insts.length c2, .slice a3 y.units.length c3, .slice a4 y.out.length c4] 27)) := blk_keep HK1.out hb3 hs1
    have hrd2' : SyRows w2 (fun b => b < w2.heap.size) ap1 ap2 ap3 ap4 cp1 cp2 cp3 cp4 y := hrd2.keep fun b hb => ⟨hb.2, rfl⟩
    clear e0 e1 e2 e3 hrd2
    go_wp2_with fail
    refine (HSP.out _ _ _ _ _ _ _ _ _ hrd2').mono ?_
    clear hrd2'
    rintro e w3 ⟨rfl, hb5⟩
    have hb6 := hb4.trans (hb5.mono hb4.size)
    have hs2 := hb3.size
    have hk3 := blk_keep HK2.out hb5 (by omega)
    have HK3 : Hid (w3.heap[w.heap.size]? = some (Obj.cells #[.slice a1 y.heap.length c1, .slice a2 y.insts.length c2, .slice a3 y.units.length c3, .slice a4 y.out.length c4] 27)) := hk3
    have e0 := cell_blk (j := 0) hk3 rfl
    have e1 := cell_blk (j := 1) hk3 rfl
    have e2 := cell_blk (j := 2) hk3 rfl
    have e3 := cell_blk (j := 3) hk3 rfl
    clear hk3 hb3 hb5 hb2 hb4
    go_wp2_with fail
    refine (HTO.out _ hb6).mono ?_
    rintro e w4 ⟨cs, rfl, ⟨ar1, ar2, ar3, ar4, cr1, cr2, cr3, cr4, rfl, hrd4⟩, hb7⟩
    have hb8 := hb6.trans (hb7.mono hb6.size)
    have hs4 := hb7.size
    have hs3 : w.heap.size < w3.heap.size := (Array.getElem?_eq_some_iff.1 HK3.out).1
    have HK4 : Hid (w4.heap[w.heap.size]? = some (Obj.cells #[.slice a1 y.heap.length c1, .slice a2 y.insts.length c2, .slice a3 y.units.length c3, .slice a4 y.out.length c4] 27)) := blk_keep HK3.out hb7 hs3
    have HRD : Hid (SyRows w4 (fun b => b < w4.heap.size) ar1 ar2 ar3 ar4 cr1 cr2 cr3 cr4 y) := hrd4.keep fun b hb => ⟨hb.2, rfl⟩
    clear e0 e1 e2 e3 hb6 hb7 hrd4 HK3 HK2 HK1
    go_wp2_with fail
    have hb9 : Below w4.heap.size w4 (w4.alloc (Obj.cells #[.slice ar1 y.heap.length cr1, .slice ar2 y.insts.length cr2, .slice ar3 y.units.length cr3, .slice ar4 y.out.length cr4] 34)) := (Below.refl _ _).alloc (Nat.le_refl _) _
    have hb10 := hb8.trans (hb9.mono hb8.size)
    refine (HIM.out _ _ _ _ _ _ _ _ _ (HRD.out.keep fun b hb => ⟨Nat.lt_of_lt_of_le hb hb9.size, hb9.block b hb⟩)).mono ?_
    rintro e w5 ⟨rfl, hb11⟩
    have hb12 : Below w4.heap.size w4 w5 := hb9.trans (hb11.mono hb9.size)
    have hb13 := hb10.trans (hb11.mono hb10.size)
    have hk5 := blk_keep HK4.out hb12 (by omega)
    have hx5 := blk_keep (blk_alloc w4 (Obj.cells #[.slice ar1 y.heap.length cr1, .slice ar2 y.insts.length cr2, .slice ar3 y.units.length cr3, .slice ar4 y.out.length cr4] 34)) hb11 (by simp)
    have HD5 : Hid (SyRows w5 (fun b => b < w4.heap.size) ar1 ar2 ar3 ar4 cr1 cr2 cr3 cr4 y) := HRD.out.keep fun b hb => ⟨hb, hb12.block b hb⟩
    have e0 := cell_blk (j := 0) hk5 rfl
    have e1 := cell_blk (j := 1) hk5 rfl
    have e2 := cell_blk (j := 2) hk5 rfl
    have e3 := cell_blk (j := 3) hk5 rfl
    have x0 := cell_blk (j := 0) hx5 rfl
    have x1 := cell_blk (j := 1) hx5 rfl
    have x2 := cell_blk (j := 2) hx5 rfl
    have x3 := cell_blk (j := 3) hx5 rfl
    have HX5 : Hid (w5.heap[w4.heap.size]? = some (Obj.cells #[.slice ar1 y.heap.length cr1, .slice ar2 y.insts.length cr2, .slice ar3 y.units.length cr3, .slice ar4 y.out.length cr4] 34)) := hx5
    have hs5 : w4.heap.size < w5.heap.size := (Array.getElem?_eq_some_iff.1 hx5).1
    clear hb8 hb9 hb10 hb11 hb12 hk5 hx5 HRD HK4
    go_wp2_with fail
    go_region_with (first
      | (go_at_call 10; refine (HTO.out _ ?_).mono ?_; exact below_drewN hb13 _; rintro e w6 ⟨cs, rfl, ⟨at1, at2, at3, at4, ct1, ct2, ct3, ct4, rfl, hrd6⟩, hb14⟩; have hx6 : w6.heap[w4.heap.size]? = some (Obj.cells #[.slice ar1 y.heap.length cr1, .slice ar2 y.insts.length cr2, .slice ar3 y.units.length cr3, .slice ar4 y.out.length cr4] 34) := (hb14.block _ hs5).trans HX5.out; have y0 := cell_blk (j := 0) hx6 rfl; have y1 := cell_blk (j := 1) hx6 rfl; have y2 := cell_blk (j := 2) hx6 rfl; have y3 := cell_blk (j := 3) hx6 rfl; have hrd6' : SyRows w6 (fun b => b < w6.heap.size) at1 at2 at3 at4 ct1 ct2 ct3 ct4 y := hrd6.keep (fun b hb => ⟨hb.2, rfl⟩); have hd6 : SyRows w6 (fun b => b < w6.heap.size) ar1 ar2 ar3 ar4 cr1 cr2 cr3 cr4 y := HD5.out.keep (fun b hb => ⟨Nat.lt_of_lt_of_le hb (Nat.le_trans (Nat.le_of_lt hs5) hb14.size), hb14.block b (Nat.lt_trans hb hs5)⟩))
      | (go_at_call 12; refine (HEQ.out _ _ _ _ _ _ _ _ _ _ _ _ _ _ _ _ _ ?_ ?_).mono ?_; exact hd6; exact hrd6'; rintro e w7 ⟨rfl, hb15⟩))
    all_goals
      have hb16 : Below w.heap.size w w7 := ((below_drewN hb13 _).trans (hb14.mono hb13.size)).trans (hb15.mono (Nat.le_trans hb13.size hb14.size))
      go_wp2
      go_ret
      exact ⟨rfl, hb16⟩
end fnExactSysOk
end Go.Proofs.YtmnkomgdcebniaaGreat
