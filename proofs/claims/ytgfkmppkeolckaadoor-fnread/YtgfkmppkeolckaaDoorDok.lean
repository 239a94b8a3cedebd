/- DataOk: the model's and the program's. -/
import Derived.Test.YtgfkmppkeolckaaDoorRdo
import Derived.Test.YtgfkmppkeolckaaDoorSan
import Derived.Test.YtgfkmppkeolckaaDoorShs
import Derived.Test.YtgfkmppkeolckaaDoorShi
set_option linter.unusedVariables false
namespace Go.Proofs.YtgfkmppkeolckaaDoor
open Go.ChangeShapes Go.WideShapes Go.ChangeAt Go.RowKit
set_option maxRecDepth 100000 in
set_option maxHeartbeats 1000000 in
theorem specDok (a b : Option Addr) (ca cb : Nat) (cs cs' : List Dat) (ts ts' : List Int) (p : Int) (S : ByteArray) (w : World) (hm : ts'.length ≤ 33554432) (hr : RowD w w.heap.size a cs) (hi : RowI w w.heap.size b ts)
    (HSH : ∀ w1, Below w.heap.size w w1 → Calls Tryd.prog 16 #[.agg #[.slice a cs.length ca, .slice b ts.length cb]] w1 fun e w' => Ans w1 (.string S) e w')
    (HRD : ∀ w1, Calls Tryd.prog 9 #[.string S] w1 fun e w' => RdO cs' ts' p w1 e w') (r : Bool) (hpr : p < 0 → r = (decide (cs' = cs) && decide (ts' = ts))) (hpn : 0 ≤ p → r = false) :
    Calls Tryd.prog 14 #[.agg #[.slice a cs.length ca, .slice b ts.length cb]] w fun e w' => Ans w (.bool r) e w' := by
  have HS : Hid (∀ w1, Below w.heap.size w w1 → Calls Tryd.prog 16 #[.agg #[.slice a cs.length ca, .slice b ts.length cb]] w1 fun e w' => Ans w1 (.string S) e w') := HSH
  have HR : Hid (∀ w1, Calls Tryd.prog 9 #[.string S] w1 fun e w' => RdO cs' ts' p w1 e w') := HRD
  have HD : Hid (RowD w w.heap.size a cs) := hr
  have HI : Hid (RowI w w.heap.size b ts) := hi
  have HP : Hid (p < 0 → r = (decide (cs' = cs) && decide (ts' = ts))) := hpr
  have HN : Hid (0 ≤ p → r = false) := hpn
  clear HSH HRD hr hi hpr hpn
  go_enter Tryd.func14, Tryd.ntmps14
  obtain ⟨v0, hv0⟩ : ∃ v0, v0 = w.alloc (Obj.cells #[Value.slice a cs.length ca, Value.slice b ts.length cb] 28) := ⟨_, rfl⟩
  have hb0 : Below w.heap.size w v0 := by rw [hv0]; exact (Below.refl _ _).alloc (Nat.le_refl _) _
  have k0 : v0.heap[w.heap.size]? = some (Obj.cells #[Value.slice a cs.length ca, Value.slice b ts.length cb] 28) := by rw [hv0]; exact blk_at _ _ _ rfl
  have HV0 : Hid (v0 = w.alloc (Obj.cells #[Value.slice a cs.length ca, Value.slice b ts.length cb] 28)) := hv0
  have HB0 : Hid (Below w.heap.size w v0) := hb0
  have K0 : Hid (v0.heap[w.heap.size]? = some (Obj.cells #[Value.slice a cs.length ca, Value.slice b ts.length cb] 28)) := k0
  clear hv0 hb0 k0
  go_wp2_with fail
  rw [← HV0.out]
  refine (HS.out v0 HB0.out).mono ?_
  rintro e w1 ⟨rfl, hb1⟩
  have hz0 := HB0.out.size
  have k1 : w1.heap[w.heap.size]? = some (Obj.cells #[Value.slice a cs.length ca, Value.slice b ts.length cb] 28) := (hb1.block _ (Array.getElem?_eq_some_iff.1 K0.out).1).trans K0.out
  have HB1 : Hid (Below w.heap.size w w1) := HB0.out.trans (hb1.mono hz0)
  have K1 : Hid (w1.heap[w.heap.size]? = some (Obj.cells #[Value.slice a cs.length ca, Value.slice b ts.length cb] 28)) := k1
  clear hb1 k1
  go_wp2_with fail
  refine (HR.out w1).mono ?_
  rintro e w2 ⟨a2, b2, ca2, cb2, rfl, o2, i2, hb2, hn2⟩
  have hz2 := hb2.size
  have hz1 := HB1.out.size
  have hzl := (Array.getElem?_eq_some_iff.1 K1.out).1
  obtain ⟨v2, hv2⟩ : ∃ v2, v2 = w2.alloc (Obj.cells #[Value.slice a2 cs'.length ca2, Value.slice b2 ts'.length cb2] 28) := ⟨_, rfl⟩
  have hbv : Below w2.heap.size w2 v2 := by rw [hv2]; exact (Below.refl _ _).alloc (Nat.le_refl _) _
  have hB2 : Below w1.heap.size w1 v2 := hb2.trans (hbv.mono hz2)
  have hBw : Below w.heap.size w v2 := HB1.out.trans (hB2.mono hz1)
  have k2 : v2.heap[w.heap.size]? = some (Obj.cells #[Value.slice a cs.length ca, Value.slice b ts.length cb] 28) := (hB2.block _ hzl).trans K1.out
  have c0 : (w2.alloc (Obj.cells #[Value.slice a2 cs'.length ca2, Value.slice b2 ts'.length cb2] 28)).cell? ⟨w.heap.size, 0, none⟩ = some (Value.slice a cs.length ca) := by rw [← hv2]; exact cell_blk (j := 0) k2 rfl
  have c1 : (w2.alloc (Obj.cells #[Value.slice a2 cs'.length ca2, Value.slice b2 ts'.length cb2] 28)).cell? ⟨w.heap.size, 1, none⟩ = some (Value.slice b ts.length cb) := by rw [← hv2]; exact cell_blk (j := 1) k2 rfl
  have HSA : Hid (Calls Tryd.prog 37 #[.agg #[.slice a2 cs'.length ca2, .slice b2 ts'.length cb2], .agg #[.slice a cs.length ca, .slice b ts.length cb]] v2 fun e w' => Ans v2 (.bool (decide (cs' = cs) && decide (ts' = ts))) e w') := l2Same_any a2 b2 a b cs' cs ts' ts ca2 cb2 ca cb v2 (by omega) (by omega) (((own_rowD o2).below hbv).mono hbv.size) (((own_rowI i2).below hbv).mono hbv.size) ((HD.out.below hBw).mono hBw.size) ((HI.out.below hBw).mono hBw.size)
  have HV2 : Hid (v2 = w2.alloc (Obj.cells #[Value.slice a2 cs'.length ca2, Value.slice b2 ts'.length cb2] 28)) := hv2
  have HBW : Hid (Below w.heap.size w v2) := hBw
  clear o2 i2 hb2 hv2 hbv hB2 hBw k2
  by_cases hp : p < 0
  · have hr := HP.out hp
    obtain ⟨q, hq⟩ : ∃ q, q = (decide (cs' = cs) && decide (ts' = ts)) := ⟨_, rfl⟩
    rw [← hq] at HSA hr
    subst hr
    clear hq
    go_wp2_with fail
    rw [← HV2.out]
    refine HSA.out.mono ?_
    rintro e w3 ⟨rfl, hb3⟩
    have HB3 : Hid (Below w.heap.size w w3) := HBW.out.trans (hb3.mono HBW.out.size)
    clear hb3 c0 c1
    go_wp2
    go_ret
    exact ⟨rfl, HB3.out⟩
  · have hr := HN.out (by omega)
    subst hr
    have hpd : decide (p < 0) = false := by simp; omega
    clear hp
    go_wp2
    go_ret
    refine ⟨rfl, ?_⟩
    rw [← HV2.out]
    exact HBW.out
set_option maxRecDepth 100000 in
set_option maxHeartbeats 1000000 in
theorem implDok (a b : Option Addr) (ca cb : Nat) (cs cs' : List Dat) (ts ts' : List Int) (p : Int) (S : ByteArray) (w : World) (hm : ts'.length ≤ 33554432) (hr : RowD w w.heap.size a cs) (hi : RowI w w.heap.size b ts)
    (HSH : ∀ w1, Below w.heap.size w w1 → Calls Tryd.prog 10 #[.agg #[.slice a cs.length ca, .slice b ts.length cb]] w1 fun e w' => Ans w1 (.string S) e w')
    (HRD : ∀ w1, Calls Tryd.prog 8 #[.string S] w1 fun e w' => RdO cs' ts' p w1 e w') (r : Bool) (hpr : p = -1 → r = (decide (cs' = cs) && decide (ts' = ts))) (hps : p = -1 ∨ 0 ≤ p) (hpn : 0 ≤ p → r = false) :
    Calls Tryd.prog 12 #[.agg #[.slice a cs.length ca, .slice b ts.length cb]] w fun e w' => Ans w (.bool r) e w' := by
  have HS : Hid (∀ w1, Below w.heap.size w w1 → Calls Tryd.prog 10 #[.agg #[.slice a cs.length ca, .slice b ts.length cb]] w1 fun e w' => Ans w1 (.string S) e w') := HSH
  have HR : Hid (∀ w1, Calls Tryd.prog 8 #[.string S] w1 fun e w' => RdO cs' ts' p w1 e w') := HRD
  have HD : Hid (RowD w w.heap.size a cs) := hr
  have HI : Hid (RowI w w.heap.size b ts) := hi
  have HP : Hid (p = -1 → r = (decide (cs' = cs) && decide (ts' = ts))) := hpr
  have HN : Hid (0 ≤ p → r = false) := hpn
  clear HSH HRD hr hi hpr hpn
  go_enter Tryd.func12, Tryd.ntmps12
  obtain ⟨v0, hv0⟩ : ∃ v0, v0 = w.alloc (Obj.cells #[Value.slice a cs.length ca, Value.slice b ts.length cb] 28) := ⟨_, rfl⟩
  have hb0 : Below w.heap.size w v0 := by rw [hv0]; exact (Below.refl _ _).alloc (Nat.le_refl _) _
  have k0 : v0.heap[w.heap.size]? = some (Obj.cells #[Value.slice a cs.length ca, Value.slice b ts.length cb] 28) := by rw [hv0]; exact blk_at _ _ _ rfl
  have HV0 : Hid (v0 = w.alloc (Obj.cells #[Value.slice a cs.length ca, Value.slice b ts.length cb] 28)) := hv0
  have HB0 : Hid (Below w.heap.size w v0) := hb0
  have K0 : Hid (v0.heap[w.heap.size]? = some (Obj.cells #[Value.slice a cs.length ca, Value.slice b ts.length cb] 28)) := k0
  clear hv0 hb0 k0
  go_wp2_with fail
  rw [← HV0.out]
  refine (HS.out v0 HB0.out).mono ?_
  rintro e w1 ⟨rfl, hb1⟩
  have hz0 := HB0.out.size
  have k1 : w1.heap[w.heap.size]? = some (Obj.cells #[Value.slice a cs.length ca, Value.slice b ts.length cb] 28) := (hb1.block _ (Array.getElem?_eq_some_iff.1 K0.out).1).trans K0.out
  have HB1 : Hid (Below w.heap.size w w1) := HB0.out.trans (hb1.mono hz0)
  have K1 : Hid (w1.heap[w.heap.size]? = some (Obj.cells #[Value.slice a cs.length ca, Value.slice b ts.length cb] 28)) := k1
  clear hb1 k1
  go_wp2_with fail
  refine (HR.out w1).mono ?_
  rintro e w2 ⟨a2, b2, ca2, cb2, rfl, o2, i2, hb2, hn2⟩
  have hz2 := hb2.size
  have hz1 := HB1.out.size
  have hzl := (Array.getElem?_eq_some_iff.1 K1.out).1
  obtain ⟨v2, hv2⟩ : ∃ v2, v2 = w2.alloc (Obj.cells #[Value.slice a2 cs'.length ca2, Value.slice b2 ts'.length cb2] 28) := ⟨_, rfl⟩
  have hbv : Below w2.heap.size w2 v2 := by rw [hv2]; exact (Below.refl _ _).alloc (Nat.le_refl _) _
  have hB2 : Below w1.heap.size w1 v2 := hb2.trans (hbv.mono hz2)
  have hBw : Below w.heap.size w v2 := HB1.out.trans (hB2.mono hz1)
  have k2 : v2.heap[w.heap.size]? = some (Obj.cells #[Value.slice a cs.length ca, Value.slice b ts.length cb] 28) := (hB2.block _ hzl).trans K1.out
  have c0 : (w2.alloc (Obj.cells #[Value.slice a2 cs'.length ca2, Value.slice b2 ts'.length cb2] 28)).cell? ⟨w.heap.size, 0, none⟩ = some (Value.slice a cs.length ca) := by rw [← hv2]; exact cell_blk (j := 0) k2 rfl
  have c1 : (w2.alloc (Obj.cells #[Value.slice a2 cs'.length ca2, Value.slice b2 ts'.length cb2] 28)).cell? ⟨w.heap.size, 1, none⟩ = some (Value.slice b ts.length cb) := by rw [← hv2]; exact cell_blk (j := 1) k2 rfl
  have HE1 : Hid (Calls Tryd.prog 34 #[.slice a2 cs'.length ca2, .slice a cs.length ca] v2 fun e w' => Ans v2 (.bool (decide (cs' = cs))) e w') := equalD_any a2 a cs' cs ca2 ca v2 (by omega) (((own_rowD o2).below hbv).mono hbv.size) ((HD.out.below hBw).mono hBw.size)
  have HE2 : Hid (∀ w3, Below v2.heap.size v2 w3 → Calls Tryd.prog 35 #[.slice b2 ts'.length cb2, .slice b ts.length cb] w3 fun e w' => Ans w3 (.bool (decide (ts' = ts))) e w') := fun w3 h3 => equalI_any b2 b ts' ts cb2 cb w3 (by omega) (((((own_rowI i2).below hbv).mono hbv.size).below h3).mono h3.size) ((((HI.out.below hBw).mono hBw.size).below h3).mono h3.size)
  have KX : Hid (v2.heap[w2.heap.size]? = some (Obj.cells #[Value.slice a2 cs'.length ca2, Value.slice b2 ts'.length cb2] 28)) := by show _ = _; rw [hv2]; exact blk_at _ _ _ rfl
  have K2 : Hid (v2.heap[w.heap.size]? = some (Obj.cells #[Value.slice a cs.length ca, Value.slice b ts.length cb] 28)) := k2
  have HV2 : Hid (v2 = w2.alloc (Obj.cells #[Value.slice a2 cs'.length ca2, Value.slice b2 ts'.length cb2] 28)) := hv2
  have HBW : Hid (Below w.heap.size w v2) := hBw
  clear o2 i2 hb2 hv2 hbv hB2 hBw k2
  obtain ⟨q1, hq1⟩ : ∃ q, q = decide (cs' = cs) := ⟨_, rfl⟩
  obtain ⟨q2, hq2⟩ : ∃ q, q = decide (ts' = ts) := ⟨_, rfl⟩
  rw [← hq1, ← hq2] at HP
  rw [← hq1] at HE1
  rw [← hq2] at HE2
  clear hq1 hq2
  by_cases hp : p = -1
  · have hr := HP.out hp
    subst hr
    subst hp
    go_wp2_with fail
    rw [← HV2.out]
    refine HE1.out.mono ?_
    rintro e w3 ⟨rfl, hb3⟩
    have kx3 := (hb3.block _ (Array.getElem?_eq_some_iff.1 KX.out).1).trans KX.out
    have ka3 := (hb3.block _ (Array.getElem?_eq_some_iff.1 K2.out).1).trans K2.out
    have d1 := cell_blk (j := 1) kx3 rfl
    have d2 := cell_blk (j := 1) ka3 rfl
    have HB3 : Hid (Below w.heap.size w w3) := HBW.out.trans (hb3.mono HBW.out.size)
    have HE3 : Hid (Calls Tryd.prog 35 #[.slice b2 ts'.length cb2, .slice b ts.length cb] w3 fun e w' => Ans w3 (.bool q2) e w') := HE2.out w3 hb3
    clear hb3 c0 c1 kx3 ka3
    cases q1 with
    | true =>
      go_wp2_with fail
      refine HE3.out.mono ?_
      rintro e w4 ⟨rfl, hb4⟩
      have HB4 : Hid (Below w.heap.size w w4) := HB3.out.trans (hb4.mono HB3.out.size)
      clear hb4 d1 d2
      go_wp2
      go_ret
      exact ⟨rfl, HB4.out⟩
    | false =>
      go_wp2
      go_ret
      exact ⟨rfl, HB3.out⟩
  · have hr := HN.out (by rcases hps with h | h; exact absurd h hp; exact h)
    subst hr
    have hpd : (p == -1) = false := by rw [beq_eq_false_iff_ne]; exact hp
    clear hp
    go_wp2
    go_ret
    refine ⟨rfl, ?_⟩
    rw [← HV2.out]
    exact HBW.out
end Go.Proofs.YtgfkmppkeolckaaDoor
