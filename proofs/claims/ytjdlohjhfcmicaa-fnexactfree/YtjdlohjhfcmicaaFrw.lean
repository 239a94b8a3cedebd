/- The law FnExactFree walked: for whatever program the program's Free and the model's tell the same, its argument stays as it was, and the answer is memory of its own. -/
import Derived.Test.YtjdlohjhfcmicaaFri
import Derived.Test.YtjdlohjhfcmicaaMkp
import Derived.Test.YtjdlohjhfcmicaaTel
set_option linter.unusedVariables false
namespace Go.Proofs.Ytjdlohjhfcmicaa
open Go.ChangeShapes Go.WideShapes Go.ChangeAt Go.RowKit
namespace fnExactFree
set_option maxRecDepth 100000 in
set_option maxHeartbeats 8000000 in
theorem walk (a : Option Addr) (ca : Nat) (cs : List Nod) (root : Int) (idx : Int) (hidx : i64B idx) (w : World) (hl1 : cs.length ≤ 9223372036854775807) (hwf : ∀ d ∈ cs, d.wf) (hr : RowN w w.heap.size a cs) :
    Calls Try.prog 3 #[.agg #[.slice a cs.length ca, .int .i64 root], .int .i64 idx] w fun e w' => Ans w (.bool true) e w' := by
  have HZ : Hid (∀ w1, Below w.heap.size w w1 → Calls Try.prog 6 #[.agg #[.slice a cs.length ca, .int .i64 root], .int .i64 1048576] w1 fun e w' => Ans w1 (.int .i64 (leftOf 1048576 (bulkN cs))) e w') := fun w1 h => szProg_any a cs ca root 1048576 w1 (by omega) hl1 ((hr.below h).mono h.size) hwf
  have hb0 : Below w.heap.size w (w.alloc (Obj.cells #[.slice a cs.length ca, .int .i64 root] 24)) := (Below.refl _ _).alloc (Nat.le_refl _) _
  by_cases hbk : 1048576 < bulkN cs
  · rw [leftOf_neg hbk] at HZ
    clear hr hwf
    go_enter Try.func3, Try.ntmps3
    go_wp2_with fail
    refine (HZ.out _ hb0).mono ?_
    rintro e w1 ⟨rfl, hb1⟩
    have hb2 := hb0.trans (hb1.mono hb0.size)
    go_wp2
    go_ret
    exact ⟨rfl, hb2⟩
  · have hln := bulkN_len cs
    have hbk' : bulkN cs ≤ 1048576 := by omega
    have hsm := small_of hwf hbk'
    have hfl : (flat cs).length ≤ 1048576 := Nat.le_trans (bulkN_flat cs) hbk'
    have HBK : Hid (bulkN cs ≤ 1048576) := hbk'
    rw [leftOf_nat hbk] at HZ
    obtain ⟨l, hll, hsp, him⟩ := frees cs root idx hidx (by omega) hfl hsm hbk'
    generalize 1048576 - bulkN cs = q at *
    have HTO : Hid (∀ w1, Below w.heap.size w w1 → Calls Try.prog 8 #[.agg #[.slice a cs.length ca, .int .i64 root]] w1 fun e w' => TpPostU cs root w1 e w') := fun w1 h => toProgU_any a cs ca root w1 (by omega) ((hr.below h).mono h.size) hsm
    have HSP : Hid (∀ (a : Option Addr) (ca : Nat) (w1 : World), RowN w1 w1.heap.size a cs → Calls Try.prog 7 #[.agg #[.slice a cs.length ca, .int .i64 root], .int .i64 idx] w1 fun e w' => TellP l w1 e w') := hsp
    have HIM : Hid (∀ (a : Option Addr) (ca : Nat) (w1 : World), RowN w1 w1.heap.size a cs → Calls Try.prog 9 #[.agg #[.slice a cs.length ca, .int .i64 root], .int .i64 idx] w1 fun e w' => TellP l w1 e w') := him
    have HEQ : Hid (∀ (a a' : Option Addr) (ca ca' : Nat) (w1 : World), RowN w1 w1.heap.size a cs → RowN w1 w1.heap.size a' cs → Calls Try.prog 11 #[.agg #[.slice a cs.length ca, .int .i64 root], .agg #[.slice a' cs.length ca', .int .i64 root]] w1 fun e w' => Ans w1 (.bool true) e w') := fun a a' ca ca' w1 h1 h2 => eqProg_same a a' cs ca ca' root w1 (by omega) hsm h1 h2
    have HES : Hid (∀ (a a' : Option Addr) (ca ca' : Nat) (w1 : World), RowS w1 w1.heap.size a l → RowS w1 w1.heap.size a' l → Calls Try.prog 10 #[.slice a l.length ca, .slice a' l.length ca'] w1 fun e w' => Ans w1 (.bool true) e w') := fun a a' ca ca' w1 h1 h2 => eqStringS_same a a' l ca ca' w1 (by omega) h1 h2
    clear hr hwf hbk hbk' hsm hfl hln hsp him
    go_enter Try.func3, Try.ntmps3
    go_wp2_with fail
    refine (HZ.out _ hb0).mono ?_
    rintro e w1 ⟨rfl, hb1⟩
    have hk1 := blk_keep (blk_alloc w (Obj.cells #[.slice a cs.length ca, .int .i64 root] 24)) hb1 (by simp)
    have HB1 : Hid (Below w.heap.size w w1) := hb0.trans (hb1.mono hb0.size)
    have e0 := cell_blk (j := 0) hk1 rfl
    have e1 := cell_blk (j := 1) hk1 rfl
    have HK1 : Hid (w1.heap[w.heap.size]? = some (Obj.cells #[.slice a cs.length ca, .int .i64 root] 24)) := hk1
    clear hb0 hb1 hk1 HZ
    -- the model's answer
    go_wp2_with fail
    refine (HTO.out _ HB1.out).mono ?_
    rintro e w2 ⟨g2, rfl, hrd2, _, _, _, hb2⟩
    have HB2 : Hid (Below w.heap.size w w2) := HB1.out.trans (hb2.mono HB1.out.size)
    have HK2 : Hid (w2.heap[w.heap.size]? = some (Obj.cells #[.slice a cs.length ca, .int .i64 root] 24)) := blk_keep HK1.out hb2 (Array.getElem?_eq_some_iff.1 HK1.out).1
    clear e0 e1 hb2 HB1 HK1
    go_wp2_with fail
    refine (HSP.out _ _ _ hrd2).mono ?_
    clear hrd2
    rintro e w3 ⟨vw, rfl, hown3, hb3⟩
    obtain ⟨aw, cw, rfl⟩ := hown3.slice
    have HB3 : Hid (Below w.heap.size w w3) := HB2.out.trans (hb3.mono HB2.out.size)
    have hk3 := blk_keep HK2.out hb3 (Array.getElem?_eq_some_iff.1 HK2.out).1
    have HK3 : Hid (w3.heap[w.heap.size]? = some (Obj.cells #[.slice a cs.length ca, .int .i64 root] 24)) := hk3
    have HW3 : Hid (OwnS w3 w.heap.size (.slice aw l.length cw) l) := hown3.weak HB2.out.size
    have HLT : Hid (∀ b, (Value.slice aw l.length cw).ownBlock = some b → b < w3.heap.size) := fun b hb => (hown3.lt hb).2
    have e0 := cell_blk (j := 0) hk3 rfl
    have e1 := cell_blk (j := 1) hk3 rfl
    clear hb3 hown3 hk3 HB2 HK2
    -- the program's argument
    go_wp2_with fail
    refine (HTO.out _ HB3.out).mono ?_
    rintro e w4 ⟨g4, rfl, hrd4, hg4, hnd4, hcu4, hb4⟩
    have HB4 : Hid (Below w.heap.size w w4) := HB3.out.trans (hb4.mono HB3.out.size)
    have HK4 : Hid (w4.heap[w.heap.size]? = some (Obj.cells #[.slice a cs.length ca, .int .i64 root] 24)) := blk_keep HK3.out hb4 (Array.getElem?_eq_some_iff.1 HK3.out).1
    have HW4 : Hid (OwnS w4 w.heap.size (.slice aw l.length cw) l) := HW3.out.below hb4
    have HGL : Hid (w3.heap.size ≤ g4 ∧ g4 < w4.heap.size) := ⟨hg4, by obtain ⟨cur, h1, _⟩ := hcu4; exact (Array.getElem?_eq_some_iff.1 h1).1⟩
    have HX4 : Hid (XAt w3.heap.size w4.heap.size w4 g4 cs) := XAt.of hnd4 hcu4
    have HRD : Hid (RowN w4 w4.heap.size (some ⟨g4, 0, none⟩) cs) := hrd4
    have h34 := hb4.size
    have hw3 := HB3.out.size
    have hP3 : w.heap.size < w3.heap.size := (Array.getElem?_eq_some_iff.1 HK3.out).1
    clear hrd4 hg4 hnd4 hcu4 hb4 e0 e1 HB3 HK3 HW3
    -- the program's answer
    obtain ⟨v4, hv4⟩ : ∃ v4, v4 = w4.alloc (Obj.cells #[.slice (some ⟨g4, 0, none⟩) cs.length cs.length, .int .i64 root] 30) := ⟨_, rfl⟩
    have hbv : Below w4.heap.size w4 v4 := by rw [hv4]; exact (Below.refl _ _).alloc (Nat.le_refl _) _
    have kx : v4.heap[w4.heap.size]? = some (Obj.cells #[.slice (some ⟨g4, 0, none⟩) cs.length cs.length, .int .i64 root] 30) := by rw [hv4]; exact blk_at _ _ _ rfl
    have HV4 : Hid (v4 = w4.alloc (Obj.cells #[.slice (some ⟨g4, 0, none⟩) cs.length cs.length, .int .i64 root] 30)) := hv4
    have HI4 : Hid (Calls Try.prog 9 #[.agg #[.slice (some ⟨g4, 0, none⟩) cs.length cs.length, .int .i64 root], .int .i64 idx] v4 fun e w' => TellP l v4 e w') := HIM.out _ _ _ ((HRD.out.below hbv).mono hbv.size)
    have HBV : Hid (Below w.heap.size w v4) := HB4.out.trans (hbv.mono HB4.out.size)
    have HKV : Hid (v4.heap[w.heap.size]? = some (Obj.cells #[.slice a cs.length ca, .int .i64 root] 24)) := blk_keep HK4.out hbv (Array.getElem?_eq_some_iff.1 HK4.out).1
    have HWV : Hid (OwnS v4 w.heap.size (.slice aw l.length cw) l) := HW4.out.below hbv
    have HXV : Hid (XAt w3.heap.size w4.heap.size v4 g4 cs) := HX4.out.keep hbv
    have HRV : Hid (RowN v4 w4.heap.size (some ⟨g4, 0, none⟩) cs) := HRD.out.below hbv
    have HXB : Hid (v4.heap[w4.heap.size]? = some (Obj.cells #[.slice (some ⟨g4, 0, none⟩) cs.length cs.length, .int .i64 root] 30)) := kx
    have h4v : w4.heap.size < v4.heap.size := (Array.getElem?_eq_some_iff.1 kx).1
    clear hv4 hbv kx HB4 HK4 HW4 HX4 HRD
    go_wp2_with fail
    rw [← HV4.out]
    refine HI4.out.mono ?_
    clear HI4 HV4
    rintro e w5 ⟨vg, rfl, hown5, hb5⟩
    obtain ⟨ag, cg, rfl⟩ := hown5.slice
    have HB5 : Hid (Below w.heap.size w w5) := HBV.out.trans (hb5.mono HBV.out.size)
    have HK5 : Hid (w5.heap[w.heap.size]? = some (Obj.cells #[.slice a cs.length ca, .int .i64 root] 24)) := blk_keep HKV.out hb5 (Array.getElem?_eq_some_iff.1 HKV.out).1
    have HW5 : Hid (OwnS w5 w.heap.size (.slice aw l.length cw) l) := HWV.out.below hb5
    have HX5 : Hid (XAt w3.heap.size w4.heap.size w5 g4 cs) := HXV.out.keep hb5
    have HR5 : Hid (RowN w5 w4.heap.size (some ⟨g4, 0, none⟩) cs) := HRV.out.below (hb5.mono (Nat.le_of_lt h4v))
    have HG5 : Hid (OwnS w5 v4.heap.size (.slice ag l.length cg) l) := hown5
    have hx5 := blk_keep HXB.out hb5 h4v
    have HX5B : Hid (w5.heap[w4.heap.size]? = some (Obj.cells #[.slice (some ⟨g4, 0, none⟩) cs.length cs.length, .int .i64 root] 30)) := hx5
    have h45 : w4.heap.size < w5.heap.size := (Array.getElem?_eq_some_iff.1 hx5).1
    have hv5 := hb5.size
    clear hown5 hb5 hx5 HBV HKV HWV HXV HRV HXB
    go_wp2_with fail
    refine (HES.out _ _ _ _ w5 HG5.out.row.2 HW5.out.row.2).mono ?_
    rintro e w6 ⟨rfl, hb6⟩
    have HB6 : Hid (Below w.heap.size w w6) := HB5.out.trans (hb6.mono HB5.out.size)
    have hk6 := blk_keep HK5.out hb6 (Array.getElem?_eq_some_iff.1 HK5.out).1
    have HK6 : Hid (w6.heap[w.heap.size]? = some (Obj.cells #[.slice a cs.length ca, .int .i64 root] 24)) := hk6
    have HW6 : Hid (OwnS w6 w.heap.size (.slice aw l.length cw) l) := HW5.out.below hb6
    have HG6 : Hid (OwnS w6 v4.heap.size (.slice ag l.length cg) l) := HG5.out.below hb6
    have HX6 : Hid (XAt w3.heap.size w4.heap.size w6 g4 cs) := HX5.out.keep hb6
    have HR6 : Hid (RowN w6 w4.heap.size (some ⟨g4, 0, none⟩) cs) := HR5.out.below (hb6.mono (Nat.le_of_lt h45))
    have hx6 := blk_keep HX5B.out hb6 h45
    have HX6B : Hid (w6.heap[w4.heap.size]? = some (Obj.cells #[.slice (some ⟨g4, 0, none⟩) cs.length cs.length, .int .i64 root] 30)) := hx6
    have h46 : w4.heap.size < w6.heap.size := (Array.getElem?_eq_some_iff.1 hx6).1
    have h56 := hb6.size
    have e0 := cell_blk (j := 0) hk6 rfl
    have e1 := cell_blk (j := 1) hk6 rfl
    have x0 := cell_blk (j := 0) hx6 rfl
    have x1 := cell_blk (j := 1) hx6 rfl
    clear hb6 hk6 hx6 HB5 HK5 HW5 HG5 HX5 HR5 HX5B
    go_wp2_with fail
    go_region_with (first
      | (go_at_call 8; refine (HTO.out _ ?_).mono ?_; exact below_drewN HB6.out _; rintro e w7 ⟨g7, rfl, hrd7, _, _, _, hb7⟩; have hx7 : w7.heap[w4.heap.size]? = some (Obj.cells #[.slice (some ⟨g4, 0, none⟩) cs.length cs.length, .int .i64 root] 30) := (hb7.block _ h46).trans HX6B.out; have y0 := cell_blk (j := 0) hx7 rfl; have y1 := cell_blk (j := 1) hx7 rfl; have hd7 : RowN w7 w7.heap.size (some ⟨g4, 0, none⟩) cs := (HR6.out.below ((below_drewN (Below.refl w4.heap.size w6) 1).trans (hb7.mono (Nat.le_of_lt h46)))).mono (Nat.le_trans (Nat.le_of_lt h46) hb7.size))
      | (go_at_call 11; refine (HEQ.out _ _ _ _ _ ?_ ?_).mono ?_; exact hd7; exact hrd7; rintro e w8 ⟨rfl, hb8⟩))
    all_goals
      have hb68 : Below w6.heap.size w6 w8 := ((below_drewN (Below.refl w6.heap.size w6) 1).trans hb7).trans (hb8.mono hb7.size)
      have HB8 : Hid (Below w.heap.size w w8) := HB6.out.trans (hb68.mono HB6.out.size)
      have hk8 := blk_keep HK6.out hb68 (Array.getElem?_eq_some_iff.1 HK6.out).1
      have HK8 : Hid (w8.heap[w.heap.size]? = some (Obj.cells #[.slice a cs.length ca, .int .i64 root] 24)) := hk8
      have HW8 : Hid (OwnS w8 w.heap.size (.slice aw l.length cw) l) := HW6.out.below hb68
      have HG8 : Hid (OwnS w8 v4.heap.size (.slice ag l.length cg) l) := HG6.out.below hb68
      have HX8 : Hid (XAt w3.heap.size w4.heap.size w8 g4 cs) := HX6.out.keep hb68
      have hx8 := blk_keep HX6B.out hb68 h46
      have z0 := cell_blk (j := 0) hx8 rfl
      have z1 := cell_blk (j := 1) hx8 rfl
      have h68 := hb68.size
      have HMP : Hid (Calls Try.prog 12 #[.agg #[.slice (some ⟨g4, 0, none⟩) cs.length cs.length, .int .i64 root], .int .i64 1] w8 fun e w' => ∃ m : Nat, e = .returned (.int .i64 (m : Int)) ∧ Chg w3.heap.size w4.heap.size w8 w') := markProg_U _ _ g4 cs.length cs root w8 HGL.out.1 HGL.out.2 (by omega) HBK.out HX8.out.1 HX8.out.2
      clear hb68 hb7 hb8 hd7 hrd7 hx7 hk8 hx8 y0 y1 e0 e1 x0 x1 HB6 HK6 HW6 HG6 HX6 HR6 HX6B HX8
      go_wp2_with fail
      refine HMP.out.mono ?_
      rintro e w9 ⟨km, rfl, hc9⟩
      have HB9 : Hid (Below w.heap.size w w9) := HB8.out.trans (hc9.below hw3 HB8.out.size)
      have hk9 := (hc9.same _ (Array.getElem?_eq_some_iff.1 HK8.out).1 (.inl hP3)).trans HK8.out
      have HK9 : Hid (w9.heap[w.heap.size]? = some (Obj.cells #[.slice a cs.length ca, .int .i64 root] 24)) := hk9
      have HW9 : Hid (OwnS w9 w.heap.size (.slice aw l.length cw) l) := HW8.out.chg hc9 (fun b hb => .inl (HLT.out b hb))
      have HG9 : Hid (OwnS w9 v4.heap.size (.slice ag l.length cg) l) := HG8.out.chg hc9 (fun b hb => .inr (by have := (HG8.out.lt hb).1; omega))
      have h89 := hc9.size
      have hkm : decide ((km : Int) < 0) = false := by simp
      clear hc9 hk9 z0 z1 HMP HB8 HK8 HW8 HG8
      go_wp2_with fail
      refine (HES.out _ _ _ _ w9 HG9.out.row.2 HW9.out.row.2).mono ?_
      rintro e w10 ⟨rfl, hb10⟩
      have HB10 : Hid (Below w.heap.size w w10) := HB9.out.trans (hb10.mono HB9.out.size)
      have HK10 : Hid (w10.heap[w.heap.size]? = some (Obj.cells #[.slice a cs.length ca, .int .i64 root] 24)) := blk_keep HK9.out hb10 (Array.getElem?_eq_some_iff.1 HK9.out).1
      have HW10 : Hid (OwnS w10 w.heap.size (.slice aw l.length cw) l) := HW9.out.below hb10
      have HG10 : Hid (OwnS w10 v4.heap.size (.slice ag l.length cg) l) := HG9.out.below hb10
      have HMS : Hid (Calls Try.prog 13 #[.slice ag l.length cg, .int .i64 1] w10 fun e w' => e = .returned (.int .i64 ((1 + l.length : Nat) : Int)) ∧ Chg v4.heap.size w10.heap.size w10 w' ∧ OnlyAt w10 w' ag l.length ∧ RowM w' ag 1 l.length) := markStringS_U v4.heap.size w10.heap.size ag l.length cg 1 w10 (HG10.out.rowU rfl) (Nat.le_refl _) (by omega) (by omega) (by omega)
      have h910 := hb10.size
      clear hb10 HB9 HK9 HW9 HG9 hkm
      go_wp2_with fail
      refine HMS.out.mono ?_
      rintro e w11 ⟨rfl, hc11, _, hrm11⟩
      have HB11 : Hid (Below w.heap.size w w11) := HB10.out.trans (hc11.below (by omega) HB10.out.size)
      have HK11 : Hid (w11.heap[w.heap.size]? = some (Obj.cells #[.slice a cs.length ca, .int .i64 root] 24)) := (hc11.same _ (Array.getElem?_eq_some_iff.1 HK10.out).1 (.inl (by omega))).trans HK10.out
      have HW11 : Hid (OwnS w11 w.heap.size (.slice aw l.length cw) l) := HW10.out.chg hc11 (fun b hb => .inl (by have := HLT.out b hb; omega))
      have HRM : Hid (RowM w11 ag 1 l.length) := hrm11
      have HHE : Hid (∀ w1, RowM w1 ag 1 l.length → Calls Try.prog 14 #[.slice ag l.length cg, .int .i64 1] w1 fun e w' => Ans w1 (.int .i64 ((1 + l.length : Nat) : Int)) e w') := fun w1 h => heldStringS_any ag l.length cg 1 w1 (by omega) (by omega) (by omega) h
      have hM : decide (((1 + l.length : Nat) : Int) < 0) = false := by simp; omega
      clear hc11 hrm11 HMS HB10 HK10 HW10 HG10
      generalize 1 + l.length = M at *
      go_wp2_with fail
      refine (HHE.out w11 HRM.out).mono ?_
      rintro e w12 ⟨rfl, hb12⟩
      have HB12 : Hid (Below w.heap.size w w12) := HB11.out.trans (hb12.mono HB11.out.size)
      have hk12 := blk_keep HK11.out hb12 (Array.getElem?_eq_some_iff.1 HK11.out).1
      have HK12 : Hid (w12.heap[w.heap.size]? = some (Obj.cells #[.slice a cs.length ca, .int .i64 root] 24)) := hk12
      have HW12 : Hid (OwnS w12 w.heap.size (.slice aw l.length cw) l) := HW11.out.below hb12
      have HRM12 : Hid (RowM w12 ag 1 l.length) := HRM.out.keep hb12
      have e0 := cell_blk (j := 0) hk12 rfl
      have e1 := cell_blk (j := 1) hk12 rfl
      clear hb12 hk12 HB11 HK11 HW11 HRM
      go_wp2_with fail
      refine (HTO.out _ HB12.out).mono ?_
      rintro e w13 ⟨g13, rfl, hrd13, _, _, _, hb13⟩
      have HB13 : Hid (Below w.heap.size w w13) := HB12.out.trans (hb13.mono HB12.out.size)
      have HW13 : Hid (OwnS w13 w.heap.size (.slice aw l.length cw) l) := HW12.out.below hb13
      have HRM13 : Hid (RowM w13 ag 1 l.length) := HRM12.out.keep hb13
      clear hb13 HB12 HK12 HW12 HRM12 e0 e1
      go_wp2_with fail
      refine (HIM.out _ _ _ hrd13).mono ?_
      clear hrd13
      rintro e w14 ⟨vh, rfl, hown14, hb14⟩
      obtain ⟨ah, ch, rfl⟩ := hown14.slice
      have HB14 : Hid (Below w.heap.size w w14) := HB13.out.trans (hb14.mono HB13.out.size)
      have HW14 : Hid (OwnS w14 w.heap.size (.slice aw l.length cw) l) := HW13.out.below hb14
      have HRM14 : Hid (RowM w14 ag 1 l.length) := HRM13.out.keep hb14
      have HH14 : Hid (OwnS w14 w13.heap.size (.slice ah l.length ch) l) := hown14
      clear hb14 hown14 HB13 HW13 HRM13
      go_wp2_with fail
      refine (HES.out _ _ _ _ w14 HH14.out.row.2 HW14.out.row.2).mono ?_
      rintro e w15 ⟨rfl, hb15⟩
      have HB15 : Hid (Below w.heap.size w w15) := HB14.out.trans (hb15.mono HB14.out.size)
      have HRM15 : Hid (RowM w15 ag 1 l.length) := HRM14.out.keep hb15
      clear hb15 HB14 HW14 HRM14 HH14
      go_wp2_with fail
      refine (HHE.out w15 HRM15.out).mono ?_
      rintro e w16 ⟨rfl, hb16⟩
      have HB16 : Hid (Below w.heap.size w w16) := HB15.out.trans (hb16.mono HB15.out.size)
      clear hb16 HB15 HRM15
      go_wp2
      go_ret
      exact ⟨rfl, HB16.out⟩
end fnExactFree
end Go.Proofs.Ytjdlohjhfcmicaa
