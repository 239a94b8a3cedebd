/- The program's questions of one library. -/
import Derived.Test.YtlacidojljilaaaGreatDoorSpb
import Derived.Test.YtlacidojljilaaaGreatDoorHoy
set_option linter.unusedVariables false
set_option maxRecDepth 100000
set_option maxHeartbeats 8000000
namespace Go.Proofs.YtlacidojljilaaaGreatDoor
open Go.ChangeShapes Go.WideShapes Go.ChangeAt Go.RowKit
theorem isSession_any (x : Ins) (a1 a2 a3 a4 : Option Addr) (c1 c2 c3 c4 : Nat) (w : World) :
  Calls Tryz.prog 115 #[.agg #[.string x.lib, .int .i64 x.ver, .slice a1 x.names.length c1, .slice a2 x.vals.length c2, .slice a3 x.links.length c3, .slice a4 x.types.length c4]] w fun e w' => Ans w (.bool (x.hd 0)) e w' := by
 have HQ : Hid (x.hd 0 = ((x.lib.toList == []) && decide (x.ver = 0))) := rfl
 rw [HQ.out]
 have hb0 : Below w.heap.size w (w.alloc (Obj.cells #[.string x.lib, .int .i64 x.ver, .slice a1 x.names.length c1, .slice a2 x.vals.length c2, .slice a3 x.links.length c3, .slice a4 x.types.length c4] 112)) := bR _ _
 cases h1 : (x.lib.toList == [])
 ·go_enter Tryz.func115, Tryz.ntmps115
  go_wp2
  go_ret
  exact ⟨rfl, hb0⟩
 ·by_cases h2 : x.ver = 0
  ·have g2 : (x.ver == 0) = true := beq_iff_eq.2 h2
   rw [h2]
   go_enter Tryz.func115, Tryz.ntmps115
   go_wp2
   go_ret
   exact ⟨rfl, by rw [h2] at hb0; exact hb0⟩
  ·have g2 : (x.ver == 0) = false := beq_eq_false_iff_ne.2 h2
   rw [decide_eq_false h2]
   go_enter Tryz.func115, Tryz.ntmps115
   go_wp2
   go_ret
   exact ⟨rfl, hb0⟩
theorem isLibrary_any (x : Ins) (i : Nat) (hi : 0 < i) (hs : x.lib.size ≤ 1048576) (a1 a2 a3 a4 : Option Addr) (c1 c2 c3 c4 : Nat) (w : World) :
  Calls Tryz.prog 116 #[.agg #[.string x.lib, .int .i64 x.ver, .slice a1 x.names.length c1, .slice a2 x.vals.length c2, .slice a3 x.links.length c3, .slice a4 x.types.length c4]] w fun e w' => Ans w (.bool (x.hd i)) e w' := by
 have HQ : Hid (x.hd i = (naL x.lib.toList && decide (1 ≤ x.ver) && decide (x.ver ≤ 1000))) := if_neg (by omega)
 rw [HQ.out]
 have hb0 : Below w.heap.size w (w.alloc (Obj.cells #[.string x.lib, .int .i64 x.ver, .slice a1 x.names.length c1, .slice a2 x.vals.length c2, .slice a3 x.links.length c3, .slice a4 x.types.length c4] 112)) := bR _ _
 have k0 : (w.alloc (Obj.cells #[.string x.lib, .int .i64 x.ver, .slice a1 x.names.length c1, .slice a2 x.vals.length c2, .slice a3 x.links.length c3, .slice a4 x.types.length c4] 112)).heap[w.heap.size]? = some (Obj.cells #[.string x.lib, .int .i64 x.ver, .slice a1 x.names.length c1, .slice a2 x.vals.length c2, .slice a3 x.links.length c3, .slice a4 x.types.length c4] 112) := blk_at _ _ _ rfl
 have HN : Hid (∀ w1, Calls Tryz.prog 86 #[.string x.lib] w1 fun e w' => Ans w1 (.bool (naL x.lib.toList)) e w') := fun w1 => implNa_any x.lib w1 hs
 cases h1 : naL x.lib.toList
 ·rw [h1] at HN
  go_enter Tryz.func116, Tryz.ntmps116
  go_wp2_with fail
  refine (HN.out _).mono ?_
  rintro e w1 ⟨rfl, hb1⟩
  go_wp2
  go_ret
  exact ⟨rfl, bT hb0 hb1⟩
 ·rw [h1] at HN
  have fin : ∀ b : Bool, (decide (1 ≤ x.ver) && decide (x.ver ≤ 1000)) = b → Calls Tryz.prog 116 #[.agg #[.string x.lib, .int .i64 x.ver, .slice a1 x.names.length c1, .slice a2 x.vals.length c2, .slice a3 x.links.length c3, .slice a4 x.types.length c4]] w fun e w' => Ans w (.bool b) e w' := by
   intro b hb
   by_cases h2 : 1 ≤ x.ver
   ·have g2 : decide (x.ver ≥ 1) = true := decide_eq_true h2
    have g2' : decide (1 ≤ x.ver) = true := decide_eq_true h2
    rw [g2', Bool.true_and] at hb
    subst hb
    go_enter Tryz.func116, Tryz.ntmps116
    go_wp2_with fail
    refine (HN.out _).mono ?_
    rintro e w1 ⟨rfl, hb1⟩
    have k1 := blk_keep k0 hb1 (by simp)
    have c1 := zB 1 k1 rfl
    clear k1 k0
    go_wp2
    go_ret
    exact ⟨rfl, bT hb0 hb1⟩
   ·have g2' : decide (1 ≤ x.ver) = false := decide_eq_false h2
    rw [g2', Bool.false_and] at hb
    subst hb
    go_enter Tryz.func116, Tryz.ntmps116
    go_wp2_with fail
    refine (HN.out _).mono ?_
    rintro e w1 ⟨rfl, hb1⟩
    have k1 := blk_keep k0 hb1 (by simp)
    have c1 := zB 1 k1 rfl
    clear k1 k0
    go_wp2
    go_ret
    exact ⟨rfl, bT hb0 hb1⟩
  exact fin _ rfl
theorem linksOk_any (ai : Option Addr) (ni ci : Nat) (a : Option Addr) (l : List Lnk) (ca : Nat) (w : World) (hn : l.length ≤ 1048576) (hni : ni ≤ 1048576) (hs : ∀ d ∈ l, Lnk.small d) (hr : rgL.Row w (fun b => b < w.heap.size) a l) :
  Calls Tryz.prog 138 #[.slice ai ni ci, .slice a l.length ca] w fun e w' => Ans w (.bool (l.all (Lnk.ok ni))) e w' := by
 have HR : Hid (rgL.Row w (fun b => b < w.heap.size) a l) := hr
 have HN : Hid (∀ (d : Lnk) (w1 : World), d ∈ l → Calls Tryz.prog 86 #[.string d.at_] w1 fun e w' => Ans w1 (.bool (naL d.at_.toList)) e w') := fun d w1 hd => implNa_any d.at_ w1 (hs d hd).2.2
 clear hr hs
 go_enter Tryz.func138, Tryz.ntmps138
 go_wp2
 go_loopw [9] (fun o wr => ∃ i : Nat, i ≤ l.length ∧ o = .int .i64 i ∧ (l.take i).all (Lnk.ok ni) = true ∧ Below w.heap.size w wr)
  (fun o _ => l.length - (intOf o).toNat)
 case atStart => exact ⟨0, by omega, rfl, by simp, Below.refl _ _⟩
 case round =>
  obtain ⟨i, hi, rfl, hall, hb⟩ := hrel
  by_cases hlt : i < l.length
  ·obtain ⟨d, hd⟩ : ∃ d, l[i]? = some d := ⟨_, List.getElem?_eq_getElem hlt⟩
   obtain ⟨b1, o1, cs, rfl, hbb, rfl, hl⟩ := (HR.out.below hb) i d hd
   have y0 : wr.cell? ⟨b1, o1 + i * 3, none⟩ = some (.string d.name) := hl 0 _ rfl
   have y1 : wr.cell? ⟨b1, o1 + i * 3 + 1, none⟩ = some (.int .i64 d.inst) := hl 1 _ rfl
   have y2 : wr.cell? ⟨b1, o1 + i * 3 + 2, none⟩ = some (.string d.at_) := hl 2 _ rfl
   have hbA : Below w.heap.size w (wr.alloc (Obj.cells #[.string d.name, .int .i64 d.inst, .string d.at_] 184)) := hb.alloc hb.size _
   have HN2 : Hid (∀ w1, Calls Tryz.prog 86 #[.string d.at_] w1 fun e w' => Ans w1 (.bool (naL d.at_.toList)) e w') := fun w1 => HN.out d w1 (List.mem_of_getElem? hd)
   have HD : Hid (l[i]? = some d) := hd
   have HA : Hid ((l.take i).all (Lnk.ok ni) = true) := hall
   clear hd hall hl HN
   have bad : d.ok ni = false → Hid (l.all (Lnk.ok ni) = false) := fun h => all_of_bad _ HD.out h
   by_cases h1 : d.inst < 0
   ·have HQ := bad (by unfold Lnk.ok; simp; omega)
    have g1 : decide (d.inst < 0) = true := decide_eq_true h1
    clear bad
    go_wp2
    go_ret
    exact ⟨by rw [HQ.out]; rfl, hbA⟩
   ·have g1 : decide (d.inst < 0) = false := decide_eq_false h1
    by_cases h2 : (ni : Int) ≤ d.inst
    ·have HQ := bad (by unfold Lnk.ok; simp; omega)
     have g2 : decide (d.inst ≥ (ni : Int)) = true := decide_eq_true h2
     have g2' : decide ((ni : Int) ≤ d.inst) = true := decide_eq_true h2
     clear bad
     go_wp2
     go_ret
     exact ⟨by rw [HQ.out]; rfl, hbA⟩
    ·have g2 : decide (d.inst ≥ (ni : Int)) = false := decide_eq_false h2
     have g2' : decide ((ni : Int) ≤ d.inst) = false := decide_eq_false h2
     cases h3 : naL d.at_.toList
     ·have HQ := bad (by unfold Lnk.ok; simp [h3])
      rw [h3] at HN2
      clear bad
      go_wp2_with (go_at_call 86; refine (HN2.out _).mono ?_; rintro e w2 ⟨rfl, hb2⟩)
      go_ret
      exact ⟨by rw [HQ.out]; rfl, bT hbA hb2⟩
     ·have HQ : Hid ((l.take (i + 1)).all (Lnk.ok ni) = true) := by
       show _ = _
       rw [all_take_succ _ HD.out, HA.out]
       unfold Lnk.ok
       simp [h3]
       omega
      rw [h3] at HN2
      clear bad
      go_wp2_with (go_at_call 86; refine (HN2.out _).mono ?_; rintro e w2 ⟨rfl, hb2⟩)
      go_roundw
      case rel => exact ⟨i + 1, by omega, by go_num, HQ.out, bT hbA hb2⟩
      case measure => simp [intOf]; omega
  ·obtain rfl : i = l.length := by omega
   rw [List.take_length] at hall
   have HQ : Hid (l.all (Lnk.ok ni) = true) := hall
   have hlt' : decide ((l.length : Int) < (l.length : Int)) = false := by simp
   clear hall HN
   go_wp2
   go_ret
   exact ⟨by rw [HQ.out]; rfl, hb⟩
theorem ownValues_any (ah : Option Addr) (h : List Cel) (ch : Nat) (x : Ins) (a1 a2 a3 a4 : Option Addr) (c1 c2 c3 c4 : Nat) (w : World) (hl : h.length ≤ 1048576) (hrh : RowC w w.heap.size ah h) (hs : x.small) (hr : InsRows w (fun b => b < w.heap.size) a1 a2 a3 a4 c1 c2 c3 c4 x) :
  Calls Tryz.prog 137 #[.slice ah h.length ch, .agg #[.string x.lib, .int .i64 x.ver, .slice a1 x.names.length c1, .slice a2 x.vals.length c2, .slice a3 x.links.length c3, .slice a4 x.types.length c4]] w fun e w' => Ans w (.bool (x.vok h)) e w' := by
 obtain ⟨_, _, ⟨s1, _⟩, ⟨s2, s3⟩, _, _⟩ := hs
 obtain ⟨_, ⟨hrv, _⟩, _, _⟩ := hr
 have HR : Hid (rgV.Row w (fun b => b < w.heap.size) a2 x.vals) := hrv
 have HV : Hid (∀ (v : Val) (w1 : World), v ∈ x.vals → Below w.heap.size w w1 → Calls Tryz.prog 85 #[.slice ah h.length ch, .agg #[.int .i64 v.k, .int .i64 v.n, .string v.s]] w1 fun e w' => Ans w1 (.bool (v.ok h)) e w') := fun v w1 hv hb => implVal_any v ah h ch w1 hl (s3 v hv).2.2 ((hrh.below hb).mono hb.size)
 have hb0 : Below w.heap.size w (w.alloc (Obj.cells #[.string x.lib, .int .i64 x.ver, .slice a1 x.names.length c1, .slice a2 x.vals.length c2, .slice a3 x.links.length c3, .slice a4 x.types.length c4] 112)) := bR _ _
 have k0 : (w.alloc (Obj.cells #[.string x.lib, .int .i64 x.ver, .slice a1 x.names.length c1, .slice a2 x.vals.length c2, .slice a3 x.links.length c3, .slice a4 x.types.length c4] 112)).heap[w.heap.size]? = some (Obj.cells #[.string x.lib, .int .i64 x.ver, .slice a1 x.names.length c1, .slice a2 x.vals.length c2, .slice a3 x.links.length c3, .slice a4 x.types.length c4] 112) := blk_at _ _ _ rfl
 have HQ0 : Hid (x.vok h = (decide (x.vals.length = x.names.length) && x.vals.all (Val.okz h))) := rfl
 rw [HQ0.out]
 clear hrv hrh
 by_cases hlen : x.vals.length = x.names.length
 ·have g0 : ((x.vals.length : Int) == (x.names.length : Int)) = true := beq_iff_eq.2 (by omega)
  have g0' : ((x.vals.length : Int) != (x.names.length : Int)) = false := by simp [bne, g0]
  rw [decide_eq_true hlen, Bool.true_and]
  clear hlen
  go_enter Tryz.func137, Tryz.ntmps137
  go_wp2
  go_loopw [17] (fun o wr => ∃ i : Nat, i ≤ x.vals.length ∧ o = .int .i64 i ∧ (x.vals.take i).all (Val.okz h) = true ∧ Below w.heap.size w wr)
   (fun o _ => x.vals.length - (intOf o).toNat)
  case atStart => exact ⟨0, by omega, rfl, by simp, hb0⟩
  case round =>
   obtain ⟨i, hi, rfl, hall, hb⟩ := hrel
   by_cases hlt : i < x.vals.length
   ·obtain ⟨v, hv⟩ : ∃ v, x.vals[i]? = some v := ⟨_, List.getElem?_eq_getElem hlt⟩
    obtain ⟨b1, o1, cs, rfl, hbb, rfl, hlies⟩ := (HR.out.below hb) i v hv
    have y0 : wr.cell? ⟨b1, o1 + i * 3, none⟩ = some (.int .i64 v.k) := hlies 0 _ rfl
    have y1 : wr.cell? ⟨b1, o1 + i * 3 + 1, none⟩ = some (.int .i64 v.n) := hlies 1 _ rfl
    have y2 : wr.cell? ⟨b1, o1 + i * 3 + 2, none⟩ = some (.string v.s) := hlies 2 _ rfl
    have hbA : Below w.heap.size w (wr.alloc (Obj.cells #[.int .i64 v.k, .int .i64 v.n, .string v.s] 44)) := hb.alloc hb.size _
    have HV2 : Hid (∀ w1, Below w.heap.size w w1 → Calls Tryz.prog 85 #[.slice ah h.length ch, .agg #[.int .i64 v.k, .int .i64 v.n, .string v.s]] w1 fun e w' => Ans w1 (.bool (v.ok h)) e w') := fun w1 h1 => HV.out v w1 (List.mem_of_getElem? hv) h1
    have HD : Hid (x.vals[i]? = some v) := hv
    have HA : Hid ((x.vals.take i).all (Val.okz h) = true) := hall
    have good : v.okz h = true → Hid ((x.vals.take (i + 1)).all (Val.okz h) = true) := fun q => by show _ = _; rw [all_take_succ _ HD.out, HA.out, q]; rfl
    have bad : v.okz h = false → Hid (x.vals.all (Val.okz h) = false) := fun q => all_of_bad _ HD.out q
    clear hv hall hlies HV
    cases hz : v.zero
    ·have HZ : Hid (v.okz h = v.ok h) := by show _ = _; unfold Val.okz; rw [hz, Bool.false_or]
     obtain ⟨vk, vn, vs⟩ := v
     simp only at y0 y1 y2 hbA HV2
     unfold Val.zero at hz
     simp only at hz
     by_cases hk : vk = 0
     ·subst hk
      by_cases hn0 : vn = 0
      ·subst hn0
       have g9 : (vs.toList == []) = false := by simpa using hz
       clear hz
       cases hok : Val.ok h (⟨0, 0, vs⟩ : Val)
       ·rw [hok] at HV2
        have HQ := bad (by rw [HZ.out, hok])
        clear bad good hok
        go_wp2_with (go_at_call 85; refine (HV2.out _ hbA).mono ?_; rintro e w2 ⟨rfl, hb2⟩)
        go_ret
        exact ⟨by rw [HQ.out]; rfl, bT hbA hb2⟩
       ·rw [hok] at HV2
        have HQ := good (by rw [HZ.out, hok])
        clear bad good hok
        go_wp2_with (go_at_call 85; refine (HV2.out _ hbA).mono ?_; rintro e w2 ⟨rfl, hb2⟩)
        go_roundw
        case rel => exact ⟨i + 1, by omega, by go_num, HQ.out, bT hbA hb2⟩
        case measure => simp [intOf]; omega
      ·have g8 : (vn == 0) = false := beq_eq_false_iff_ne.2 hn0
       clear hz
       cases hok : Val.ok h (⟨0, vn, vs⟩ : Val)
       ·rw [hok] at HV2
        have HQ := bad (by rw [HZ.out, hok])
        clear bad good hok
        go_wp2_with (go_at_call 85; refine (HV2.out _ hbA).mono ?_; rintro e w2 ⟨rfl, hb2⟩)
        go_ret
        exact ⟨by rw [HQ.out]; rfl, bT hbA hb2⟩
       ·rw [hok] at HV2
        have HQ := good (by rw [HZ.out, hok])
        clear bad good hok
        go_wp2_with (go_at_call 85; refine (HV2.out _ hbA).mono ?_; rintro e w2 ⟨rfl, hb2⟩)
        go_roundw
        case rel => exact ⟨i + 1, by omega, by go_num, HQ.out, bT hbA hb2⟩
        case measure => simp [intOf]; omega
     ·have g7 : (vk == 0) = false := beq_eq_false_iff_ne.2 hk
      clear hz
      cases hok : Val.ok h (⟨vk, vn, vs⟩ : Val)
      ·rw [hok] at HV2
       have HQ := bad (by rw [HZ.out, hok])
       clear bad good hok
       go_wp2_with (go_at_call 85; refine (HV2.out _ hbA).mono ?_; rintro e w2 ⟨rfl, hb2⟩)
       go_ret
       exact ⟨by rw [HQ.out]; rfl, bT hbA hb2⟩
      ·rw [hok] at HV2
       have HQ := good (by rw [HZ.out, hok])
       clear bad good hok
       go_wp2_with (go_at_call 85; refine (HV2.out _ hbA).mono ?_; rintro e w2 ⟨rfl, hb2⟩)
       go_roundw
       case rel => exact ⟨i + 1, by omega, by go_num, HQ.out, bT hbA hb2⟩
       case measure => simp [intOf]; omega
    ·have HQ := good (by unfold Val.okz; rw [hz]; rfl)
     unfold Val.zero at hz
     simp at hz
     obtain ⟨⟨hk, hn0⟩, hs0⟩ := hz
     obtain ⟨vk, vn, vs⟩ := v
     simp only at hk hn0 hs0 y0 y1 y2 hbA
     subst hk hn0
     have g9 : (vs.toList == []) = true := by simp [hs0]
     clear bad good HV2
     go_wp2
     go_roundw
     case rel => exact ⟨i + 1, by omega, by go_num, HQ.out, hbA⟩
     case measure => simp [intOf]; omega
   ·obtain rfl : i = x.vals.length := by omega
    rw [List.take_length] at hall
    have HQ : Hid (x.vals.all (Val.okz h) = true) := hall
    have hlt' : decide ((x.vals.length : Int) < (x.vals.length : Int)) = false := by simp
    clear hall HV
    go_wp2
    go_ret
    exact ⟨by rw [HQ.out]; rfl, hb⟩
 ·have g0 : ((x.vals.length : Int) == (x.names.length : Int)) = false := beq_eq_false_iff_ne.2 (by omega)
  have g0' : ((x.vals.length : Int) != (x.names.length : Int)) = true := by simp [bne, g0]
  rw [decide_eq_false hlen, Bool.false_and]
  go_enter Tryz.func137, Tryz.ntmps137
  go_wp2
  go_ret
  exact ⟨rfl, hb0⟩
end Go.Proofs.YtlacidojljilaaaGreatDoor
