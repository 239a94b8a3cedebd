/- The model's expander: l4Cond: a clause and the rest. The model's expander: l4Cond: no clause, a wrong one, else. The model's expander: l4Cond, whole. -/
import Derived.Deep.DeepCutAuto
import Derived.Test.YtgjeefedcfakdaaYcl
set_option linter.unusedVariables false
namespace Go.Proofs.Ytgjeefedcfakdaa
open Go.ChangeShapes Go.WideShapes Go.ChangeAt Go.RowKit
section
variable {B b o cc : Nat} {cs : List Dat} {a2 : Option Addr} {n2 c2 : Nat} {root : Int} {R : Int → Sx → Sx}
set_option maxRecDepth 100000 in
set_option maxHeartbeats 8000000 in
theorem l4Cond_more (hg : Good cs) (kc kh : Nat) (bb : Int) (t l : List Int) (hkc : kc < cs.length) (hkh : kh < kc) (hl : l.length ≤ 1048576) (hls : lstOf cs (kc : Int) = some ((kh : Int) :: bb :: t)) (hne : ¬ ((cel cs (kh : Int)).k = 3 ∧ (cel cs (kh : Int)).s.toList = wElse)) (hi : FC B b o cc cs a2 n2 c2 root 70 (kh : Int) (R (kh : Int))) (hb : LC B b o cc cs a2 n2 c2 root 86 (bb :: t) (bodyX R (bb :: t))) (ht : LC B b o cc cs a2 n2 c2 root 92 (l) (condX cs R l)) : LC B b o cc cs a2 n2 c2 root 92 ((kc : Int) :: l) (condX cs R ((kc : Int) :: l)) := by
 intro Gz w a3 n3 c3 code r al cl hB hGl hrow hr hcl hal
 obtain ⟨g, p, rfl⟩ := hal.some
 obtain ⟨W0, HW0, HP⟩ := Pt.begin cc a2 n2 c2 root hB hrow hr
 have HGL : Hid (∀ g, Gz g → g < w.heap.size) := hGl
 have HT : Hid (RowT w (some ⟨g, p, none⟩) ((kc : Int) :: l)) := hal
 have HLS : Hid (lstOf cs (kc : Int) = some ((kh : Int) :: bb :: t)) := hls
 have HNE : Hid (¬ ((cel cs (kh : Int)).k = 3 ∧ (cel cs (kh : Int)).s.toList = wElse)) := hne
 have HIH : Hid (FC B b o cc cs a2 n2 c2 root 70 (kh : Int) (R (kh : Int))) := hi
 have HIB : Hid (LC B b o cc cs a2 n2 c2 root 86 (bb :: t) (bodyX R (bb :: t))) := hb
 have HL : Hid (LC B b o cc cs a2 n2 c2 root 92 (l) (condX cs R l)) := ht
 clear hne hi hb ht
 clear hls hrow hr hal hGl hB
 have hcl' : l.length + 1 ≤ cl := hcl
 clear hcl
 unfold xV
 go_enter Try.func92, Try.ntmps92
 go_upto_region 3 with fail
 rw [HW0.out]
 clear HW0
 obtain ⟨a10, n10, c10, k10, HF10, HX10, HZ10, hK10, hws0, hws1, hnn, ⟨x0, x1, x2, x3, x4, xf0, xf1, xf2, xf3, xf4⟩, z0, z1, z2, z3, z4, zf0, zf1, zf2, zf3, zf4⟩ := HP.out.opn
 replace HT := hid (HT.out.kt hK10)
 clear HP hK10
 go_cut [5, 6] (fun cv iv wx => ∃ (u : Option Addr) (cu : Nat) (L : List Int) (ok : Bool), cv = .slice u L.length cu ∧ iv = .bool ok ∧ Pt Gz w W0 wx B b o cc cs a2 n2 c2 root (.slice a3 n3 c3) (r) ∧ RowT wx u L ∧ L.length ≤ cs.length ∧ L.length ≤ cu ∧ (if ok = true then lstOf cs (kc : Int) = some L else lstOf cs (kc : Int) = none) ∧ ∀ x ∈ L, 0 ≤ x ∧ x < (kc : Int))
 case first =>
  have c0 := HT.out.head
  go_region_with (go_at_call 81; (refine (lst_at hg HF10.out kc hkc).mono ?_; rintro e v1 ⟨u, cu, L, ok, rfl, hb1, _, h2, h3, h4, h5, h6⟩))
  all_goals (go_wp2_with fail; go_meet; exact ⟨u, cu, L, ok, rfl, rfl, Pt.below HF10.out HX10.out HZ10.out (KT.refl _) hb1, h2, h3, h4, h5, h6⟩)
 case rest =>
  clear HF10 HX10 HZ10 hws0 hws1 hnn x0 x1 x2 x3 x4 xf0 xf1 xf2 xf3 xf4 z0 z1 z2 z3 z4 zf0 zf1 zf2 zf3 zf4
  obtain ⟨W1, rfl⟩ : ∃ x, x = wc := ⟨_, rfl⟩
  obtain ⟨u, cu, Lu, oku, rfl, rfl, hP1, hu1, hLu, hcu, hco1, hm1⟩ := hcut
  have HP : Hid (Pt Gz w W0 W1 B b o cc cs a2 n2 c2 root (.slice a3 n3 c3) (r)) := hP1
  have HRu : Hid (RowT W1 u Lu) := hu1
  have HCOu : Hid (if oku = true then lstOf cs (kc : Int) = some Lu else lstOf cs (kc : Int) = none) := hco1
  have HMu : Hid (∀ x ∈ Lu, 0 ≤ x ∧ x < (kc : Int)) := hm1
  clear hP1 hu1 hco1 hm1
  obtain ⟨a11, n11, c11, k11, HF11, HX11, HZ11, hK11, hws0, hws1, hnn, ⟨x0, x1, x2, x3, x4, xf0, xf1, xf2, xf3, xf4⟩, z0, z1, z2, z3, z4, zf0, zf1, zf2, zf3, zf4⟩ := HP.out.opn
  replace HT := hid (HT.out.kt hK11)
  clear HP hK11
  have hcsn := hg.n
  obtain ⟨rfl, rfl⟩ : oku = true ∧ Lu = (kh : Int) :: bb :: t := by
   have h := HCOu.out
   rw [HLS.out] at h
   cases oku
   ·simp at h
   ·simp at h
    exact ⟨rfl, h.symm⟩
  obtain ⟨d, hd⟩ : ∃ d, cs[kh]? = some d := ⟨_, List.getElem?_eq_getElem (by omega)⟩
  have HCE : Hid (cel cs (kh : Int) = d) := cel_of hd
  have hgt : decide ((t.length : Int) + 1 + 1 < 2) = false := by simp; omega
  have hcu' : t.length + 1 + 1 ≤ cu := hcu
  have hLu' : t.length + 1 + 1 ≤ cs.length := hLu
  have HRB : Hid (RowT W1 u ((kh : Int) :: bb :: t)) := HRu.out
  clear HRu hLu hcu HCOu HMu
  obtain ⟨g2, p2, rfl⟩ := HRB.out.some
  go_upto_region 6 with fail
  go_cut [7] (fun pv wx => ∃ gd, pv = .pointer (some ⟨gd, 0, none⟩) ∧ wx.heap[gd]? = some (Obj.cells #[.int .i64 d.k, .int .i64 d.n, .string d.s, .int .i64 d.l, .int .i64 d.r] 98) ∧ Pt Gz w W1 wx B b o cc cs a2 n2 c2 root (.slice a3 n3 c3) (r))
  case first =>
   have c1 := HRB.out.head
   have hgw := HRB.out.lt
   obtain ⟨hbB, d0, d1, d2, d3, d4⟩ := HF11.out.dat hd
   have hbw : b < W1.heap.size := by have := HF11.out.bsz; omega
   have hkl : kh < cs.length := (llt hd)
   have hcsn := hg.n
   go_region_with (fail)
   all_goals (go_wp2_with fail; go_meet; exact ⟨_, rfl, (by first | exact blk_drew (blk_at _ _ _ rfl) | exact blk_at _ _ _ rfl), Pt.below HF11.out HX11.out HZ11.out (KT.refl _) (by first | exact (bR _ _).drew | exact (Below.refl _ _).drew.alloc (Nat.le_refl _) _ | exact bR _ _)⟩)
  case rest =>
   clear HF11 HX11 HZ11 hws0 hws1 hnn x0 x1 x2 x3 x4 xf0 xf1 xf2 xf3 xf4 z0 z1 z2 z3 z4 zf0 zf1 zf2 zf3 zf4
   obtain ⟨W2, rfl⟩ : ∃ x, x = wc := ⟨_, rfl⟩
   obtain ⟨gd, rfl, hd98, hP1⟩ := hcut
   have HP : Hid (Pt Gz w W1 W2 B b o cc cs a2 n2 c2 root (.slice a3 n3 c3) (r)) := hP1
   clear hP1
   obtain ⟨e0, e1, e2, e3, e4, _, _, _, _, _⟩ := cells5 hd98
   obtain ⟨a12, n12, c12, k12, HF12, HX12, HZ12, hK12, hws0, hws1, hnn, ⟨x0, x1, x2, x3, x4, xf0, xf1, xf2, xf3, xf4⟩, z0, z1, z2, z3, z4, zf0, zf1, zf2, zf3, zf4⟩ := HP.out.opn
   replace HT := hid (HT.out.kt hK12)
   replace HRB := hid (HRB.out.kt hK12)
   clear HP hK12
   have HCM : Hid (condX cs R ((kc : Int) :: l) r = ifX (R kh r) (bodyX R (bb :: t) (R kh r)) (condX cs R l (bodyX R (bb :: t) (R kh r)))) := condX_more HLS.out HNE.out
   have hel : ¬ (d.k = 3 ∧ d.s.toList = wElse) := by have := HNE.out; rw [HCE.out] at this; exact this
   go_upto_region 7 with fail
   go_cut [48] (fun bv wx => bv = .bool false ∧ wx = W2)
   case first =>
    by_cases hk3 : d.k = 3
    ·have qk3 : (d.k == 3) = true := beq_iff_eq.2 hk3
     have qse : (d.s.toList == [101, 108, 115, 101]) = false := beq_eq_false_iff_ne.2 fun h => hel ⟨hk3, h⟩
     clear hel hk3
     go_wp2_with fail
     go_meet
     exact ⟨rfl, rfl⟩
    ·have qk3 : (d.k == 3) = false := beq_eq_false_iff_ne.2 hk3
     clear hel hk3
     go_wp2_with fail
     go_meet
     exact ⟨rfl, rfl⟩
   case rest =>
    obtain ⟨rfl, hw⟩ := hcut
    have hw := hw.symm
    subst hw
    clear hel e0 e1 e2 e3 e4 hd98 HNE HCE hd HLS hgt
    go_upto_region 11 with fail
    go_cut [] (fun wx => Pt Gz w W2 wx B b o cc cs a2 n2 c2 root (.slice a3 n3 c3) (R (kh : Int) r))
    case first =>
     have c1 := HRB.out.head
     go_region_with (go_at_call 70; (refine (form_at HIH.out HF12.out HGL.out).mono ?_; rintro e v1 ⟨qa, qn, qc, qk, rfl, hx1, hg1, hs1⟩; have HE : Hid _ := hx1; have HG : Hid _ := hg1; have HS : Hid _ := hs1; obtain ⟨y0, y1, y2, y3, y4, yf0, yf1, yf2, yf3, yf4⟩ := HF12.out.cells hg1 HX12.out; obtain ⟨zy0, zy1, zy2, zy3, zy4, zyf0, zyf1, zyf2, zyf3, zyf4⟩ := HF12.out.cells hg1 HZ12.out; clear hx1 hg1 hs1; unfold xV))
     all_goals (go_wp2_with fail; go_meet; exact Pt.next HF12.out HX12.out HZ12.out (KT.refl _) HE.out HG.out HS.out)
    case rest =>
     clear HF12 HX12 HZ12 hws0 hws1 hnn x0 x1 x2 x3 x4 xf0 xf1 xf2 xf3 xf4 z0 z1 z2 z3 z4 zf0 zf1 zf2 zf3 zf4
     obtain ⟨W3, rfl⟩ : ∃ x, x = wc := ⟨_, rfl⟩
     obtain ⟨s1, hEs1⟩ : ∃ q, q = R (kh : Int) r := ⟨_, rfl⟩
     rw [← hEs1] at hcut
     have Es1 : Hid (s1 = R (kh : Int) r) := hEs1
     clear hEs1
     have HP : Hid (Pt Gz w W2 W3 B b o cc cs a2 n2 c2 root (.slice a3 n3 c3) (s1)) := hcut
     clear hcut
     obtain ⟨a13, n13, c13, k13, HF13, HX13, HZ13, hK13, hws0, hws1, hnn, ⟨x0, x1, x2, x3, x4, xf0, xf1, xf2, xf3, xf4⟩, z0, z1, z2, z3, z4, zf0, zf1, zf2, zf3, zf4⟩ := HP.out.opn
     replace HT := hid (HT.out.kt hK13)
     replace HRB := hid (HRB.out.kt hK13)
     clear HP hK13
     go_wp2_with fail
     refine (l4Last_any (some ⟨b, o, none⟩) a2 a13 cs.length n2 n13 cc c2 c13 root k13 W3 (by omega)).mono ?_
     rintro e W4 ⟨rfl, hb1⟩
     have HP : Hid (Pt Gz w W3 W4 B b o cc cs a2 n2 c2 root (.slice a3 n3 c3) (s1)) := Pt.below HF13.out HX13.out HZ13.out (KT.refl _) hb1
     have HA : Hid ((n13 : Int) - 1 = lastN s1) := HF13.out.last
     clear hb1
     clear HF13 HX13 HZ13 hws0 hws1 hnn x0 x1 x2 x3 x4 xf0 xf1 xf2 xf3 xf4 z0 z1 z2 z3 z4 zf0 zf1 zf2 zf3 zf4
     obtain ⟨a14, n14, c14, k14, HF14, HX14, HZ14, hK14, hws0, hws1, hnn, ⟨x0, x1, x2, x3, x4, xf0, xf1, xf2, xf3, xf4⟩, z0, z1, z2, z3, z4, zf0, zf1, zf2, zf3, zf4⟩ := HP.out.opn
     replace HT := hid (HT.out.kt hK14)
     replace HRB := hid (HRB.out.kt hK14)
     clear HP hK14
     go_upto_region 13 with fail
     go_cut [] (fun wx => Pt Gz w W4 wx B b o cc cs a2 n2 c2 root (.slice a3 n3 c3) (bodyX R (bb :: t) s1))
     case first =>
      go_region_with (go_at_call 86; (refine (list_at HIB.out HF14.out HGL.out (al := (some ⟨g2, p2 + 1, none⟩)) (cl := (cu - 1)) (by show t.length + 1 ≤ cu - 1; omega) HRB.out.tail).mono ?_; rintro e v1 ⟨qa, qn, qc, qk, rfl, hx1, hg1, hs1⟩; have HE : Hid _ := hx1; have HG : Hid _ := hg1; have HS : Hid _ := hs1; obtain ⟨y0, y1, y2, y3, y4, yf0, yf1, yf2, yf3, yf4⟩ := HF14.out.cells hg1 HX14.out; obtain ⟨zy0, zy1, zy2, zy3, zy4, zyf0, zyf1, zyf2, zyf3, zyf4⟩ := HF14.out.cells hg1 HZ14.out; clear hx1 hg1 hs1; unfold xV))
      all_goals (go_wp2_with fail; go_meet; exact Pt.next HF14.out HX14.out HZ14.out (KT.refl _) HE.out HG.out HS.out)
     case rest =>
      clear HF14 HX14 HZ14 hws0 hws1 hnn x0 x1 x2 x3 x4 xf0 xf1 xf2 xf3 xf4 z0 z1 z2 z3 z4 zf0 zf1 zf2 zf3 zf4
      obtain ⟨W5, rfl⟩ : ∃ x, x = wc := ⟨_, rfl⟩
      obtain ⟨s2, hEs2⟩ : ∃ q, q = bodyX R (bb :: t) s1 := ⟨_, rfl⟩
      rw [← hEs2] at hcut
      have Es2 : Hid (s2 = bodyX R (bb :: t) s1) := hEs2
      clear hEs2
      have HP : Hid (Pt Gz w W4 W5 B b o cc cs a2 n2 c2 root (.slice a3 n3 c3) (s2)) := hcut
      clear hcut
      obtain ⟨a15, n15, c15, k15, HF15, HX15, HZ15, hK15, hws0, hws1, hnn, ⟨x0, x1, x2, x3, x4, xf0, xf1, xf2, xf3, xf4⟩, z0, z1, z2, z3, z4, zf0, zf1, zf2, zf3, zf4⟩ := HP.out.opn
      replace HT := hid (HT.out.kt hK15)
      replace HRB := hid (HRB.out.kt hK15)
      clear HP hK15
      clear HRB HIB HIH
      go_wp2_with fail
      refine (l4Last_any (some ⟨b, o, none⟩) a2 a15 cs.length n2 n15 cc c2 c15 root k15 W5 (by omega)).mono ?_
      rintro e W6 ⟨rfl, hb1⟩
      have HP : Hid (Pt Gz w W5 W6 B b o cc cs a2 n2 c2 root (.slice a3 n3 c3) (s2)) := Pt.below HF15.out HX15.out HZ15.out (KT.refl _) hb1
      have HV : Hid ((n15 : Int) - 1 = lastN s2) := HF15.out.last
      clear hb1
      clear HF15 HX15 HZ15 hws0 hws1 hnn x0 x1 x2 x3 x4 xf0 xf1 xf2 xf3 xf4 z0 z1 z2 z3 z4 zf0 zf1 zf2 zf3 zf4
      obtain ⟨a16, n16, c16, k16, HF16, HX16, HZ16, hK16, hws0, hws1, hnn, ⟨x0, x1, x2, x3, x4, xf0, xf1, xf2, xf3, xf4⟩, z0, z1, z2, z3, z4, zf0, zf1, zf2, zf3, zf4⟩ := HP.out.opn
      replace HT := hid (HT.out.kt hK16)
      clear HP hK16
      go_upto_region 15 with fail
      go_cut [] (fun wx => Pt Gz w W6 wx B b o cc cs a2 n2 c2 root (.slice a3 n3 c3) (condX cs R l s2))
      case first =>
       by_cases hc1 : cl = 1
       ·have HLZ : Hid (l = []) := List.length_eq_zero_iff.1 (by omega); subst hc1; have HCU : Hid (l.length ≤ 0) := (by show _ ≤ _; omega); clear hcl'
        go_region_with (go_at_call 92; (refine (list_at HL.out HF16.out HGL.out (al := (some ⟨g, p, none⟩)) (cl := 0) HCU.out (by rw [HLZ.out]; exact RowT.nil _ _)).mono ?_; rintro e v1 ⟨qa, qn, qc, qk, rfl, hx1, hg1, hs1⟩; have HE : Hid _ := hx1; have HG : Hid _ := hg1; have HS : Hid _ := hs1; obtain ⟨y0, y1, y2, y3, y4, yf0, yf1, yf2, yf3, yf4⟩ := HF16.out.cells hg1 HX16.out; obtain ⟨zy0, zy1, zy2, zy3, zy4, zyf0, zyf1, zyf2, zyf3, zyf4⟩ := HF16.out.cells hg1 HZ16.out; clear hx1 hg1 hs1; unfold xV))
        all_goals (go_wp2_with fail; go_meet; exact Pt.next HF16.out HX16.out HZ16.out (KT.refl _) HE.out HG.out HS.out)
       ·have hc2 : 1 < cl := by omega
        go_region_with (go_at_call 92; (refine (list_at HL.out HF16.out HGL.out (al := (some ⟨g, p + 1, none⟩)) (cl := (cl - 1)) (by omega) HT.out.tail).mono ?_; rintro e v1 ⟨qa, qn, qc, qk, rfl, hx1, hg1, hs1⟩; have HE : Hid _ := hx1; have HG : Hid _ := hg1; have HS : Hid _ := hs1; obtain ⟨y0, y1, y2, y3, y4, yf0, yf1, yf2, yf3, yf4⟩ := HF16.out.cells hg1 HX16.out; obtain ⟨zy0, zy1, zy2, zy3, zy4, zyf0, zyf1, zyf2, zyf3, zyf4⟩ := HF16.out.cells hg1 HZ16.out; clear hx1 hg1 hs1; unfold xV))
        all_goals (go_wp2_with fail; go_meet; exact Pt.next HF16.out HX16.out HZ16.out (KT.refl _) HE.out HG.out HS.out)
      case rest =>
       clear HF16 HX16 HZ16 hws0 hws1 hnn x0 x1 x2 x3 x4 xf0 xf1 xf2 xf3 xf4 z0 z1 z2 z3 z4 zf0 zf1 zf2 zf3 zf4
       obtain ⟨W7, rfl⟩ : ∃ x, x = wc := ⟨_, rfl⟩
       obtain ⟨s3, hEs3⟩ : ∃ q, q = condX cs R l s2 := ⟨_, rfl⟩
       rw [← hEs3] at hcut
       have Es3 : Hid (s3 = condX cs R l s2) := hEs3
       clear hEs3
       have HP : Hid (Pt Gz w W6 W7 B b o cc cs a2 n2 c2 root (.slice a3 n3 c3) (s3)) := hcut
       clear hcut
       obtain ⟨a17, n17, c17, k17, HF17, HX17, HZ17, hK17, hws0, hws1, hnn, ⟨x0, x1, x2, x3, x4, xf0, xf1, xf2, xf3, xf4⟩, z0, z1, z2, z3, z4, zf0, zf1, zf2, zf3, zf4⟩ := HP.out.opn
       replace HT := hid (HT.out.kt hK17)
       clear HP hK17
       clear HT HL
       go_upto_region 16 with fail
       have HQ : Hid (putN s3 (ifN [((n13 : Int) - 1), ((n15 : Int) - 1), ((n17 : Int) - 1)]) = condX cs R ((kc : Int) :: l) r) := by show _ = _; rw [HCM.out, HA.out, HV.out, HF17.out.last, Es3.out, Es2.out, Es1.out] <;> rfl
       clear HCM HA HV Es1 Es2 Es3
       go_region_with (first | (go_at_call 71; (refine (l4Last_eq (some ⟨b, o, none⟩) a2 a17 cs.length n2 n17 cc c2 c17 root k17 _ (by omega)).mono ?_; rintro e v2 ⟨rfl, rfl⟩)) | (go_at_call 95; (refine (if_at HF17.out HGL.out ((n13 : Int) - 1) ((n15 : Int) - 1) ((n17 : Int) - 1)).mono ?_; rintro e v1 ⟨qa, qn, qc, qk, rfl, hx1, hg1, hs1⟩; have HE : Hid _ := hx1; have HG : Hid _ := hg1; have HS : Hid _ := hs1; obtain ⟨y0, y1, y2, y3, y4, yf0, yf1, yf2, yf3, yf4⟩ := HF17.out.cells hg1 HX17.out; obtain ⟨zy0, zy1, zy2, zy3, zy4, zyf0, zyf1, zyf2, zyf3, zyf4⟩ := HF17.out.cells hg1 HZ17.out; clear hx1 hg1 hs1; unfold xV)))
       all_goals (try go_wp2)
       all_goals
        refine bodyPost_ret (fin104 rfl rfl (set5_same _ _ _ _ _ (HF17.out.rep.kt HG.out (by decide) HZ17.out) _ _ _ _ _)) rfl ?_
        rw [← HQ.out]
        exact HF17.out.ret HZ17.out HE.out HG.out HS.out
end
end Go.Proofs.Ytgjeefedcfakdaa
set_option linter.unusedVariables false
namespace Go.Proofs.Ytgjeefedcfakdaa
open Go.ChangeShapes Go.WideShapes Go.ChangeAt Go.RowKit
section
variable {B b o cc : Nat} {cs : List Dat} {a2 : Option Addr} {n2 c2 : Nat} {root : Int} {R : Int → Sx → Sx}
set_option maxRecDepth 100000 in
set_option maxHeartbeats 2000000 in
theorem l4Cond_nil : LC B b o cc cs a2 n2 c2 root 92 ([]) (condX cs R []) := by
 intro Gz w a3 n3 c3 code r al cl hB hGl hrow hr hcl hal
 obtain ⟨W0, HW0, HP⟩ := Pt.begin cc a2 n2 c2 root hB hrow hr
 have HGL : Hid (∀ g, Gz g → g < w.heap.size) := hGl
 clear hrow hr hal hGl hB hcl
 unfold xV
 go_enter Try.func92, Try.ntmps92
 go_upto_region 2 with fail
 rw [HW0.out]
 clear HW0
 obtain ⟨a10, n10, c10, k10, HF10, HX10, HZ10, hK10, hws0, hws1, hnn, ⟨x0, x1, x2, x3, x4, xf0, xf1, xf2, xf3, xf4⟩, z0, z1, z2, z3, z4, zf0, zf1, zf2, zf3, zf4⟩ := HP.out.opn
 clear HP hK10
 go_wp2_with fail
 have HQ : Hid (putN r (boolN 0) = condX cs R [] r) := by show _ = _; rw [] <;> rfl
 refine (bool_at HF10.out 0).mono ?_
 rintro e v1 ⟨qa, qn, qc, qk, rfl, hx1, hg1, hs1⟩
 have HE : Hid _ := hx1
 have HG : Hid _ := hg1
 have HS : Hid _ := hs1
 obtain ⟨zy0, zy1, zy2, zy3, zy4, zyf0, zyf1, zyf2, zyf3, zyf4⟩ := HF10.out.cells hg1 HZ10.out
 clear hx1 hg1 hs1
 unfold xV
 go_wp2
 refine bodyPost_ret (fin104 rfl rfl (set5_same _ _ _ _ _ (HF10.out.rep.kt HG.out (by decide) HZ10.out) _ _ _ _ _)) rfl ?_
 rw [← HQ.out]
 exact HF10.out.ret HZ10.out HE.out HG.out HS.out
set_option maxRecDepth 100000 in
set_option maxHeartbeats 4000000 in
theorem l4Cond_bad (hg : Good cs) (kc : Nat) (l : List Int) (hkc : kc < cs.length) (hl : l.length ≤ 1048576) (hno : ∀ x y z, lstOf cs (kc : Int) ≠ some (x :: y :: z)) : LC B b o cc cs a2 n2 c2 root 92 ((kc : Int) :: l) (condX cs R ((kc : Int) :: l)) := by
 intro Gz w a3 n3 c3 code r al cl hB hGl hrow hr hcl hal
 obtain ⟨g, p, rfl⟩ := hal.some
 obtain ⟨W0, HW0, HP⟩ := Pt.begin cc a2 n2 c2 root hB hrow hr
 have HGL : Hid (∀ g, Gz g → g < w.heap.size) := hGl
 have HT : Hid (RowT w (some ⟨g, p, none⟩) ((kc : Int) :: l)) := hal
 have HQ : Hid (failN r 1 = condX cs R ((kc : Int) :: l) r) := (condX_bad hno).symm
 have HNO : Hid (∀ x y z, lstOf cs (kc : Int) ≠ some (x :: y :: z)) := hno
 clear hno hrow hr hal hGl hB
 have hcl' : l.length + 1 ≤ cl := hcl
 clear hcl
 unfold xV
 go_enter Try.func92, Try.ntmps92
 go_upto_region 3 with fail
 rw [HW0.out]
 clear HW0
 obtain ⟨a10, n10, c10, k10, HF10, HX10, HZ10, hK10, hws0, hws1, hnn, ⟨x0, x1, x2, x3, x4, xf0, xf1, xf2, xf3, xf4⟩, z0, z1, z2, z3, z4, zf0, zf1, zf2, zf3, zf4⟩ := HP.out.opn
 replace HT := hid (HT.out.kt hK10)
 clear HP hK10
 go_cut [5, 6] (fun cv iv wx => ∃ (u : Option Addr) (cu : Nat) (L : List Int) (ok : Bool), cv = .slice u L.length cu ∧ iv = .bool ok ∧ Pt Gz w W0 wx B b o cc cs a2 n2 c2 root (.slice a3 n3 c3) (r) ∧ RowT wx u L ∧ L.length ≤ cs.length ∧ L.length ≤ cu ∧ (if ok = true then lstOf cs (kc : Int) = some L else lstOf cs (kc : Int) = none) ∧ ∀ x ∈ L, 0 ≤ x ∧ x < (kc : Int))
 case first =>
  have c0 := HT.out.head
  go_region_with (go_at_call 81; (refine (lst_at hg HF10.out kc hkc).mono ?_; rintro e v1 ⟨u, cu, L, ok, rfl, hb1, _, h2, h3, h4, h5, h6⟩))
  all_goals (go_wp2_with fail; go_meet; exact ⟨u, cu, L, ok, rfl, rfl, Pt.below HF10.out HX10.out HZ10.out (KT.refl _) hb1, h2, h3, h4, h5, h6⟩)
 case rest =>
  clear HF10 HX10 HZ10 hws0 hws1 hnn x0 x1 x2 x3 x4 xf0 xf1 xf2 xf3 xf4 z0 z1 z2 z3 z4 zf0 zf1 zf2 zf3 zf4
  obtain ⟨W1, rfl⟩ : ∃ x, x = wc := ⟨_, rfl⟩
  obtain ⟨u, cu, Lu, oku, rfl, rfl, hP1, hu1, hLu, hcu, hco1, hm1⟩ := hcut
  have HP : Hid (Pt Gz w W0 W1 B b o cc cs a2 n2 c2 root (.slice a3 n3 c3) (r)) := hP1
  have HRu : Hid (RowT W1 u Lu) := hu1
  have HCOu : Hid (if oku = true then lstOf cs (kc : Int) = some Lu else lstOf cs (kc : Int) = none) := hco1
  have HMu : Hid (∀ x ∈ Lu, 0 ≤ x ∧ x < (kc : Int)) := hm1
  clear hP1 hu1 hco1 hm1
  obtain ⟨a11, n11, c11, k11, HF11, HX11, HZ11, hK11, hws0, hws1, hnn, ⟨x0, x1, x2, x3, x4, xf0, xf1, xf2, xf3, xf4⟩, z0, z1, z2, z3, z4, zf0, zf1, zf2, zf3, zf4⟩ := HP.out.opn
  replace HT := hid (HT.out.kt hK11)
  clear HP hK11
  cases oku
  ·skip
   go_wp2_with fail
   refine (fail_at HF11.out).mono ?_
   rintro e v1 ⟨qa, qn, qc, qk, rfl, hx1, hg1, hs1⟩
   have HE : Hid _ := hx1
   have HG : Hid _ := hg1
   have HS : Hid _ := hs1
   obtain ⟨zy0, zy1, zy2, zy3, zy4, zyf0, zyf1, zyf2, zyf3, zyf4⟩ := HF11.out.cells hg1 HZ11.out
   clear hx1 hg1 hs1
   unfold xV
   go_wp2
   refine bodyPost_ret (fin104 rfl rfl (set5_same _ _ _ _ _ (HF11.out.rep.kt HG.out (by decide) HZ11.out) _ _ _ _ _)) rfl ?_
   rw [← HQ.out]
   exact HF11.out.ret HZ11.out HE.out HG.out HS.out
  ·skip
   have hlt2 : decide ((Lu.length : Int) < 2) = true := by
    have h := HCOu.out
    simp at h
    match Lu, h with
    | [], _ => rfl
    | [_], _ => rfl
    | x :: y :: z, h => exact absurd h (HNO.out x y z)
   go_wp2_with fail
   refine (fail_at HF11.out).mono ?_
   rintro e v1 ⟨qa, qn, qc, qk, rfl, hx1, hg1, hs1⟩
   have HE : Hid _ := hx1
   have HG : Hid _ := hg1
   have HS : Hid _ := hs1
   obtain ⟨zy0, zy1, zy2, zy3, zy4, zyf0, zyf1, zyf2, zyf3, zyf4⟩ := HF11.out.cells hg1 HZ11.out
   clear hx1 hg1 hs1
   unfold xV
   go_wp2
   refine bodyPost_ret (fin104 rfl rfl (set5_same _ _ _ _ _ (HF11.out.rep.kt HG.out (by decide) HZ11.out) _ _ _ _ _)) rfl ?_
   rw [← HQ.out]
   exact HF11.out.ret HZ11.out HE.out HG.out HS.out
set_option maxRecDepth 100000 in
set_option maxHeartbeats 8000000 in
theorem l4Cond_else (hg : Good cs) (kc kh : Nat) (bb : Int) (t l : List Int) (hkc : kc < cs.length) (hkh : kh < kc) (hl : l.length ≤ 1048576) (hls : lstOf cs (kc : Int) = some ((kh : Int) :: bb :: t)) (hel : ((cel cs (kh : Int)).k = 3 ∧ (cel cs (kh : Int)).s.toList = wElse)) (hl0 : l = []) (hb : LC B b o cc cs a2 n2 c2 root 86 (bb :: t) (bodyX R (bb :: t))) : LC B b o cc cs a2 n2 c2 root 92 ((kc : Int) :: l) (condX cs R ((kc : Int) :: l)) := by
 intro Gz w a3 n3 c3 code r al cl hB hGl hrow hr hcl hal
 obtain ⟨g, p, rfl⟩ := hal.some
 obtain ⟨W0, HW0, HP⟩ := Pt.begin cc a2 n2 c2 root hB hrow hr
 have HGL : Hid (∀ g, Gz g → g < w.heap.size) := hGl
 have HT : Hid (RowT w (some ⟨g, p, none⟩) ((kc : Int) :: l)) := hal
 have HLS : Hid (lstOf cs (kc : Int) = some ((kh : Int) :: bb :: t)) := hls
 have HEL : Hid ((cel cs (kh : Int)).k = 3 ∧ (cel cs (kh : Int)).s.toList = wElse) := hel
 have HIB : Hid (LC B b o cc cs a2 n2 c2 root 86 (bb :: t) (bodyX R (bb :: t))) := hb
 have HL0 : Hid (l = []) := hl0
 clear hel hb hl0
 clear hls hrow hr hal hGl hB
 have hcl' : l.length + 1 ≤ cl := hcl
 clear hcl
 unfold xV
 go_enter Try.func92, Try.ntmps92
 go_upto_region 3 with fail
 rw [HW0.out]
 clear HW0
 obtain ⟨a10, n10, c10, k10, HF10, HX10, HZ10, hK10, hws0, hws1, hnn, ⟨x0, x1, x2, x3, x4, xf0, xf1, xf2, xf3, xf4⟩, z0, z1, z2, z3, z4, zf0, zf1, zf2, zf3, zf4⟩ := HP.out.opn
 replace HT := hid (HT.out.kt hK10)
 clear HP hK10
 go_cut [5, 6] (fun cv iv wx => ∃ (u : Option Addr) (cu : Nat) (L : List Int) (ok : Bool), cv = .slice u L.length cu ∧ iv = .bool ok ∧ Pt Gz w W0 wx B b o cc cs a2 n2 c2 root (.slice a3 n3 c3) (r) ∧ RowT wx u L ∧ L.length ≤ cs.length ∧ L.length ≤ cu ∧ (if ok = true then lstOf cs (kc : Int) = some L else lstOf cs (kc : Int) = none) ∧ ∀ x ∈ L, 0 ≤ x ∧ x < (kc : Int))
 case first =>
  have c0 := HT.out.head
  go_region_with (go_at_call 81; (refine (lst_at hg HF10.out kc hkc).mono ?_; rintro e v1 ⟨u, cu, L, ok, rfl, hb1, _, h2, h3, h4, h5, h6⟩))
  all_goals (go_wp2_with fail; go_meet; exact ⟨u, cu, L, ok, rfl, rfl, Pt.below HF10.out HX10.out HZ10.out (KT.refl _) hb1, h2, h3, h4, h5, h6⟩)
 case rest =>
  clear HF10 HX10 HZ10 hws0 hws1 hnn x0 x1 x2 x3 x4 xf0 xf1 xf2 xf3 xf4 z0 z1 z2 z3 z4 zf0 zf1 zf2 zf3 zf4
  obtain ⟨W1, rfl⟩ : ∃ x, x = wc := ⟨_, rfl⟩
  obtain ⟨u, cu, Lu, oku, rfl, rfl, hP1, hu1, hLu, hcu, hco1, hm1⟩ := hcut
  have HP : Hid (Pt Gz w W0 W1 B b o cc cs a2 n2 c2 root (.slice a3 n3 c3) (r)) := hP1
  have HRu : Hid (RowT W1 u Lu) := hu1
  have HCOu : Hid (if oku = true then lstOf cs (kc : Int) = some Lu else lstOf cs (kc : Int) = none) := hco1
  have HMu : Hid (∀ x ∈ Lu, 0 ≤ x ∧ x < (kc : Int)) := hm1
  clear hP1 hu1 hco1 hm1
  obtain ⟨a11, n11, c11, k11, HF11, HX11, HZ11, hK11, hws0, hws1, hnn, ⟨x0, x1, x2, x3, x4, xf0, xf1, xf2, xf3, xf4⟩, z0, z1, z2, z3, z4, zf0, zf1, zf2, zf3, zf4⟩ := HP.out.opn
  replace HT := hid (HT.out.kt hK11)
  clear HP hK11
  have hcsn := hg.n
  obtain ⟨rfl, rfl⟩ : oku = true ∧ Lu = (kh : Int) :: bb :: t := by
   have h := HCOu.out
   rw [HLS.out] at h
   cases oku
   ·simp at h
   ·simp at h
    exact ⟨rfl, h.symm⟩
  obtain ⟨d, hd⟩ : ∃ d, cs[kh]? = some d := ⟨_, List.getElem?_eq_getElem (by omega)⟩
  have HCE : Hid (cel cs (kh : Int) = d) := cel_of hd
  have hgt : decide ((t.length : Int) + 1 + 1 < 2) = false := by simp; omega
  have hcu' : t.length + 1 + 1 ≤ cu := hcu
  have hLu' : t.length + 1 + 1 ≤ cs.length := hLu
  have HRB : Hid (RowT W1 u ((kh : Int) :: bb :: t)) := HRu.out
  clear HRu hLu hcu HCOu HMu
  obtain ⟨g2, p2, rfl⟩ := HRB.out.some
  go_upto_region 6 with fail
  go_cut [7] (fun pv wx => ∃ gd, pv = .pointer (some ⟨gd, 0, none⟩) ∧ wx.heap[gd]? = some (Obj.cells #[.int .i64 d.k, .int .i64 d.n, .string d.s, .int .i64 d.l, .int .i64 d.r] 98) ∧ Pt Gz w W1 wx B b o cc cs a2 n2 c2 root (.slice a3 n3 c3) (r))
  case first =>
   have c1 := HRB.out.head
   have hgw := HRB.out.lt
   obtain ⟨hbB, d0, d1, d2, d3, d4⟩ := HF11.out.dat hd
   have hbw : b < W1.heap.size := by have := HF11.out.bsz; omega
   have hkl : kh < cs.length := (llt hd)
   have hcsn := hg.n
   go_region_with (fail)
   all_goals (go_wp2_with fail; go_meet; exact ⟨_, rfl, (by first | exact blk_drew (blk_at _ _ _ rfl) | exact blk_at _ _ _ rfl), Pt.below HF11.out HX11.out HZ11.out (KT.refl _) (by first | exact (bR _ _).drew | exact (Below.refl _ _).drew.alloc (Nat.le_refl _) _ | exact bR _ _)⟩)
  case rest =>
   clear HF11 HX11 HZ11 hws0 hws1 hnn x0 x1 x2 x3 x4 xf0 xf1 xf2 xf3 xf4 z0 z1 z2 z3 z4 zf0 zf1 zf2 zf3 zf4
   obtain ⟨W2, rfl⟩ : ∃ x, x = wc := ⟨_, rfl⟩
   obtain ⟨gd, rfl, hd98, hP1⟩ := hcut
   have HP : Hid (Pt Gz w W1 W2 B b o cc cs a2 n2 c2 root (.slice a3 n3 c3) (r)) := hP1
   clear hP1
   obtain ⟨e0, e1, e2, e3, e4, _, _, _, _, _⟩ := cells5 hd98
   obtain ⟨a12, n12, c12, k12, HF12, HX12, HZ12, hK12, hws0, hws1, hnn, ⟨x0, x1, x2, x3, x4, xf0, xf1, xf2, xf3, xf4⟩, z0, z1, z2, z3, z4, zf0, zf1, zf2, zf3, zf4⟩ := HP.out.opn
   replace HT := hid (HT.out.kt hK12)
   replace HRB := hid (HRB.out.kt hK12)
   clear HP hK12
   have hel : d.k = 3 ∧ d.s.toList = wElse := by have := HEL.out; rw [HCE.out] at this; exact this
   have qk3 : (d.k == 3) = true := beq_iff_eq.2 hel.1
   have qse : (d.s.toList == [101, 108, 115, 101]) = true := beq_iff_eq.2 hel.2
   have hl1 : ((l.length : Int) + 1 != 1) = false := by rw [HL0.out]; rfl
   have HQ : Hid (bodyX R (bb :: t) r = condX cs R ((kc : Int) :: l) r) := by show _ = _; rw [HL0.out]; exact (condX_else HLS.out HEL.out).symm
   clear hel
   go_upto_region 10 with fail
   go_region_with (go_at_call 86; (refine (list_at HIB.out HF12.out HGL.out (al := (some ⟨g2, p2 + 1, none⟩)) (cl := (cu - 1)) (by show t.length + 1 ≤ cu - 1; omega) HRB.out.tail).mono ?_; rintro e v1 ⟨qa, qn, qc, qk, rfl, hx1, hg1, hs1⟩; have HE : Hid _ := hx1; have HG : Hid _ := hg1; have HS : Hid _ := hs1; obtain ⟨y0, y1, y2, y3, y4, yf0, yf1, yf2, yf3, yf4⟩ := HF12.out.cells hg1 HX12.out; obtain ⟨zy0, zy1, zy2, zy3, zy4, zyf0, zyf1, zyf2, zyf3, zyf4⟩ := HF12.out.cells hg1 HZ12.out; clear hx1 hg1 hs1; unfold xV))
   all_goals (try go_wp2)
   all_goals
    refine bodyPost_ret (fin104 rfl rfl (set5_same _ _ _ _ _ (HF12.out.rep.kt HG.out (by decide) HZ12.out) _ _ _ _ _)) rfl ?_
    rw [← HQ.out]
    exact HF12.out.ret HZ12.out HE.out HG.out HS.out
set_option maxRecDepth 100000 in
set_option maxHeartbeats 8000000 in
theorem l4Cond_early (hg : Good cs) (kc kh : Nat) (bb : Int) (t l : List Int) (hkc : kc < cs.length) (hkh : kh < kc) (hl : l.length ≤ 1048576) (hls : lstOf cs (kc : Int) = some ((kh : Int) :: bb :: t)) (hel : ((cel cs (kh : Int)).k = 3 ∧ (cel cs (kh : Int)).s.toList = wElse)) (hl0 : l ≠ []) : LC B b o cc cs a2 n2 c2 root 92 ((kc : Int) :: l) (condX cs R ((kc : Int) :: l)) := by
 intro Gz w a3 n3 c3 code r al cl hB hGl hrow hr hcl hal
 obtain ⟨g, p, rfl⟩ := hal.some
 obtain ⟨W0, HW0, HP⟩ := Pt.begin cc a2 n2 c2 root hB hrow hr
 have HGL : Hid (∀ g, Gz g → g < w.heap.size) := hGl
 have HT : Hid (RowT w (some ⟨g, p, none⟩) ((kc : Int) :: l)) := hal
 have HLS : Hid (lstOf cs (kc : Int) = some ((kh : Int) :: bb :: t)) := hls
 have HEL : Hid ((cel cs (kh : Int)).k = 3 ∧ (cel cs (kh : Int)).s.toList = wElse) := hel
 have HL0 : Hid (l ≠ []) := hl0
 clear hel hl0
 clear hls hrow hr hal hGl hB
 have hcl' : l.length + 1 ≤ cl := hcl
 clear hcl
 unfold xV
 go_enter Try.func92, Try.ntmps92
 go_upto_region 3 with fail
 rw [HW0.out]
 clear HW0
 obtain ⟨a10, n10, c10, k10, HF10, HX10, HZ10, hK10, hws0, hws1, hnn, ⟨x0, x1, x2, x3, x4, xf0, xf1, xf2, xf3, xf4⟩, z0, z1, z2, z3, z4, zf0, zf1, zf2, zf3, zf4⟩ := HP.out.opn
 replace HT := hid (HT.out.kt hK10)
 clear HP hK10
 go_cut [5, 6] (fun cv iv wx => ∃ (u : Option Addr) (cu : Nat) (L : List Int) (ok : Bool), cv = .slice u L.length cu ∧ iv = .bool ok ∧ Pt Gz w W0 wx B b o cc cs a2 n2 c2 root (.slice a3 n3 c3) (r) ∧ RowT wx u L ∧ L.length ≤ cs.length ∧ L.length ≤ cu ∧ (if ok = true then lstOf cs (kc : Int) = some L else lstOf cs (kc : Int) = none) ∧ ∀ x ∈ L, 0 ≤ x ∧ x < (kc : Int))
 case first =>
  have c0 := HT.out.head
  go_region_with (go_at_call 81; (refine (lst_at hg HF10.out kc hkc).mono ?_; rintro e v1 ⟨u, cu, L, ok, rfl, hb1, _, h2, h3, h4, h5, h6⟩))
  all_goals (go_wp2_with fail; go_meet; exact ⟨u, cu, L, ok, rfl, rfl, Pt.below HF10.out HX10.out HZ10.out (KT.refl _) hb1, h2, h3, h4, h5, h6⟩)
 case rest =>
  clear HF10 HX10 HZ10 hws0 hws1 hnn x0 x1 x2 x3 x4 xf0 xf1 xf2 xf3 xf4 z0 z1 z2 z3 z4 zf0 zf1 zf2 zf3 zf4
  obtain ⟨W1, rfl⟩ : ∃ x, x = wc := ⟨_, rfl⟩
  obtain ⟨u, cu, Lu, oku, rfl, rfl, hP1, hu1, hLu, hcu, hco1, hm1⟩ := hcut
  have HP : Hid (Pt Gz w W0 W1 B b o cc cs a2 n2 c2 root (.slice a3 n3 c3) (r)) := hP1
  have HRu : Hid (RowT W1 u Lu) := hu1
  have HCOu : Hid (if oku = true then lstOf cs (kc : Int) = some Lu else lstOf cs (kc : Int) = none) := hco1
  have HMu : Hid (∀ x ∈ Lu, 0 ≤ x ∧ x < (kc : Int)) := hm1
  clear hP1 hu1 hco1 hm1
  obtain ⟨a11, n11, c11, k11, HF11, HX11, HZ11, hK11, hws0, hws1, hnn, ⟨x0, x1, x2, x3, x4, xf0, xf1, xf2, xf3, xf4⟩, z0, z1, z2, z3, z4, zf0, zf1, zf2, zf3, zf4⟩ := HP.out.opn
  replace HT := hid (HT.out.kt hK11)
  clear HP hK11
  have hcsn := hg.n
  obtain ⟨rfl, rfl⟩ : oku = true ∧ Lu = (kh : Int) :: bb :: t := by
   have h := HCOu.out
   rw [HLS.out] at h
   cases oku
   ·simp at h
   ·simp at h
    exact ⟨rfl, h.symm⟩
  obtain ⟨d, hd⟩ : ∃ d, cs[kh]? = some d := ⟨_, List.getElem?_eq_getElem (by omega)⟩
  have HCE : Hid (cel cs (kh : Int) = d) := cel_of hd
  have hgt : decide ((t.length : Int) + 1 + 1 < 2) = false := by simp; omega
  have hcu' : t.length + 1 + 1 ≤ cu := hcu
  have hLu' : t.length + 1 + 1 ≤ cs.length := hLu
  have HRB : Hid (RowT W1 u ((kh : Int) :: bb :: t)) := HRu.out
  clear HRu hLu hcu HCOu HMu
  obtain ⟨g2, p2, rfl⟩ := HRB.out.some
  go_upto_region 6 with fail
  go_cut [7] (fun pv wx => ∃ gd, pv = .pointer (some ⟨gd, 0, none⟩) ∧ wx.heap[gd]? = some (Obj.cells #[.int .i64 d.k, .int .i64 d.n, .string d.s, .int .i64 d.l, .int .i64 d.r] 98) ∧ Pt Gz w W1 wx B b o cc cs a2 n2 c2 root (.slice a3 n3 c3) (r))
  case first =>
   have c1 := HRB.out.head
   have hgw := HRB.out.lt
   obtain ⟨hbB, d0, d1, d2, d3, d4⟩ := HF11.out.dat hd
   have hbw : b < W1.heap.size := by have := HF11.out.bsz; omega
   have hkl : kh < cs.length := (llt hd)
   have hcsn := hg.n
   go_region_with (fail)
   all_goals (go_wp2_with fail; go_meet; exact ⟨_, rfl, (by first | exact blk_drew (blk_at _ _ _ rfl) | exact blk_at _ _ _ rfl), Pt.below HF11.out HX11.out HZ11.out (KT.refl _) (by first | exact (bR _ _).drew | exact (Below.refl _ _).drew.alloc (Nat.le_refl _) _ | exact bR _ _)⟩)
  case rest =>
   clear HF11 HX11 HZ11 hws0 hws1 hnn x0 x1 x2 x3 x4 xf0 xf1 xf2 xf3 xf4 z0 z1 z2 z3 z4 zf0 zf1 zf2 zf3 zf4
   obtain ⟨W2, rfl⟩ : ∃ x, x = wc := ⟨_, rfl⟩
   obtain ⟨gd, rfl, hd98, hP1⟩ := hcut
   have HP : Hid (Pt Gz w W1 W2 B b o cc cs a2 n2 c2 root (.slice a3 n3 c3) (r)) := hP1
   clear hP1
   obtain ⟨e0, e1, e2, e3, e4, _, _, _, _, _⟩ := cells5 hd98
   obtain ⟨a12, n12, c12, k12, HF12, HX12, HZ12, hK12, hws0, hws1, hnn, ⟨x0, x1, x2, x3, x4, xf0, xf1, xf2, xf3, xf4⟩, z0, z1, z2, z3, z4, zf0, zf1, zf2, zf3, zf4⟩ := HP.out.opn
   replace HT := hid (HT.out.kt hK12)
   replace HRB := hid (HRB.out.kt hK12)
   clear HP hK12
   have hel : d.k = 3 ∧ d.s.toList = wElse := by have := HEL.out; rw [HCE.out] at this; exact this
   have qk3 : (d.k == 3) = true := beq_iff_eq.2 hel.1
   have qse : (d.s.toList == [101, 108, 115, 101]) = true := beq_iff_eq.2 hel.2
   have hl1 : ((l.length : Int) + 1 != 1) = true := by rw [bne_iff_ne]; have : l.length ≠ 0 := fun h => HL0.out (List.length_eq_zero_iff.1 h); omega
   have HQ : Hid (failN r 1 = condX cs R ((kc : Int) :: l) r) := by show _ = _; obtain ⟨d9, l9, hl9⟩ := List.exists_cons_of_ne_nil HL0.out; rw [hl9]; exact (condX_early HLS.out HEL.out).symm
   clear hel
   go_wp2_with fail
   refine (fail_at HF12.out).mono ?_
   rintro e v1 ⟨qa, qn, qc, qk, rfl, hx1, hg1, hs1⟩
   have HE : Hid _ := hx1
   have HG : Hid _ := hg1
   have HS : Hid _ := hs1
   obtain ⟨zy0, zy1, zy2, zy3, zy4, zyf0, zyf1, zyf2, zyf3, zyf4⟩ := HF12.out.cells hg1 HZ12.out
   clear hx1 hg1 hs1
   unfold xV
   go_wp2
   refine bodyPost_ret (fin104 rfl rfl (set5_same _ _ _ _ _ (HF12.out.rep.kt HG.out (by decide) HZ12.out) _ _ _ _ _)) rfl ?_
   rw [← HQ.out]
   exact HF12.out.ret HZ12.out HE.out HG.out HS.out
end
end Go.Proofs.Ytgjeefedcfakdaa
set_option linter.unusedVariables false
namespace Go.Proofs.Ytgjeefedcfakdaa
open Go.ChangeShapes Go.WideShapes Go.ChangeAt Go.RowKit
section
variable {B b o cc : Nat} {cs : List Dat} {a2 : Option Addr} {n2 c2 : Nat} {root : Int} {R : Int → Sx → Sx}
theorem lst_len {cs : List Dat} (ha : Ahead cs) : ∀ (k : Nat), k < cs.length → ∀ {l : List Int}, lstOf cs (k : Int) = some l → l.length ≤ k := by
 intro k
 induction k using Nat.strongRecOn with
 | ind k ih =>
  intro hk l hl
  have hd : cs[k]? = some cs[k] := List.getElem?_eq_getElem hk
  by_cases h5 : cs[k].k = 5
  ·obtain ⟨h1, h2, h3, h4⟩ := ha k _ hd h5
   obtain ⟨q, hq⟩ := Int.eq_ofNat_of_zero_le h3
   rw [lst_pair ha hd h5 hq] at hl
   rw [hq] at h4
   cases hm : lstOf cs (q : Int) with
   | none => rw [hm] at hl; cases hl
   | some l' =>
    rw [hm] at hl
    have hl : cs[k].l :: l' = l := Option.some.inj hl
    subst hl
    have := ih q (by omega) (by omega) hm
    simp
    omega
  ·rw [lst_end hd h5] at hl
   split at hl
   ·have hl : [] = l := Option.some.inj hl
    subst hl
    simp
   ·cases hl
theorem l4Cond_any (hg : Good cs) : ∀ (l : List Int), l.length ≤ 1048576 → (∀ c ∈ l, 0 ≤ c ∧ c < (cs.length : Int) ∧ ∀ x, 0 ≤ x → x < c → FC B b o cc cs a2 n2 c2 root 70 x (R x)) → LC B b o cc cs a2 n2 c2 root 92 (l) (condX cs R l)
 | [], _, _ => l4Cond_nil
 | c :: l, hl, h => by
  obtain ⟨h0, h1, h2⟩ := h c (by simp)
  obtain ⟨kc, rfl⟩ := Int.eq_ofNat_of_zero_le h0
  have hl' : l.length ≤ 1048576 := by simp at hl; omega
  have hkc : kc < cs.length := by omega
  have hT := l4Cond_any hg l hl' fun c hc => h c (by simp [hc])
  by_cases hno : ∀ x y z, lstOf cs (kc : Int) ≠ some (x :: y :: z)
  ·exact l4Cond_bad hg kc l hkc hl' hno
  ·obtain ⟨x, y, z, hls⟩ : ∃ x y z, lstOf cs (kc : Int) = some (x :: y :: z) := by
    apply Classical.byContradiction
    intro hc
    exact hno fun x y z he => hc ⟨x, y, z, he⟩
   have hm := lst_lt hg.ah kc hkc hls
   obtain ⟨hx0, hx1⟩ := hm x (by simp)
   obtain ⟨kh, rfl⟩ := Int.eq_ofNat_of_zero_le hx0
   have hB : LC B b o cc cs a2 n2 c2 root 86 (y :: z) (bodyX R (y :: z)) := l4Body_any hg.n _ (by
    have hz := lst_len hg.ah kc hkc hls
    have := hg.n
    simp at hz ⊢
    omega) fun q hq => h2 q (hm q (by simp at hq ⊢; exact .inr hq)).1 (hm q (by simp at hq ⊢; exact .inr hq)).2
   by_cases hel : (cel cs (kh : Int)).k = 3 ∧ (cel cs (kh : Int)).s.toList = wElse
   ·by_cases hl0 : l = []
    ·exact l4Cond_else hg kc kh y z l hkc (by omega) hl' hls hel hl0 hB
    ·exact l4Cond_early hg kc kh y z l hkc (by omega) hl' hls hel hl0
   ·exact l4Cond_more hg kc kh y z l hkc (by omega) hl' hls hel (h2 kh hx0 hx1) hB hT
end
end Go.Proofs.Ytgjeefedcfakdaa
