/- The model's expander: l4Or. -/
import Derived.Deep.DeepCutAuto
import Derived.Test.YtgjeefedcfakdaaYal
set_option linter.unusedVariables false
namespace Go.Proofs.Ytgjeefedcfakdaa
open Go.ChangeShapes Go.WideShapes Go.ChangeAt Go.RowKit
section
variable {B b o cc : Nat} {cs : List Dat} {a2 : Option Addr} {n2 c2 : Nat} {root : Int} {R : Int → Sx → Sx}
set_option maxRecDepth 100000 in
set_option maxHeartbeats 2000000 in
theorem l4Or_nil : LC B b o cc cs a2 n2 c2 root 94 ([]) (orX R []) := by
 intro Gz w a3 n3 c3 code r al cl hB hGl hrow hr hcl hal
 obtain ⟨W0, HW0, HP⟩ := Pt.begin cc a2 n2 c2 root hB hrow hr
 have HGL : Hid (∀ g, Gz g → g < w.heap.size) := hGl
 clear hrow hr hal hGl hB hcl
 unfold xV
 go_enter Try.func94, Try.ntmps94
 go_upto_region 2 with fail
 rw [HW0.out]
 clear HW0
 obtain ⟨a10, n10, c10, k10, HF10, HX10, HZ10, hK10, hws0, hws1, hnn, ⟨x0, x1, x2, x3, x4, xf0, xf1, xf2, xf3, xf4⟩, z0, z1, z2, z3, z4, zf0, zf1, zf2, zf3, zf4⟩ := HP.out.opn
 clear HP hK10
 go_wp2_with fail
 have HQ : Hid (putN r (boolN 0) = orX R [] r) := by show _ = _; rw [] <;> rfl
 refine (bool_at HF10.out 0).mono ?_
 rintro e v1 ⟨qa, qn, qc, qk, rfl, hx1, hg1, hs1⟩
 have HE : Hid _ := hx1
 have HG : Hid _ := hg1
 have HS : Hid _ := hs1
 obtain ⟨zy0, zy1, zy2, zy3, zy4, zyf0, zyf1, zyf2, zyf3, zyf4⟩ := HF10.out.cells hg1 HZ10.out
 clear hx1 hg1 hs1
 unfold xV
 go_wp2
 refine bodyPost_ret (fin104 rfl rfl (set5_same _ _ _ _ _ (HF10.out.rep.kt HG.out (by decide) HZ10.out) _ _ _ _ _)) rfl ?_
 rw [← HQ.out]
 exact HF10.out.ret HZ10.out HE.out HG.out HS.out
set_option maxRecDepth 100000 in
set_option maxHeartbeats 2000000 in
theorem l4Or_one (i : Int) (hi : FC B b o cc cs a2 n2 c2 root 70 i (R i)) : LC B b o cc cs a2 n2 c2 root 94 ([i]) (orX R [i]) := by
 intro Gz w a3 n3 c3 code r al cl hB hGl hrow hr hcl hal
 obtain ⟨g, p, rfl⟩ := hal.some
 obtain ⟨W0, HW0, HP⟩ := Pt.begin cc a2 n2 c2 root hB hrow hr
 have HGL : Hid (∀ g, Gz g → g < w.heap.size) := hGl
 have HT : Hid (RowT w (some ⟨g, p, none⟩) [i]) := hal
 have HI : Hid (FC B b o cc cs a2 n2 c2 root 70 i (R i)) := hi
 have hcl' : 1 ≤ cl := hcl
 clear hi hrow hr hal hGl hB hcl
 unfold xV
 go_enter Try.func94, Try.ntmps94
 go_upto_region 4 with fail
 rw [HW0.out]
 clear HW0
 obtain ⟨a10, n10, c10, k10, HF10, HX10, HZ10, hK10, hws0, hws1, hnn, ⟨x0, x1, x2, x3, x4, xf0, xf1, xf2, xf3, xf4⟩, z0, z1, z2, z3, z4, zf0, zf1, zf2, zf3, zf4⟩ := HP.out.opn
 replace HT := hid (HT.out.kt hK10)
 clear HP hK10
 have c0 := HT.out.head
 have HQ : Hid (R i r = orX R [i] r) := by show _ = _; rw [] <;> rfl
 go_region_with (go_at_call 70; (refine (form_at HI.out HF10.out HGL.out).mono ?_; rintro e v1 ⟨qa, qn, qc, qk, rfl, hx1, hg1, hs1⟩; have HE : Hid _ := hx1; have HG : Hid _ := hg1; have HS : Hid _ := hs1; obtain ⟨y0, y1, y2, y3, y4, yf0, yf1, yf2, yf3, yf4⟩ := HF10.out.cells hg1 HX10.out; obtain ⟨zy0, zy1, zy2, zy3, zy4, zyf0, zyf1, zyf2, zyf3, zyf4⟩ := HF10.out.cells hg1 HZ10.out; clear hx1 hg1 hs1; unfold xV))
 all_goals (try go_wp2)
 all_goals
  refine bodyPost_ret (fin104 rfl rfl (set5_same _ _ _ _ _ (HF10.out.rep.kt HG.out (by decide) HZ10.out) _ _ _ _ _)) rfl ?_
  rw [← HQ.out]
  exact HF10.out.ret HZ10.out HE.out HG.out HS.out
set_option maxRecDepth 100000 in
set_option maxHeartbeats 12000000 in
theorem l4Or_more (i j : Int) (l : List Int) (hn : cs.length ≤ 1048576) (hl : l.length ≤ 1048576) (hi : FC B b o cc cs a2 n2 c2 root 70 i (R i)) (ht : LC B b o cc cs a2 n2 c2 root 94 (j :: l) (orX R (j :: l))) : LC B b o cc cs a2 n2 c2 root 94 (i :: j :: l) (orX R (i :: j :: l)) := by
 intro Gz w a3 n3 c3 code r al cl hB hGl hrow hr hcl hal
 obtain ⟨g, p, rfl⟩ := hal.some
 obtain ⟨W0, HW0, HP⟩ := Pt.begin cc a2 n2 c2 root hB hrow hr
 have HGL : Hid (∀ g, Gz g → g < w.heap.size) := hGl
 have HT : Hid (RowT w (some ⟨g, p, none⟩) (i :: j :: l)) := hal
 have HI : Hid (FC B b o cc cs a2 n2 c2 root 70 i (R i)) := hi
 have HL : Hid (LC B b o cc cs a2 n2 c2 root 94 (j :: l) (orX R (j :: l))) := ht
 clear hi ht hrow hr hal hGl hB
 have hcl' : l.length + 1 + 1 ≤ cl := hcl
 clear hcl
 unfold xV
 go_enter Try.func94, Try.ntmps94
 go_upto_region 5 with fail
 rw [HW0.out]
 clear HW0
 obtain ⟨a10, n10, c10, k10, HF10, HX10, HZ10, hK10, hws0, hws1, hnn, ⟨x0, x1, x2, x3, x4, xf0, xf1, xf2, xf3, xf4⟩, z0, z1, z2, z3, z4, zf0, zf1, zf2, zf3, zf4⟩ := HP.out.opn
 replace HT := hid (HT.out.kt hK10)
 clear HP hK10
 go_wp2_with fail
 refine (put_at HF10.out HGL.out (varN orS) (NewS.nil _ _ _) (NewI.nil _ _ _) (Nat.le_refl _) (Nat.le_refl _)).mono ?_
 rintro e v1 ⟨qa, qn, qc, qk, rfl, hx1, hg1, hs1⟩
 have hcut : Pt Gz w W0 (set5 v1 w.heap.size (.slice (some ⟨b, o, none⟩) cs.length cc) (.slice a2 n2 c2) (.slice qa qn qc) (.int .i64 root) (.int .i64 qk)) B b o cc cs a2 n2 c2 root (.slice a3 n3 c3) (putN r (varN orS)) := Pt.next HF10.out HX10.out HZ10.out (KT.refl _) hx1 hg1 hs1
 obtain ⟨y0, y1, y2, y3, y4, yf0, yf1, yf2, yf3, yf4⟩ := HF10.out.cells hg1 HX10.out
 obtain ⟨zy0, zy1, zy2, zy3, zy4, zyf0, zyf1, zyf2, zyf3, zyf4⟩ := HF10.out.cells hg1 HZ10.out
 clear hx1 hg1 hs1
 clear HF10 HX10 HZ10 hws0 hws1 hnn x0 x1 x2 x3 x4 xf0 xf1 xf2 xf3 xf4 z0 z1 z2 z3 z4 zf0 zf1 zf2 zf3 zf4
 obtain ⟨s1, hEs1⟩ : ∃ q, q = putN r (varN orS) := ⟨_, rfl⟩
 rw [← hEs1] at hcut
 have Es1 : Hid (s1 = putN r (varN orS)) := hEs1
 clear hEs1
 have HP : Hid (Pt Gz w W0 (set5 v1 w.heap.size (.slice (some ⟨b, o, none⟩) cs.length cc) (.slice a2 n2 c2) (.slice qa qn qc) (.int .i64 root) (.int .i64 qk)) B b o cc cs a2 n2 c2 root (.slice a3 n3 c3) (s1)) := hcut
 clear hcut
 unfold xV
 go_upto_region 6 with fail
 clear y0 y1 y2 y3 y4 yf0 yf1 yf2 yf3 yf4 zy0 zy1 zy2 zy3 zy4 zyf0 zyf1 zyf2 zyf3 zyf4
 generalize hw : (set5 v1 w.heap.size (.slice (some ⟨b, o, none⟩) cs.length cc) (.slice a2 n2 c2) (.slice qa qn qc) (.int .i64 root) (.int .i64 qk)) = W1 at HP
 unfold set5 at hw
 rw [hw]
 clear hw
 obtain ⟨a11, n11, c11, k11, HF11, HX11, HZ11, hK11, hws0, hws1, hnn, ⟨x0, x1, x2, x3, x4, xf0, xf1, xf2, xf3, xf4⟩, z0, z1, z2, z3, z4, zf0, zf1, zf2, zf3, zf4⟩ := HP.out.opn
 replace HT := hid (HT.out.kt hK11)
 clear HP hK11
 go_wp2_with fail
 refine (l4Last_any (some ⟨b, o, none⟩) a2 a11 cs.length n2 n11 cc c2 c11 root k11 W1 (by omega)).mono ?_
 rintro e W2 ⟨rfl, hb1⟩
 have HP : Hid (Pt Gz w W1 W2 B b o cc cs a2 n2 c2 root (.slice a3 n3 c3) (s1)) := Pt.below HF11.out HX11.out HZ11.out (KT.refl _) hb1
 have HA : Hid ((n11 : Int) - 1 = lastN s1) := HF11.out.last
 clear hb1
 clear HF11 HX11 HZ11 hws0 hws1 hnn x0 x1 x2 x3 x4 xf0 xf1 xf2 xf3 xf4 z0 z1 z2 z3 z4 zf0 zf1 zf2 zf3 zf4
 obtain ⟨a12, n12, c12, k12, HF12, HX12, HZ12, hK12, hws0, hws1, hnn, ⟨x0, x1, x2, x3, x4, xf0, xf1, xf2, xf3, xf4⟩, z0, z1, z2, z3, z4, zf0, zf1, zf2, zf3, zf4⟩ := HP.out.opn
 replace HT := hid (HT.out.kt hK12)
 clear HP hK12
 go_wp2_with fail
 refine (put_at HF12.out HGL.out (varN orS) (NewS.nil _ _ _) (NewI.nil _ _ _) (Nat.le_refl _) (Nat.le_refl _)).mono ?_
 rintro e v1 ⟨qa, qn, qc, qk, rfl, hx1, hg1, hs1⟩
 have hcut : Pt Gz w W2 (set5 v1 w.heap.size (.slice (some ⟨b, o, none⟩) cs.length cc) (.slice a2 n2 c2) (.slice qa qn qc) (.int .i64 root) (.int .i64 qk)) B b o cc cs a2 n2 c2 root (.slice a3 n3 c3) (putN s1 (varN orS)) := Pt.next HF12.out HX12.out HZ12.out (KT.refl _) hx1 hg1 hs1
 obtain ⟨y0, y1, y2, y3, y4, yf0, yf1, yf2, yf3, yf4⟩ := HF12.out.cells hg1 HX12.out
 obtain ⟨zy0, zy1, zy2, zy3, zy4, zyf0, zyf1, zyf2, zyf3, zyf4⟩ := HF12.out.cells hg1 HZ12.out
 clear hx1 hg1 hs1
 clear HF12 HX12 HZ12 hws0 hws1 hnn x0 x1 x2 x3 x4 xf0 xf1 xf2 xf3 xf4 z0 z1 z2 z3 z4 zf0 zf1 zf2 zf3 zf4
 obtain ⟨s2, hEs2⟩ : ∃ q, q = putN s1 (varN orS) := ⟨_, rfl⟩
 rw [← hEs2] at hcut
 have Es2 : Hid (s2 = putN s1 (varN orS)) := hEs2
 clear hEs2
 have HP : Hid (Pt Gz w W2 (set5 v1 w.heap.size (.slice (some ⟨b, o, none⟩) cs.length cc) (.slice a2 n2 c2) (.slice qa qn qc) (.int .i64 root) (.int .i64 qk)) B b o cc cs a2 n2 c2 root (.slice a3 n3 c3) (s2)) := hcut
 clear hcut
 unfold xV
 go_upto_region 8 with fail
 clear y0 y1 y2 y3 y4 yf0 yf1 yf2 yf3 yf4 zy0 zy1 zy2 zy3 zy4 zyf0 zyf1 zyf2 zyf3 zyf4
 generalize hw : (set5 v1 w.heap.size (.slice (some ⟨b, o, none⟩) cs.length cc) (.slice a2 n2 c2) (.slice qa qn qc) (.int .i64 root) (.int .i64 qk)) = W3 at HP
 unfold set5 at hw
 rw [hw]
 clear hw
 obtain ⟨a13, n13, c13, k13, HF13, HX13, HZ13, hK13, hws0, hws1, hnn, ⟨x0, x1, x2, x3, x4, xf0, xf1, xf2, xf3, xf4⟩, z0, z1, z2, z3, z4, zf0, zf1, zf2, zf3, zf4⟩ := HP.out.opn
 replace HT := hid (HT.out.kt hK13)
 clear HP hK13
 go_wp2_with fail
 refine (l4Last_any (some ⟨b, o, none⟩) a2 a13 cs.length n2 n13 cc c2 c13 root k13 W3 (by omega)).mono ?_
 rintro e W4 ⟨rfl, hb1⟩
 have HP : Hid (Pt Gz w W3 W4 B b o cc cs a2 n2 c2 root (.slice a3 n3 c3) (s2)) := Pt.below HF13.out HX13.out HZ13.out (KT.refl _) hb1
 have HV : Hid ((n13 : Int) - 1 = lastN s2) := HF13.out.last
 clear hb1
 clear HF13 HX13 HZ13 hws0 hws1 hnn x0 x1 x2 x3 x4 xf0 xf1 xf2 xf3 xf4 z0 z1 z2 z3 z4 zf0 zf1 zf2 zf3 zf4
 obtain ⟨a14, n14, c14, k14, HF14, HX14, HZ14, hK14, hws0, hws1, hnn, ⟨x0, x1, x2, x3, x4, xf0, xf1, xf2, xf3, xf4⟩, z0, z1, z2, z3, z4, zf0, zf1, zf2, zf3, zf4⟩ := HP.out.opn
 replace HT := hid (HT.out.kt hK14)
 clear HP hK14
 go_upto_region 9 with fail
 go_cut [] (fun wx => Pt Gz w W4 wx B b o cc cs a2 n2 c2 root (.slice a3 n3 c3) (orX R (j :: l) s2))
 case first =>
  go_region_with (go_at_call 94; (refine (list_at HL.out HF14.out HGL.out (al := (some ⟨g, p + 1, none⟩)) (cl := (cl - 1)) (by show l.length + 1 ≤ cl - 1; omega) HT.out.tail).mono ?_; rintro e v1 ⟨qa, qn, qc, qk, rfl, hx1, hg1, hs1⟩; have HE : Hid _ := hx1; have HG : Hid _ := hg1; have HS : Hid _ := hs1; obtain ⟨y0, y1, y2, y3, y4, yf0, yf1, yf2, yf3, yf4⟩ := HF14.out.cells hg1 HX14.out; obtain ⟨zy0, zy1, zy2, zy3, zy4, zyf0, zyf1, zyf2, zyf3, zyf4⟩ := HF14.out.cells hg1 HZ14.out; clear hx1 hg1 hs1; unfold xV))
  all_goals (go_wp2_with fail; go_meet; exact Pt.next HF14.out HX14.out HZ14.out (KT.refl _) HE.out HG.out HS.out)
 case rest =>
  clear HF14 HX14 HZ14 hws0 hws1 hnn x0 x1 x2 x3 x4 xf0 xf1 xf2 xf3 xf4 z0 z1 z2 z3 z4 zf0 zf1 zf2 zf3 zf4
  obtain ⟨W5, rfl⟩ : ∃ x, x = wc := ⟨_, rfl⟩
  obtain ⟨s3, hEs3⟩ : ∃ q, q = orX R (j :: l) s2 := ⟨_, rfl⟩
  rw [← hEs3] at hcut
  have Es3 : Hid (s3 = orX R (j :: l) s2) := hEs3
  clear hEs3
  have HP : Hid (Pt Gz w W4 W5 B b o cc cs a2 n2 c2 root (.slice a3 n3 c3) (s3)) := hcut
  clear hcut
  obtain ⟨a15, n15, c15, k15, HF15, HX15, HZ15, hK15, hws0, hws1, hnn, ⟨x0, x1, x2, x3, x4, xf0, xf1, xf2, xf3, xf4⟩, z0, z1, z2, z3, z4, zf0, zf1, zf2, zf3, zf4⟩ := HP.out.opn
  replace HT := hid (HT.out.kt hK15)
  clear HP hK15
  go_upto_region 10 with fail
  go_cut [] (fun wx => Pt Gz w W5 wx B b o cc cs a2 n2 c2 root (.slice a3 n3 c3) (ifX s1 s2 s3))
  case first =>
   have hw2 : w.heap.size < W5.heap.size + 1 := by omega
   have hw3 : w.heap.size < W5.heap.size + 1 + 1 := by omega
   have hw4 : ¬ w.heap.size = W5.heap.size := by omega
   have hw5 : ¬ w.heap.size = W5.heap.size + 1 := by omega
   have hw6 : ¬ w.heap.size = W5.heap.size + 1 + 1 := by omega
   have HQ : Hid (putN s3 (ifN [((n11 : Int) - 1), ((n13 : Int) - 1), ((n15 : Int) - 1)]) = ifX s1 s2 s3) := by show _ = _; rw [HA.out, HV.out, HF15.out.last]; rfl
   go_region_with (first | (go_at_call 71; (refine (l4Last_eq (some ⟨b, o, none⟩) a2 a15 cs.length n2 n15 cc c2 c15 root k15 _ (by omega)).mono ?_; rintro e v2 ⟨rfl, rfl⟩)) | (go_at_call 95; (refine (if_at HF15.out HGL.out ((n11 : Int) - 1) ((n13 : Int) - 1) ((n15 : Int) - 1)).mono ?_; rintro e v1 ⟨qa, qn, qc, qk, rfl, hx1, hg1, hs1⟩; have HE : Hid _ := hx1; have HG : Hid _ := hg1; have HS : Hid _ := hs1; obtain ⟨y0, y1, y2, y3, y4, yf0, yf1, yf2, yf3, yf4⟩ := HF15.out.cells hg1 HX15.out; obtain ⟨zy0, zy1, zy2, zy3, zy4, zyf0, zyf1, zyf2, zyf3, zyf4⟩ := HF15.out.cells hg1 HZ15.out; clear hx1 hg1 hs1; unfold xV)))
   all_goals (go_wp2_with fail; go_meet; rw [← HQ.out]; exact Pt.next HF15.out HX15.out HZ15.out (KT.refl _) HE.out HG.out HS.out)
  case rest =>
   clear HF15 HX15 HZ15 hws0 hws1 hnn x0 x1 x2 x3 x4 xf0 xf1 xf2 xf3 xf4 z0 z1 z2 z3 z4 zf0 zf1 zf2 zf3 zf4
   obtain ⟨W6, rfl⟩ : ∃ x, x = wc := ⟨_, rfl⟩
   obtain ⟨s4, hEs4⟩ : ∃ q, q = ifX s1 s2 s3 := ⟨_, rfl⟩
   rw [← hEs4] at hcut
   have Es4 : Hid (s4 = ifX s1 s2 s3) := hEs4
   clear hEs4
   have HP : Hid (Pt Gz w W5 W6 B b o cc cs a2 n2 c2 root (.slice a3 n3 c3) (s4)) := hcut
   clear hcut
   obtain ⟨a16, n16, c16, k16, HF16, HX16, HZ16, hK16, hws0, hws1, hnn, ⟨x0, x1, x2, x3, x4, xf0, xf1, xf2, xf3, xf4⟩, z0, z1, z2, z3, z4, zf0, zf1, zf2, zf3, zf4⟩ := HP.out.opn
   replace HT := hid (HT.out.kt hK16)
   clear HP hK16
   go_upto_region 11 with fail
   go_cut [] (fun wx => Pt Gz w W6 wx B b o cc cs a2 n2 c2 root (.slice a3 n3 c3) (lamX [orS] s4))
   case first =>
    have hw2 : w.heap.size < W6.heap.size + 1 := by omega
    have hw3 : w.heap.size < W6.heap.size + 1 + 1 := by omega
    have hw4 : ¬ w.heap.size = W6.heap.size := by omega
    have hw5 : ¬ w.heap.size = W6.heap.size + 1 := by omega
    have hw6 : ¬ w.heap.size = W6.heap.size + 1 + 1 := by omega
    have HQ : Hid (putN s4 (lamN [orS] ((n16 : Int) - 1)) = lamX [orS] s4) := by show _ = _; rw [HF16.out.last]; rfl
    go_region_with (first | (go_at_call 71; (refine (l4Last_eq (some ⟨b, o, none⟩) a2 a16 cs.length n2 n16 cc c2 c16 root k16 _ (by omega)).mono ?_; rintro e v2 ⟨rfl, rfl⟩)) | (go_at_call 79; (refine (put_at HF16.out HGL.out (lamN [orS] ((n16 : Int) - 1)) (NewS.lit [orS] (by first | exact blk_drew (blk_at _ _ _ (by simp)) | exact blk_drew (blk_past (blk_at _ _ _ (by simp))) | exact blk_drew (blk_past (blk_past (blk_at _ _ _ (by simp)))) | exact blk_at _ _ _ (by simp) | exact blk_past (blk_at _ _ _ (by simp))) (by first | omega | (simp <;> omega))) (NewI.lit [((n16 : Int) - 1)] (by first | exact blk_drew (blk_at _ _ _ (by simp)) | exact blk_drew (blk_past (blk_at _ _ _ (by simp))) | exact blk_drew (blk_past (blk_past (blk_at _ _ _ (by simp)))) | exact blk_at _ _ _ (by simp) | exact blk_past (blk_at _ _ _ (by simp))) (by first | omega | (simp <;> omega))) (Nat.le_refl _) (Nat.le_refl _)).mono ?_; rintro e v1 ⟨qa, qn, qc, qk, rfl, hx1, hg1, hs1⟩; have HE : Hid _ := hx1; have HG : Hid _ := hg1; have HS : Hid _ := hs1; obtain ⟨y0, y1, y2, y3, y4, yf0, yf1, yf2, yf3, yf4⟩ := HF16.out.cells hg1 HX16.out; obtain ⟨zy0, zy1, zy2, zy3, zy4, zyf0, zyf1, zyf2, zyf3, zyf4⟩ := HF16.out.cells hg1 HZ16.out; clear hx1 hg1 hs1; unfold xV)))
    all_goals (go_wp2_with fail; go_meet; rw [← HQ.out]; exact Pt.next HF16.out HX16.out HZ16.out (KT.refl _) HE.out HG.out HS.out)
   case rest =>
    clear HF16 HX16 HZ16 hws0 hws1 hnn x0 x1 x2 x3 x4 xf0 xf1 xf2 xf3 xf4 z0 z1 z2 z3 z4 zf0 zf1 zf2 zf3 zf4
    obtain ⟨W7, rfl⟩ : ∃ x, x = wc := ⟨_, rfl⟩
    obtain ⟨s5, hEs5⟩ : ∃ q, q = lamX [orS] s4 := ⟨_, rfl⟩
    rw [← hEs5] at hcut
    have Es5 : Hid (s5 = lamX [orS] s4) := hEs5
    clear hEs5
    have HP : Hid (Pt Gz w W6 W7 B b o cc cs a2 n2 c2 root (.slice a3 n3 c3) (s5)) := hcut
    clear hcut
    obtain ⟨a17, n17, c17, k17, HF17, HX17, HZ17, hK17, hws0, hws1, hnn, ⟨x0, x1, x2, x3, x4, xf0, xf1, xf2, xf3, xf4⟩, z0, z1, z2, z3, z4, zf0, zf1, zf2, zf3, zf4⟩ := HP.out.opn
    replace HT := hid (HT.out.kt hK17)
    clear HP hK17
    go_wp2_with fail
    refine (l4Last_any (some ⟨b, o, none⟩) a2 a17 cs.length n2 n17 cc c2 c17 root k17 W7 (by omega)).mono ?_
    rintro e W8 ⟨rfl, hb1⟩
    have HP : Hid (Pt Gz w W7 W8 B b o cc cs a2 n2 c2 root (.slice a3 n3 c3) (s5)) := Pt.below HF17.out HX17.out HZ17.out (KT.refl _) hb1
    have HC : Hid ((n17 : Int) - 1 = lastN s5) := HF17.out.last
    clear hb1
    clear HF17 HX17 HZ17 hws0 hws1 hnn x0 x1 x2 x3 x4 xf0 xf1 xf2 xf3 xf4 z0 z1 z2 z3 z4 zf0 zf1 zf2 zf3 zf4
    obtain ⟨a18, n18, c18, k18, HF18, HX18, HZ18, hK18, hws0, hws1, hnn, ⟨x0, x1, x2, x3, x4, xf0, xf1, xf2, xf3, xf4⟩, z0, z1, z2, z3, z4, zf0, zf1, zf2, zf3, zf4⟩ := HP.out.opn
    replace HT := hid (HT.out.kt hK18)
    clear HP hK18
    go_upto_region 13 with fail
    go_cut [] (fun wx => Pt Gz w W8 wx B b o cc cs a2 n2 c2 root (.slice a3 n3 c3) (R i s5))
    case first =>
     have c0 := HT.out.head
     go_region_with (go_at_call 70; (refine (form_at HI.out HF18.out HGL.out).mono ?_; rintro e v1 ⟨qa, qn, qc, qk, rfl, hx1, hg1, hs1⟩; have HE : Hid _ := hx1; have HG : Hid _ := hg1; have HS : Hid _ := hs1; obtain ⟨y0, y1, y2, y3, y4, yf0, yf1, yf2, yf3, yf4⟩ := HF18.out.cells hg1 HX18.out; obtain ⟨zy0, zy1, zy2, zy3, zy4, zyf0, zyf1, zyf2, zyf3, zyf4⟩ := HF18.out.cells hg1 HZ18.out; clear hx1 hg1 hs1; unfold xV))
     all_goals (go_wp2_with fail; go_meet; exact Pt.next HF18.out HX18.out HZ18.out (KT.refl _) HE.out HG.out HS.out)
    case rest =>
     clear HF18 HX18 HZ18 hws0 hws1 hnn x0 x1 x2 x3 x4 xf0 xf1 xf2 xf3 xf4 z0 z1 z2 z3 z4 zf0 zf1 zf2 zf3 zf4
     obtain ⟨W9, rfl⟩ : ∃ x, x = wc := ⟨_, rfl⟩
     obtain ⟨s6, hEs6⟩ : ∃ q, q = R i s5 := ⟨_, rfl⟩
     rw [← hEs6] at hcut
     have Es6 : Hid (s6 = R i s5) := hEs6
     clear hEs6
     have HP : Hid (Pt Gz w W8 W9 B b o cc cs a2 n2 c2 root (.slice a3 n3 c3) (s6)) := hcut
     clear hcut
     obtain ⟨a19, n19, c19, k19, HF19, HX19, HZ19, hK19, hws0, hws1, hnn, ⟨x0, x1, x2, x3, x4, xf0, xf1, xf2, xf3, xf4⟩, z0, z1, z2, z3, z4, zf0, zf1, zf2, zf3, zf4⟩ := HP.out.opn
     replace HT := hid (HT.out.kt hK19)
     clear HP hK19
     go_upto_region 14 with fail
     have HQ : Hid (putN s6 (callN [((n17 : Int) - 1), ((n19 : Int) - 1)]) = orX R (i :: j :: l) r) := by show _ = _; rw [HC.out, HF19.out.last, Es6.out, Es5.out, Es4.out, Es3.out, Es2.out, Es1.out] <;> rfl
     go_region_with (first | (go_at_call 71; (refine (l4Last_eq (some ⟨b, o, none⟩) a2 a19 cs.length n2 n19 cc c2 c19 root k19 _ (by omega)).mono ?_; rintro e v2 ⟨rfl, rfl⟩)) | (go_at_call 79; (refine (put_at HF19.out HGL.out (callN [((n17 : Int) - 1), ((n19 : Int) - 1)]) (NewS.nil _ _ _) (NewI.lit [((n17 : Int) - 1), ((n19 : Int) - 1)] (by first | exact blk_drew (blk_at _ _ _ (by simp)) | exact blk_drew (blk_past (blk_at _ _ _ (by simp))) | exact blk_drew (blk_past (blk_past (blk_at _ _ _ (by simp)))) | exact blk_at _ _ _ (by simp) | exact blk_past (blk_at _ _ _ (by simp))) (by first | omega | (simp <;> omega))) (Nat.le_refl _) (Nat.le_refl _)).mono ?_; rintro e v1 ⟨qa, qn, qc, qk, rfl, hx1, hg1, hs1⟩; have HE : Hid _ := hx1; have HG : Hid _ := hg1; have HS : Hid _ := hs1; obtain ⟨y0, y1, y2, y3, y4, yf0, yf1, yf2, yf3, yf4⟩ := HF19.out.cells hg1 HX19.out; obtain ⟨zy0, zy1, zy2, zy3, zy4, zyf0, zyf1, zyf2, zyf3, zyf4⟩ := HF19.out.cells hg1 HZ19.out; clear hx1 hg1 hs1; unfold xV)))
     all_goals (try go_wp2)
     all_goals
      refine bodyPost_ret (fin104 rfl rfl (set5_same _ _ _ _ _ (HF19.out.rep.kt HG.out (by decide) HZ19.out) _ _ _ _ _)) rfl ?_
      rw [← HQ.out]
      exact HF19.out.ret HZ19.out HE.out HG.out HS.out
theorem l4Or_any (hn : cs.length ≤ 1048576) : ∀ (l : List Int), l.length ≤ 1048576 → (∀ x ∈ l, FC B b o cc cs a2 n2 c2 root 70 x (R x)) → LC B b o cc cs a2 n2 c2 root 94 (l) (orX R l)
 | [], _, _ => l4Or_nil
 | [i], _, h => l4Or_one i (h i (by simp))
 | i :: j :: l, hl, h => l4Or_more i j l hn (by simp at hl; omega) (h i (by simp)) (l4Or_any hn (j :: l) (by simp at hl ⊢; omega) fun x hx => h x (by simp at hx ⊢; exact .inr hx))
end
end Go.Proofs.Ytgjeefedcfakdaa
