/- The model's expander: l4Let of too few parts. The model's expander: l4And. -/
import Derived.Deep.DeepCutAuto
import Derived.Test.YtgjeefedcfakdaaYle
import Derived.Test.YtgjeefedcfakdaaYal
set_option linter.unusedVariables false
namespace Go.Proofs.Ytgjeefedcfakdaa
open Go.ChangeShapes Go.WideShapes Go.ChangeAt Go.RowKit
section
variable {B b o cc : Nat} {cs : List Dat} {a2 : Option Addr} {n2 c2 : Nat} {root : Int} {R : Int → Sx → Sx}
set_option maxRecDepth 100000 in
set_option maxHeartbeats 2000000 in
theorem l4Let_short (l : List Int) (hl : l.length ≤ 1048576) (hs : l.length < 2) : LC B b o cc cs a2 n2 c2 root 89 (l) (fun r => failN r 1) := by
 intro Gz w a3 n3 c3 code r al cl hB hGl hrow hr hcl hal
 obtain ⟨W0, HW0, HP⟩ := Pt.begin cc a2 n2 c2 root hB hrow hr
 have HGL : Hid (∀ g, Gz g → g < w.heap.size) := hGl
 have hlt : decide ((l.length : Int) < 2) = true := by simp; omega
 clear hrow hr hal hGl hB hs
 unfold xV
 go_enter Try.func89, Try.ntmps89
 go_upto_region 2 with fail
 rw [HW0.out]
 clear HW0
 obtain ⟨a10, n10, c10, k10, HF10, HX10, HZ10, hK10, hws0, hws1, hnn, ⟨x0, x1, x2, x3, x4, xf0, xf1, xf2, xf3, xf4⟩, z0, z1, z2, z3, z4, zf0, zf1, zf2, zf3, zf4⟩ := HP.out.opn
 clear HP hK10
 go_wp2_with fail
 refine (fail_at HF10.out).mono ?_
 rintro e v1 ⟨qa, qn, qc, qk, rfl, hx1, hg1, hs1⟩
 have HE : Hid _ := hx1
 have HG : Hid _ := hg1
 have HS : Hid _ := hs1
 obtain ⟨zy0, zy1, zy2, zy3, zy4, zyf0, zyf1, zyf2, zyf3, zyf4⟩ := HF10.out.cells hg1 HZ10.out
 clear hx1 hg1 hs1
 unfold xV
 go_wp2
 refine bodyPost_ret (fin104 rfl rfl (set5_same _ _ _ _ _ (HF10.out.rep.kt HG.out (by decide) HZ10.out) _ _ _ _ _)) rfl ?_
 exact HF10.out.ret HZ10.out HE.out HG.out HS.out
end
end Go.Proofs.Ytgjeefedcfakdaa
set_option linter.unusedVariables false
namespace Go.Proofs.Ytgjeefedcfakdaa
open Go.ChangeShapes Go.WideShapes Go.ChangeAt Go.RowKit
section
variable {B b o cc : Nat} {cs : List Dat} {a2 : Option Addr} {n2 c2 : Nat} {root : Int} {R : Int → Sx → Sx}
set_option maxRecDepth 100000 in
set_option maxHeartbeats 2000000 in
theorem l4And_nil : LC B b o cc cs a2 n2 c2 root 93 ([]) (andX R []) := by
 intro Gz w a3 n3 c3 code r al cl hB hGl hrow hr hcl hal
 obtain ⟨W0, HW0, HP⟩ := Pt.begin cc a2 n2 c2 root hB hrow hr
 have HGL : Hid (∀ g, Gz g → g < w.heap.size) := hGl
 clear hrow hr hal hGl hB hcl
 unfold xV
 go_enter Try.func93, Try.ntmps93
 go_upto_region 2 with fail
 rw [HW0.out]
 clear HW0
 obtain ⟨a10, n10, c10, k10, HF10, HX10, HZ10, hK10, hws0, hws1, hnn, ⟨x0, x1, x2, x3, x4, xf0, xf1, xf2, xf3, xf4⟩, z0, z1, z2, z3, z4, zf0, zf1, zf2, zf3, zf4⟩ := HP.out.opn
 clear HP hK10
 go_wp2_with fail
 have HQ : Hid (putN r (boolN 1) = andX R [] r) := by show _ = _; rw [] <;> rfl
 refine (bool_at HF10.out 1).mono ?_
 rintro e v1 ⟨qa, qn, qc, qk, rfl, hx1, hg1, hs1⟩
 have HE : Hid _ := hx1
 have HG : Hid _ := hg1
 have HS : Hid _ := hs1
 obtain ⟨zy0, zy1, zy2, zy3, zy4, zyf0, zyf1, zyf2, zyf3, zyf4⟩ := HF10.out.cells hg1 HZ10.out
 clear hx1 hg1 hs1
 unfold xV
 go_wp2
 refine bodyPost_ret (fin104 rfl rfl (set5_same _ _ _ _ _ (HF10.out.rep.kt HG.out (by decide) HZ10.out) _ _ _ _ _)) rfl ?_
 rw [← HQ.out]
 exact HF10.out.ret HZ10.out HE.out HG.out HS.out
set_option maxRecDepth 100000 in
set_option maxHeartbeats 2000000 in
theorem l4And_one (i : Int) (hi : FC B b o cc cs a2 n2 c2 root 70 i (R i)) : LC B b o cc cs a2 n2 c2 root 93 ([i]) (andX R [i]) := by
 intro Gz w a3 n3 c3 code r al cl hB hGl hrow hr hcl hal
 obtain ⟨g, p, rfl⟩ := hal.some
 obtain ⟨W0, HW0, HP⟩ := Pt.begin cc a2 n2 c2 root hB hrow hr
 have HGL : Hid (∀ g, Gz g → g < w.heap.size) := hGl
 have HT : Hid (RowT w (some ⟨g, p, none⟩) [i]) := hal
 have HI : Hid (FC B b o cc cs a2 n2 c2 root 70 i (R i)) := hi
 have hcl' : 1 ≤ cl := hcl
 clear hi hrow hr hal hGl hB hcl
 unfold xV
 go_enter Try.func93, Try.ntmps93
 go_upto_region 3 with fail
 rw [HW0.out]
 clear HW0
 obtain ⟨a10, n10, c10, k10, HF10, HX10, HZ10, hK10, hws0, hws1, hnn, ⟨x0, x1, x2, x3, x4, xf0, xf1, xf2, xf3, xf4⟩, z0, z1, z2, z3, z4, zf0, zf1, zf2, zf3, zf4⟩ := HP.out.opn
 replace HT := hid (HT.out.kt hK10)
 clear HP hK10
 go_cut [] (fun wx => Pt Gz w W0 wx B b o cc cs a2 n2 c2 root (.slice a3 n3 c3) (R i r))
 case first =>
  have c0 := HT.out.head
  go_region_with (go_at_call 70; (refine (form_at HI.out HF10.out HGL.out).mono ?_; rintro e v1 ⟨qa, qn, qc, qk, rfl, hx1, hg1, hs1⟩; have HE : Hid _ := hx1; have HG : Hid _ := hg1; have HS : Hid _ := hs1; obtain ⟨y0, y1, y2, y3, y4, yf0, yf1, yf2, yf3, yf4⟩ := HF10.out.cells hg1 HX10.out; obtain ⟨zy0, zy1, zy2, zy3, zy4, zyf0, zyf1, zyf2, zyf3, zyf4⟩ := HF10.out.cells hg1 HZ10.out; clear hx1 hg1 hs1; unfold xV))
  all_goals (go_wp2_with fail; go_meet; exact Pt.next HF10.out HX10.out HZ10.out (KT.refl _) HE.out HG.out HS.out)
 case rest =>
  clear HF10 HX10 HZ10 hws0 hws1 hnn x0 x1 x2 x3 x4 xf0 xf1 xf2 xf3 xf4 z0 z1 z2 z3 z4 zf0 zf1 zf2 zf3 zf4
  obtain ⟨W1, rfl⟩ : ∃ x, x = wc := ⟨_, rfl⟩
  obtain ⟨s1, hEs1⟩ : ∃ q, q = R i r := ⟨_, rfl⟩
  rw [← hEs1] at hcut
  have Es1 : Hid (s1 = R i r) := hEs1
  clear hEs1
  have HP : Hid (Pt Gz w W0 W1 B b o cc cs a2 n2 c2 root (.slice a3 n3 c3) (s1)) := hcut
  clear hcut
  obtain ⟨a11, n11, c11, k11, HF11, HX11, HZ11, hK11, hws0, hws1, hnn, ⟨x0, x1, x2, x3, x4, xf0, xf1, xf2, xf3, xf4⟩, z0, z1, z2, z3, z4, zf0, zf1, zf2, zf3, zf4⟩ := HP.out.opn
  replace HT := hid (HT.out.kt hK11)
  clear HP hK11
  go_wp2
  have HQ : s1 = andX R [i] r := by show _ = _; rw [Es1.out] <;> rfl
  refine bodyPost_ret (fin104 rfl rfl (set5_same _ _ _ _ _ HZ11.out _ _ _ _ _)) rfl ?_
  rw [← HQ]
  exact HF11.out.done _ _ HZ11.out (by omega) _ _ _ _ _
set_option maxRecDepth 100000 in
set_option maxHeartbeats 2000000 in
theorem l4And_more (i j : Int) (l : List Int) (hn : cs.length ≤ 1048576) (hl : l.length ≤ 1048576) (hi : FC B b o cc cs a2 n2 c2 root 70 i (R i)) (ht : LC B b o cc cs a2 n2 c2 root 93 (j :: l) (andX R (j :: l))) : LC B b o cc cs a2 n2 c2 root 93 (i :: j :: l) (andX R (i :: j :: l)) := by
 intro Gz w a3 n3 c3 code r al cl hB hGl hrow hr hcl hal
 obtain ⟨g, p, rfl⟩ := hal.some
 obtain ⟨W0, HW0, HP⟩ := Pt.begin cc a2 n2 c2 root hB hrow hr
 have HGL : Hid (∀ g, Gz g → g < w.heap.size) := hGl
 have HT : Hid (RowT w (some ⟨g, p, none⟩) (i :: j :: l)) := hal
 have HI : Hid (FC B b o cc cs a2 n2 c2 root 70 i (R i)) := hi
 have HL : Hid (LC B b o cc cs a2 n2 c2 root 93 (j :: l) (andX R (j :: l))) := ht
 clear hi ht hrow hr hal hGl hB
 have hcl' : l.length + 1 + 1 ≤ cl := hcl
 clear hcl
 unfold xV
 go_enter Try.func93, Try.ntmps93
 go_upto_region 3 with fail
 rw [HW0.out]
 clear HW0
 obtain ⟨a10, n10, c10, k10, HF10, HX10, HZ10, hK10, hws0, hws1, hnn, ⟨x0, x1, x2, x3, x4, xf0, xf1, xf2, xf3, xf4⟩, z0, z1, z2, z3, z4, zf0, zf1, zf2, zf3, zf4⟩ := HP.out.opn
 replace HT := hid (HT.out.kt hK10)
 clear HP hK10
 go_cut [] (fun wx => Pt Gz w W0 wx B b o cc cs a2 n2 c2 root (.slice a3 n3 c3) (R i r))
 case first =>
  have c0 := HT.out.head
  go_region_with (go_at_call 70; (refine (form_at HI.out HF10.out HGL.out).mono ?_; rintro e v1 ⟨qa, qn, qc, qk, rfl, hx1, hg1, hs1⟩; have HE : Hid _ := hx1; have HG : Hid _ := hg1; have HS : Hid _ := hs1; obtain ⟨y0, y1, y2, y3, y4, yf0, yf1, yf2, yf3, yf4⟩ := HF10.out.cells hg1 HX10.out; obtain ⟨zy0, zy1, zy2, zy3, zy4, zyf0, zyf1, zyf2, zyf3, zyf4⟩ := HF10.out.cells hg1 HZ10.out; clear hx1 hg1 hs1; unfold xV))
  all_goals (go_wp2_with fail; go_meet; exact Pt.next HF10.out HX10.out HZ10.out (KT.refl _) HE.out HG.out HS.out)
 case rest =>
  clear HF10 HX10 HZ10 hws0 hws1 hnn x0 x1 x2 x3 x4 xf0 xf1 xf2 xf3 xf4 z0 z1 z2 z3 z4 zf0 zf1 zf2 zf3 zf4
  obtain ⟨W1, rfl⟩ : ∃ x, x = wc := ⟨_, rfl⟩
  obtain ⟨s1, hEs1⟩ : ∃ q, q = R i r := ⟨_, rfl⟩
  rw [← hEs1] at hcut
  have Es1 : Hid (s1 = R i r) := hEs1
  clear hEs1
  have HP : Hid (Pt Gz w W0 W1 B b o cc cs a2 n2 c2 root (.slice a3 n3 c3) (s1)) := hcut
  clear hcut
  obtain ⟨a11, n11, c11, k11, HF11, HX11, HZ11, hK11, hws0, hws1, hnn, ⟨x0, x1, x2, x3, x4, xf0, xf1, xf2, xf3, xf4⟩, z0, z1, z2, z3, z4, zf0, zf1, zf2, zf3, zf4⟩ := HP.out.opn
  replace HT := hid (HT.out.kt hK11)
  clear HP hK11
  go_wp2_with fail
  refine (l4Last_any (some ⟨b, o, none⟩) a2 a11 cs.length n2 n11 cc c2 c11 root k11 W1 (by omega)).mono ?_
  rintro e W2 ⟨rfl, hb1⟩
  have HP : Hid (Pt Gz w W1 W2 B b o cc cs a2 n2 c2 root (.slice a3 n3 c3) (s1)) := Pt.below HF11.out HX11.out HZ11.out (KT.refl _) hb1
  have HA : Hid ((n11 : Int) - 1 = lastN s1) := HF11.out.last
  clear hb1
  clear HF11 HX11 HZ11 hws0 hws1 hnn x0 x1 x2 x3 x4 xf0 xf1 xf2 xf3 xf4 z0 z1 z2 z3 z4 zf0 zf1 zf2 zf3 zf4
  obtain ⟨a12, n12, c12, k12, HF12, HX12, HZ12, hK12, hws0, hws1, hnn, ⟨x0, x1, x2, x3, x4, xf0, xf1, xf2, xf3, xf4⟩, z0, z1, z2, z3, z4, zf0, zf1, zf2, zf3, zf4⟩ := HP.out.opn
  replace HT := hid (HT.out.kt hK12)
  clear HP hK12
  go_upto_region 7 with fail
  go_cut [] (fun wx => Pt Gz w W2 wx B b o cc cs a2 n2 c2 root (.slice a3 n3 c3) (andX R (j :: l) s1))
  case first =>
   go_region_with (go_at_call 93; (refine (list_at HL.out HF12.out HGL.out (al := (some ⟨g, p + 1, none⟩)) (cl := (cl - 1)) (by show l.length + 1 ≤ cl - 1; omega) HT.out.tail).mono ?_; rintro e v1 ⟨qa, qn, qc, qk, rfl, hx1, hg1, hs1⟩; have HE : Hid _ := hx1; have HG : Hid _ := hg1; have HS : Hid _ := hs1; obtain ⟨y0, y1, y2, y3, y4, yf0, yf1, yf2, yf3, yf4⟩ := HF12.out.cells hg1 HX12.out; obtain ⟨zy0, zy1, zy2, zy3, zy4, zyf0, zyf1, zyf2, zyf3, zyf4⟩ := HF12.out.cells hg1 HZ12.out; clear hx1 hg1 hs1; unfold xV))
   all_goals (go_wp2_with fail; go_meet; exact Pt.next HF12.out HX12.out HZ12.out (KT.refl _) HE.out HG.out HS.out)
  case rest =>
   clear HF12 HX12 HZ12 hws0 hws1 hnn x0 x1 x2 x3 x4 xf0 xf1 xf2 xf3 xf4 z0 z1 z2 z3 z4 zf0 zf1 zf2 zf3 zf4
   obtain ⟨W3, rfl⟩ : ∃ x, x = wc := ⟨_, rfl⟩
   obtain ⟨s2, hEs2⟩ : ∃ q, q = andX R (j :: l) s1 := ⟨_, rfl⟩
   rw [← hEs2] at hcut
   have Es2 : Hid (s2 = andX R (j :: l) s1) := hEs2
   clear hEs2
   have HP : Hid (Pt Gz w W2 W3 B b o cc cs a2 n2 c2 root (.slice a3 n3 c3) (s2)) := hcut
   clear hcut
   obtain ⟨a13, n13, c13, k13, HF13, HX13, HZ13, hK13, hws0, hws1, hnn, ⟨x0, x1, x2, x3, x4, xf0, xf1, xf2, xf3, xf4⟩, z0, z1, z2, z3, z4, zf0, zf1, zf2, zf3, zf4⟩ := HP.out.opn
   replace HT := hid (HT.out.kt hK13)
   clear HP hK13
   go_wp2_with fail
   refine (l4Last_any (some ⟨b, o, none⟩) a2 a13 cs.length n2 n13 cc c2 c13 root k13 W3 (by omega)).mono ?_
   rintro e W4 ⟨rfl, hb1⟩
   have HP : Hid (Pt Gz w W3 W4 B b o cc cs a2 n2 c2 root (.slice a3 n3 c3) (s2)) := Pt.below HF13.out HX13.out HZ13.out (KT.refl _) hb1
   have HV : Hid ((n13 : Int) - 1 = lastN s2) := HF13.out.last
   clear hb1
   clear HF13 HX13 HZ13 hws0 hws1 hnn x0 x1 x2 x3 x4 xf0 xf1 xf2 xf3 xf4 z0 z1 z2 z3 z4 zf0 zf1 zf2 zf3 zf4
   obtain ⟨a14, n14, c14, k14, HF14, HX14, HZ14, hK14, hws0, hws1, hnn, ⟨x0, x1, x2, x3, x4, xf0, xf1, xf2, xf3, xf4⟩, z0, z1, z2, z3, z4, zf0, zf1, zf2, zf3, zf4⟩ := HP.out.opn
   replace HT := hid (HT.out.kt hK14)
   clear HP hK14
   go_wp2_with fail
   refine (bool_at HF14.out 0).mono ?_
   rintro e v1 ⟨qa, qn, qc, qk, rfl, hx1, hg1, hs1⟩
   have hcut : Pt Gz w W4 (set5 v1 w.heap.size (.slice (some ⟨b, o, none⟩) cs.length cc) (.slice a2 n2 c2) (.slice qa qn qc) (.int .i64 root) (.int .i64 qk)) B b o cc cs a2 n2 c2 root (.slice a3 n3 c3) (putN s2 (boolN 0)) := Pt.next HF14.out HX14.out HZ14.out (KT.refl _) hx1 hg1 hs1
   obtain ⟨y0, y1, y2, y3, y4, yf0, yf1, yf2, yf3, yf4⟩ := HF14.out.cells hg1 HX14.out
   obtain ⟨zy0, zy1, zy2, zy3, zy4, zyf0, zyf1, zyf2, zyf3, zyf4⟩ := HF14.out.cells hg1 HZ14.out
   clear hx1 hg1 hs1
   clear HF14 HX14 HZ14 hws0 hws1 hnn x0 x1 x2 x3 x4 xf0 xf1 xf2 xf3 xf4 z0 z1 z2 z3 z4 zf0 zf1 zf2 zf3 zf4
   obtain ⟨s3, hEs3⟩ : ∃ q, q = putN s2 (boolN 0) := ⟨_, rfl⟩
   rw [← hEs3] at hcut
   have Es3 : Hid (s3 = putN s2 (boolN 0)) := hEs3
   clear hEs3
   have HP : Hid (Pt Gz w W4 (set5 v1 w.heap.size (.slice (some ⟨b, o, none⟩) cs.length cc) (.slice a2 n2 c2) (.slice qa qn qc) (.int .i64 root) (.int .i64 qk)) B b o cc cs a2 n2 c2 root (.slice a3 n3 c3) (s3)) := hcut
   clear hcut
   unfold xV
   go_wp2_with fail
   clear y0 y1 y2 y3 y4 yf0 yf1 yf2 yf3 yf4 zy0 zy1 zy2 zy3 zy4 zyf0 zyf1 zyf2 zyf3 zyf4
   generalize hw : (set5 v1 w.heap.size (.slice (some ⟨b, o, none⟩) cs.length cc) (.slice a2 n2 c2) (.slice qa qn qc) (.int .i64 root) (.int .i64 qk)) = W5 at HP
   unfold set5 at hw
   rw [hw]
   clear hw
   obtain ⟨a15, n15, c15, k15, HF15, HX15, HZ15, hK15, hws0, hws1, hnn, ⟨x0, x1, x2, x3, x4, xf0, xf1, xf2, xf3, xf4⟩, z0, z1, z2, z3, z4, zf0, zf1, zf2, zf3, zf4⟩ := HP.out.opn
   replace HT := hid (HT.out.kt hK15)
   clear HP hK15
   go_upto_region 10 with fail
   have HQ : Hid (putN s3 (ifN [((n11 : Int) - 1), ((n13 : Int) - 1), ((n15 : Int) - 1)]) = andX R (i :: j :: l) r) := by show _ = _; rw [HA.out, HV.out, HF15.out.last, Es3.out, Es2.out, Es1.out] <;> rfl
   go_region_with (first | (go_at_call 71; (refine (l4Last_eq (some ⟨b, o, none⟩) a2 a15 cs.length n2 n15 cc c2 c15 root k15 _ (by omega)).mono ?_; rintro e v2 ⟨rfl, rfl⟩)) | (go_at_call 95; (refine (if_at HF15.out HGL.out ((n11 : Int) - 1) ((n13 : Int) - 1) ((n15 : Int) - 1)).mono ?_; rintro e v1 ⟨qa, qn, qc, qk, rfl, hx1, hg1, hs1⟩; have HE : Hid _ := hx1; have HG : Hid _ := hg1; have HS : Hid _ := hs1; obtain ⟨y0, y1, y2, y3, y4, yf0, yf1, yf2, yf3, yf4⟩ := HF15.out.cells hg1 HX15.out; obtain ⟨zy0, zy1, zy2, zy3, zy4, zyf0, zyf1, zyf2, zyf3, zyf4⟩ := HF15.out.cells hg1 HZ15.out; clear hx1 hg1 hs1; unfold xV)))
   all_goals (try go_wp2)
   all_goals
    refine bodyPost_ret (fin104 rfl rfl (set5_same _ _ _ _ _ (HF15.out.rep.kt HG.out (by decide) HZ15.out) _ _ _ _ _)) rfl ?_
    rw [← HQ.out]
    exact HF15.out.ret HZ15.out HE.out HG.out HS.out
theorem l4And_any (hn : cs.length ≤ 1048576) : ∀ (l : List Int), l.length ≤ 1048576 → (∀ x ∈ l, FC B b o cc cs a2 n2 c2 root 70 x (R x)) → LC B b o cc cs a2 n2 c2 root 93 (l) (andX R l)
 | [], _, _ => l4And_nil
 | [i], _, h => l4And_one i (h i (by simp))
 | i :: j :: l, hl, h => l4And_more i j l hn (by simp at hl; omega) (h i (by simp)) (l4And_any hn (j :: l) (by simp at hl ⊢; omega) fun x hx => h x (by simp at hx ⊢; exact .inr hx))
end
end Go.Proofs.Ytgjeefedcfakdaa
