/- The model's expander: l4Special: lambda. -/
import Derived.Deep.DeepCutAuto
import Derived.Test.YtgjeefedcfakdaaYsp
set_option linter.unusedVariables false
namespace Go.Proofs.Ytgjeefedcfakdaa
open Go.ChangeShapes Go.WideShapes Go.ChangeAt Go.RowKit
section
variable {B b o cc : Nat} {cs : List Dat} {a2 : Option Addr} {n2 c2 : Nat} {root : Int} {R : Int → Sx → Sx}
set_option maxRecDepth 100000 in
set_option maxHeartbeats 8000000 in
theorem l4Sp_lambda_ok (hg : Good cs) (sw : ByteArray) (hw : sw.toList = [108, 97, 109, 98, 100, 97]) (kp : Nat) (bb : Int) (t : List Int) (ss : List ByteArray) (hv : (lstOf cs (kp : Int)).bind (parsOf cs) = some ss) (hkp : kp < cs.length) (hl : t.length ≤ 1048576) (hb : LC B b o cc cs a2 n2 c2 root 86 (bb :: t) (bodyX R (bb :: t))) : WC B b o cc cs a2 n2 c2 root sw ((kp : Int) :: bb :: t) (fun r => lamX ss (bodyX R (bb :: t) r)) := by
 intro Gz w a3 n3 c3 code r al cl hB hGl hrow hr hcl hal
 obtain ⟨g, p, rfl⟩ := hal.some
 obtain ⟨W0, HW0, HP⟩ := Pt.begin cc a2 n2 c2 root hB hrow hr
 have HGL : Hid (∀ g, Gz g → g < w.heap.size) := hGl
 have HT : Hid (RowT w (some ⟨g, p, none⟩) ((kp : Int) :: bb :: t)) := hal
 have HIB : Hid (LC B b o cc cs a2 n2 c2 root 86 (bb :: t) (bodyX R (bb :: t))) := hb
 have HV : Hid ((lstOf cs (kp : Int)).bind (parsOf cs) = some ss) := hv
 have ws0 : (sw.toList == [113, 117, 111, 116, 101]) = false := by rw [hw]; rfl
 have ws1 : (sw.toList == [105, 102]) = false := by rw [hw]; rfl
 have ws2 : (sw.toList == [98, 101, 103, 105, 110]) = false := by rw [hw]; rfl
 have ws3 : (sw.toList == [115, 101, 116, 33]) = false := by rw [hw]; rfl
 have ws4 : (sw.toList == [108, 97, 109, 98, 100, 97]) = true := beq_iff_eq.2 hw
 have hcl' : t.length + 1 + 1 ≤ cl := hcl
 have hge : decide ((2 : Int) ≤ (t.length : Int) + 1 + 1) = true := by simp; omega
 clear hw hb hrow hr hal hGl hB hcl hv
 unfold xV
 go_enter Try.func82, Try.ntmps82
 go_upto_region 22 with fail
 rw [HW0.out]
 clear HW0
 obtain ⟨a10, n10, c10, k10, HF10, HX10, HZ10, hK10, hws0, hws1, hnn, ⟨x0, x1, x2, x3, x4, xf0, xf1, xf2, xf3, xf4⟩, z0, z1, z2, z3, z4, zf0, zf1, zf2, zf3, zf4⟩ := HP.out.opn
 replace HT := hid (HT.out.kt hK10)
 clear HP hK10
 go_cut [11, 12] (fun cv iv wx => ∃ (u : Option Addr) (cu : Nat) (L : List Int) (ok : Bool), cv = .slice u L.length cu ∧ iv = .bool ok ∧ Pt Gz w W0 wx B b o cc cs a2 n2 c2 root (.slice a3 n3 c3) (r) ∧ RowT wx u L ∧ L.length ≤ cs.length ∧ L.length ≤ cu ∧ (if ok = true then lstOf cs (kp : Int) = some L else lstOf cs (kp : Int) = none) ∧ ∀ x ∈ L, 0 ≤ x ∧ x < (kp : Int))
 case first =>
  have c0 := HT.out.head
  go_region_with (go_at_call 81; (refine (lst_at hg HF10.out kp hkp).mono ?_; rintro e v1 ⟨u, cu, L, ok, rfl, hb1, _, h2, h3, h4, h5, h6⟩))
  all_goals (go_wp2_with fail; go_meet; exact ⟨u, cu, L, ok, rfl, rfl, Pt.below HF10.out HX10.out HZ10.out (KT.refl _) hb1, h2, h3, h4, h5, h6⟩)
 case rest =>
  clear HF10 HX10 HZ10 hws0 hws1 hnn x0 x1 x2 x3 x4 xf0 xf1 xf2 xf3 xf4 z0 z1 z2 z3 z4 zf0 zf1 zf2 zf3 zf4
  obtain ⟨W1, rfl⟩ : ∃ x, x = wc := ⟨_, rfl⟩
  obtain ⟨u, cu, Lu, oku, rfl, rfl, hP1, hu1, hLu, hcu, hco1, hm1⟩ := hcut
  have HP : Hid (Pt Gz w W0 W1 B b o cc cs a2 n2 c2 root (.slice a3 n3 c3) (r)) := hP1
  have HRu : Hid (RowT W1 u Lu) := hu1
  have HCOu : Hid (if oku = true then lstOf cs (kp : Int) = some Lu else lstOf cs (kp : Int) = none) := hco1
  have HMu : Hid (∀ x ∈ Lu, 0 ≤ x ∧ x < (kp : Int)) := hm1
  clear hP1 hu1 hco1 hm1
  obtain ⟨a11, n11, c11, k11, HF11, HX11, HZ11, hK11, hws0, hws1, hnn, ⟨x0, x1, x2, x3, x4, xf0, xf1, xf2, xf3, xf4⟩, z0, z1, z2, z3, z4, zf0, zf1, zf2, zf3, zf4⟩ := HP.out.opn
  replace HT := hid (HT.out.kt hK11)
  clear HP hK11
  have hcsn := hg.n
  go_wp2_with fail
  refine (par_at hg HF11.out Lu (by omega) (fun x hx => ⟨(HMu.out x hx).1, by have := (HMu.out x hx).2; omega⟩) HRu.out).mono ?_
  rintro e W2 ⟨up, cp, s0, fine, rfl, hb1, hss, hcp, hpo⟩
  have HP : Hid (Pt Gz w W1 W2 B b o cc cs a2 n2 c2 root (.slice a3 n3 c3) (r)) := Pt.below HF11.out HX11.out HZ11.out (KT.refl _) hb1
  have HSS : Hid (NewS w W2 up s0 cp) := hss
  have HPO : Hid (if fine = true then parsOf cs Lu = some s0 else parsOf cs Lu = none) := hpo
  clear hss hpo hb1
  clear HF11 HX11 HZ11 hws0 hws1 hnn x0 x1 x2 x3 x4 xf0 xf1 xf2 xf3 xf4 z0 z1 z2 z3 z4 zf0 zf1 zf2 zf3 zf4
  obtain ⟨a12, n12, c12, k12, HF12, HX12, HZ12, hK12, hws0, hws1, hnn, ⟨x0, x1, x2, x3, x4, xf0, xf1, xf2, xf3, xf4⟩, z0, z1, z2, z3, z4, zf0, zf1, zf2, zf3, zf4⟩ := HP.out.opn
  replace HT := hid (HT.out.kt hK12)
  replace HRu := hid (HRu.out.kt hK12)
  clear HP hK12
  obtain ⟨rfl, rfl, rfl⟩ : oku = true ∧ fine = true ∧ ss = s0 := by
   have h := HCOu.out
   have h2 := HPO.out
   have hv := HV.out
   cases oku
   ·simp at h
    rw [h] at hv
    cases hv
   ·simp at h
    rw [h] at hv
    have hv : parsOf cs Lu = some ss := hv
    cases fine
    ·simp at h2
     rw [h2] at hv
     cases hv
    ·simp at h2
     rw [h2] at hv
     exact ⟨rfl, rfl, (Option.some.inj hv).symm⟩
  clear HCOu HPO HV
  go_upto_region 25 with fail
  go_cut [] (fun wx => Pt Gz w W2 wx B b o cc cs a2 n2 c2 root (.slice a3 n3 c3) (bodyX R (bb :: t) r))
  case first =>
   go_region_with (go_at_call 86; (refine (list_at HIB.out HF12.out HGL.out (al := (some ⟨g, p + 1, none⟩)) (cl := (cl - 1)) (by show t.length + 1 ≤ cl - 1; omega) HT.out.tail).mono ?_; rintro e v1 ⟨qa, qn, qc, qk, rfl, hx1, hg1, hs1⟩; have HE : Hid _ := hx1; have HG : Hid _ := hg1; have HS : Hid _ := hs1; obtain ⟨y0, y1, y2, y3, y4, yf0, yf1, yf2, yf3, yf4⟩ := HF12.out.cells hg1 HX12.out; obtain ⟨zy0, zy1, zy2, zy3, zy4, zyf0, zyf1, zyf2, zyf3, zyf4⟩ := HF12.out.cells hg1 HZ12.out; clear hx1 hg1 hs1; unfold xV))
   all_goals (go_wp2_with fail; go_meet; exact Pt.next HF12.out HX12.out HZ12.out (KT.refl _) HE.out HG.out HS.out)
  case rest =>
   clear HF12 HX12 HZ12 hws0 hws1 hnn x0 x1 x2 x3 x4 xf0 xf1 xf2 xf3 xf4 z0 z1 z2 z3 z4 zf0 zf1 zf2 zf3 zf4
   obtain ⟨W3, rfl⟩ : ∃ x, x = wc := ⟨_, rfl⟩
   obtain ⟨s1, hEs1⟩ : ∃ q, q = bodyX R (bb :: t) r := ⟨_, rfl⟩
   rw [← hEs1] at hcut
   have Es1 : Hid (s1 = bodyX R (bb :: t) r) := hEs1
   clear hEs1
   have HP : Hid (Pt Gz w W2 W3 B b o cc cs a2 n2 c2 root (.slice a3 n3 c3) (s1)) := hcut
   clear hcut
   obtain ⟨a13, n13, c13, k13, HF13, HX13, HZ13, hK13, hws0, hws1, hnn, ⟨x0, x1, x2, x3, x4, xf0, xf1, xf2, xf3, xf4⟩, z0, z1, z2, z3, z4, zf0, zf1, zf2, zf3, zf4⟩ := HP.out.opn
   replace HT := hid (HT.out.kt hK13)
   replace HRu := hid (HRu.out.kt hK13)
   replace HSS := hid (HSS.out.kt hK13)
   clear HP hK13
   go_upto_region 26 with fail
   have HQ : Hid (putN s1 (lamN ss ((n13 : Int) - 1)) = lamX ss (bodyX R (bb :: t) r)) := by show _ = _; rw [HF13.out.last, Es1.out] <;> rfl
   go_region_with (first | (go_at_call 71; (refine (l4Last_eq (some ⟨b, o, none⟩) a2 a13 cs.length n2 n13 cc c2 c13 root k13 _ (by omega)).mono ?_; rintro e v2 ⟨rfl, rfl⟩)) | (go_at_call 79; (refine (put_len HF13.out HGL.out (lamN ss ((n13 : Int) - 1)) (HSS.out.kt (KT.below (by first | exact Below.refl _ _ | exact (Below.refl _ _).drew | exact ((Below.refl _ _).alloc (by simp) _).drew | exact (((Below.refl _ _).alloc (by simp) _).alloc (by simp <;> omega) _).drew | exact ((((Below.refl _ _).alloc (by simp) _).alloc (by simp <;> omega) _).alloc (by simp <;> omega) _).drew | exact ((Below.refl _ _).alloc (by simp) _) | exact (((Below.refl _ _).alloc (by simp) _).alloc (by simp <;> omega) _)))) (NewI.lit [((n13 : Int) - 1)] (by first | exact blk_drew (blk_at _ _ _ (by simp)) | exact blk_drew (blk_past (blk_at _ _ _ (by simp))) | exact blk_drew (blk_past (blk_past (blk_at _ _ _ (by simp)))) | exact blk_at _ _ _ (by simp) | exact blk_past (blk_at _ _ _ (by simp))) (by first | omega | (simp <;> omega))) rfl rfl hcp (Nat.le_refl _)).mono ?_; rintro e v1 ⟨qa, qn, qc, qk, rfl, hx1, hg1, hs1⟩; have HE : Hid _ := hx1; have HG : Hid _ := hg1; have HS : Hid _ := hs1; obtain ⟨y0, y1, y2, y3, y4, yf0, yf1, yf2, yf3, yf4⟩ := HF13.out.cells hg1 HX13.out; obtain ⟨zy0, zy1, zy2, zy3, zy4, zyf0, zyf1, zyf2, zyf3, zyf4⟩ := HF13.out.cells hg1 HZ13.out; clear hx1 hg1 hs1; unfold xV)))
   all_goals (try go_wp2)
   all_goals
    refine bodyPost_ret (fin104 rfl rfl (set5_same _ _ _ _ _ (HF13.out.rep.kt HG.out (by decide) HZ13.out) _ _ _ _ _)) rfl ?_
    rw [← HQ.out]
    exact HF13.out.ret HZ13.out HE.out HG.out HS.out
set_option maxRecDepth 100000 in
set_option maxHeartbeats 8000000 in
theorem l4Sp_lambda_bad (hg : Good cs) (sw : ByteArray) (hw : sw.toList = [108, 97, 109, 98, 100, 97]) (kp : Nat) (bb : Int) (t : List Int) (hv : (lstOf cs (kp : Int)).bind (parsOf cs) = none) (hkp : kp < cs.length) (hl : t.length ≤ 1048576) (hb : LC B b o cc cs a2 n2 c2 root 86 (bb :: t) (bodyX R (bb :: t))) : WC B b o cc cs a2 n2 c2 root sw ((kp : Int) :: bb :: t) (fun r => failN r 1) := by
 intro Gz w a3 n3 c3 code r al cl hB hGl hrow hr hcl hal
 obtain ⟨g, p, rfl⟩ := hal.some
 obtain ⟨W0, HW0, HP⟩ := Pt.begin cc a2 n2 c2 root hB hrow hr
 have HGL : Hid (∀ g, Gz g → g < w.heap.size) := hGl
 have HT : Hid (RowT w (some ⟨g, p, none⟩) ((kp : Int) :: bb :: t)) := hal
 have HIB : Hid (LC B b o cc cs a2 n2 c2 root 86 (bb :: t) (bodyX R (bb :: t))) := hb
 have HV : Hid ((lstOf cs (kp : Int)).bind (parsOf cs) = none) := hv
 have ws0 : (sw.toList == [113, 117, 111, 116, 101]) = false := by rw [hw]; rfl
 have ws1 : (sw.toList == [105, 102]) = false := by rw [hw]; rfl
 have ws2 : (sw.toList == [98, 101, 103, 105, 110]) = false := by rw [hw]; rfl
 have ws3 : (sw.toList == [115, 101, 116, 33]) = false := by rw [hw]; rfl
 have ws4 : (sw.toList == [108, 97, 109, 98, 100, 97]) = true := beq_iff_eq.2 hw
 have hcl' : t.length + 1 + 1 ≤ cl := hcl
 have hge : decide ((2 : Int) ≤ (t.length : Int) + 1 + 1) = true := by simp; omega
 clear hw hb hrow hr hal hGl hB hcl hv
 unfold xV
 go_enter Try.func82, Try.ntmps82
 go_upto_region 22 with fail
 rw [HW0.out]
 clear HW0
 obtain ⟨a10, n10, c10, k10, HF10, HX10, HZ10, hK10, hws0, hws1, hnn, ⟨x0, x1, x2, x3, x4, xf0, xf1, xf2, xf3, xf4⟩, z0, z1, z2, z3, z4, zf0, zf1, zf2, zf3, zf4⟩ := HP.out.opn
 replace HT := hid (HT.out.kt hK10)
 clear HP hK10
 go_cut [11, 12] (fun cv iv wx => ∃ (u : Option Addr) (cu : Nat) (L : List Int) (ok : Bool), cv = .slice u L.length cu ∧ iv = .bool ok ∧ Pt Gz w W0 wx B b o cc cs a2 n2 c2 root (.slice a3 n3 c3) (r) ∧ RowT wx u L ∧ L.length ≤ cs.length ∧ L.length ≤ cu ∧ (if ok = true then lstOf cs (kp : Int) = some L else lstOf cs (kp : Int) = none) ∧ ∀ x ∈ L, 0 ≤ x ∧ x < (kp : Int))
 case first =>
  have c0 := HT.out.head
  go_region_with (go_at_call 81; (refine (lst_at hg HF10.out kp hkp).mono ?_; rintro e v1 ⟨u, cu, L, ok, rfl, hb1, _, h2, h3, h4, h5, h6⟩))
  all_goals (go_wp2_with fail; go_meet; exact ⟨u, cu, L, ok, rfl, rfl, Pt.below HF10.out HX10.out HZ10.out (KT.refl _) hb1, h2, h3, h4, h5, h6⟩)
 case rest =>
  clear HF10 HX10 HZ10 hws0 hws1 hnn x0 x1 x2 x3 x4 xf0 xf1 xf2 xf3 xf4 z0 z1 z2 z3 z4 zf0 zf1 zf2 zf3 zf4
  obtain ⟨W1, rfl⟩ : ∃ x, x = wc := ⟨_, rfl⟩
  obtain ⟨u, cu, Lu, oku, rfl, rfl, hP1, hu1, hLu, hcu, hco1, hm1⟩ := hcut
  have HP : Hid (Pt Gz w W0 W1 B b o cc cs a2 n2 c2 root (.slice a3 n3 c3) (r)) := hP1
  have HRu : Hid (RowT W1 u Lu) := hu1
  have HCOu : Hid (if oku = true then lstOf cs (kp : Int) = some Lu else lstOf cs (kp : Int) = none) := hco1
  have HMu : Hid (∀ x ∈ Lu, 0 ≤ x ∧ x < (kp : Int)) := hm1
  clear hP1 hu1 hco1 hm1
  obtain ⟨a11, n11, c11, k11, HF11, HX11, HZ11, hK11, hws0, hws1, hnn, ⟨x0, x1, x2, x3, x4, xf0, xf1, xf2, xf3, xf4⟩, z0, z1, z2, z3, z4, zf0, zf1, zf2, zf3, zf4⟩ := HP.out.opn
  replace HT := hid (HT.out.kt hK11)
  clear HP hK11
  have hcsn := hg.n
  go_wp2_with fail
  refine (par_at hg HF11.out Lu (by omega) (fun x hx => ⟨(HMu.out x hx).1, by have := (HMu.out x hx).2; omega⟩) HRu.out).mono ?_
  rintro e W2 ⟨up, cp, s0, fine, rfl, hb1, hss, hcp, hpo⟩
  have HP : Hid (Pt Gz w W1 W2 B b o cc cs a2 n2 c2 root (.slice a3 n3 c3) (r)) := Pt.below HF11.out HX11.out HZ11.out (KT.refl _) hb1
  have HSS : Hid (NewS w W2 up s0 cp) := hss
  have HPO : Hid (if fine = true then parsOf cs Lu = some s0 else parsOf cs Lu = none) := hpo
  clear hss hpo hb1
  clear HF11 HX11 HZ11 hws0 hws1 hnn x0 x1 x2 x3 x4 xf0 xf1 xf2 xf3 xf4 z0 z1 z2 z3 z4 zf0 zf1 zf2 zf3 zf4
  obtain ⟨a12, n12, c12, k12, HF12, HX12, HZ12, hK12, hws0, hws1, hnn, ⟨x0, x1, x2, x3, x4, xf0, xf1, xf2, xf3, xf4⟩, z0, z1, z2, z3, z4, zf0, zf1, zf2, zf3, zf4⟩ := HP.out.opn
  replace HT := hid (HT.out.kt hK12)
  replace HRu := hid (HRu.out.kt hK12)
  clear HP hK12
  have HFF : Hid (oku = false ∨ oku = true ∧ fine = false) := by
   have h := HCOu.out
   have h2 := HPO.out
   have hv := HV.out
   cases oku
   ·exact .inl rfl
   ·simp at h
    rw [h] at hv
    have hv : parsOf cs Lu = none := hv
    cases fine
    ·exact .inr ⟨rfl, rfl⟩
    ·simp at h2
     rw [h2] at hv
     cases hv
  clear HCOu HPO HV
  rcases HFF.out with rfl | ⟨rfl, rfl⟩
  ·skip
   go_wp2_with fail
   refine (fail_at HF12.out).mono ?_
   rintro e v1 ⟨qa, qn, qc, qk, rfl, hx1, hg1, hs1⟩
   have HE : Hid _ := hx1
   have HG : Hid _ := hg1
   have HS : Hid _ := hs1
   obtain ⟨zy0, zy1, zy2, zy3, zy4, zyf0, zyf1, zyf2, zyf3, zyf4⟩ := HF12.out.cells hg1 HZ12.out
   clear hx1 hg1 hs1
   unfold xV
   go_wp2
   refine bodyPost_ret (fin104 rfl rfl (set5_same _ _ _ _ _ (HF12.out.rep.kt HG.out (by decide) HZ12.out) _ _ _ _ _)) rfl ?_
   exact HF12.out.ret HZ12.out HE.out HG.out HS.out
  ·skip
   go_wp2_with fail
   refine (fail_at HF12.out).mono ?_
   rintro e v1 ⟨qa, qn, qc, qk, rfl, hx1, hg1, hs1⟩
   have HE : Hid _ := hx1
   have HG : Hid _ := hg1
   have HS : Hid _ := hs1
   obtain ⟨zy0, zy1, zy2, zy3, zy4, zyf0, zyf1, zyf2, zyf3, zyf4⟩ := HF12.out.cells hg1 HZ12.out
   clear hx1 hg1 hs1
   unfold xV
   go_wp2
   refine bodyPost_ret (fin104 rfl rfl (set5_same _ _ _ _ _ (HF12.out.rep.kt HG.out (by decide) HZ12.out) _ _ _ _ _)) rfl ?_
   exact HF12.out.ret HZ12.out HE.out HG.out HS.out
end
end Go.Proofs.Ytgjeefedcfakdaa
