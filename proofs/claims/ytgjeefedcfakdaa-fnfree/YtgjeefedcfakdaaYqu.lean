/- The model's expander: l4Record: failures. The model's expander: l4Quote. -/
import Derived.Deep.DeepCutAuto
import Derived.Test.YtgjeefedcfakdaaYsp
import Derived.Test.YtgjeefedcfakdaaYap
set_option linter.unusedVariables false
namespace Go.Proofs.Ytgjeefedcfakdaa
open Go.ChangeShapes Go.WideShapes Go.ChangeAt Go.RowKit
section
variable {B b o cc : Nat} {cs : List Dat} {a2 : Option Addr} {n2 c2 : Nat} {root : Int} {R : Int → Sx → Sx}
def RC (B b o cc : Nat) (cs : List Dat) (a2 : Option Addr) (n2 c2 : Nat) (root : Int) (sw : ByteArray) (l : List Int) (F : Sx → Sx) : Prop :=
 ∀ (Gz : Nat → Prop) (W : World) (a3 : Option Addr) (n3 c3 : Nat) (code : Int) (r : Sx) (al : Option Addr) (cl : Nat), B ≤ W.heap.size → (∀ g, Gz g → g < W.heap.size) → RowD W B (some ⟨b, o, none⟩) cs → XRep Gz W B (.slice a3 n3 c3) n3 code r → l.length ≤ cl → RowT W al l →
  Calls Try.prog 96 #[xV (.slice (some ⟨b, o, none⟩) cs.length cc) (.slice a2 n2 c2) (.slice a3 n3 c3) root code, .string sw, .slice al l.length cl] W fun e w' => XEnd Gz B (.slice (some ⟨b, o, none⟩) cs.length cc) (.slice a2 n2 c2) a3 n3 c3 root (F r) W e w'
theorem rec_at {w W V : World} {v0 : Value} {r : Sx} {a : Option Addr} {n c : Nat} {code : Int} {Gz : Nat → Prop} {sw : ByteArray} {l : List Int} {F : Sx → Sx} (hI : RC B b o cc cs a2 n2 c2 root sw l F) (hF : Fx Gz w W B b o cs v0 (.slice a n c) n code r) (hG : ∀ g, Gz g → g < w.heap.size) {al : Option Addr} {cl : Nat} (hcl : l.length ≤ cl) (hr : RowT W al l) (hb : Below W.heap.size W V := by repeat first | exact Below.refl _ _ | refine Below.drew ?_ | refine Below.alloc ?_ (by simp <;> omega) _) :
  Calls Try.prog 96 #[xV (.slice (some ⟨b, o, none⟩) cs.length cc) (.slice a2 n2 c2) (.slice a n c) root code, .string sw, .slice al l.length cl] V fun e w' => XEnd Gz B (.slice (some ⟨b, o, none⟩) cs.length cc) (.slice a2 n2 c2) a n c root (F r) W e w' :=
 (hI Gz V a n c code r al cl (hF.below hb).bsz ((hF.below hb).gz hG) (hF.below hb).row (hF.below hb).rep hcl (hr.kt (KT.below hb))).mono fun e w' h => h.from hb
set_option maxRecDepth 100000 in
set_option maxHeartbeats 2000000 in
theorem l4Rec_short_make (sw : ByteArray) (hw : sw.toList = [109, 97, 107, 101]) (l : List Int) (hl : l.length ≤ 1048576) (hs : l.length < 1) : RC B b o cc cs a2 n2 c2 root sw (l) (fun r => failN r 1) := by
 intro Gz w a3 n3 c3 code r al cl hB hGl hrow hr hcl hal
 obtain ⟨W0, HW0, HP⟩ := Pt.begin cc a2 n2 c2 root hB hrow hr
 have HGL : Hid (∀ g, Gz g → g < w.heap.size) := hGl
 have rsf : (sw.toList == [102, 105, 101, 108, 100]) = false := by rw [hw]; rfl
 have rsm : (sw.toList == [109, 97, 107, 101]) = true := beq_iff_eq.2 hw
 have rsn : (sw.toList != [109, 97, 107, 101]) = false := by rw [hw]; rfl
 have hlt : decide ((l.length : Int) < 1) = true := by simp; omega
 clear hw hrow hr hal hGl hB hs
 unfold xV
 go_enter Try.func96, Try.ntmps96
 go_upto_region 5 with fail
 rw [HW0.out]
 clear HW0
 obtain ⟨a10, n10, c10, k10, HF10, HX10, HZ10, hK10, hws0, hws1, hnn, ⟨x0, x1, x2, x3, x4, xf0, xf1, xf2, xf3, xf4⟩, z0, z1, z2, z3, z4, zf0, zf1, zf2, zf3, zf4⟩ := HP.out.opn
 clear HP hK10
 go_wp2_with fail
 refine (fail_at HF10.out).mono ?_
 rintro e v1 ⟨qa, qn, qc, qk, rfl, hx1, hg1, hs1⟩
 have HE : Hid _ := hx1
 have HG : Hid _ := hg1
 have HS : Hid _ := hs1
 obtain ⟨zy0, zy1, zy2, zy3, zy4, zyf0, zyf1, zyf2, zyf3, zyf4⟩ := HF10.out.cells hg1 HZ10.out
 clear hx1 hg1 hs1
 unfold xV
 go_wp2
 refine bodyPost_ret (fin104 rfl rfl (set5_same _ _ _ _ _ (HF10.out.rep.kt HG.out (by decide) HZ10.out) _ _ _ _ _)) rfl ?_
 exact HF10.out.ret HZ10.out HE.out HG.out HS.out
set_option maxRecDepth 100000 in
set_option maxHeartbeats 2000000 in
theorem l4Rec_short_field (sw : ByteArray) (hw : sw.toList = [102, 105, 101, 108, 100]) (l : List Int) (hl : l.length ≤ 1048576) (hs : l.length < 2) : RC B b o cc cs a2 n2 c2 root sw (l) (fun r => failN r 1) := by
 intro Gz w a3 n3 c3 code r al cl hB hGl hrow hr hcl hal
 obtain ⟨W0, HW0, HP⟩ := Pt.begin cc a2 n2 c2 root hB hrow hr
 have HGL : Hid (∀ g, Gz g → g < w.heap.size) := hGl
 have rsf : (sw.toList == [102, 105, 101, 108, 100]) = true := beq_iff_eq.2 hw
 have rsm : (sw.toList == [109, 97, 107, 101]) = false := by rw [hw]; rfl
 have rsn : (sw.toList != [109, 97, 107, 101]) = true := by rw [hw]; rfl
 have hlt : decide ((l.length : Int) < 2) = true := by simp; omega
 clear hw hrow hr hal hGl hB hs
 unfold xV
 go_enter Try.func96, Try.ntmps96
 go_upto_region 5 with fail
 rw [HW0.out]
 clear HW0
 obtain ⟨a10, n10, c10, k10, HF10, HX10, HZ10, hK10, hws0, hws1, hnn, ⟨x0, x1, x2, x3, x4, xf0, xf1, xf2, xf3, xf4⟩, z0, z1, z2, z3, z4, zf0, zf1, zf2, zf3, zf4⟩ := HP.out.opn
 clear HP hK10
 go_wp2_with fail
 refine (fail_at HF10.out).mono ?_
 rintro e v1 ⟨qa, qn, qc, qk, rfl, hx1, hg1, hs1⟩
 have HE : Hid _ := hx1
 have HG : Hid _ := hg1
 have HS : Hid _ := hs1
 obtain ⟨zy0, zy1, zy2, zy3, zy4, zyf0, zyf1, zyf2, zyf3, zyf4⟩ := HF10.out.cells hg1 HZ10.out
 clear hx1 hg1 hs1
 unfold xV
 go_wp2
 refine bodyPost_ret (fin104 rfl rfl (set5_same _ _ _ _ _ (HF10.out.rep.kt HG.out (by decide) HZ10.out) _ _ _ _ _)) rfl ?_
 exact HF10.out.ret HZ10.out HE.out HG.out HS.out
set_option maxRecDepth 100000 in
set_option maxHeartbeats 2000000 in
theorem l4Rec_short_is (sw : ByteArray) (hw : sw.toList = [105, 115]) (l : List Int) (hl : l.length ≤ 1048576) (hs : l.length < 1) : RC B b o cc cs a2 n2 c2 root sw (l) (fun r => failN r 1) := by
 intro Gz w a3 n3 c3 code r al cl hB hGl hrow hr hcl hal
 obtain ⟨W0, HW0, HP⟩ := Pt.begin cc a2 n2 c2 root hB hrow hr
 have HGL : Hid (∀ g, Gz g → g < w.heap.size) := hGl
 have rsf : (sw.toList == [102, 105, 101, 108, 100]) = false := by rw [hw]; rfl
 have rsm : (sw.toList == [109, 97, 107, 101]) = false := by rw [hw]; rfl
 have rsn : (sw.toList != [109, 97, 107, 101]) = true := by rw [hw]; rfl
 have hlt : decide ((l.length : Int) < 1) = true := by simp; omega
 clear hw hrow hr hal hGl hB hs
 unfold xV
 go_enter Try.func96, Try.ntmps96
 go_upto_region 5 with fail
 rw [HW0.out]
 clear HW0
 obtain ⟨a10, n10, c10, k10, HF10, HX10, HZ10, hK10, hws0, hws1, hnn, ⟨x0, x1, x2, x3, x4, xf0, xf1, xf2, xf3, xf4⟩, z0, z1, z2, z3, z4, zf0, zf1, zf2, zf3, zf4⟩ := HP.out.opn
 clear HP hK10
 go_wp2_with fail
 refine (fail_at HF10.out).mono ?_
 rintro e v1 ⟨qa, qn, qc, qk, rfl, hx1, hg1, hs1⟩
 have HE : Hid _ := hx1
 have HG : Hid _ := hg1
 have HS : Hid _ := hs1
 obtain ⟨zy0, zy1, zy2, zy3, zy4, zyf0, zyf1, zyf2, zyf3, zyf4⟩ := HF10.out.cells hg1 HZ10.out
 clear hx1 hg1 hs1
 unfold xV
 go_wp2
 refine bodyPost_ret (fin104 rfl rfl (set5_same _ _ _ _ _ (HF10.out.rep.kt HG.out (by decide) HZ10.out) _ _ _ _ _)) rfl ?_
 exact HF10.out.ret HZ10.out HE.out HG.out HS.out
set_option maxRecDepth 100000 in
set_option maxHeartbeats 4000000 in
theorem l4Rec_noname_make (hg : Good cs) (sw : ByteArray) (hw : sw.toList = [109, 97, 107, 101]) (kx : Nat) (hkx : kx < cs.length) (hnm : nmOf cs (kx : Int) = none) (t : List Int) (hl : t.length ≤ 1048576) : RC B b o cc cs a2 n2 c2 root sw ((kx : Int) :: t) (fun r => failN r 1) := by
 intro Gz w a3 n3 c3 code r al cl hB hGl hrow hr hcl hal
 obtain ⟨g, p, rfl⟩ := hal.some
 obtain ⟨W0, HW0, HP⟩ := Pt.begin cc a2 n2 c2 root hB hrow hr
 have HGL : Hid (∀ g, Gz g → g < w.heap.size) := hGl
 have HT : Hid (RowT w (some ⟨g, p, none⟩) ((kx : Int) :: t)) := hal
 have HNM : Hid (nmOf cs (kx : Int) = none) := hnm
 have rsf : (sw.toList == [102, 105, 101, 108, 100]) = false := by rw [hw]; rfl
 have rsm : (sw.toList == [109, 97, 107, 101]) = true := beq_iff_eq.2 hw
 have rsn : (sw.toList != [109, 97, 107, 101]) = false := by rw [hw]; rfl
 have hcsn := hg.n
 have hlt : decide ((t.length : Int) + 1 < 1) = false := by simp; omega
 clear hw hrow hr hal hGl hB hnm
 unfold xV
 go_enter Try.func96, Try.ntmps96
 go_upto_region 6 with fail
 rw [HW0.out]
 clear HW0
 obtain ⟨a10, n10, c10, k10, HF10, HX10, HZ10, hK10, hws0, hws1, hnn, ⟨x0, x1, x2, x3, x4, xf0, xf1, xf2, xf3, xf4⟩, z0, z1, z2, z3, z4, zf0, zf1, zf2, zf3, zf4⟩ := HP.out.opn
 replace HT := hid (HT.out.kt hK10)
 clear HP hK10
 go_cut [8, 9] (fun tv iv wx => ∃ s : ByteArray, tv = .string s ∧ iv = .bool false ∧ Pt Gz w W0 wx B b o cc cs a2 n2 c2 root (.slice a3 n3 c3) (r))
 case first =>
  have c0 := HT.out.head
  go_region_with (go_at_call 87; (refine (nm_call hg HF10.out kx hkx).mono ?_; rintro e9 v1 ⟨rfl, hb1⟩))
  all_goals (go_wp2_with fail; go_meet; exact ⟨_, rfl, by rw [HNM.out]; rfl, Pt.below HF10.out HX10.out HZ10.out (KT.refl _) hb1⟩)
 case rest =>
  clear HF10 HX10 HZ10 hws0 hws1 hnn x0 x1 x2 x3 x4 xf0 xf1 xf2 xf3 xf4 z0 z1 z2 z3 z4 zf0 zf1 zf2 zf3 zf4
  obtain ⟨W1, rfl⟩ : ∃ x, x = wc := ⟨_, rfl⟩
  obtain ⟨s9, rfl, rfl, hP1⟩ := hcut
  have HP : Hid (Pt Gz w W0 W1 B b o cc cs a2 n2 c2 root (.slice a3 n3 c3) (r)) := hP1
  clear hP1
  obtain ⟨a11, n11, c11, k11, HF11, HX11, HZ11, hK11, hws0, hws1, hnn, ⟨x0, x1, x2, x3, x4, xf0, xf1, xf2, xf3, xf4⟩, z0, z1, z2, z3, z4, zf0, zf1, zf2, zf3, zf4⟩ := HP.out.opn
  replace HT := hid (HT.out.kt hK11)
  clear HP hK11
  go_wp2_with fail
  refine (fail_at HF11.out).mono ?_
  rintro e v1 ⟨qa, qn, qc, qk, rfl, hx1, hg1, hs1⟩
  have HE : Hid _ := hx1
  have HG : Hid _ := hg1
  have HS : Hid _ := hs1
  obtain ⟨zy0, zy1, zy2, zy3, zy4, zyf0, zyf1, zyf2, zyf3, zyf4⟩ := HF11.out.cells hg1 HZ11.out
  clear hx1 hg1 hs1
  unfold xV
  go_wp2
  refine bodyPost_ret (fin104 rfl rfl (set5_same _ _ _ _ _ (HF11.out.rep.kt HG.out (by decide) HZ11.out) _ _ _ _ _)) rfl ?_
  exact HF11.out.ret HZ11.out HE.out HG.out HS.out
set_option maxRecDepth 100000 in
set_option maxHeartbeats 4000000 in
theorem l4Rec_noname_is (hg : Good cs) (sw : ByteArray) (hw : sw.toList = [105, 115]) (kx : Nat) (hkx : kx < cs.length) (hnm : nmOf cs (kx : Int) = none) (t : List Int) (hl : t.length ≤ 1048576) : RC B b o cc cs a2 n2 c2 root sw ((kx : Int) :: t) (fun r => failN r 1) := by
 intro Gz w a3 n3 c3 code r al cl hB hGl hrow hr hcl hal
 obtain ⟨g, p, rfl⟩ := hal.some
 obtain ⟨W0, HW0, HP⟩ := Pt.begin cc a2 n2 c2 root hB hrow hr
 have HGL : Hid (∀ g, Gz g → g < w.heap.size) := hGl
 have HT : Hid (RowT w (some ⟨g, p, none⟩) ((kx : Int) :: t)) := hal
 have HNM : Hid (nmOf cs (kx : Int) = none) := hnm
 have rsf : (sw.toList == [102, 105, 101, 108, 100]) = false := by rw [hw]; rfl
 have rsm : (sw.toList == [109, 97, 107, 101]) = false := by rw [hw]; rfl
 have rsn : (sw.toList != [109, 97, 107, 101]) = true := by rw [hw]; rfl
 have hcsn := hg.n
 have hlt : decide ((t.length : Int) + 1 < 1) = false := by simp; omega
 clear hw hrow hr hal hGl hB hnm
 unfold xV
 go_enter Try.func96, Try.ntmps96
 go_upto_region 6 with fail
 rw [HW0.out]
 clear HW0
 obtain ⟨a10, n10, c10, k10, HF10, HX10, HZ10, hK10, hws0, hws1, hnn, ⟨x0, x1, x2, x3, x4, xf0, xf1, xf2, xf3, xf4⟩, z0, z1, z2, z3, z4, zf0, zf1, zf2, zf3, zf4⟩ := HP.out.opn
 replace HT := hid (HT.out.kt hK10)
 clear HP hK10
 go_cut [8, 9] (fun tv iv wx => ∃ s : ByteArray, tv = .string s ∧ iv = .bool false ∧ Pt Gz w W0 wx B b o cc cs a2 n2 c2 root (.slice a3 n3 c3) (r))
 case first =>
  have c0 := HT.out.head
  go_region_with (go_at_call 87; (refine (nm_call hg HF10.out kx hkx).mono ?_; rintro e9 v1 ⟨rfl, hb1⟩))
  all_goals (go_wp2_with fail; go_meet; exact ⟨_, rfl, by rw [HNM.out]; rfl, Pt.below HF10.out HX10.out HZ10.out (KT.refl _) hb1⟩)
 case rest =>
  clear HF10 HX10 HZ10 hws0 hws1 hnn x0 x1 x2 x3 x4 xf0 xf1 xf2 xf3 xf4 z0 z1 z2 z3 z4 zf0 zf1 zf2 zf3 zf4
  obtain ⟨W1, rfl⟩ : ∃ x, x = wc := ⟨_, rfl⟩
  obtain ⟨s9, rfl, rfl, hP1⟩ := hcut
  have HP : Hid (Pt Gz w W0 W1 B b o cc cs a2 n2 c2 root (.slice a3 n3 c3) (r)) := hP1
  clear hP1
  obtain ⟨a11, n11, c11, k11, HF11, HX11, HZ11, hK11, hws0, hws1, hnn, ⟨x0, x1, x2, x3, x4, xf0, xf1, xf2, xf3, xf4⟩, z0, z1, z2, z3, z4, zf0, zf1, zf2, zf3, zf4⟩ := HP.out.opn
  replace HT := hid (HT.out.kt hK11)
  clear HP hK11
  go_wp2_with fail
  refine (fail_at HF11.out).mono ?_
  rintro e v1 ⟨qa, qn, qc, qk, rfl, hx1, hg1, hs1⟩
  have HE : Hid _ := hx1
  have HG : Hid _ := hg1
  have HS : Hid _ := hs1
  obtain ⟨zy0, zy1, zy2, zy3, zy4, zyf0, zyf1, zyf2, zyf3, zyf4⟩ := HF11.out.cells hg1 HZ11.out
  clear hx1 hg1 hs1
  unfold xV
  go_wp2
  refine bodyPost_ret (fin104 rfl rfl (set5_same _ _ _ _ _ (HF11.out.rep.kt HG.out (by decide) HZ11.out) _ _ _ _ _)) rfl ?_
  exact HF11.out.ret HZ11.out HE.out HG.out HS.out
set_option maxRecDepth 100000 in
set_option maxHeartbeats 4000000 in
theorem l4Rec_len_make (hg : Good cs) (sw : ByteArray) (hw : sw.toList = [109, 97, 107, 101]) (kx : Nat) (hkx : kx < cs.length) (nm : ByteArray) (hnm : nmOf cs (kx : Int) = some nm) (t : List Int) (hl : t.length ≤ 1048576) (hlen : 8 < t.length) : RC B b o cc cs a2 n2 c2 root sw ((kx : Int) :: t) (fun r => failN r 1) := by
 intro Gz w a3 n3 c3 code r al cl hB hGl hrow hr hcl hal
 obtain ⟨g, p, rfl⟩ := hal.some
 obtain ⟨W0, HW0, HP⟩ := Pt.begin cc a2 n2 c2 root hB hrow hr
 have HGL : Hid (∀ g, Gz g → g < w.heap.size) := hGl
 have HT : Hid (RowT w (some ⟨g, p, none⟩) ((kx : Int) :: t)) := hal
 have HNM : Hid (nmOf cs (kx : Int) = some nm) := hnm
 have rsf : (sw.toList == [102, 105, 101, 108, 100]) = false := by rw [hw]; rfl
 have rsm : (sw.toList == [109, 97, 107, 101]) = true := beq_iff_eq.2 hw
 have rsn : (sw.toList != [109, 97, 107, 101]) = false := by rw [hw]; rfl
 have hcsn := hg.n
 have hlt : decide ((t.length : Int) + 1 < 1) = false := by simp; omega
 have hgt : decide ((t.length : Int) + 1 > 9) = true := by simp; omega
 have hgt2 : decide (9 < (t.length : Int) + 1) = true := by simp; omega
 clear hw hrow hr hal hGl hB hnm hlen
 unfold xV
 go_enter Try.func96, Try.ntmps96
 go_upto_region 6 with fail
 rw [HW0.out]
 clear HW0
 obtain ⟨a10, n10, c10, k10, HF10, HX10, HZ10, hK10, hws0, hws1, hnn, ⟨x0, x1, x2, x3, x4, xf0, xf1, xf2, xf3, xf4⟩, z0, z1, z2, z3, z4, zf0, zf1, zf2, zf3, zf4⟩ := HP.out.opn
 replace HT := hid (HT.out.kt hK10)
 clear HP hK10
 go_cut [8, 9] (fun tv iv wx => tv = .string nm ∧ iv = .bool true ∧ Pt Gz w W0 wx B b o cc cs a2 n2 c2 root (.slice a3 n3 c3) (r))
 case first =>
  have c0 := HT.out.head
  have HSN : Hid (nm = (cel cs (kx : Int)).s) := nm_some HNM.out
  go_region_with (go_at_call 87; (refine (nm_call hg HF10.out kx hkx).mono ?_; rintro e9 v1 ⟨rfl, hb1⟩))
  all_goals (go_wp2_with fail; go_meet; exact ⟨by rw [← HSN.out], by rw [HNM.out]; rfl, Pt.below HF10.out HX10.out HZ10.out (KT.refl _) hb1⟩)
 case rest =>
  clear HF10 HX10 HZ10 hws0 hws1 hnn x0 x1 x2 x3 x4 xf0 xf1 xf2 xf3 xf4 z0 z1 z2 z3 z4 zf0 zf1 zf2 zf3 zf4
  obtain ⟨W1, rfl⟩ : ∃ x, x = wc := ⟨_, rfl⟩
  obtain ⟨rfl, rfl, hP1⟩ := hcut
  have HP : Hid (Pt Gz w W0 W1 B b o cc cs a2 n2 c2 root (.slice a3 n3 c3) (r)) := hP1
  clear hP1
  obtain ⟨a11, n11, c11, k11, HF11, HX11, HZ11, hK11, hws0, hws1, hnn, ⟨x0, x1, x2, x3, x4, xf0, xf1, xf2, xf3, xf4⟩, z0, z1, z2, z3, z4, zf0, zf1, zf2, zf3, zf4⟩ := HP.out.opn
  replace HT := hid (HT.out.kt hK11)
  clear HP hK11
  go_wp2_with fail
  refine (fail_at HF11.out).mono ?_
  rintro e v1 ⟨qa, qn, qc, qk, rfl, hx1, hg1, hs1⟩
  have HE : Hid _ := hx1
  have HG : Hid _ := hg1
  have HS : Hid _ := hs1
  obtain ⟨zy0, zy1, zy2, zy3, zy4, zyf0, zyf1, zyf2, zyf3, zyf4⟩ := HF11.out.cells hg1 HZ11.out
  clear hx1 hg1 hs1
  unfold xV
  go_wp2
  refine bodyPost_ret (fin104 rfl rfl (set5_same _ _ _ _ _ (HF11.out.rep.kt HG.out (by decide) HZ11.out) _ _ _ _ _)) rfl ?_
  exact HF11.out.ret HZ11.out HE.out HG.out HS.out
set_option maxRecDepth 100000 in
set_option maxHeartbeats 4000000 in
theorem l4Rec_len_is (hg : Good cs) (sw : ByteArray) (hw : sw.toList = [105, 115]) (kx : Nat) (hkx : kx < cs.length) (nm : ByteArray) (hnm : nmOf cs (kx : Int) = some nm) (t : List Int) (hl : t.length ≤ 1048576) (hlen : t.length ≠ 1) : RC B b o cc cs a2 n2 c2 root sw ((kx : Int) :: t) (fun r => failN r 1) := by
 intro Gz w a3 n3 c3 code r al cl hB hGl hrow hr hcl hal
 obtain ⟨g, p, rfl⟩ := hal.some
 obtain ⟨W0, HW0, HP⟩ := Pt.begin cc a2 n2 c2 root hB hrow hr
 have HGL : Hid (∀ g, Gz g → g < w.heap.size) := hGl
 have HT : Hid (RowT w (some ⟨g, p, none⟩) ((kx : Int) :: t)) := hal
 have HNM : Hid (nmOf cs (kx : Int) = some nm) := hnm
 have rsf : (sw.toList == [102, 105, 101, 108, 100]) = false := by rw [hw]; rfl
 have rsm : (sw.toList == [109, 97, 107, 101]) = false := by rw [hw]; rfl
 have rsn : (sw.toList != [109, 97, 107, 101]) = true := by rw [hw]; rfl
 have hcsn := hg.n
 have hlt : decide ((t.length : Int) + 1 < 1) = false := by simp; omega
 have hne : ((t.length : Int) + 1 != 2) = true := by rw [bne_iff_ne]; omega
 clear hw hrow hr hal hGl hB hnm hlen
 unfold xV
 go_enter Try.func96, Try.ntmps96
 go_upto_region 6 with fail
 rw [HW0.out]
 clear HW0
 obtain ⟨a10, n10, c10, k10, HF10, HX10, HZ10, hK10, hws0, hws1, hnn, ⟨x0, x1, x2, x3, x4, xf0, xf1, xf2, xf3, xf4⟩, z0, z1, z2, z3, z4, zf0, zf1, zf2, zf3, zf4⟩ := HP.out.opn
 replace HT := hid (HT.out.kt hK10)
 clear HP hK10
 go_cut [8, 9] (fun tv iv wx => tv = .string nm ∧ iv = .bool true ∧ Pt Gz w W0 wx B b o cc cs a2 n2 c2 root (.slice a3 n3 c3) (r))
 case first =>
  have c0 := HT.out.head
  have HSN : Hid (nm = (cel cs (kx : Int)).s) := nm_some HNM.out
  go_region_with (go_at_call 87; (refine (nm_call hg HF10.out kx hkx).mono ?_; rintro e9 v1 ⟨rfl, hb1⟩))
  all_goals (go_wp2_with fail; go_meet; exact ⟨by rw [← HSN.out], by rw [HNM.out]; rfl, Pt.below HF10.out HX10.out HZ10.out (KT.refl _) hb1⟩)
 case rest =>
  clear HF10 HX10 HZ10 hws0 hws1 hnn x0 x1 x2 x3 x4 xf0 xf1 xf2 xf3 xf4 z0 z1 z2 z3 z4 zf0 zf1 zf2 zf3 zf4
  obtain ⟨W1, rfl⟩ : ∃ x, x = wc := ⟨_, rfl⟩
  obtain ⟨rfl, rfl, hP1⟩ := hcut
  have HP : Hid (Pt Gz w W0 W1 B b o cc cs a2 n2 c2 root (.slice a3 n3 c3) (r)) := hP1
  clear hP1
  obtain ⟨a11, n11, c11, k11, HF11, HX11, HZ11, hK11, hws0, hws1, hnn, ⟨x0, x1, x2, x3, x4, xf0, xf1, xf2, xf3, xf4⟩, z0, z1, z2, z3, z4, zf0, zf1, zf2, zf3, zf4⟩ := HP.out.opn
  replace HT := hid (HT.out.kt hK11)
  clear HP hK11
  go_wp2_with fail
  refine (fail_at HF11.out).mono ?_
  rintro e v1 ⟨qa, qn, qc, qk, rfl, hx1, hg1, hs1⟩
  have HE : Hid _ := hx1
  have HG : Hid _ := hg1
  have HS : Hid _ := hs1
  obtain ⟨zy0, zy1, zy2, zy3, zy4, zyf0, zyf1, zyf2, zyf3, zyf4⟩ := HF11.out.cells hg1 HZ11.out
  clear hx1 hg1 hs1
  unfold xV
  go_wp2
  refine bodyPost_ret (fin104 rfl rfl (set5_same _ _ _ _ _ (HF11.out.rep.kt HG.out (by decide) HZ11.out) _ _ _ _ _)) rfl ?_
  exact HF11.out.ret HZ11.out HE.out HG.out HS.out
end
end Go.Proofs.Ytgjeefedcfakdaa
set_option linter.unusedVariables false
namespace Go.Proofs.Ytgjeefedcfakdaa
open Go.ChangeShapes Go.WideShapes Go.ChangeAt Go.RowKit
section
variable {B b o cc : Nat} {cs : List Dat} {a2 : Option Addr} {n2 c2 : Nat} {root : Int} {R : Int → Sx → Sx}
def Blk98 (g : Nat) (c : Array Value) (W : World) : Prop := W.heap[g]? = some (Obj.cells c 98)
theorem Blk98.kt {g : Nat} {c : Array Value} {W W' : World} (h : Blk98 g c W) (k : KT W W') : Blk98 g c W' := k g c 98 ⟨by decide, by decide⟩ h
set_option maxRecDepth 100000 in
set_option maxHeartbeats 4000000 in
theorem l4Quote_pair (hg : Good cs) (k ql qr : Nat) (d : Dat) (F G : Sx → Sx) (hd : cs[k]? = some d) (hk5 : d.k = 5) (hql : d.l = (ql : Int)) (hqr : d.r = (qr : Int)) (h1 : FC B b o cc cs a2 n2 c2 root 78 ql F) (h2 : FC B b o cc cs a2 n2 c2 root 78 qr G) : FC B b o cc cs a2 n2 c2 root 78 k (fun r => putN (G (F r)) (primN consS [lastN (F r), lastN (G (F r))])) := by
 intro Gz w a3 n3 c3 code r hB hGl hrow hr
 obtain ⟨W0, HW0, HP⟩ := Pt.begin cc a2 n2 c2 root hB hrow hr
 have HGL : Hid (∀ g, Gz g → g < w.heap.size) := hGl
 have HI : Hid (FC B b o cc cs a2 n2 c2 root 78 ql F) := h1
 have HJ : Hid (FC B b o cc cs a2 n2 c2 root 78 qr G) := h2
 have hkl : k < cs.length := (llt hd)
 have hcsn := hg.n
 have HD0 : Hid (cs[k]? = some d) := hd
 clear h1 h2 hrow hr hGl hB hd
 unfold xV
 go_enter Try.func78, Try.ntmps78
 go_upto_region 1 with fail
 rw [HW0.out]
 clear HW0
 obtain ⟨a10, n10, c10, k10, HF10, HX10, HZ10, hK10, hws0, hws1, hnn, ⟨x0, x1, x2, x3, x4, xf0, xf1, xf2, xf3, xf4⟩, z0, z1, z2, z3, z4, zf0, zf1, zf2, zf3, zf4⟩ := HP.out.opn
 clear HP hK10
 obtain ⟨hbB, d0, d1, d2, d3, d4⟩ := HF10.out.dat HD0.out
 have hbw : b < W0.heap.size := by have := HF10.out.bsz; omega
 rw [hk5] at d0
 rw [hql] at d3
 rw [hqr] at d4
 clear hk5 hql hqr
 go_upto_region 11 with fail
 have HP : Hid (Pt Gz w W0 (W0.alloc (Obj.cells #[.int .i64 5, .int .i64 d.n, .string d.s, .int .i64 ql, .int .i64 qr] 98)) B b o cc cs a2 n2 c2 root (.slice a3 n3 c3) (r)) := Pt.below HF10.out HX10.out HZ10.out (KT.refl _) (bR _ _)
 have HD : Hid (Blk98 W0.heap.size #[.int .i64 5, .int .i64 d.n, .string d.s, .int .i64 ql, .int .i64 qr] (W0.alloc (Obj.cells #[.int .i64 5, .int .i64 d.n, .string d.s, .int .i64 ql, .int .i64 qr] 98))) := blk_at _ _ _ rfl
 clear d0 d1 d2 d3 d4 hbw hbB
 clear HF10 HX10 HZ10 hws0 hws1 hnn x0 x1 x2 x3 x4 xf0 xf1 xf2 xf3 xf4 z0 z1 z2 z3 z4 zf0 zf1 zf2 zf3 zf4
 generalize W0.alloc (Obj.cells #[.int .i64 5, .int .i64 d.n, .string d.s, .int .i64 ql, .int .i64 qr] 98) = W1 at *
 generalize W0.heap.size = gd at *
 have HP : Hid (Pt Gz w W1 W1 B b o cc cs a2 n2 c2 root (.slice a3 n3 c3) r) := by obtain ⟨a, n, c, code, F, hX, hZ, hK⟩ := HP.out; exact ⟨a, n, c, code, F, hX, hZ, KT.refl _⟩
 obtain ⟨a11, n11, c11, k11, HF11, HX11, HZ11, hK11, hws0, hws1, hnn, ⟨x0, x1, x2, x3, x4, xf0, xf1, xf2, xf3, xf4⟩, z0, z1, z2, z3, z4, zf0, zf1, zf2, zf3, zf4⟩ := HP.out.opn
 clear HP hK11
 obtain ⟨e3, e4⟩ := zj2 3 4 HD.out rfl rfl
 go_wp2_with fail
 clear e3 e4
 refine (form_at HI.out HF11.out HGL.out).mono ?_
 rintro e v1 ⟨qa, qn, qc, qk, rfl, hx1, hg1, hs1⟩
 have hcut : Pt Gz w W1 (set5 v1 w.heap.size (.slice (some ⟨b, o, none⟩) cs.length cc) (.slice a2 n2 c2) (.slice qa qn qc) (.int .i64 root) (.int .i64 qk)) B b o cc cs a2 n2 c2 root (.slice a3 n3 c3) (F r) := Pt.next HF11.out HX11.out HZ11.out (KT.refl _) hx1 hg1 hs1
 obtain ⟨y0, y1, y2, y3, y4, yf0, yf1, yf2, yf3, yf4⟩ := HF11.out.cells hg1 HX11.out
 obtain ⟨zy0, zy1, zy2, zy3, zy4, zyf0, zyf1, zyf2, zyf3, zyf4⟩ := HF11.out.cells hg1 HZ11.out
 clear hx1 hg1 hs1
 clear HF11 HX11 HZ11 hws0 hws1 hnn x0 x1 x2 x3 x4 xf0 xf1 xf2 xf3 xf4 z0 z1 z2 z3 z4 zf0 zf1 zf2 zf3 zf4
 obtain ⟨s1, hEs1⟩ : ∃ q, q = F r := ⟨_, rfl⟩
 rw [← hEs1] at hcut
 have Es1 : Hid (s1 = F r) := hEs1
 clear hEs1
 have HP : Hid (Pt Gz w W1 (set5 v1 w.heap.size (.slice (some ⟨b, o, none⟩) cs.length cc) (.slice a2 n2 c2) (.slice qa qn qc) (.int .i64 root) (.int .i64 qk)) B b o cc cs a2 n2 c2 root (.slice a3 n3 c3) (s1)) := hcut
 clear hcut
 unfold xV
 go_upto_region 12 with fail
 clear y0 y1 y2 y3 y4 yf0 yf1 yf2 yf3 yf4 zy0 zy1 zy2 zy3 zy4 zyf0 zyf1 zyf2 zyf3 zyf4
 generalize hw : (set5 v1 w.heap.size (.slice (some ⟨b, o, none⟩) cs.length cc) (.slice a2 n2 c2) (.slice qa qn qc) (.int .i64 root) (.int .i64 qk)) = W2 at HP
 unfold set5 at hw
 rw [hw]
 clear hw
 obtain ⟨a12, n12, c12, k12, HF12, HX12, HZ12, hK12, hws0, hws1, hnn, ⟨x0, x1, x2, x3, x4, xf0, xf1, xf2, xf3, xf4⟩, z0, z1, z2, z3, z4, zf0, zf1, zf2, zf3, zf4⟩ := HP.out.opn
 replace HD := hid (HD.out.kt hK12)
 clear HP hK12
 go_wp2_with fail
 refine (l4Last_any (some ⟨b, o, none⟩) a2 a12 cs.length n2 n12 cc c2 c12 root k12 W2 (by omega)).mono ?_
 rintro e W3 ⟨rfl, hb1⟩
 have HP : Hid (Pt Gz w W2 W3 B b o cc cs a2 n2 c2 root (.slice a3 n3 c3) (s1)) := Pt.below HF12.out HX12.out HZ12.out (KT.refl _) hb1
 have HA : Hid ((n12 : Int) - 1 = lastN s1) := HF12.out.last
 clear hb1
 clear HF12 HX12 HZ12 hws0 hws1 hnn x0 x1 x2 x3 x4 xf0 xf1 xf2 xf3 xf4 z0 z1 z2 z3 z4 zf0 zf1 zf2 zf3 zf4
 obtain ⟨a13, n13, c13, k13, HF13, HX13, HZ13, hK13, hws0, hws1, hnn, ⟨x0, x1, x2, x3, x4, xf0, xf1, xf2, xf3, xf4⟩, z0, z1, z2, z3, z4, zf0, zf1, zf2, zf3, zf4⟩ := HP.out.opn
 replace HD := hid (HD.out.kt hK13)
 clear HP hK13
 obtain ⟨e3, e4⟩ := zj2 3 4 HD.out rfl rfl
 go_wp2_with fail
 clear e3 e4
 refine (form_at HJ.out HF13.out HGL.out).mono ?_
 rintro e v1 ⟨qa, qn, qc, qk, rfl, hx1, hg1, hs1⟩
 have hcut : Pt Gz w W3 (set5 v1 w.heap.size (.slice (some ⟨b, o, none⟩) cs.length cc) (.slice a2 n2 c2) (.slice qa qn qc) (.int .i64 root) (.int .i64 qk)) B b o cc cs a2 n2 c2 root (.slice a3 n3 c3) (G s1) := Pt.next HF13.out HX13.out HZ13.out (KT.refl _) hx1 hg1 hs1
 obtain ⟨y0, y1, y2, y3, y4, yf0, yf1, yf2, yf3, yf4⟩ := HF13.out.cells hg1 HX13.out
 obtain ⟨zy0, zy1, zy2, zy3, zy4, zyf0, zyf1, zyf2, zyf3, zyf4⟩ := HF13.out.cells hg1 HZ13.out
 clear hx1 hg1 hs1
 clear HF13 HX13 HZ13 hws0 hws1 hnn x0 x1 x2 x3 x4 xf0 xf1 xf2 xf3 xf4 z0 z1 z2 z3 z4 zf0 zf1 zf2 zf3 zf4
 obtain ⟨s2, hEs2⟩ : ∃ q, q = G s1 := ⟨_, rfl⟩
 rw [← hEs2] at hcut
 have Es2 : Hid (s2 = G s1) := hEs2
 clear hEs2
 have HP : Hid (Pt Gz w W3 (set5 v1 w.heap.size (.slice (some ⟨b, o, none⟩) cs.length cc) (.slice a2 n2 c2) (.slice qa qn qc) (.int .i64 root) (.int .i64 qk)) B b o cc cs a2 n2 c2 root (.slice a3 n3 c3) (s2)) := hcut
 clear hcut
 unfold xV
 go_upto_region 14 with fail
 clear y0 y1 y2 y3 y4 yf0 yf1 yf2 yf3 yf4 zy0 zy1 zy2 zy3 zy4 zyf0 zyf1 zyf2 zyf3 zyf4
 generalize hw : (set5 v1 w.heap.size (.slice (some ⟨b, o, none⟩) cs.length cc) (.slice a2 n2 c2) (.slice qa qn qc) (.int .i64 root) (.int .i64 qk)) = W4 at HP
 unfold set5 at hw
 rw [hw]
 clear hw
 obtain ⟨a14, n14, c14, k14, HF14, HX14, HZ14, hK14, hws0, hws1, hnn, ⟨x0, x1, x2, x3, x4, xf0, xf1, xf2, xf3, xf4⟩, z0, z1, z2, z3, z4, zf0, zf1, zf2, zf3, zf4⟩ := HP.out.opn
 replace HD := hid (HD.out.kt hK14)
 clear HP hK14
 have HQ : Hid (putN s2 (primN consS [((n12 : Int) - 1), ((n14 : Int) - 1)]) = putN (G (F r)) (primN consS [lastN (F r), lastN (G (F r))])) := by show _ = _; rw [HA.out, HF14.out.last, Es2.out, Es1.out] <;> rfl
 go_region_with (first | (go_at_call 71; (refine (l4Last_eq (some ⟨b, o, none⟩) a2 a14 cs.length n2 n14 cc c2 c14 root k14 _ (by omega)).mono ?_; rintro e v2 ⟨rfl, rfl⟩)) | (go_at_call 79; (refine (put_at HF14.out HGL.out (primN consS [((n12 : Int) - 1), ((n14 : Int) - 1)]) (NewS.nil _ _ _) (NewI.lit [((n12 : Int) - 1), ((n14 : Int) - 1)] (by first | exact blk_drew (blk_at _ _ _ (by simp)) | exact blk_drew (blk_past (blk_at _ _ _ (by simp))) | exact blk_drew (blk_past (blk_past (blk_at _ _ _ (by simp)))) | exact blk_at _ _ _ (by simp) | exact blk_past (blk_at _ _ _ (by simp))) (by first | omega | (simp <;> omega))) (Nat.le_refl _) (Nat.le_refl _)).mono ?_; rintro e v1 ⟨qa, qn, qc, qk, rfl, hx1, hg1, hs1⟩; have HE : Hid _ := hx1; have HG : Hid _ := hg1; have HS : Hid _ := hs1; obtain ⟨y0, y1, y2, y3, y4, yf0, yf1, yf2, yf3, yf4⟩ := HF14.out.cells hg1 HX14.out; obtain ⟨zy0, zy1, zy2, zy3, zy4, zyf0, zyf1, zyf2, zyf3, zyf4⟩ := HF14.out.cells hg1 HZ14.out; clear hx1 hg1 hs1; unfold xV)))
 all_goals (try go_wp2)
 all_goals
  refine bodyPost_ret (fin104 rfl rfl (set5_same _ _ _ _ _ (HF14.out.rep.kt HG.out (by decide) HZ14.out) _ _ _ _ _)) rfl ?_
  rw [← HQ.out]
  exact HF14.out.ret HZ14.out HE.out HG.out HS.out
theorem l4Quote_any (hg : Good cs) : ∀ (f i : Nat), i < f → i < cs.length → FC B b o cc cs a2 n2 c2 root 78 i (quoteX cs f i) := by
 intro f
 induction f with
 | zero => intro i h; omega
 | succ f ih =>
  intro i hif hi
  obtain ⟨d, hd⟩ : ∃ d, cs[i]? = some d := ⟨_, List.getElem?_eq_getElem hi⟩
  have hc := cel_of hd
  obtain ⟨h1, h5⟩ := hg.ks i d hd
  have flat : ∀ (nd : Nod), (∀ (Gz : Nat → Prop) (W : World) (a3 : Option Addr) (n3 c3 : Nat) (code : Int) (r : Sx), B ≤ W.heap.size → b < W.heap.size → DatAt W b (o + i * 5) d → XRep Gz W B (.slice a3 n3 c3) n3 code r → Calls Try.prog 78 #[xV (.slice (some ⟨b, o, none⟩) cs.length cc) (.slice a2 n2 c2) (.slice a3 n3 c3) root code, .int .i64 i] W fun e w' => XEnd Gz B (.slice (some ⟨b, o, none⟩) cs.length cc) (.slice a2 n2 c2) a3 n3 c3 root (putN r nd) W e w') → FC B b o cc cs a2 n2 c2 root 78 i (fun r => putN r nd) := fun nd h Gz W a3 n3 c3 code r hB _ hrow hr => by
   obtain ⟨b1, o1, hbo, hbb, hda⟩ := hrow i d hd
   obtain ⟨rfl, rfl⟩ : b = b1 ∧ o = o1 := by simpa using hbo
   exact h Gz W a3 n3 c3 code r hB (by omega) hda hr
  by_cases k1 : d.k = 1
  ·have hq : quoteX cs (f + 1) (i : Int) = fun r => putN r (numN d.n) := by funext ns; unfold quoteX; rw [hc, if_pos k1]
   rw [hq]
   exact flat _ fun Gz W a3 n3 c3 code r hB hb hda hr => l4Quote_num B b o cs.length cc a2 a3 n2 n3 c2 c3 root code r i d W hB hi hg.n hb hda k1 hr
  by_cases k2 : d.k = 2
  ·have hq : quoteX cs (f + 1) (i : Int) = fun r => putN r (boolN d.n) := by funext ns; unfold quoteX; rw [hc, if_neg k1, if_pos k2]
   rw [hq]
   exact flat _ fun Gz W a3 n3 c3 code r hB hb hda hr => l4Quote_bool B b o cs.length cc a2 a3 n2 n3 c2 c3 root code r i d W hB hi hg.n hb hda k2 hr
  by_cases k3 : d.k = 3
  ·have hq : quoteX cs (f + 1) (i : Int) = fun r => putN r (symN d.s) := by funext ns; unfold quoteX; rw [hc, if_neg k1, if_neg k2, if_pos k3]
   rw [hq]
   exact flat _ fun Gz W a3 n3 c3 code r hB hb hda hr => l4Quote_sym B b o cs.length cc a2 a3 n2 n3 c2 c3 root code r i d W hB hi hg.n hb hda k3 hr
  by_cases k4 : d.k = 4
  ·have hq : quoteX cs (f + 1) (i : Int) = fun r => putN r nilN := by funext ns; unfold quoteX; rw [hc, if_neg k1, if_neg k2, if_neg k3, if_pos k4]
   rw [hq]
   exact flat _ fun Gz W a3 n3 c3 code r hB hb hda hr => l4Quote_nil B b o cs.length cc a2 a3 n2 n3 c2 c3 root code r i d W hB hi hg.n hb hda k4 hr
  have k5 : d.k = 5 := by omega
  obtain ⟨hl0, hl1, hr0, hr1⟩ := hg.ah i d hd k5
  obtain ⟨ql, hql⟩ := Int.eq_ofNat_of_zero_le hl0
  obtain ⟨qr, hqr⟩ := Int.eq_ofNat_of_zero_le hr0
  have hq : quoteX cs (f + 1) (i : Int) = fun r => putN (quoteX cs f (qr : Int) (quoteX cs f (ql : Int) r)) (primN consS [lastN (quoteX cs f (ql : Int) r), lastN (quoteX cs f (qr : Int) (quoteX cs f (ql : Int) r))]) := by
   funext ns
   conv => lhs; unfold quoteX
   rw [hc, if_neg k1, if_neg k2, if_neg k3, if_neg k4, hql, hqr]
  rw [hq]
  exact l4Quote_pair hg i ql qr d _ _ hd k5 hql hqr (ih ql (by omega) (by omega)) (ih qr (by omega) (by omega))
end
end Go.Proofs.Ytgjeefedcfakdaa
