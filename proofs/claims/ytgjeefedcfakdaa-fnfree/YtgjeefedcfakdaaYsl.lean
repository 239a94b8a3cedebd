/- The model's expander: l4Special: let in a row. -/
import Derived.Deep.DeepCutAuto
import Derived.Test.YtgjeefedcfakdaaYsp
import Derived.Test.YtgjeefedcfakdaaYst
set_option linter.unusedVariables false
namespace Go.Proofs.Ytgjeefedcfakdaa
open Go.ChangeShapes Go.WideShapes Go.ChangeAt Go.RowKit
section
variable {B b o cc : Nat} {cs : List Dat} {a2 : Option Addr} {n2 c2 : Nat} {root : Int} {R : Int → Sx → Sx}
set_option maxRecDepth 100000 in
set_option maxHeartbeats 8000000 in
theorem l4Sp_lets_ok (hg : Good cs) (sw : ByteArray) (hw : sw.toList = [108, 101, 116, 42]) (kp : Nat) (bb : Int) (t : List Int) (xs ys : List Int) (hv : bndOf cs (kp : Int) = some (xs, ys)) (hkp : kp < cs.length) (hl : t.length ≤ 1048576) (hi : ∀ x, 0 ≤ x → x < (kp : Int) → FC B b o cc cs a2 n2 c2 root 70 x (R x)) (hb : LC B b o cc cs a2 n2 c2 root 86 (bb :: t) (bodyX R (bb :: t))) : WC B b o cc cs a2 n2 c2 root sw ((kp : Int) :: bb :: t) (fun r => starX cs R xs ys (bb :: t) r) := by
 intro Gz w a3 n3 c3 code r al cl hB hGl hrow hr hcl hal
 obtain ⟨g, p, rfl⟩ := hal.some
 obtain ⟨W0, HW0, HP⟩ := Pt.begin cc a2 n2 c2 root hB hrow hr
 have HGL : Hid (∀ g, Gz g → g < w.heap.size) := hGl
 have HT : Hid (RowT w (some ⟨g, p, none⟩) ((kp : Int) :: bb :: t)) := hal
 have HI : Hid (∀ x, 0 ≤ x → x < (kp : Int) → FC B b o cc cs a2 n2 c2 root 70 x (R x)) := hi
 have HIB : Hid (LC B b o cc cs a2 n2 c2 root 86 (bb :: t) (bodyX R (bb :: t))) := hb
 have HV : Hid (bndOf cs (kp : Int) = some (xs, ys)) := hv
 have ws0 : (sw.toList == [113, 117, 111, 116, 101]) = false := by rw [hw]; rfl
 have ws1 : (sw.toList == [105, 102]) = false := by rw [hw]; rfl
 have ws2 : (sw.toList == [98, 101, 103, 105, 110]) = false := by rw [hw]; rfl
 have ws3 : (sw.toList == [115, 101, 116, 33]) = false := by rw [hw]; rfl
 have ws4 : (sw.toList == [108, 97, 109, 98, 100, 97]) = false := by rw [hw]; rfl
 have ws5 : (sw.toList == [108, 101, 116]) = false := by rw [hw]; rfl
 have ws6 : (sw.toList == [108, 101, 116, 42]) = true := beq_iff_eq.2 hw
 have hcl' : t.length + 1 + 1 ≤ cl := hcl
 have hge : decide ((2 : Int) ≤ (t.length : Int) + 1 + 1) = true := by simp; omega
 clear hw hi hb hrow hr hal hGl hB hcl hv
 unfold xV
 go_enter Try.func82, Try.ntmps82
 go_upto_region 31 with fail
 rw [HW0.out]
 clear HW0
 obtain ⟨a10, n10, c10, k10, HF10, HX10, HZ10, hK10, hws0, hws1, hnn, ⟨x0, x1, x2, x3, x4, xf0, xf1, xf2, xf3, xf4⟩, z0, z1, z2, z3, z4, zf0, zf1, zf2, zf3, zf4⟩ := HP.out.opn
 replace HT := hid (HT.out.kt hK10)
 clear HP hK10
 go_cut [15, 16, 17] (fun nv fv iv wx => ∃ (u q : Option Addr) (cu cq : Nat) (ns fs : List Int) (ok : Bool), nv = .slice u ns.length cu ∧ fv = .slice q fs.length cq ∧ iv = .bool ok ∧ Pt Gz w W0 wx B b o cc cs a2 n2 c2 root (.slice a3 n3 c3) (r) ∧ RowT wx u ns ∧ RowT wx q fs ∧ ns.length < cs.length ∧ Hid (fs.length = ns.length) ∧ ns.length ≤ cu ∧ fs.length ≤ cq ∧ (if ok = true then bndOf cs (kp : Int) = some (ns, fs) else bndOf cs (kp : Int) = none) ∧ (∀ x ∈ ns, 0 ≤ x ∧ x < (kp : Int)) ∧ ∀ x ∈ fs, 0 ≤ x ∧ x < (kp : Int))
 case first =>
  have c0 := HT.out.head
  go_region_with (go_at_call 90; (refine (bnd_call hg HF10.out kp hkp).mono ?_; rintro e v1 ⟨u, q, cu, cq, ns, fs, ok, rfl, hb1, h1, h2, h3, h4, h5, h6, h7, h8, h9⟩; have H4 : Hid (fs.length = ns.length) := h4; clear h4))
  all_goals (go_wp2_with fail; go_meet; exact ⟨u, q, cu, cq, ns, fs, ok, rfl, rfl, rfl, Pt.below HF10.out HX10.out HZ10.out (KT.refl _) hb1, h1, h2, h3, H4, h5, h6, h7, h8, h9⟩)
 case rest =>
  clear HF10 HX10 HZ10 hws0 hws1 hnn x0 x1 x2 x3 x4 xf0 xf1 xf2 xf3 xf4 z0 z1 z2 z3 z4 zf0 zf1 zf2 zf3 zf4
  obtain ⟨W1, rfl⟩ : ∃ x, x = wc := ⟨_, rfl⟩
  obtain ⟨u, q, cu, cq, ns, fs, ok, rfl, rfl, rfl, hP1, hu1, hq1, hnl, hfl, hcu, hcq, hco1, hm1, hm2⟩ := hcut
  have HP : Hid (Pt Gz w W0 W1 B b o cc cs a2 n2 c2 root (.slice a3 n3 c3) (r)) := hP1
  have HRN : Hid (RowT W1 u ns) := hu1
  have HRF : Hid (RowT W1 q fs) := hq1
  have HCO : Hid (if ok = true then bndOf cs (kp : Int) = some (ns, fs) else bndOf cs (kp : Int) = none) := hco1
  have HMN : Hid (∀ x ∈ ns, 0 ≤ x ∧ x < (kp : Int)) := hm1
  have HMF : Hid (∀ x ∈ fs, 0 ≤ x ∧ x < (kp : Int)) := hm2
  have hcsn := hg.n
  have HFL : Hid (fs.length = ns.length) := hfl
  clear hP1 hu1 hq1 hco1 hm1 hm2 hfl
  obtain ⟨a11, n11, c11, k11, HF11, HX11, HZ11, hK11, hws0, hws1, hnn, ⟨x0, x1, x2, x3, x4, xf0, xf1, xf2, xf3, xf4⟩, z0, z1, z2, z3, z4, zf0, zf1, zf2, zf3, zf4⟩ := HP.out.opn
  replace HT := hid (HT.out.kt hK11)
  clear HP hK11
  obtain ⟨rfl, rfl, rfl⟩ : ok = true ∧ xs = ns ∧ ys = fs := by
   have h := HCO.out
   have hv := HV.out
   cases ok
   ·simp at h
    rw [h] at hv
    cases hv
   ·simp at h
    rw [h] at hv
    injection Option.some.inj hv with h1 h2
    exact ⟨rfl, h1.symm, h2.symm⟩
  clear HCO HV
  have HSL : Hid (SCl B b o cc cs a2 n2 c2 root xs ys (bb :: t) 0 (starX cs R (xs.drop 0) (ys.drop 0) (bb :: t))) := l4Star_any hg xs ys (bb :: t) (by omega) HFL.out (fun x hx => ⟨(HMN.out x hx).1, by have := (HMN.out x hx).2; omega⟩) (fun x hx => HI.out x (HMF.out x hx).1 (HMF.out x hx).2) HIB.out xs.length 0 (by omega)
  go_upto_region 33 with fail
  go_region_with (go_at_call 91; (refine (star_at HSL.out HF11.out HGL.out (al := some ⟨g, p + 1, none⟩) (cl := cl - 1) (by show t.length + 1 ≤ cl - 1; omega) HRN.out HRF.out HT.out.tail).mono ?_; rintro e v1 ⟨qa, qn, qc, qk, rfl, hx1, hg1, hs1⟩; have HE : Hid _ := hx1; have HG : Hid _ := hg1; have HS : Hid _ := hs1; obtain ⟨y0, y1, y2, y3, y4, yf0, yf1, yf2, yf3, yf4⟩ := HF11.out.cells hg1 HX11.out; obtain ⟨zy0, zy1, zy2, zy3, zy4, zyf0, zyf1, zyf2, zyf3, zyf4⟩ := HF11.out.cells hg1 HZ11.out; clear hx1 hg1 hs1; unfold xV))
  all_goals (try go_wp2)
  all_goals
   refine bodyPost_ret (fin104 rfl rfl (set5_same _ _ _ _ _ (HF11.out.rep.kt HG.out (by decide) HZ11.out) _ _ _ _ _)) rfl ?_
   exact HF11.out.ret HZ11.out HE.out HG.out HS.out
end
end Go.Proofs.Ytgjeefedcfakdaa
