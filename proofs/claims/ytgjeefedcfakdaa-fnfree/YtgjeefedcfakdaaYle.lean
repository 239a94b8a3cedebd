/- The model's expander: l4Let. -/
import Derived.Deep.DeepCutAuto
import Derived.Test.YtgjeefedcfakdaaYap
set_option linter.unusedVariables false
namespace Go.Proofs.Ytgjeefedcfakdaa
open Go.ChangeShapes Go.WideShapes Go.ChangeAt Go.RowKit
section
variable {B b o cc : Nat} {cs : List Dat} {a2 : Option Addr} {n2 c2 : Nat} {root : Int} {R : Int → Sx → Sx}
theorem letX_ok {cs : List Dat} {R : Int → Sx → Sx} {p : Int} {bd ns fs : List Int} {ss : List ByteArray} {s : Sx} (h : bndOf cs p = some (ns, fs)) (hp : parsOf cs ns = some ss) : letX cs R p bd s = putN (allX R fs (lamX ss (bodyX R bd s))).1 (callN (lastN (lamX ss (bodyX R bd s)) :: (allX R fs (lamX ss (bodyX R bd s))).2)) := by
 simp only [letX, h, hp, Option.bind, Option.map]
theorem letX_none {cs : List Dat} {R : Int → Sx → Sx} {p : Int} {bd : List Int} {s : Sx} (h : bndOf cs p = none) : letX cs R p bd s = failN s 1 := by
 simp only [letX, h, Option.bind]
theorem letX_bad {cs : List Dat} {R : Int → Sx → Sx} {p : Int} {bd ns fs : List Int} {s : Sx} (h : bndOf cs p = some (ns, fs)) (hp : parsOf cs ns = none) : letX cs R p bd s = failN s 1 := by
 simp only [letX, h, hp, Option.bind, Option.map]
set_option maxRecDepth 100000 in
set_option maxHeartbeats 8000000 in
theorem l4Let_any (hg : Good cs) (kp : Nat) (bb : Int) (t : List Int) (hkp : kp < cs.length) (hl : t.length ≤ 1048576) (hi : ∀ x, 0 ≤ x → x < (kp : Int) → FC B b o cc cs a2 n2 c2 root 70 x (R x)) (hb : LC B b o cc cs a2 n2 c2 root 86 (bb :: t) (bodyX R (bb :: t))) : LC B b o cc cs a2 n2 c2 root 89 ((kp : Int) :: bb :: t) (letX cs R (kp : Int) (bb :: t)) := by
 intro Gz w a3 n3 c3 code r al cl hB hGl hrow hr hcl hal
 obtain ⟨g, p, rfl⟩ := hal.some
 obtain ⟨W0, HW0, HP⟩ := Pt.begin cc a2 n2 c2 root hB hrow hr
 have HGL : Hid (∀ g, Gz g → g < w.heap.size) := hGl
 have HT : Hid (RowT w (some ⟨g, p, none⟩) ((kp : Int) :: bb :: t)) := hal
 have HI : Hid (∀ x, 0 ≤ x → x < (kp : Int) → FC B b o cc cs a2 n2 c2 root 70 x (R x)) := hi
 have HIB : Hid (LC B b o cc cs a2 n2 c2 root 86 (bb :: t) (bodyX R (bb :: t))) := hb
 clear hi hb hrow hr hal hGl hB
 have hcl' : t.length + 1 + 1 ≤ cl := hcl
 have hgt : decide ((t.length : Int) + 1 + 1 < 2) = false := by simp; omega
 clear hcl
 unfold xV
 go_enter Try.func89, Try.ntmps89
 go_upto_region 3 with fail
 rw [HW0.out]
 clear HW0
 obtain ⟨a10, n10, c10, k10, HF10, HX10, HZ10, hK10, hws0, hws1, hnn, ⟨x0, x1, x2, x3, x4, xf0, xf1, xf2, xf3, xf4⟩, z0, z1, z2, z3, z4, zf0, zf1, zf2, zf3, zf4⟩ := HP.out.opn
 replace HT := hid (HT.out.kt hK10)
 clear HP hK10
 go_cut [5, 6, 7] (fun nv fv iv wx => ∃ (u q : Option Addr) (cu cq : Nat) (ns fs : List Int) (ok : Bool), nv = .slice u ns.length cu ∧ fv = .slice q fs.length cq ∧ iv = .bool ok ∧ Pt Gz w W0 wx B b o cc cs a2 n2 c2 root (.slice a3 n3 c3) (r) ∧ RowT wx u ns ∧ RowT wx q fs ∧ ns.length < cs.length ∧ Hid (fs.length = ns.length) ∧ ns.length ≤ cu ∧ fs.length ≤ cq ∧ (if ok = true then bndOf cs (kp : Int) = some (ns, fs) else bndOf cs (kp : Int) = none) ∧ (∀ x ∈ ns, 0 ≤ x ∧ x < (kp : Int)) ∧ ∀ x ∈ fs, 0 ≤ x ∧ x < (kp : Int))
 case first =>
  have c0 := HT.out.head
  go_region_with (go_at_call 90; (refine (bnd_call hg HF10.out kp hkp).mono ?_; rintro e v1 ⟨u, q, cu, cq, ns, fs, ok, rfl, hb1, h1, h2, h3, h4, h5, h6, h7, h8, h9⟩; have H4 : Hid (fs.length = ns.length) := h4; clear h4))
  all_goals (go_wp2_with fail; go_meet; exact ⟨u, q, cu, cq, ns, fs, ok, rfl, rfl, rfl, Pt.below HF10.out HX10.out HZ10.out (KT.refl _) hb1, h1, h2, h3, H4, h5, h6, h7, h8, h9⟩)
 case rest =>
  clear HF10 HX10 HZ10 hws0 hws1 hnn x0 x1 x2 x3 x4 xf0 xf1 xf2 xf3 xf4 z0 z1 z2 z3 z4 zf0 zf1 zf2 zf3 zf4
  obtain ⟨W1, rfl⟩ : ∃ x, x = wc := ⟨_, rfl⟩
  obtain ⟨u, q, cu, cq, ns, fs, ok, rfl, rfl, rfl, hP1, hu1, hq1, hnl, hfl, hcu, hcq, hco1, hm1, hm2⟩ := hcut
  have HP : Hid (Pt Gz w W0 W1 B b o cc cs a2 n2 c2 root (.slice a3 n3 c3) (r)) := hP1
  have HRN : Hid (RowT W1 u ns) := hu1
  have HRF : Hid (RowT W1 q fs) := hq1
  have HCO : Hid (if ok = true then bndOf cs (kp : Int) = some (ns, fs) else bndOf cs (kp : Int) = none) := hco1
  have HMN : Hid (∀ x ∈ ns, 0 ≤ x ∧ x < (kp : Int)) := hm1
  have HMF : Hid (∀ x ∈ fs, 0 ≤ x ∧ x < (kp : Int)) := hm2
  have hcsn := hg.n
  have HFL : Hid (fs.length = ns.length) := hfl
  clear hP1 hu1 hq1 hco1 hm1 hm2 hfl
  obtain ⟨a11, n11, c11, k11, HF11, HX11, HZ11, hK11, hws0, hws1, hnn, ⟨x0, x1, x2, x3, x4, xf0, xf1, xf2, xf3, xf4⟩, z0, z1, z2, z3, z4, zf0, zf1, zf2, zf3, zf4⟩ := HP.out.opn
  replace HT := hid (HT.out.kt hK11)
  clear HP hK11
  go_wp2_with fail
  refine (par_at hg HF11.out ns (by omega) (fun x hx => ⟨(HMN.out x hx).1, by have := (HMN.out x hx).2; omega⟩) HRN.out).mono ?_
  rintro e W2 ⟨up, cp, ss, fine, rfl, hb1, hss, hcp, hpo⟩
  have HP : Hid (Pt Gz w W1 W2 B b o cc cs a2 n2 c2 root (.slice a3 n3 c3) (r)) := Pt.below HF11.out HX11.out HZ11.out (KT.refl _) hb1
  have HSS : Hid (NewS w W2 up ss cp) := hss
  have HPO : Hid (if fine = true then parsOf cs ns = some ss else parsOf cs ns = none) := hpo
  clear hss hpo hb1
  clear HF11 HX11 HZ11 hws0 hws1 hnn x0 x1 x2 x3 x4 xf0 xf1 xf2 xf3 xf4 z0 z1 z2 z3 z4 zf0 zf1 zf2 zf3 zf4
  obtain ⟨a12, n12, c12, k12, HF12, HX12, HZ12, hK12, hws0, hws1, hnn, ⟨x0, x1, x2, x3, x4, xf0, xf1, xf2, xf3, xf4⟩, z0, z1, z2, z3, z4, zf0, zf1, zf2, zf3, zf4⟩ := HP.out.opn
  replace HT := hid (HT.out.kt hK12)
  replace HRN := hid (HRN.out.kt hK12)
  replace HRF := hid (HRF.out.kt hK12)
  clear HP hK12
  cases ok
  ·have HB0 : Hid (bndOf cs (kp : Int) = none) := by show _ = _; have := HCO.out; simpa using this
   have HQ : Hid (failN r 1 = letX cs R (kp : Int) (bb :: t) r) := (letX_none HB0.out).symm
   go_wp2_with fail
   refine (fail_at HF12.out).mono ?_
   rintro e v1 ⟨qa, qn, qc, qk, rfl, hx1, hg1, hs1⟩
   have HE : Hid _ := hx1
   have HG : Hid _ := hg1
   have HS : Hid _ := hs1
   obtain ⟨zy0, zy1, zy2, zy3, zy4, zyf0, zyf1, zyf2, zyf3, zyf4⟩ := HF12.out.cells hg1 HZ12.out
   clear hx1 hg1 hs1
   unfold xV
   go_wp2
   refine bodyPost_ret (fin104 rfl rfl (set5_same _ _ _ _ _ (HF12.out.rep.kt HG.out (by decide) HZ12.out) _ _ _ _ _)) rfl ?_
   rw [← HQ.out]
   exact HF12.out.ret HZ12.out HE.out HG.out HS.out
  ·have HB1 : Hid (bndOf cs (kp : Int) = some (ns, fs)) := by show _ = _; have := HCO.out; simpa using this
   cases fine
   ·have HP0 : Hid (parsOf cs ns = none) := by show _ = _; have := HPO.out; simpa using this
    have HQ : Hid (failN r 1 = letX cs R (kp : Int) (bb :: t) r) := (letX_bad HB1.out HP0.out).symm
    go_wp2_with fail
    refine (fail_at HF12.out).mono ?_
    rintro e v1 ⟨qa, qn, qc, qk, rfl, hx1, hg1, hs1⟩
    have HE : Hid _ := hx1
    have HG : Hid _ := hg1
    have HS : Hid _ := hs1
    obtain ⟨zy0, zy1, zy2, zy3, zy4, zyf0, zyf1, zyf2, zyf3, zyf4⟩ := HF12.out.cells hg1 HZ12.out
    clear hx1 hg1 hs1
    unfold xV
    go_wp2
    refine bodyPost_ret (fin104 rfl rfl (set5_same _ _ _ _ _ (HF12.out.rep.kt HG.out (by decide) HZ12.out) _ _ _ _ _)) rfl ?_
    rw [← HQ.out]
    exact HF12.out.ret HZ12.out HE.out HG.out HS.out
   ·have HP1 : Hid (parsOf cs ns = some ss) := by show _ = _; have := HPO.out; simpa using this
    have HAL : Hid (AC B b o cc cs a2 n2 c2 root R fs) := l4All_any fs hg.n (by have := HFL.out; omega) fun x hx => HI.out x (HMF.out x hx).1 (HMF.out x hx).2
    clear HCO HPO
    go_upto_region 7 with fail
    go_cut [] (fun wx => Pt Gz w W2 wx B b o cc cs a2 n2 c2 root (.slice a3 n3 c3) (bodyX R (bb :: t) r))
    case first =>
     go_region_with (go_at_call 86; (refine (list_at HIB.out HF12.out HGL.out (al := (some ⟨g, p + 1, none⟩)) (cl := (cl - 1)) (by show t.length + 1 ≤ cl - 1; omega) HT.out.tail).mono ?_; rintro e v1 ⟨qa, qn, qc, qk, rfl, hx1, hg1, hs1⟩; have HE : Hid _ := hx1; have HG : Hid _ := hg1; have HS : Hid _ := hs1; obtain ⟨y0, y1, y2, y3, y4, yf0, yf1, yf2, yf3, yf4⟩ := HF12.out.cells hg1 HX12.out; obtain ⟨zy0, zy1, zy2, zy3, zy4, zyf0, zyf1, zyf2, zyf3, zyf4⟩ := HF12.out.cells hg1 HZ12.out; clear hx1 hg1 hs1; unfold xV))
     all_goals (go_wp2_with fail; go_meet; exact Pt.next HF12.out HX12.out HZ12.out (KT.refl _) HE.out HG.out HS.out)
    case rest =>
     clear HF12 HX12 HZ12 hws0 hws1 hnn x0 x1 x2 x3 x4 xf0 xf1 xf2 xf3 xf4 z0 z1 z2 z3 z4 zf0 zf1 zf2 zf3 zf4
     obtain ⟨W3, rfl⟩ : ∃ x, x = wc := ⟨_, rfl⟩
     obtain ⟨s1, hEs1⟩ : ∃ q, q = bodyX R (bb :: t) r := ⟨_, rfl⟩
     rw [← hEs1] at hcut
     have Es1 : Hid (s1 = bodyX R (bb :: t) r) := hEs1
     clear hEs1
     have HP : Hid (Pt Gz w W2 W3 B b o cc cs a2 n2 c2 root (.slice a3 n3 c3) (s1)) := hcut
     clear hcut
     obtain ⟨a13, n13, c13, k13, HF13, HX13, HZ13, hK13, hws0, hws1, hnn, ⟨x0, x1, x2, x3, x4, xf0, xf1, xf2, xf3, xf4⟩, z0, z1, z2, z3, z4, zf0, zf1, zf2, zf3, zf4⟩ := HP.out.opn
     replace HT := hid (HT.out.kt hK13)
     replace HRN := hid (HRN.out.kt hK13)
     replace HRF := hid (HRF.out.kt hK13)
     replace HSS := hid (HSS.out.kt hK13)
     clear HP hK13
     go_upto_region 8 with fail
     go_cut [] (fun wx => Pt Gz w W3 wx B b o cc cs a2 n2 c2 root (.slice a3 n3 c3) (lamX ss s1))
     case first =>
      have hw2 : w.heap.size < W3.heap.size + 1 := by omega
      have hw3 : w.heap.size < W3.heap.size + 1 + 1 := by omega
      have hw4 : ¬ w.heap.size = W3.heap.size := by omega
      have hw5 : ¬ w.heap.size = W3.heap.size + 1 := by omega
      have hw6 : ¬ w.heap.size = W3.heap.size + 1 + 1 := by omega
      have HQ : Hid (putN s1 (lamN ss ((n13 : Int) - 1)) = lamX ss s1) := by show _ = _; rw [HF13.out.last]; rfl
      go_region_with (first | (go_at_call 71; (refine (l4Last_eq (some ⟨b, o, none⟩) a2 a13 cs.length n2 n13 cc c2 c13 root k13 _ (by omega)).mono ?_; rintro e v2 ⟨rfl, rfl⟩)) | (go_at_call 79; (refine (put_len HF13.out HGL.out (lamN ss ((n13 : Int) - 1)) (HSS.out.kt (KT.below (by first | exact Below.refl _ _ | exact (Below.refl _ _).drew | exact ((Below.refl _ _).alloc (by simp) _).drew | exact (((Below.refl _ _).alloc (by simp) _).alloc (by simp <;> omega) _).drew | exact ((((Below.refl _ _).alloc (by simp) _).alloc (by simp <;> omega) _).alloc (by simp <;> omega) _).drew | exact ((Below.refl _ _).alloc (by simp) _) | exact (((Below.refl _ _).alloc (by simp) _).alloc (by simp <;> omega) _)))) (NewI.lit [((n13 : Int) - 1)] (by first | exact blk_drew (blk_at _ _ _ (by simp)) | exact blk_drew (blk_past (blk_at _ _ _ (by simp))) | exact blk_drew (blk_past (blk_past (blk_at _ _ _ (by simp)))) | exact blk_at _ _ _ (by simp) | exact blk_past (blk_at _ _ _ (by simp))) (by first | omega | (simp <;> omega))) rfl rfl hcp (Nat.le_refl _)).mono ?_; rintro e v1 ⟨qa, qn, qc, qk, rfl, hx1, hg1, hs1⟩; have HE : Hid _ := hx1; have HG : Hid _ := hg1; have HS : Hid _ := hs1; obtain ⟨y0, y1, y2, y3, y4, yf0, yf1, yf2, yf3, yf4⟩ := HF13.out.cells hg1 HX13.out; obtain ⟨zy0, zy1, zy2, zy3, zy4, zyf0, zyf1, zyf2, zyf3, zyf4⟩ := HF13.out.cells hg1 HZ13.out; clear hx1 hg1 hs1; unfold xV)))
      all_goals (go_wp2_with fail; go_meet; rw [← HQ.out]; exact Pt.next HF13.out HX13.out HZ13.out (KT.refl _) HE.out HG.out HS.out)
     case rest =>
      clear HF13 HX13 HZ13 hws0 hws1 hnn x0 x1 x2 x3 x4 xf0 xf1 xf2 xf3 xf4 z0 z1 z2 z3 z4 zf0 zf1 zf2 zf3 zf4
      obtain ⟨W4, rfl⟩ : ∃ x, x = wc := ⟨_, rfl⟩
      obtain ⟨s2, hEs2⟩ : ∃ q, q = lamX ss s1 := ⟨_, rfl⟩
      rw [← hEs2] at hcut
      have Es2 : Hid (s2 = lamX ss s1) := hEs2
      clear hEs2
      have HP : Hid (Pt Gz w W3 W4 B b o cc cs a2 n2 c2 root (.slice a3 n3 c3) (s2)) := hcut
      clear hcut
      obtain ⟨a14, n14, c14, k14, HF14, HX14, HZ14, hK14, hws0, hws1, hnn, ⟨x0, x1, x2, x3, x4, xf0, xf1, xf2, xf3, xf4⟩, z0, z1, z2, z3, z4, zf0, zf1, zf2, zf3, zf4⟩ := HP.out.opn
      replace HT := hid (HT.out.kt hK14)
      replace HRN := hid (HRN.out.kt hK14)
      replace HRF := hid (HRF.out.kt hK14)
      replace HSS := hid (HSS.out.kt hK14)
      clear HP hK14
      go_wp2_with fail
      refine (l4Last_any (some ⟨b, o, none⟩) a2 a14 cs.length n2 n14 cc c2 c14 root k14 W4 (by omega)).mono ?_
      rintro e W5 ⟨rfl, hb1⟩
      have HP : Hid (Pt Gz w W4 W5 B b o cc cs a2 n2 c2 root (.slice a3 n3 c3) (s2)) := Pt.below HF14.out HX14.out HZ14.out (KT.refl _) hb1
      have HN : Hid ((n14 : Int) - 1 = lastN s2) := HF14.out.last
      clear hb1
      clear HF14 HX14 HZ14 hws0 hws1 hnn x0 x1 x2 x3 x4 xf0 xf1 xf2 xf3 xf4 z0 z1 z2 z3 z4 zf0 zf1 zf2 zf3 zf4
      obtain ⟨a15, n15, c15, k15, HF15, HX15, HZ15, hK15, hws0, hws1, hnn, ⟨x0, x1, x2, x3, x4, xf0, xf1, xf2, xf3, xf4⟩, z0, z1, z2, z3, z4, zf0, zf1, zf2, zf3, zf4⟩ := HP.out.opn
      replace HT := hid (HT.out.kt hK15)
      replace HRN := hid (HRN.out.kt hK15)
      replace HRF := hid (HRF.out.kt hK15)
      replace HSS := hid (HSS.out.kt hK15)
      clear HP hK15
      go_wp2_with fail
      refine (all_at HAL.out HF15.out HGL.out (al := q) (cl := cq) hcq HRF.out).mono ?_
      rintro e v1 ⟨a16, n16, c16, k16, ux16, cu16, rfl, hx1, hg1, hs1, ho1, hl1, hc1⟩
      have HF16 : Hid (Fx Gz w (v1.alloc (Obj.cells #[.slice (some ⟨b, o, none⟩) cs.length cc, .slice a2 n2 c2, .slice a16 n16 c16, .int .i64 root, .int .i64 k16] 104)) B b o cs (.slice a3 n3 c3) (.slice a16 n16 c16) n16 k16 (allX R (fs) s2).1) := (HF15.out.call hg1 hs1 hx1).below (bR _ _)
      have HX16 : Hid ((v1.alloc (Obj.cells #[.slice (some ⟨b, o, none⟩) cs.length cc, .slice a2 n2 c2, .slice a16 n16 c16, .int .i64 root, .int .i64 k16] 104)).heap[v1.heap.size]? = some (Obj.cells #[.slice (some ⟨b, o, none⟩) cs.length cc, .slice a2 n2 c2, .slice a16 n16 c16, .int .i64 root, .int .i64 k16] 104)) := blk_at _ _ _ rfl
      have HZ16 : Hid ((v1.alloc (Obj.cells #[.slice (some ⟨b, o, none⟩) cs.length cc, .slice a2 n2 c2, .slice a16 n16 c16, .int .i64 root, .int .i64 k16] 104)).heap[w.heap.size + 1]? = some (Obj.cells #[.slice none 0 0, .slice none 0 0, .slice none 0 0, .int .i64 0, .int .i64 0] 104)) := blk_past (HF15.out.rep.kt hg1 (by decide) HZ15.out)
      have HU16 : Hid (NewI w (v1.alloc (Obj.cells #[.slice (some ⟨b, o, none⟩) cs.length cc, .slice a2 n2 c2, .slice a16 n16 c16, .int .i64 root, .int .i64 k16] 104)) ux16 (allX R (fs) s2).2 cu16) := ho1.kt (KT.below (bR _ _))
      have HM16 : Hid ((allX R (fs) s2).2.length = fs.length) := hl1
      have hcu16 := hc1
      have hk1 : KT W5 (v1.alloc (Obj.cells #[.slice (some ⟨b, o, none⟩) cs.length cc, .slice a2 n2 c2, .slice a16 n16 c16, .int .i64 root, .int .i64 k16] 104)) := KT.trans (fun q c t ht e => HF15.out.rep.kt hg1 ht.1 e) (KT.below (bR _ _))
      have hHT := HT.out.kt hk1
      clear HT
      have HT : Hid (RowT (v1.alloc (Obj.cells #[.slice (some ⟨b, o, none⟩) cs.length cc, .slice a2 n2 c2, .slice a16 n16 c16, .int .i64 root, .int .i64 k16] 104)) (some ⟨g, p, none⟩) ((kp : Int) :: bb :: t)) := hHT
      clear hHT
      have hHRN := HRN.out.kt hk1
      clear HRN
      have HRN : Hid (RowT (v1.alloc (Obj.cells #[.slice (some ⟨b, o, none⟩) cs.length cc, .slice a2 n2 c2, .slice a16 n16 c16, .int .i64 root, .int .i64 k16] 104)) u ns) := hHRN
      clear hHRN
      have hHRF := HRF.out.kt hk1
      clear HRF
      have HRF : Hid (RowT (v1.alloc (Obj.cells #[.slice (some ⟨b, o, none⟩) cs.length cc, .slice a2 n2 c2, .slice a16 n16 c16, .int .i64 root, .int .i64 k16] 104)) q fs) := hHRF
      clear hHRF
      have hHSS := HSS.out.kt hk1
      clear HSS
      have HSS : Hid (NewS w (v1.alloc (Obj.cells #[.slice (some ⟨b, o, none⟩) cs.length cc, .slice a2 n2 c2, .slice a16 n16 c16, .int .i64 root, .int .i64 k16] 104)) up ss cp) := hHSS
      clear hHSS
      clear hx1 hg1 hs1 ho1 hl1 hc1 hk1
      clear HF15 HX15 HZ15 hws0 hws1 hnn x0 x1 x2 x3 x4 xf0 xf1 xf2 xf3 xf4 z0 z1 z2 z3 z4 zf0 zf1 zf2 zf3 zf4
      unfold xV
      go_upto_region 11 with fail
      generalize v1.alloc (Obj.cells #[.slice (some ⟨b, o, none⟩) cs.length cc, .slice a2 n2 c2, .slice a16 n16 c16, .int .i64 root, .int .i64 k16] 104) = W6 at *
      generalize v1.heap.size = gy16 at *
      obtain ⟨x0, x1, x2, x3, x4, xf0, xf1, xf2, xf3, xf4⟩ := cells5 HX16.out
      obtain ⟨z0, z1, z2, z3, z4, zf0, zf1, zf2, zf3, zf4⟩ := cells5 HZ16.out
      have hws0 : gy16 < W6.heap.size := (alt HX16.out)
      have hws1 : w.heap.size + 1 < W6.heap.size := (alt HZ16.out)
      have hnn : n16 ≤ 400 := HF16.out.n400
      have HQ : Hid (putN (allX R (fs) s2).1 (callN (((n14 : Int) - 1) :: (allX R (fs) s2).2)) = letX cs R (kp : Int) (bb :: t) r) := by show _ = _; rw [letX_ok HB1.out HP1.out, HN.out, Es2.out, Es1.out] <;> rfl
      have HUV : Hid (RowI W6 W6.heap.size ux16 (allX R (fs) s2).2) := fun j x hj => by
       rcases HU16.out with ⟨h0, _⟩ | ⟨g9, c9, h1, h2, h3, h4, h5, h6, h7⟩
       ·rw [h0] at hj
        simp at hj
       ·exact ⟨g9, 0, h1, (alt h2), by rw [Nat.zero_add]; exact cell_blk h2 (h7 j x hj)⟩
      have hwl := HF16.out.gr.size
      obtain ⟨LL, hLL⟩ : ∃ x, x = (allX R (fs) s2).2 := ⟨_, rfl⟩
      obtain ⟨SS, hSS⟩ : ∃ x, x = (allX R (fs) s2).1 := ⟨_, rfl⟩
      rw [← hLL] at HQ HUV HM16 HU16
      rw [← hSS] at HQ HF16
      have HLZ : Hid (LL.length = fs.length) := HM16.out
      have HCQ : Hid (((n14 : Int) - 1) = ((n14 : Int) - 1)) := rfl
      clear hLL hSS
      go_region_law (first
       | (refine step_append_I rfl _ _ rfl w.heap.size (.slice (some ⟨W6.heap.size, 0, none⟩) 1 1) [((n14 : Int) - 1)] LL rfl (ownI_one (by first | exact blk_drew (blk_at _ _ _ rfl) | exact blk_at _ _ _ rfl) hwl) ux16 cu16 (by rw [HLZ.out]; rfl) ((HUV.out.below (by first | exact Below.refl _ _ | exact (Below.refl _ _).drew | exact ((Below.refl _ _).alloc (by simp) _).drew | exact (((Below.refl _ _).alloc (by simp) _).alloc (by simp <;> omega) _).drew | exact ((((Below.refl _ _).alloc (by simp) _).alloc (by simp <;> omega) _).alloc (by simp <;> omega) _).drew | exact ((Below.refl _ _).alloc (by simp) _) | exact (((Below.refl _ _).alloc (by simp) _).alloc (by simp <;> omega) _))).mono (by simp)) (by show 1 + LL.length ≤ 1048576; have h1 := HFL.out; have h2 := HLZ.out; omega) (by simp; omega) ?_; intro v7 w7 hown7 hgr7 hat7; obtain ⟨a7, c7, rfl⟩ : ∃ a7 c7, v7 = .slice a7 (LL.length + 1) c7 := (by obtain ⟨a, c, h⟩ := hown7.slice; exact ⟨a, c, h⟩); have hb7 : Below W6.heap.size W6 w7 := below_own (by first | exact Below.refl _ _ | exact (Below.refl _ _).drew | exact ((Below.refl _ _).alloc (by simp) _).drew | exact (((Below.refl _ _).alloc (by simp) _).alloc (by simp <;> omega) _).drew | exact ((((Below.refl _ _).alloc (by simp) _).alloc (by simp <;> omega) _).alloc (by simp <;> omega) _).drew | exact ((Below.refl _ _).alloc (by simp) _) | exact (((Below.refl _ _).alloc (by simp) _).alloc (by simp <;> omega) _)) hgr7 (fun k hk => by have h9 : W6.heap.size = k := Option.some.inj hk; omega); have hc7 : LL.length + 1 ≤ c7 := hown7.cap; have HO7 : Hid (NewI w w7 a7 (((n14 : Int) - 1) :: LL) c7) := NewI.of (show OwnI w7 w.heap.size (.slice a7 (((n14 : Int) - 1) :: LL).length c7) (((n14 : Int) - 1) :: LL) from hown7) (Nat.le_refl _); have HB7 : Hid (Below W6.heap.size W6 w7) := hb7; obtain ⟨zz0, zz1, zz2, zz3, zz4, zzf0, zzf1, zzf2, zzf3, zzf4⟩ := cells5 ((hb7.block _ (alt HX16.out)).trans HX16.out); clear hown7 hgr7 hat7 hb7)
       | (refine step_call79 rfl _ _ _ _ rfl _ _ rfl rfl _ (put_len (an := none) (cn := 0) (nn := 0) (na := LL.length + 1) (ca := c7) HF16.out HGL.out (hb := HB7.out) (callN (((n14 : Int) - 1) :: LL)) (NewS.nil _ _ _) HO7.out rfl rfl (Nat.le_refl _) hc7) ?_; rintro e v1 ⟨qa, qn, qc, qk, rfl, hx1, hg1, hs1⟩; refine ⟨_, rfl, ?_⟩; have HE : Hid _ := hx1; have HG : Hid _ := hg1; have HS : Hid _ := hs1; obtain ⟨y0, y1, y2, y3, y4, yf0, yf1, yf2, yf3, yf4⟩ := HF16.out.cells hg1 HX16.out; obtain ⟨zy0, zy1, zy2, zy3, zy4, zyf0, zyf1, zyf2, zyf3, zyf4⟩ := HF16.out.cells hg1 HZ16.out; clear hx1 hg1 hs1; unfold xV))
      all_goals (try go_wp2)
      all_goals
       refine bodyPost_ret (fin104 rfl rfl (set5_same _ _ _ _ _ (HF16.out.rep.kt HG.out (by decide) HZ16.out) _ _ _ _ _)) rfl ?_
       rw [← HQ.out]
       exact HF16.out.ret HZ16.out HE.out HG.out HS.out
end
end Go.Proofs.Ytgjeefedcfakdaa
