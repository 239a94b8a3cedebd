/- The model's expander: l4Star. -/
import Derived.Deep.DeepCutAuto
import Derived.Test.YtgjeefedcfakdaaYap
set_option linter.unusedVariables false
namespace Go.Proofs.Ytgjeefedcfakdaa
open Go.ChangeShapes Go.WideShapes Go.ChangeAt Go.RowKit
section
variable {B b o cc : Nat} {cs : List Dat} {a2 : Option Addr} {n2 c2 : Nat} {root : Int} {R : Int → Sx → Sx}
theorem starX_ok {cs : List Dat} {R : Int → Sx → Sx} {x e : Int} {xs es bd : List Int} {nm : ByteArray} {s : Sx} (h : nmOf cs x = some nm) : starX cs R (x :: xs) (e :: es) bd s = callX (lamX [nm] (starX cs R xs es bd s)) (R e (lamX [nm] (starX cs R xs es bd s))) := by
 simp only [starX, h]
theorem starX_none {cs : List Dat} {R : Int → Sx → Sx} {x e : Int} {xs es bd : List Int} {s : Sx} (h : nmOf cs x = none) : starX cs R (x :: xs) (e :: es) bd s = failN s 1 := by
 simp only [starX, h]
theorem RowT.at {W : World} {al : Option Addr} {l : List Int} (h : RowT W al l) {i : Nat} {x : Int} (hi : l[i]? = Option.some x) : ∃ g p, al = Option.some ⟨g, p, none⟩ ∧ W.cell? ⟨g, p + i, none⟩ = Option.some (.int .i64 x) ∧ g < W.heap.size := by
 obtain ⟨g, p, c, h1, h2, h3⟩ := h (fun e => by rw [e] at hi; simp at hi)
 exact ⟨g, p, h1, cell_blk h2 (h3 i x hi), (alt h2)⟩
def SCl (B b o cc : Nat) (cs : List Dat) (a2 : Option Addr) (n2 c2 : Nat) (root : Int) (N M bd : List Int) (k : Nat) (F : Sx → Sx) : Prop :=
 ∀ (Gz : Nat → Prop) (W : World) (a3 : Option Addr) (n3 c3 : Nat) (code : Int) (r : Sx) (an am al : Option Addr) (cn cm cl : Nat), B ≤ W.heap.size → (∀ g, Gz g → g < W.heap.size) → RowD W B (some ⟨b, o, none⟩) cs → XRep Gz W B (.slice a3 n3 c3) n3 code r → bd.length ≤ cl → RowT W an N → RowT W am M → RowT W al bd →
  Calls Try.prog 91 #[xV (.slice (some ⟨b, o, none⟩) cs.length cc) (.slice a2 n2 c2) (.slice a3 n3 c3) root code, .slice an N.length cn, .slice am M.length cm, .int .i64 k, .slice al bd.length cl] W fun e w' => XEnd Gz B (.slice (some ⟨b, o, none⟩) cs.length cc) (.slice a2 n2 c2) a3 n3 c3 root (F r) W e w'
theorem star_at {Gz : Nat → Prop} {w W V : World} {v0 : Value} {r : Sx} {a : Option Addr} {n c : Nat} {code : Int} {N M bd : List Int} {k : Nat} {F : Sx → Sx} (hI : SCl B b o cc cs a2 n2 c2 root N M bd k F) (hF : Fx Gz w W B b o cs v0 (.slice a n c) n code r) (hG : ∀ g, Gz g → g < w.heap.size) {an am al : Option Addr} {cn cm cl : Nat} (hcl : bd.length ≤ cl) (h1 : RowT W an N) (h2 : RowT W am M) (h3 : RowT W al bd) (hb : Below W.heap.size W V := by repeat first | exact Below.refl _ _ | refine Below.drew ?_ | refine Below.alloc ?_ (by simp <;> omega) _) :
  Calls Try.prog 91 #[xV (.slice (some ⟨b, o, none⟩) cs.length cc) (.slice a2 n2 c2) (.slice a n c) root code, .slice an N.length cn, .slice am M.length cm, .int .i64 k, .slice al bd.length cl] V fun e w' => XEnd Gz B (.slice (some ⟨b, o, none⟩) cs.length cc) (.slice a2 n2 c2) a n c root (F r) W e w' :=
 (hI Gz V a n c code r an am al cn cm cl (hF.below hb).bsz ((hF.below hb).gz hG) (hF.below hb).row (hF.below hb).rep hcl (h1.kt (KT.below hb)) (h2.kt (KT.below hb)) (h3.kt (KT.below hb))).mono fun e w' h => h.from hb
set_option maxRecDepth 100000 in
set_option maxHeartbeats 2000000 in
theorem l4Star_end (N M bd : List Int) (hb : LC B b o cc cs a2 n2 c2 root 86 (bd) (bodyX R bd)) : SCl B b o cc cs a2 n2 c2 root N M bd N.length (bodyX R bd) := by
 intro Gz w a3 n3 c3 code r an am al cn cm cl hB hGl hrow hr hcl hN hM hbd
 obtain ⟨W0, HW0, HP⟩ := Pt.begin cc a2 n2 c2 root hB hrow hr
 have HGL : Hid (∀ g, Gz g → g < w.heap.size) := hGl
 have HT : Hid (RowT w al bd) := hbd
 have HL : Hid (LC B b o cc cs a2 n2 c2 root 86 (bd) (bodyX R bd)) := hb
 clear hb hrow hr hbd hN hM hGl hB
 unfold xV
 go_enter Try.func91, Try.ntmps91
 go_upto_region 2 with fail
 rw [HW0.out]
 clear HW0
 obtain ⟨a10, n10, c10, k10, HF10, HX10, HZ10, hK10, hws0, hws1, hnn, ⟨x0, x1, x2, x3, x4, xf0, xf1, xf2, xf3, xf4⟩, z0, z1, z2, z3, z4, zf0, zf1, zf2, zf3, zf4⟩ := HP.out.opn
 replace HT := hid (HT.out.kt hK10)
 clear HP hK10
 go_wp2_with fail
 refine (list_at HL.out HF10.out HGL.out (al := al) (cl := cl) hcl HT.out).mono ?_
 rintro e v1 ⟨qa, qn, qc, qk, rfl, hx1, hg1, hs1⟩
 have HE : Hid _ := hx1
 have HG : Hid _ := hg1
 have HS : Hid _ := hs1
 obtain ⟨zy0, zy1, zy2, zy3, zy4, zyf0, zyf1, zyf2, zyf3, zyf4⟩ := HF10.out.cells hg1 HZ10.out
 clear hx1 hg1 hs1
 unfold xV
 go_wp2
 refine bodyPost_ret (fin104 rfl rfl (set5_same _ _ _ _ _ (HF10.out.rep.kt HG.out (by decide) HZ10.out) _ _ _ _ _)) rfl ?_
 exact HF10.out.ret HZ10.out HE.out HG.out HS.out
set_option maxRecDepth 100000 in
set_option maxHeartbeats 16000000 in
theorem l4Star_more (hg : Good cs) (N M bd : List Int) (k kx : Nat) (e : Int) (nm : ByteArray) (F : Sx → Sx) (hk : k < N.length) (hN : N.length ≤ 1048576) (hM : M.length = N.length) (hx : N[k]? = some (kx : Int)) (he : M[k]? = some e) (hkx : kx < cs.length) (hnm : nmOf cs (kx : Int) = some nm) (hi : FC B b o cc cs a2 n2 c2 root 70 e (R e)) (ht : SCl B b o cc cs a2 n2 c2 root N M bd (k + 1) F) : SCl B b o cc cs a2 n2 c2 root N M bd k (fun r => callX (lamX [nm] (F r)) (R e (lamX [nm] (F r)))) := by
 intro Gz w a3 n3 c3 code r an am al cn cm cl hB hGl hrow hr hcl hRN hRM hbd
 obtain ⟨W0, HW0, HP⟩ := Pt.begin cc a2 n2 c2 root hB hrow hr
 have HGL : Hid (∀ g, Gz g → g < w.heap.size) := hGl
 obtain ⟨gn, pn, rfl, cN, hgn⟩ := hRN.at hx
 obtain ⟨gm, pm, rfl, cM, hgm⟩ := hRM.at he
 have HN : Hid (RowT w (some ⟨gn, pn, none⟩) N) := hRN
 have HM : Hid (RowT w (some ⟨gm, pm, none⟩) M) := hRM
 have HT : Hid (RowT w al bd) := hbd
 have HI : Hid (FC B b o cc cs a2 n2 c2 root 70 e (R e)) := hi
 have HL : Hid (SCl B b o cc cs a2 n2 c2 root N M bd (k + 1) F) := ht
 have HX : Hid (N[k]? = some (kx : Int)) := hx
 have HE0 : Hid (M[k]? = some e) := he
 have HNM : Hid (nmOf cs (kx : Int) = some nm) := hnm
 have HML : Hid (M.length = N.length) := hM
 have hkm : k < M.length := by omega
 have hkN : ((k : Int) == (N.length : Int)) = false := by rw [beq_eq_false_iff_ne]; omega
 clear hi ht hrow hr hbd hRN hRM hGl hB cN cM hgn hgm hx he hnm hM
 unfold xV
 go_enter Try.func91, Try.ntmps91
 go_upto_region 3 with fail
 rw [HW0.out]
 clear HW0
 obtain ⟨a10, n10, c10, k10, HF10, HX10, HZ10, hK10, hws0, hws1, hnn, ⟨x0, x1, x2, x3, x4, xf0, xf1, xf2, xf3, xf4⟩, z0, z1, z2, z3, z4, zf0, zf1, zf2, zf3, zf4⟩ := HP.out.opn
 replace HN := hid (HN.out.kt hK10)
 replace HM := hid (HM.out.kt hK10)
 replace HT := hid (HT.out.kt hK10)
 clear HP hK10
 go_cut [11, 12] (fun sv iv wx => sv = .string nm ∧ iv = .bool true ∧ Pt Gz w W0 wx B b o cc cs a2 n2 c2 root (.slice a3 n3 c3) (r))
 case first =>
  obtain ⟨g7, p7, hq7, cN, hgn⟩ := HN.out.at HX.out
  obtain ⟨rfl, rfl⟩ : gn = g7 ∧ pn = p7 := by simpa using hq7
  have HSN : Hid (nm = (cel cs (kx : Int)).s) := nm_some HNM.out
  go_region_with (go_at_call 87; (refine (nm_call hg HF10.out kx hkx).mono ?_; rintro e9 v1 ⟨rfl, hb1⟩))
  all_goals (go_wp2_with fail; go_meet; exact ⟨by rw [← HSN.out], by rw [HNM.out]; rfl, Pt.below HF10.out HX10.out HZ10.out (KT.refl _) hb1⟩)
 case rest =>
  clear HF10 HX10 HZ10 hws0 hws1 hnn x0 x1 x2 x3 x4 xf0 xf1 xf2 xf3 xf4 z0 z1 z2 z3 z4 zf0 zf1 zf2 zf3 zf4
  obtain ⟨W1, rfl⟩ : ∃ x, x = wc := ⟨_, rfl⟩
  obtain ⟨rfl, rfl, hP1⟩ := hcut
  have HP : Hid (Pt Gz w W0 W1 B b o cc cs a2 n2 c2 root (.slice a3 n3 c3) (r)) := hP1
  clear hP1
  obtain ⟨a11, n11, c11, k11, HF11, HX11, HZ11, hK11, hws0, hws1, hnn, ⟨x0, x1, x2, x3, x4, xf0, xf1, xf2, xf3, xf4⟩, z0, z1, z2, z3, z4, zf0, zf1, zf2, zf3, zf4⟩ := HP.out.opn
  replace HN := hid (HN.out.kt hK11)
  replace HM := hid (HM.out.kt hK11)
  replace HT := hid (HT.out.kt hK11)
  clear HP hK11
  have hk1 : i64B ((k : Int) + 1) := ⟨by omega, by omega⟩
  go_wp2_with fail
  refine (star_at HL.out HF11.out HGL.out hcl HN.out HM.out HT.out).mono ?_
  rintro e v1 ⟨qa, qn, qc, qk, rfl, hx1, hg1, hs1⟩
  have hcut : Pt Gz w W1 (set5 v1 w.heap.size (.slice (some ⟨b, o, none⟩) cs.length cc) (.slice a2 n2 c2) (.slice qa qn qc) (.int .i64 root) (.int .i64 qk)) B b o cc cs a2 n2 c2 root (.slice a3 n3 c3) (F r) := Pt.next HF11.out HX11.out HZ11.out (KT.refl _) hx1 hg1 hs1
  obtain ⟨y0, y1, y2, y3, y4, yf0, yf1, yf2, yf3, yf4⟩ := HF11.out.cells hg1 HX11.out
  obtain ⟨zy0, zy1, zy2, zy3, zy4, zyf0, zyf1, zyf2, zyf3, zyf4⟩ := HF11.out.cells hg1 HZ11.out
  clear hx1 hg1 hs1
  clear HF11 HX11 HZ11 hws0 hws1 hnn x0 x1 x2 x3 x4 xf0 xf1 xf2 xf3 xf4 z0 z1 z2 z3 z4 zf0 zf1 zf2 zf3 zf4
  obtain ⟨s1, hEs1⟩ : ∃ q, q = F r := ⟨_, rfl⟩
  rw [← hEs1] at hcut
  have Es1 : Hid (s1 = F r) := hEs1
  clear hEs1
  have HP : Hid (Pt Gz w W1 (set5 v1 w.heap.size (.slice (some ⟨b, o, none⟩) cs.length cc) (.slice a2 n2 c2) (.slice qa qn qc) (.int .i64 root) (.int .i64 qk)) B b o cc cs a2 n2 c2 root (.slice a3 n3 c3) (s1)) := hcut
  clear hcut
  unfold xV
  go_upto_region 7 with fail
  clear y0 y1 y2 y3 y4 yf0 yf1 yf2 yf3 yf4 zy0 zy1 zy2 zy3 zy4 zyf0 zyf1 zyf2 zyf3 zyf4
  generalize hw : (set5 v1 w.heap.size (.slice (some ⟨b, o, none⟩) cs.length cc) (.slice a2 n2 c2) (.slice qa qn qc) (.int .i64 root) (.int .i64 qk)) = W2 at HP
  unfold set5 at hw
  rw [hw]
  clear hw
  obtain ⟨a12, n12, c12, k12, HF12, HX12, HZ12, hK12, hws0, hws1, hnn, ⟨x0, x1, x2, x3, x4, xf0, xf1, xf2, xf3, xf4⟩, z0, z1, z2, z3, z4, zf0, zf1, zf2, zf3, zf4⟩ := HP.out.opn
  replace HN := hid (HN.out.kt hK12)
  replace HM := hid (HM.out.kt hK12)
  replace HT := hid (HT.out.kt hK12)
  clear HP hK12
  go_cut [] (fun wx => Pt Gz w W2 wx B b o cc cs a2 n2 c2 root (.slice a3 n3 c3) (lamX [nm] s1))
  case first =>
   have hw2 : w.heap.size < W2.heap.size + 1 := by omega
   have hw3 : w.heap.size < W2.heap.size + 1 + 1 := by omega
   have hw4 : ¬ w.heap.size = W2.heap.size := by omega
   have hw5 : ¬ w.heap.size = W2.heap.size + 1 := by omega
   have hw6 : ¬ w.heap.size = W2.heap.size + 1 + 1 := by omega
   have HQ : Hid (putN s1 (lamN [nm] ((n12 : Int) - 1)) = lamX [nm] s1) := by show _ = _; rw [HF12.out.last]; rfl
   go_region_with (first | (go_at_call 71; (refine (l4Last_eq (some ⟨b, o, none⟩) a2 a12 cs.length n2 n12 cc c2 c12 root k12 _ (by omega)).mono ?_; rintro e v2 ⟨rfl, rfl⟩)) | (go_at_call 79; (refine (put_at HF12.out HGL.out (lamN [nm] ((n12 : Int) - 1)) (NewS.lit [nm] (by first | exact blk_drew (blk_at _ _ _ (by simp)) | exact blk_drew (blk_past (blk_at _ _ _ (by simp))) | exact blk_drew (blk_past (blk_past (blk_at _ _ _ (by simp)))) | exact blk_at _ _ _ (by simp) | exact blk_past (blk_at _ _ _ (by simp))) (by first | omega | (simp <;> omega))) (NewI.lit [((n12 : Int) - 1)] (by first | exact blk_drew (blk_at _ _ _ (by simp)) | exact blk_drew (blk_past (blk_at _ _ _ (by simp))) | exact blk_drew (blk_past (blk_past (blk_at _ _ _ (by simp)))) | exact blk_at _ _ _ (by simp) | exact blk_past (blk_at _ _ _ (by simp))) (by first | omega | (simp <;> omega))) (Nat.le_refl _) (Nat.le_refl _)).mono ?_; rintro e v1 ⟨qa, qn, qc, qk, rfl, hx1, hg1, hs1⟩; have HE : Hid _ := hx1; have HG : Hid _ := hg1; have HS : Hid _ := hs1; obtain ⟨y0, y1, y2, y3, y4, yf0, yf1, yf2, yf3, yf4⟩ := HF12.out.cells hg1 HX12.out; obtain ⟨zy0, zy1, zy2, zy3, zy4, zyf0, zyf1, zyf2, zyf3, zyf4⟩ := HF12.out.cells hg1 HZ12.out; clear hx1 hg1 hs1; unfold xV)))
   all_goals (go_wp2_with fail; go_meet; rw [← HQ.out]; exact Pt.next HF12.out HX12.out HZ12.out (KT.refl _) HE.out HG.out HS.out)
  case rest =>
   clear HF12 HX12 HZ12 hws0 hws1 hnn x0 x1 x2 x3 x4 xf0 xf1 xf2 xf3 xf4 z0 z1 z2 z3 z4 zf0 zf1 zf2 zf3 zf4
   obtain ⟨W3, rfl⟩ : ∃ x, x = wc := ⟨_, rfl⟩
   obtain ⟨s2, hEs2⟩ : ∃ q, q = lamX [nm] s1 := ⟨_, rfl⟩
   rw [← hEs2] at hcut
   have Es2 : Hid (s2 = lamX [nm] s1) := hEs2
   clear hEs2
   have HP : Hid (Pt Gz w W2 W3 B b o cc cs a2 n2 c2 root (.slice a3 n3 c3) (s2)) := hcut
   clear hcut
   obtain ⟨a13, n13, c13, k13, HF13, HX13, HZ13, hK13, hws0, hws1, hnn, ⟨x0, x1, x2, x3, x4, xf0, xf1, xf2, xf3, xf4⟩, z0, z1, z2, z3, z4, zf0, zf1, zf2, zf3, zf4⟩ := HP.out.opn
   replace HN := hid (HN.out.kt hK13)
   replace HM := hid (HM.out.kt hK13)
   replace HT := hid (HT.out.kt hK13)
   clear HP hK13
   go_wp2_with fail
   refine (l4Last_any (some ⟨b, o, none⟩) a2 a13 cs.length n2 n13 cc c2 c13 root k13 W3 (by omega)).mono ?_
   rintro e W4 ⟨rfl, hb1⟩
   have HP : Hid (Pt Gz w W3 W4 B b o cc cs a2 n2 c2 root (.slice a3 n3 c3) (s2)) := Pt.below HF13.out HX13.out HZ13.out (KT.refl _) hb1
   have HA : Hid ((n13 : Int) - 1 = lastN s2) := HF13.out.last
   clear hb1
   clear HF13 HX13 HZ13 hws0 hws1 hnn x0 x1 x2 x3 x4 xf0 xf1 xf2 xf3 xf4 z0 z1 z2 z3 z4 zf0 zf1 zf2 zf3 zf4
   obtain ⟨a14, n14, c14, k14, HF14, HX14, HZ14, hK14, hws0, hws1, hnn, ⟨x0, x1, x2, x3, x4, xf0, xf1, xf2, xf3, xf4⟩, z0, z1, z2, z3, z4, zf0, zf1, zf2, zf3, zf4⟩ := HP.out.opn
   replace HN := hid (HN.out.kt hK14)
   replace HM := hid (HM.out.kt hK14)
   replace HT := hid (HT.out.kt hK14)
   clear HP hK14
   go_upto_region 9 with fail
   go_cut [] (fun wx => Pt Gz w W4 wx B b o cc cs a2 n2 c2 root (.slice a3 n3 c3) (R e s2))
   case first =>
    obtain ⟨g8, p8, hq8, cM, hgm⟩ := HM.out.at HE0.out
    obtain ⟨rfl, rfl⟩ : gm = g8 ∧ pm = p8 := by simpa using hq8
    go_region_with (go_at_call 70; (refine (form_at HI.out HF14.out HGL.out).mono ?_; rintro e v1 ⟨qa, qn, qc, qk, rfl, hx1, hg1, hs1⟩; have HE : Hid _ := hx1; have HG : Hid _ := hg1; have HS : Hid _ := hs1; obtain ⟨y0, y1, y2, y3, y4, yf0, yf1, yf2, yf3, yf4⟩ := HF14.out.cells hg1 HX14.out; obtain ⟨zy0, zy1, zy2, zy3, zy4, zyf0, zyf1, zyf2, zyf3, zyf4⟩ := HF14.out.cells hg1 HZ14.out; clear hx1 hg1 hs1; unfold xV))
    all_goals (go_wp2_with fail; go_meet; exact Pt.next HF14.out HX14.out HZ14.out (KT.refl _) HE.out HG.out HS.out)
   case rest =>
    clear HF14 HX14 HZ14 hws0 hws1 hnn x0 x1 x2 x3 x4 xf0 xf1 xf2 xf3 xf4 z0 z1 z2 z3 z4 zf0 zf1 zf2 zf3 zf4
    obtain ⟨W5, rfl⟩ : ∃ x, x = wc := ⟨_, rfl⟩
    obtain ⟨s3, hEs3⟩ : ∃ q, q = R e s2 := ⟨_, rfl⟩
    rw [← hEs3] at hcut
    have Es3 : Hid (s3 = R e s2) := hEs3
    clear hEs3
    have HP : Hid (Pt Gz w W4 W5 B b o cc cs a2 n2 c2 root (.slice a3 n3 c3) (s3)) := hcut
    clear hcut
    obtain ⟨a15, n15, c15, k15, HF15, HX15, HZ15, hK15, hws0, hws1, hnn, ⟨x0, x1, x2, x3, x4, xf0, xf1, xf2, xf3, xf4⟩, z0, z1, z2, z3, z4, zf0, zf1, zf2, zf3, zf4⟩ := HP.out.opn
    replace HN := hid (HN.out.kt hK15)
    replace HM := hid (HM.out.kt hK15)
    replace HT := hid (HT.out.kt hK15)
    clear HP hK15
    go_upto_region 10 with fail
    have HQ : Hid (putN s3 (callN [((n13 : Int) - 1), ((n15 : Int) - 1)]) = callX (lamX [nm] (F r)) (R e (lamX [nm] (F r)))) := by show _ = _; rw [HA.out, HF15.out.last, Es3.out, Es2.out, Es1.out] <;> rfl
    go_region_with (first | (go_at_call 71; (refine (l4Last_eq (some ⟨b, o, none⟩) a2 a15 cs.length n2 n15 cc c2 c15 root k15 _ (by omega)).mono ?_; rintro e v2 ⟨rfl, rfl⟩)) | (go_at_call 79; (refine (put_at HF15.out HGL.out (callN [((n13 : Int) - 1), ((n15 : Int) - 1)]) (NewS.nil _ _ _) (NewI.lit [((n13 : Int) - 1), ((n15 : Int) - 1)] (by first | exact blk_drew (blk_at _ _ _ (by simp)) | exact blk_drew (blk_past (blk_at _ _ _ (by simp))) | exact blk_drew (blk_past (blk_past (blk_at _ _ _ (by simp)))) | exact blk_at _ _ _ (by simp) | exact blk_past (blk_at _ _ _ (by simp))) (by first | omega | (simp <;> omega))) (Nat.le_refl _) (Nat.le_refl _)).mono ?_; rintro e v1 ⟨qa, qn, qc, qk, rfl, hx1, hg1, hs1⟩; have HE : Hid _ := hx1; have HG : Hid _ := hg1; have HS : Hid _ := hs1; obtain ⟨y0, y1, y2, y3, y4, yf0, yf1, yf2, yf3, yf4⟩ := HF15.out.cells hg1 HX15.out; obtain ⟨zy0, zy1, zy2, zy3, zy4, zyf0, zyf1, zyf2, zyf3, zyf4⟩ := HF15.out.cells hg1 HZ15.out; clear hx1 hg1 hs1; unfold xV)))
    all_goals (try go_wp2)
    all_goals
     refine bodyPost_ret (fin104 rfl rfl (set5_same _ _ _ _ _ (HF15.out.rep.kt HG.out (by decide) HZ15.out) _ _ _ _ _)) rfl ?_
     rw [← HQ.out]
     exact HF15.out.ret HZ15.out HE.out HG.out HS.out
theorem l4Star_bad (hg : Good cs) (N M bd : List Int) (k kx : Nat) (hk : k < N.length) (hN : N.length ≤ 1048576) (hx : N[k]? = some (kx : Int)) (hkx : kx < cs.length) (hnm : nmOf cs (kx : Int) = none) : SCl B b o cc cs a2 n2 c2 root N M bd k (fun r => failN r 1) := by
 intro Gz w a3 n3 c3 code r an am al cn cm cl hB hGl hrow hr hcl hRN hRM hbd
 obtain ⟨W0, HW0, HP⟩ := Pt.begin cc a2 n2 c2 root hB hrow hr
 have HGL : Hid (∀ g, Gz g → g < w.heap.size) := hGl
 obtain ⟨gn, pn, rfl, cN, hgn⟩ := hRN.at hx
 have HN : Hid (RowT w (some ⟨gn, pn, none⟩) N) := hRN
 have HX : Hid (N[k]? = some (kx : Int)) := hx
 have HNM : Hid (nmOf cs (kx : Int) = none) := hnm
 have hkN : ((k : Int) == (N.length : Int)) = false := by rw [beq_eq_false_iff_ne]; omega
 clear hrow hr hbd hRN hRM hGl hB cN hgn hx hnm
 unfold xV
 go_enter Try.func91, Try.ntmps91
 go_upto_region 3 with fail
 rw [HW0.out]
 clear HW0
 obtain ⟨a10, n10, c10, k10, HF10, HX10, HZ10, hK10, hws0, hws1, hnn, ⟨x0, x1, x2, x3, x4, xf0, xf1, xf2, xf3, xf4⟩, z0, z1, z2, z3, z4, zf0, zf1, zf2, zf3, zf4⟩ := HP.out.opn
 replace HN := hid (HN.out.kt hK10)
 clear HP hK10
 go_cut [11, 12] (fun sv iv wx => ∃ nm, sv = .string nm ∧ iv = .bool false ∧ Pt Gz w W0 wx B b o cc cs a2 n2 c2 root (.slice a3 n3 c3) (r))
 case first =>
  obtain ⟨g7, p7, hq7, cN, hgn⟩ := HN.out.at HX.out
  obtain ⟨rfl, rfl⟩ : gn = g7 ∧ pn = p7 := by simpa using hq7
  go_region_with (go_at_call 87; (refine (nm_call hg HF10.out kx hkx).mono ?_; rintro e9 v1 ⟨rfl, hb1⟩))
  all_goals (go_wp2_with fail; go_meet; exact ⟨_, rfl, by rw [HNM.out]; rfl, Pt.below HF10.out HX10.out HZ10.out (KT.refl _) hb1⟩)
 case rest =>
  clear HF10 HX10 HZ10 hws0 hws1 hnn x0 x1 x2 x3 x4 xf0 xf1 xf2 xf3 xf4 z0 z1 z2 z3 z4 zf0 zf1 zf2 zf3 zf4
  obtain ⟨W1, rfl⟩ : ∃ x, x = wc := ⟨_, rfl⟩
  obtain ⟨nm, rfl, rfl, hP1⟩ := hcut
  have HP : Hid (Pt Gz w W0 W1 B b o cc cs a2 n2 c2 root (.slice a3 n3 c3) (r)) := hP1
  clear hP1
  obtain ⟨a11, n11, c11, k11, HF11, HX11, HZ11, hK11, hws0, hws1, hnn, ⟨x0, x1, x2, x3, x4, xf0, xf1, xf2, xf3, xf4⟩, z0, z1, z2, z3, z4, zf0, zf1, zf2, zf3, zf4⟩ := HP.out.opn
  replace HN := hid (HN.out.kt hK11)
  clear HP hK11
  go_wp2_with fail
  refine (fail_at HF11.out).mono ?_
  rintro e v1 ⟨qa, qn, qc, qk, rfl, hx1, hg1, hs1⟩
  have HE : Hid _ := hx1
  have HG : Hid _ := hg1
  have HS : Hid _ := hs1
  obtain ⟨zy0, zy1, zy2, zy3, zy4, zyf0, zyf1, zyf2, zyf3, zyf4⟩ := HF11.out.cells hg1 HZ11.out
  clear hx1 hg1 hs1
  unfold xV
  go_wp2
  refine bodyPost_ret (fin104 rfl rfl (set5_same _ _ _ _ _ (HF11.out.rep.kt HG.out (by decide) HZ11.out) _ _ _ _ _)) rfl ?_
  exact HF11.out.ret HZ11.out HE.out HG.out HS.out
theorem l4Star_any (hg : Good cs) (N M bd : List Int) (hN : N.length ≤ 1048576) (hM : M.length = N.length) (hm : ∀ x ∈ N, 0 ≤ x ∧ x < (cs.length : Int)) (hf : ∀ x ∈ M, FC B b o cc cs a2 n2 c2 root 70 x (R x)) (hb : LC B b o cc cs a2 n2 c2 root 86 (bd) (bodyX R bd)) : ∀ (j k : Nat), j + k = N.length → SCl B b o cc cs a2 n2 c2 root N M bd k (starX cs R (N.drop k) (M.drop k) bd)
 | 0, k, h => by
  obtain rfl : k = N.length := by omega
  rw [List.drop_length, show M.drop N.length = [] from by rw [← hM]; exact List.drop_length]
  exact l4Star_end N M bd hb
 | j + 1, k, h => by
  have hk : k < N.length := by omega
  have hkm : k < M.length := by omega
  have hx : N[k]? = some N[k] := List.getElem?_eq_getElem hk
  have he : M[k]? = some M[k] := List.getElem?_eq_getElem hkm
  obtain ⟨h0, h1⟩ := hm _ (List.mem_of_getElem? hx)
  have hfe := hf _ (List.mem_of_getElem? he)
  rw [List.drop_eq_getElem_cons hk, List.drop_eq_getElem_cons hkm]
  generalize N[k] = x at *
  generalize M[k] = e at *
  obtain ⟨kx, rfl⟩ := Int.eq_ofNat_of_zero_le h0
  cases hn : nmOf cs (kx : Int) with
  | none =>
   have hfun : starX cs R ((kx : Int) :: N.drop (k + 1)) (e :: M.drop (k + 1)) bd = fun r => failN r 1 := by funext s; exact starX_none hn
   rw [hfun]
   exact l4Star_bad hg N M bd k kx hk hN hx (by omega) hn
  | some nm =>
   have hfun : starX cs R ((kx : Int) :: N.drop (k + 1)) (e :: M.drop (k + 1)) bd = fun r => callX (lamX [nm] (starX cs R (N.drop (k + 1)) (M.drop (k + 1)) bd r)) (R e (lamX [nm] (starX cs R (N.drop (k + 1)) (M.drop (k + 1)) bd r))) := by funext s; exact starX_ok hn
   rw [hfun]
   exact l4Star_more hg N M bd k kx e nm _ hk hN hM hx he (by omega) hn hfe (l4Star_any hg N M bd hN hM hm hf hb j (k + 1) (by omega))
end
end Go.Proofs.Ytgjeefedcfakdaa
