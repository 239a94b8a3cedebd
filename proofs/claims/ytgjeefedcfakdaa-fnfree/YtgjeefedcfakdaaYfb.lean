/- The model's expander: l4Form: what is no list. The model's expander: l4Form: lists. -/
import Derived.Deep.DeepCutAuto
import Derived.Test.YtgjeefedcfakdaaYqu
import Derived.Test.YtgjeefedcfakdaaYsp
set_option linter.unusedVariables false
namespace Go.Proofs.Ytgjeefedcfakdaa
open Go.ChangeShapes Go.WideShapes Go.ChangeAt Go.RowKit
section
variable {B b o cc : Nat} {cs : List Dat} {a2 : Option Addr} {n2 c2 : Nat} {root : Int} {R : Int → Sx → Sx}
theorem na_at {s : ByteArray} {q : Bool} (hs : s.size ≤ 1048576) (h : naL s.toList = q) (w : World) : Calls Try.prog 36 #[.string s] w fun e w' => Ans w (.bool q) e w' := by
 rw [← h]
 exact specNa_any s w hs
def FP (P : Sx → Prop) (B b o cc : Nat) (cs : List Dat) (a2 : Option Addr) (n2 c2 : Nat) (root : Int) (fn : Nat) (i : Int) (F : Sx → Sx) : Prop :=
 ∀ (Gz : Nat → Prop) (W : World) (a3 : Option Addr) (n3 c3 : Nat) (code : Int) (r : Sx), B ≤ W.heap.size → (∀ g, Gz g → g < W.heap.size) → RowD W B (some ⟨b, o, none⟩) cs → XRep Gz W B (.slice a3 n3 c3) n3 code r → P r →
  Calls Try.prog fn #[xV (.slice (some ⟨b, o, none⟩) cs.length cc) (.slice a2 n2 c2) (.slice a3 n3 c3) root code, .int .i64 i] W fun e w' => XEnd Gz B (.slice (some ⟨b, o, none⟩) cs.length cc) (.slice a2 n2 c2) a3 n3 c3 root (F r) W e w'
theorem FC.of {fn : Nat} {i : Int} {G : Sx → Sx} (h : FP (fun r => r.2 = 0) B b o cc cs a2 n2 c2 root fn i G) (k : FP (fun r => r.2 ≠ 0) B b o cc cs a2 n2 c2 root fn i fun r => r) : FC B b o cc cs a2 n2 c2 root fn i (fun r => if r.2 = 0 then G r else r) := by
 intro Gz W a3 n3 c3 code r h1 h2 h3 h4
 by_cases hz : r.2 = 0
 ·simp only [if_pos hz]
  exact h Gz W a3 n3 c3 code r h1 h2 h3 h4 hz
 ·simp only [if_neg hz]
  exact k Gz W a3 n3 c3 code r h1 h2 h3 h4 hz
theorem word_at {w W V : World} {v0 : Value} {r : Sx} {a : Option Addr} {n c : Nat} {code : Int} {Gz : Nat → Prop} {sw : ByteArray} {l : List Int} {F : Sx → Sx} (hI : WC B b o cc cs a2 n2 c2 root sw l F) (hF : Fx Gz w W B b o cs v0 (.slice a n c) n code r) (hG : ∀ g, Gz g → g < w.heap.size) {al : Option Addr} {cl : Nat} (hcl : l.length ≤ cl) (hr : RowT W al l) (hb : Below W.heap.size W V := by repeat first | exact Below.refl _ _ | refine Below.drew ?_ | refine Below.alloc ?_ (by simp <;> omega) _) :
  Calls Try.prog 82 #[xV (.slice (some ⟨b, o, none⟩) cs.length cc) (.slice a2 n2 c2) (.slice a n c) root code, .string sw, .slice al l.length cl] V fun e w' => XEnd Gz B (.slice (some ⟨b, o, none⟩) cs.length cc) (.slice a2 n2 c2) a n c root (F r) W e w' :=
 (hI Gz V a n c code r al cl (hF.below hb).bsz ((hF.below hb).gz hG) (hF.below hb).row (hF.below hb).rep hcl (hr.kt (KT.below hb))).mono fun e w' h => h.from hb
set_option maxRecDepth 100000 in
set_option maxHeartbeats 2000000 in
theorem l4Form_done (k : Int) : FP (fun r => r.2 ≠ 0) B b o cc cs a2 n2 c2 root 70 k (fun r => r) := by
 intro Gz w a3 n3 c3 code r hB hGl hrow hr hz
 obtain ⟨W0, HW0, HP⟩ := Pt.begin cc a2 n2 c2 root hB hrow hr
 have HGL : Hid (∀ g, Gz g → g < w.heap.size) := hGl
 have HZ0 : Hid (r.2 ≠ 0) := hz
 clear hrow hr hGl hB hz
 unfold xV
 go_enter Try.func70, Try.ntmps70
 go_upto_region 1 with fail
 rw [HW0.out]
 clear HW0
 obtain ⟨a10, n10, c10, k10, HF10, HX10, HZ10, hK10, hws0, hws1, hnn, ⟨x0, x1, x2, x3, x4, xf0, xf1, xf2, xf3, xf4⟩, z0, z1, z2, z3, z4, zf0, zf1, zf2, zf3, zf4⟩ := HP.out.opn
 clear HP hK10
 have hcz : (k10 != 0) = true := by rw [bne_iff_ne]; have := HF10.out.rep.2.1; rw [this]; exact HZ0.out
 go_wp2
 refine bodyPost_ret (fin104 rfl rfl (set5_same _ _ _ _ _ HZ10.out _ _ _ _ _)) rfl ?_
 exact HF10.out.done _ _ HZ10.out (by omega) _ _ _ _ _
set_option maxRecDepth 100000 in
set_option maxHeartbeats 2000000 in
theorem l4Form_flat1 (hg : Good cs) (k : Nat) (d : Dat) (hd : cs[k]? = some d) (hk : d.k = 1) (F : Sx → Sx) (hq : FC B b o cc cs a2 n2 c2 root 78 k F) : FP (fun r => r.2 = 0) B b o cc cs a2 n2 c2 root 70 k (F) := by
 intro Gz w a3 n3 c3 code r hB hGl hrow hr hz
 obtain ⟨W0, HW0, HP⟩ := Pt.begin cc a2 n2 c2 root hB hrow hr
 have HGL : Hid (∀ g, Gz g → g < w.heap.size) := hGl
 have HQU : Hid (FC B b o cc cs a2 n2 c2 root 78 k F) := hq
 clear hq
 have hkl : k < cs.length := (llt hd)
 have hcsn := hg.n
 have HZ0 : Hid (r.2 = 0) := hz
 have HD0 : Hid (cs[k]? = some d) := hd
 clear hrow hr hGl hB hd hz
 unfold xV
 go_enter Try.func70, Try.ntmps70
 go_upto_region 1 with fail
 rw [HW0.out]
 clear HW0
 obtain ⟨a10, n10, c10, k10, HF10, HX10, HZ10, hK10, hws0, hws1, hnn, ⟨x0, x1, x2, x3, x4, xf0, xf1, xf2, xf3, xf4⟩, z0, z1, z2, z3, z4, zf0, zf1, zf2, zf3, zf4⟩ := HP.out.opn
 clear HP hK10
 obtain rfl : k10 = 0 := by have := HF10.out.rep.2.1; rw [this]; exact HZ0.out
 obtain ⟨hbB, d0, d1, d2, d3, d4⟩ := HF10.out.dat HD0.out
 have hbw : b < W0.heap.size := by have := HF10.out.bsz; omega
 rw [hk] at d0
 clear hk
 go_upto_region 7 with fail
 have HP : Hid (Pt Gz w W0 (W0.alloc (Obj.cells #[.int .i64 1, .int .i64 d.n, .string d.s, .int .i64 d.l, .int .i64 d.r] 98)) B b o cc cs a2 n2 c2 root (.slice a3 n3 c3) (r)) := Pt.below HF10.out HX10.out HZ10.out (KT.refl _) (bR _ _)
 have HD : Hid (Blk98 W0.heap.size #[.int .i64 1, .int .i64 d.n, .string d.s, .int .i64 d.l, .int .i64 d.r] (W0.alloc (Obj.cells #[.int .i64 1, .int .i64 d.n, .string d.s, .int .i64 d.l, .int .i64 d.r] 98))) := blk_at _ _ _ rfl
 clear d0 d1 d2 d3 d4 hbw hbB
 clear HF10 HX10 HZ10 hws0 hws1 hnn x0 x1 x2 x3 x4 xf0 xf1 xf2 xf3 xf4 z0 z1 z2 z3 z4 zf0 zf1 zf2 zf3 zf4
 generalize W0.alloc (Obj.cells #[.int .i64 1, .int .i64 d.n, .string d.s, .int .i64 d.l, .int .i64 d.r] 98) = W1 at *
 generalize W0.heap.size = gd at *
 have HP : Hid (Pt Gz w W1 W1 B b o cc cs a2 n2 c2 root (.slice a3 n3 c3) r) := by obtain ⟨a, n, c, code, F, hX, hZ, hK⟩ := HP.out; exact ⟨a, n, c, code, F, hX, hZ, KT.refl _⟩
 obtain ⟨a11, n11, c11, k11, HF11, HX11, HZ11, hK11, hws0, hws1, hnn, ⟨x0, x1, x2, x3, x4, xf0, xf1, xf2, xf3, xf4⟩, z0, z1, z2, z3, z4, zf0, zf1, zf2, zf3, zf4⟩ := HP.out.opn
 clear HP hK11
 go_wp2_with fail
 refine (form_at HQU.out HF11.out HGL.out).mono ?_
 rintro e v1 ⟨qa, qn, qc, qk, rfl, hx1, hg1, hs1⟩
 have HE : Hid _ := hx1
 have HG : Hid _ := hg1
 have HS : Hid _ := hs1
 obtain ⟨zy0, zy1, zy2, zy3, zy4, zyf0, zyf1, zyf2, zyf3, zyf4⟩ := HF11.out.cells hg1 HZ11.out
 clear hx1 hg1 hs1
 unfold xV
 go_wp2
 refine bodyPost_ret (fin104 rfl rfl (set5_same _ _ _ _ _ (HF11.out.rep.kt HG.out (by decide) HZ11.out) _ _ _ _ _)) rfl ?_
 exact HF11.out.ret HZ11.out HE.out HG.out HS.out
set_option maxRecDepth 100000 in
set_option maxHeartbeats 2000000 in
theorem l4Form_flat2 (hg : Good cs) (k : Nat) (d : Dat) (hd : cs[k]? = some d) (hk : d.k = 2) (F : Sx → Sx) (hq : FC B b o cc cs a2 n2 c2 root 78 k F) : FP (fun r => r.2 = 0) B b o cc cs a2 n2 c2 root 70 k (F) := by
 intro Gz w a3 n3 c3 code r hB hGl hrow hr hz
 obtain ⟨W0, HW0, HP⟩ := Pt.begin cc a2 n2 c2 root hB hrow hr
 have HGL : Hid (∀ g, Gz g → g < w.heap.size) := hGl
 have HQU : Hid (FC B b o cc cs a2 n2 c2 root 78 k F) := hq
 clear hq
 have hkl : k < cs.length := (llt hd)
 have hcsn := hg.n
 have HZ0 : Hid (r.2 = 0) := hz
 have HD0 : Hid (cs[k]? = some d) := hd
 clear hrow hr hGl hB hd hz
 unfold xV
 go_enter Try.func70, Try.ntmps70
 go_upto_region 1 with fail
 rw [HW0.out]
 clear HW0
 obtain ⟨a10, n10, c10, k10, HF10, HX10, HZ10, hK10, hws0, hws1, hnn, ⟨x0, x1, x2, x3, x4, xf0, xf1, xf2, xf3, xf4⟩, z0, z1, z2, z3, z4, zf0, zf1, zf2, zf3, zf4⟩ := HP.out.opn
 clear HP hK10
 obtain rfl : k10 = 0 := by have := HF10.out.rep.2.1; rw [this]; exact HZ0.out
 obtain ⟨hbB, d0, d1, d2, d3, d4⟩ := HF10.out.dat HD0.out
 have hbw : b < W0.heap.size := by have := HF10.out.bsz; omega
 rw [hk] at d0
 clear hk
 go_upto_region 7 with fail
 have HP : Hid (Pt Gz w W0 (W0.alloc (Obj.cells #[.int .i64 2, .int .i64 d.n, .string d.s, .int .i64 d.l, .int .i64 d.r] 98)) B b o cc cs a2 n2 c2 root (.slice a3 n3 c3) (r)) := Pt.below HF10.out HX10.out HZ10.out (KT.refl _) (bR _ _)
 have HD : Hid (Blk98 W0.heap.size #[.int .i64 2, .int .i64 d.n, .string d.s, .int .i64 d.l, .int .i64 d.r] (W0.alloc (Obj.cells #[.int .i64 2, .int .i64 d.n, .string d.s, .int .i64 d.l, .int .i64 d.r] 98))) := blk_at _ _ _ rfl
 clear d0 d1 d2 d3 d4 hbw hbB
 clear HF10 HX10 HZ10 hws0 hws1 hnn x0 x1 x2 x3 x4 xf0 xf1 xf2 xf3 xf4 z0 z1 z2 z3 z4 zf0 zf1 zf2 zf3 zf4
 generalize W0.alloc (Obj.cells #[.int .i64 2, .int .i64 d.n, .string d.s, .int .i64 d.l, .int .i64 d.r] 98) = W1 at *
 generalize W0.heap.size = gd at *
 have HP : Hid (Pt Gz w W1 W1 B b o cc cs a2 n2 c2 root (.slice a3 n3 c3) r) := by obtain ⟨a, n, c, code, F, hX, hZ, hK⟩ := HP.out; exact ⟨a, n, c, code, F, hX, hZ, KT.refl _⟩
 obtain ⟨a11, n11, c11, k11, HF11, HX11, HZ11, hK11, hws0, hws1, hnn, ⟨x0, x1, x2, x3, x4, xf0, xf1, xf2, xf3, xf4⟩, z0, z1, z2, z3, z4, zf0, zf1, zf2, zf3, zf4⟩ := HP.out.opn
 clear HP hK11
 go_wp2_with fail
 refine (form_at HQU.out HF11.out HGL.out).mono ?_
 rintro e v1 ⟨qa, qn, qc, qk, rfl, hx1, hg1, hs1⟩
 have HE : Hid _ := hx1
 have HG : Hid _ := hg1
 have HS : Hid _ := hs1
 obtain ⟨zy0, zy1, zy2, zy3, zy4, zyf0, zyf1, zyf2, zyf3, zyf4⟩ := HF11.out.cells hg1 HZ11.out
 clear hx1 hg1 hs1
 unfold xV
 go_wp2
 refine bodyPost_ret (fin104 rfl rfl (set5_same _ _ _ _ _ (HF11.out.rep.kt HG.out (by decide) HZ11.out) _ _ _ _ _)) rfl ?_
 exact HF11.out.ret HZ11.out HE.out HG.out HS.out
set_option maxRecDepth 100000 in
set_option maxHeartbeats 2000000 in
theorem l4Form_nil (hg : Good cs) (k : Nat) (d : Dat) (hd : cs[k]? = some d) (hk : d.k = 4) : FP (fun r => r.2 = 0) B b o cc cs a2 n2 c2 root 70 k (fun r => failN r 1) := by
 intro Gz w a3 n3 c3 code r hB hGl hrow hr hz
 obtain ⟨W0, HW0, HP⟩ := Pt.begin cc a2 n2 c2 root hB hrow hr
 have HGL : Hid (∀ g, Gz g → g < w.heap.size) := hGl
 have hkl : k < cs.length := (llt hd)
 have hcsn := hg.n
 have HZ0 : Hid (r.2 = 0) := hz
 have HD0 : Hid (cs[k]? = some d) := hd
 clear hrow hr hGl hB hd hz
 unfold xV
 go_enter Try.func70, Try.ntmps70
 go_upto_region 1 with fail
 rw [HW0.out]
 clear HW0
 obtain ⟨a10, n10, c10, k10, HF10, HX10, HZ10, hK10, hws0, hws1, hnn, ⟨x0, x1, x2, x3, x4, xf0, xf1, xf2, xf3, xf4⟩, z0, z1, z2, z3, z4, zf0, zf1, zf2, zf3, zf4⟩ := HP.out.opn
 clear HP hK10
 obtain rfl : k10 = 0 := by have := HF10.out.rep.2.1; rw [this]; exact HZ0.out
 obtain ⟨hbB, d0, d1, d2, d3, d4⟩ := HF10.out.dat HD0.out
 have hbw : b < W0.heap.size := by have := HF10.out.bsz; omega
 rw [hk] at d0
 clear hk
 go_upto_region 13 with fail
 have HP : Hid (Pt Gz w W0 (W0.alloc (Obj.cells #[.int .i64 4, .int .i64 d.n, .string d.s, .int .i64 d.l, .int .i64 d.r] 98)) B b o cc cs a2 n2 c2 root (.slice a3 n3 c3) (r)) := Pt.below HF10.out HX10.out HZ10.out (KT.refl _) (bR _ _)
 have HD : Hid (Blk98 W0.heap.size #[.int .i64 4, .int .i64 d.n, .string d.s, .int .i64 d.l, .int .i64 d.r] (W0.alloc (Obj.cells #[.int .i64 4, .int .i64 d.n, .string d.s, .int .i64 d.l, .int .i64 d.r] 98))) := blk_at _ _ _ rfl
 clear d0 d1 d2 d3 d4 hbw hbB
 clear HF10 HX10 HZ10 hws0 hws1 hnn x0 x1 x2 x3 x4 xf0 xf1 xf2 xf3 xf4 z0 z1 z2 z3 z4 zf0 zf1 zf2 zf3 zf4
 generalize W0.alloc (Obj.cells #[.int .i64 4, .int .i64 d.n, .string d.s, .int .i64 d.l, .int .i64 d.r] 98) = W1 at *
 generalize W0.heap.size = gd at *
 have HP : Hid (Pt Gz w W1 W1 B b o cc cs a2 n2 c2 root (.slice a3 n3 c3) r) := by obtain ⟨a, n, c, code, F, hX, hZ, hK⟩ := HP.out; exact ⟨a, n, c, code, F, hX, hZ, KT.refl _⟩
 obtain ⟨a11, n11, c11, k11, HF11, HX11, HZ11, hK11, hws0, hws1, hnn, ⟨x0, x1, x2, x3, x4, xf0, xf1, xf2, xf3, xf4⟩, z0, z1, z2, z3, z4, zf0, zf1, zf2, zf3, zf4⟩ := HP.out.opn
 clear HP hK11
 go_wp2_with fail
 refine (fail_at HF11.out).mono ?_
 rintro e v1 ⟨qa, qn, qc, qk, rfl, hx1, hg1, hs1⟩
 have HE : Hid _ := hx1
 have HG : Hid _ := hg1
 have HS : Hid _ := hs1
 obtain ⟨zy0, zy1, zy2, zy3, zy4, zyf0, zyf1, zyf2, zyf3, zyf4⟩ := HF11.out.cells hg1 HZ11.out
 clear hx1 hg1 hs1
 unfold xV
 go_wp2
 refine bodyPost_ret (fin104 rfl rfl (set5_same _ _ _ _ _ (HF11.out.rep.kt HG.out (by decide) HZ11.out) _ _ _ _ _)) rfl ?_
 exact HF11.out.ret HZ11.out HE.out HG.out HS.out
set_option maxRecDepth 100000 in
set_option maxHeartbeats 2000000 in
theorem l4Form_name (hg : Good cs) (k : Nat) (d : Dat) (hd : cs[k]? = some d) (hk : d.k = 3) (hn : naL d.s.toList = true) : FP (fun r => r.2 = 0) B b o cc cs a2 n2 c2 root 70 k (fun r => putN r (varN d.s)) := by
 intro Gz w a3 n3 c3 code r hB hGl hrow hr hz
 obtain ⟨W0, HW0, HP⟩ := Pt.begin cc a2 n2 c2 root hB hrow hr
 have HGL : Hid (∀ g, Gz g → g < w.heap.size) := hGl
 have HNA : Hid (naL d.s.toList = true) := hn
 clear hn
 have hsz : d.s.size ≤ 1048576 := hg.sz d (List.mem_of_getElem? hd)
 have hkl : k < cs.length := (llt hd)
 have hcsn := hg.n
 have HZ0 : Hid (r.2 = 0) := hz
 have HD0 : Hid (cs[k]? = some d) := hd
 clear hrow hr hGl hB hd hz
 unfold xV
 go_enter Try.func70, Try.ntmps70
 go_upto_region 1 with fail
 rw [HW0.out]
 clear HW0
 obtain ⟨a10, n10, c10, k10, HF10, HX10, HZ10, hK10, hws0, hws1, hnn, ⟨x0, x1, x2, x3, x4, xf0, xf1, xf2, xf3, xf4⟩, z0, z1, z2, z3, z4, zf0, zf1, zf2, zf3, zf4⟩ := HP.out.opn
 clear HP hK10
 obtain rfl : k10 = 0 := by have := HF10.out.rep.2.1; rw [this]; exact HZ0.out
 obtain ⟨hbB, d0, d1, d2, d3, d4⟩ := HF10.out.dat HD0.out
 have hbw : b < W0.heap.size := by have := HF10.out.bsz; omega
 rw [hk] at d0
 clear hk
 go_upto_region 9 with fail
 have HP : Hid (Pt Gz w W0 (W0.alloc (Obj.cells #[.int .i64 3, .int .i64 d.n, .string d.s, .int .i64 d.l, .int .i64 d.r] 98)) B b o cc cs a2 n2 c2 root (.slice a3 n3 c3) (r)) := Pt.below HF10.out HX10.out HZ10.out (KT.refl _) (bR _ _)
 have HD : Hid (Blk98 W0.heap.size #[.int .i64 3, .int .i64 d.n, .string d.s, .int .i64 d.l, .int .i64 d.r] (W0.alloc (Obj.cells #[.int .i64 3, .int .i64 d.n, .string d.s, .int .i64 d.l, .int .i64 d.r] 98))) := blk_at _ _ _ rfl
 clear d0 d1 d2 d3 d4 hbw hbB
 clear HF10 HX10 HZ10 hws0 hws1 hnn x0 x1 x2 x3 x4 xf0 xf1 xf2 xf3 xf4 z0 z1 z2 z3 z4 zf0 zf1 zf2 zf3 zf4
 generalize W0.alloc (Obj.cells #[.int .i64 3, .int .i64 d.n, .string d.s, .int .i64 d.l, .int .i64 d.r] 98) = W1 at *
 generalize W0.heap.size = gd at *
 have HP : Hid (Pt Gz w W1 W1 B b o cc cs a2 n2 c2 root (.slice a3 n3 c3) r) := by obtain ⟨a, n, c, code, F, hX, hZ, hK⟩ := HP.out; exact ⟨a, n, c, code, F, hX, hZ, KT.refl _⟩
 obtain ⟨a11, n11, c11, k11, HF11, HX11, HZ11, hK11, hws0, hws1, hnn, ⟨x0, x1, x2, x3, x4, xf0, xf1, xf2, xf3, xf4⟩, z0, z1, z2, z3, z4, zf0, zf1, zf2, zf3, zf4⟩ := HP.out.opn
 clear HP hK11
 have e2 := zB 2 HD.out rfl
 go_wp2_with fail
 clear e2
 refine (na_at hsz HNA.out _).mono ?_
 rintro e W2 ⟨rfl, hb1⟩
 have HP : Hid (Pt Gz w W1 W2 B b o cc cs a2 n2 c2 root (.slice a3 n3 c3) (r)) := Pt.below HF11.out HX11.out HZ11.out (KT.refl _) hb1
 clear hb1
 clear HF11 HX11 HZ11 hws0 hws1 hnn x0 x1 x2 x3 x4 xf0 xf1 xf2 xf3 xf4 z0 z1 z2 z3 z4 zf0 zf1 zf2 zf3 zf4
 obtain ⟨a12, n12, c12, k12, HF12, HX12, HZ12, hK12, hws0, hws1, hnn, ⟨x0, x1, x2, x3, x4, xf0, xf1, xf2, xf3, xf4⟩, z0, z1, z2, z3, z4, zf0, zf1, zf2, zf3, zf4⟩ := HP.out.opn
 replace HD := hid (HD.out.kt hK12)
 clear HP hK12
 have e2 := zB 2 HD.out rfl
 go_wp2_with fail
 refine (put_at HF12.out HGL.out (varN d.s) (NewS.nil _ _ _) (NewI.nil _ _ _) (Nat.le_refl _) (Nat.le_refl _)).mono ?_
 rintro e v1 ⟨qa, qn, qc, qk, rfl, hx1, hg1, hs1⟩
 have HE : Hid _ := hx1
 have HG : Hid _ := hg1
 have HS : Hid _ := hs1
 obtain ⟨zy0, zy1, zy2, zy3, zy4, zyf0, zyf1, zyf2, zyf3, zyf4⟩ := HF12.out.cells hg1 HZ12.out
 clear hx1 hg1 hs1
 unfold xV
 go_wp2
 refine bodyPost_ret (fin104 rfl rfl (set5_same _ _ _ _ _ (HF12.out.rep.kt HG.out (by decide) HZ12.out) _ _ _ _ _)) rfl ?_
 exact HF12.out.ret HZ12.out HE.out HG.out HS.out
set_option maxRecDepth 100000 in
set_option maxHeartbeats 2000000 in
theorem l4Form_word (hg : Good cs) (k : Nat) (d : Dat) (hd : cs[k]? = some d) (hk : d.k = 3) (hn : naL d.s.toList = false) : FP (fun r => r.2 = 0) B b o cc cs a2 n2 c2 root 70 k (fun r => failN r 1) := by
 intro Gz w a3 n3 c3 code r hB hGl hrow hr hz
 obtain ⟨W0, HW0, HP⟩ := Pt.begin cc a2 n2 c2 root hB hrow hr
 have HGL : Hid (∀ g, Gz g → g < w.heap.size) := hGl
 have HNA : Hid (naL d.s.toList = false) := hn
 clear hn
 have hsz : d.s.size ≤ 1048576 := hg.sz d (List.mem_of_getElem? hd)
 have hkl : k < cs.length := (llt hd)
 have hcsn := hg.n
 have HZ0 : Hid (r.2 = 0) := hz
 have HD0 : Hid (cs[k]? = some d) := hd
 clear hrow hr hGl hB hd hz
 unfold xV
 go_enter Try.func70, Try.ntmps70
 go_upto_region 1 with fail
 rw [HW0.out]
 clear HW0
 obtain ⟨a10, n10, c10, k10, HF10, HX10, HZ10, hK10, hws0, hws1, hnn, ⟨x0, x1, x2, x3, x4, xf0, xf1, xf2, xf3, xf4⟩, z0, z1, z2, z3, z4, zf0, zf1, zf2, zf3, zf4⟩ := HP.out.opn
 clear HP hK10
 obtain rfl : k10 = 0 := by have := HF10.out.rep.2.1; rw [this]; exact HZ0.out
 obtain ⟨hbB, d0, d1, d2, d3, d4⟩ := HF10.out.dat HD0.out
 have hbw : b < W0.heap.size := by have := HF10.out.bsz; omega
 rw [hk] at d0
 clear hk
 go_upto_region 9 with fail
 have HP : Hid (Pt Gz w W0 (W0.alloc (Obj.cells #[.int .i64 3, .int .i64 d.n, .string d.s, .int .i64 d.l, .int .i64 d.r] 98)) B b o cc cs a2 n2 c2 root (.slice a3 n3 c3) (r)) := Pt.below HF10.out HX10.out HZ10.out (KT.refl _) (bR _ _)
 have HD : Hid (Blk98 W0.heap.size #[.int .i64 3, .int .i64 d.n, .string d.s, .int .i64 d.l, .int .i64 d.r] (W0.alloc (Obj.cells #[.int .i64 3, .int .i64 d.n, .string d.s, .int .i64 d.l, .int .i64 d.r] 98))) := blk_at _ _ _ rfl
 clear d0 d1 d2 d3 d4 hbw hbB
 clear HF10 HX10 HZ10 hws0 hws1 hnn x0 x1 x2 x3 x4 xf0 xf1 xf2 xf3 xf4 z0 z1 z2 z3 z4 zf0 zf1 zf2 zf3 zf4
 generalize W0.alloc (Obj.cells #[.int .i64 3, .int .i64 d.n, .string d.s, .int .i64 d.l, .int .i64 d.r] 98) = W1 at *
 generalize W0.heap.size = gd at *
 have HP : Hid (Pt Gz w W1 W1 B b o cc cs a2 n2 c2 root (.slice a3 n3 c3) r) := by obtain ⟨a, n, c, code, F, hX, hZ, hK⟩ := HP.out; exact ⟨a, n, c, code, F, hX, hZ, KT.refl _⟩
 obtain ⟨a11, n11, c11, k11, HF11, HX11, HZ11, hK11, hws0, hws1, hnn, ⟨x0, x1, x2, x3, x4, xf0, xf1, xf2, xf3, xf4⟩, z0, z1, z2, z3, z4, zf0, zf1, zf2, zf3, zf4⟩ := HP.out.opn
 clear HP hK11
 have e2 := zB 2 HD.out rfl
 go_wp2_with fail
 clear e2
 refine (na_at hsz HNA.out _).mono ?_
 rintro e W2 ⟨rfl, hb1⟩
 have HP : Hid (Pt Gz w W1 W2 B b o cc cs a2 n2 c2 root (.slice a3 n3 c3) (r)) := Pt.below HF11.out HX11.out HZ11.out (KT.refl _) hb1
 clear hb1
 clear HF11 HX11 HZ11 hws0 hws1 hnn x0 x1 x2 x3 x4 xf0 xf1 xf2 xf3 xf4 z0 z1 z2 z3 z4 zf0 zf1 zf2 zf3 zf4
 obtain ⟨a12, n12, c12, k12, HF12, HX12, HZ12, hK12, hws0, hws1, hnn, ⟨x0, x1, x2, x3, x4, xf0, xf1, xf2, xf3, xf4⟩, z0, z1, z2, z3, z4, zf0, zf1, zf2, zf3, zf4⟩ := HP.out.opn
 replace HD := hid (HD.out.kt hK12)
 clear HP hK12
 have e2 := zB 2 HD.out rfl
 go_wp2_with fail
 refine (fail_at HF12.out).mono ?_
 rintro e v1 ⟨qa, qn, qc, qk, rfl, hx1, hg1, hs1⟩
 have HE : Hid _ := hx1
 have HG : Hid _ := hg1
 have HS : Hid _ := hs1
 obtain ⟨zy0, zy1, zy2, zy3, zy4, zyf0, zyf1, zyf2, zyf3, zyf4⟩ := HF12.out.cells hg1 HZ12.out
 clear hx1 hg1 hs1
 unfold xV
 go_wp2
 refine bodyPost_ret (fin104 rfl rfl (set5_same _ _ _ _ _ (HF12.out.rep.kt HG.out (by decide) HZ12.out) _ _ _ _ _)) rfl ?_
 exact HF12.out.ret HZ12.out HE.out HG.out HS.out
set_option maxRecDepth 100000 in
set_option maxHeartbeats 2000000 in
theorem l4Form_nolist (hg : Good cs) (k : Nat) (d : Dat) (hd : cs[k]? = some d) (hk : d.k = 5) (hl : lstOf cs (k : Int) = none) : FP (fun r => r.2 = 0) B b o cc cs a2 n2 c2 root 70 k (fun r => failN r 1) := by
 intro Gz w a3 n3 c3 code r hB hGl hrow hr hz
 obtain ⟨W0, HW0, HP⟩ := Pt.begin cc a2 n2 c2 root hB hrow hr
 have HGL : Hid (∀ g, Gz g → g < w.heap.size) := hGl
 have HLS : Hid (lstOf cs (k : Int) = none) := hl
 clear hl
 have hkl : k < cs.length := (llt hd)
 have hcsn := hg.n
 have HZ0 : Hid (r.2 = 0) := hz
 have HD0 : Hid (cs[k]? = some d) := hd
 clear hrow hr hGl hB hd hz
 unfold xV
 go_enter Try.func70, Try.ntmps70
 go_upto_region 1 with fail
 rw [HW0.out]
 clear HW0
 obtain ⟨a10, n10, c10, k10, HF10, HX10, HZ10, hK10, hws0, hws1, hnn, ⟨x0, x1, x2, x3, x4, xf0, xf1, xf2, xf3, xf4⟩, z0, z1, z2, z3, z4, zf0, zf1, zf2, zf3, zf4⟩ := HP.out.opn
 clear HP hK10
 obtain rfl : k10 = 0 := by have := HF10.out.rep.2.1; rw [this]; exact HZ0.out
 obtain ⟨hbB, d0, d1, d2, d3, d4⟩ := HF10.out.dat HD0.out
 have hbw : b < W0.heap.size := by have := HF10.out.bsz; omega
 rw [hk] at d0
 clear hk
 go_upto_region 14 with fail
 have HP : Hid (Pt Gz w W0 (W0.alloc (Obj.cells #[.int .i64 5, .int .i64 d.n, .string d.s, .int .i64 d.l, .int .i64 d.r] 98)) B b o cc cs a2 n2 c2 root (.slice a3 n3 c3) (r)) := Pt.below HF10.out HX10.out HZ10.out (KT.refl _) (bR _ _)
 have HD : Hid (Blk98 W0.heap.size #[.int .i64 5, .int .i64 d.n, .string d.s, .int .i64 d.l, .int .i64 d.r] (W0.alloc (Obj.cells #[.int .i64 5, .int .i64 d.n, .string d.s, .int .i64 d.l, .int .i64 d.r] 98))) := blk_at _ _ _ rfl
 clear d0 d1 d2 d3 d4 hbw hbB
 clear HF10 HX10 HZ10 hws0 hws1 hnn x0 x1 x2 x3 x4 xf0 xf1 xf2 xf3 xf4 z0 z1 z2 z3 z4 zf0 zf1 zf2 zf3 zf4
 generalize W0.alloc (Obj.cells #[.int .i64 5, .int .i64 d.n, .string d.s, .int .i64 d.l, .int .i64 d.r] 98) = W1 at *
 generalize W0.heap.size = gd at *
 have HP : Hid (Pt Gz w W1 W1 B b o cc cs a2 n2 c2 root (.slice a3 n3 c3) r) := by obtain ⟨a, n, c, code, F, hX, hZ, hK⟩ := HP.out; exact ⟨a, n, c, code, F, hX, hZ, KT.refl _⟩
 obtain ⟨a11, n11, c11, k11, HF11, HX11, HZ11, hK11, hws0, hws1, hnn, ⟨x0, x1, x2, x3, x4, xf0, xf1, xf2, xf3, xf4⟩, z0, z1, z2, z3, z4, zf0, zf1, zf2, zf3, zf4⟩ := HP.out.opn
 clear HP hK11
 clear HD
 go_wp2_with fail
 refine (lst_at hg HF11.out k hkl).mono ?_
 rintro e W2 ⟨u, cu, L, ok, rfl, hb1, _, h2, h3, h4, h5, h6⟩
 have HP : Hid (Pt Gz w W1 W2 B b o cc cs a2 n2 c2 root (.slice a3 n3 c3) (r)) := Pt.below HF11.out HX11.out HZ11.out (KT.refl _) hb1
 have HRB : Hid (RowT W2 u L) := h2
 have HCO : Hid (if ok = true then lstOf cs (k : Int) = some L else lstOf cs (k : Int) = none) := h5
 clear hb1 h2 h5 h6
 obtain rfl : ok = false := by
  have h := HCO.out
  rw [HLS.out] at h
  cases ok
  ·rfl
  ·simp at h
 clear HCO h3 h4
 clear HF11 HX11 HZ11 hws0 hws1 hnn x0 x1 x2 x3 x4 xf0 xf1 xf2 xf3 xf4 z0 z1 z2 z3 z4 zf0 zf1 zf2 zf3 zf4
 obtain ⟨a12, n12, c12, k12, HF12, HX12, HZ12, hK12, hws0, hws1, hnn, ⟨x0, x1, x2, x3, x4, xf0, xf1, xf2, xf3, xf4⟩, z0, z1, z2, z3, z4, zf0, zf1, zf2, zf3, zf4⟩ := HP.out.opn
 clear HP hK12
 go_wp2_with fail
 refine (fail_at HF12.out).mono ?_
 rintro e v1 ⟨qa, qn, qc, qk, rfl, hx1, hg1, hs1⟩
 have HE : Hid _ := hx1
 have HG : Hid _ := hg1
 have HS : Hid _ := hs1
 obtain ⟨zy0, zy1, zy2, zy3, zy4, zyf0, zyf1, zyf2, zyf3, zyf4⟩ := HF12.out.cells hg1 HZ12.out
 clear hx1 hg1 hs1
 unfold xV
 go_wp2
 refine bodyPost_ret (fin104 rfl rfl (set5_same _ _ _ _ _ (HF12.out.rep.kt HG.out (by decide) HZ12.out) _ _ _ _ _)) rfl ?_
 exact HF12.out.ret HZ12.out HE.out HG.out HS.out
end
end Go.Proofs.Ytgjeefedcfakdaa
set_option linter.unusedVariables false
namespace Go.Proofs.Ytgjeefedcfakdaa
open Go.ChangeShapes Go.WideShapes Go.ChangeAt Go.RowKit
section
variable {B b o cc : Nat} {cs : List Dat} {a2 : Option Addr} {n2 c2 : Nat} {root : Int} {R : Int → Sx → Sx}
set_option maxRecDepth 100000 in
set_option maxHeartbeats 16000000 in
theorem l4Form_special (hg : Good cs) (k : Nat) (dp : Dat) (hdp : cs[k]? = some dp) (hk : dp.k = 5) (kh : Nat) (t : List Int) (hl : lstOf cs (k : Int) = some ((kh : Int) :: t)) (d : Dat) (hdh : cs[kh]? = some d) (hk3 : d.k = 3) (hna : naL d.s.toList = false) (F : Sx → Sx) (hw : WC B b o cc cs a2 n2 c2 root d.s t F) : FP (fun r => r.2 = 0) B b o cc cs a2 n2 c2 root 70 k (F) := by
 intro Gz w a3 n3 c3 code r hB hGl hrow hr hz
 obtain ⟨W0, HW0, HP⟩ := Pt.begin cc a2 n2 c2 root hB hrow hr
 have HGL : Hid (∀ g, Gz g → g < w.heap.size) := hGl
 have HW : Hid (WC B b o cc cs a2 n2 c2 root d.s t F) := hw
 have HDH : Hid (cs[kh]? = some d) := hdh
 have HNA : Hid (naL d.s.toList = false) := hna
 have HK3 : Hid (d.k = 3) := hk3
 have hsz : d.s.size ≤ 1048576 := hg.sz d (List.mem_of_getElem? hdh)
 clear hw hdh hna hk3
 have HLS : Hid (lstOf cs (k : Int) = some ((kh : Int) :: t)) := hl
 clear hl
 have hkl : k < cs.length := (llt hdp)
 have hcsn := hg.n
 have HZ0 : Hid (r.2 = 0) := hz
 have HD0 : Hid (cs[k]? = some dp) := hdp
 clear hrow hr hGl hB hdp hz
 unfold xV
 go_enter Try.func70, Try.ntmps70
 go_upto_region 1 with fail
 rw [HW0.out]
 clear HW0
 obtain ⟨a10, n10, c10, k10, HF10, HX10, HZ10, hK10, hws0, hws1, hnn, ⟨x0, x1, x2, x3, x4, xf0, xf1, xf2, xf3, xf4⟩, z0, z1, z2, z3, z4, zf0, zf1, zf2, zf3, zf4⟩ := HP.out.opn
 clear HP hK10
 obtain rfl : k10 = 0 := by have := HF10.out.rep.2.1; rw [this]; exact HZ0.out
 obtain ⟨hbB, d0, d1, d2, d3, d4⟩ := HF10.out.dat HD0.out
 have hbw : b < W0.heap.size := by have := HF10.out.bsz; omega
 rw [hk] at d0
 clear hk
 go_upto_region 14 with fail
 have HP : Hid (Pt Gz w W0 (W0.alloc (Obj.cells #[.int .i64 5, .int .i64 dp.n, .string dp.s, .int .i64 dp.l, .int .i64 dp.r] 98)) B b o cc cs a2 n2 c2 root (.slice a3 n3 c3) (r)) := Pt.below HF10.out HX10.out HZ10.out (KT.refl _) (bR _ _)
 have HD : Hid (Blk98 W0.heap.size #[.int .i64 5, .int .i64 dp.n, .string dp.s, .int .i64 dp.l, .int .i64 dp.r] (W0.alloc (Obj.cells #[.int .i64 5, .int .i64 dp.n, .string dp.s, .int .i64 dp.l, .int .i64 dp.r] 98))) := blk_at _ _ _ rfl
 clear d0 d1 d2 d3 d4 hbw hbB
 clear HF10 HX10 HZ10 hws0 hws1 hnn x0 x1 x2 x3 x4 xf0 xf1 xf2 xf3 xf4 z0 z1 z2 z3 z4 zf0 zf1 zf2 zf3 zf4
 generalize W0.alloc (Obj.cells #[.int .i64 5, .int .i64 dp.n, .string dp.s, .int .i64 dp.l, .int .i64 dp.r] 98) = W1 at *
 generalize W0.heap.size = gd at *
 have HP : Hid (Pt Gz w W1 W1 B b o cc cs a2 n2 c2 root (.slice a3 n3 c3) r) := by obtain ⟨a, n, c, code, F, hX, hZ, hK⟩ := HP.out; exact ⟨a, n, c, code, F, hX, hZ, KT.refl _⟩
 obtain ⟨a11, n11, c11, k11, HF11, HX11, HZ11, hK11, hws0, hws1, hnn, ⟨x0, x1, x2, x3, x4, xf0, xf1, xf2, xf3, xf4⟩, z0, z1, z2, z3, z4, zf0, zf1, zf2, zf3, zf4⟩ := HP.out.opn
 clear HP hK11
 clear HD
 go_wp2_with fail
 refine (lst_at hg HF11.out k hkl).mono ?_
 rintro e W2 ⟨u, cu, L, ok, rfl, hb1, _, h2, h3, h4, h5, h6⟩
 have HP : Hid (Pt Gz w W1 W2 B b o cc cs a2 n2 c2 root (.slice a3 n3 c3) (r)) := Pt.below HF11.out HX11.out HZ11.out (KT.refl _) hb1
 have HRB : Hid (RowT W2 u L) := h2
 have HCO : Hid (if ok = true then lstOf cs (k : Int) = some L else lstOf cs (k : Int) = none) := h5
 clear hb1 h2 h5 h6
 obtain ⟨rfl, rfl⟩ : ok = true ∧ L = (kh : Int) :: t := by
  have h := HCO.out
  rw [HLS.out] at h
  cases ok
  ·simp at h
  ·simp at h
   exact ⟨rfl, h.symm⟩
 have hcu' : t.length + 1 ≤ cu := h4
 have hLu' : t.length + 1 ≤ cs.length := h3
 obtain ⟨g2, p2, rfl⟩ := HRB.out.some
 clear HCO h3 h4
 clear HF11 HX11 HZ11 hws0 hws1 hnn x0 x1 x2 x3 x4 xf0 xf1 xf2 xf3 xf4 z0 z1 z2 z3 z4 zf0 zf1 zf2 zf3 zf4
 obtain ⟨a12, n12, c12, k12, HF12, HX12, HZ12, hK12, hws0, hws1, hnn, ⟨x0, x1, x2, x3, x4, xf0, xf1, xf2, xf3, xf4⟩, z0, z1, z2, z3, z4, zf0, zf1, zf2, zf3, zf4⟩ := HP.out.opn
 clear HP hK12
 clear HD0 HLS HZ0
 go_upto_region 17 with fail
 go_cut [8] (fun pv wx => ∃ gd, pv = .pointer (some ⟨gd, 0, none⟩) ∧ wx.heap[gd]? = some (Obj.cells #[.int .i64 d.k, .int .i64 d.n, .string d.s, .int .i64 d.l, .int .i64 d.r] 98) ∧ Pt Gz w W2 wx B b o cc cs a2 n2 c2 root (.slice a3 n3 c3) (r))
 case first =>
  have c1 := HRB.out.head
  have hgw := HRB.out.lt
  have hd := HDH.out
  obtain ⟨hbB, d0, d1, d2, d3, d4⟩ := HF12.out.dat hd
  have hbw : b < W2.heap.size := by have := HF12.out.bsz; omega
  have hkl : kh < cs.length := (llt hd)
  have hcsn := hg.n
  go_region_with (fail)
  all_goals (go_wp2_with fail; go_meet; exact ⟨_, rfl, (by first | exact blk_drew (blk_at _ _ _ rfl) | exact blk_at _ _ _ rfl), Pt.below HF12.out HX12.out HZ12.out (KT.refl _) (by first | exact (bR _ _).drew | exact (Below.refl _ _).drew.alloc (Nat.le_refl _) _ | exact bR _ _)⟩)
 case rest =>
  clear HF12 HX12 HZ12 hws0 hws1 hnn x0 x1 x2 x3 x4 xf0 xf1 xf2 xf3 xf4 z0 z1 z2 z3 z4 zf0 zf1 zf2 zf3 zf4
  obtain ⟨W3, rfl⟩ : ∃ x, x = wc := ⟨_, rfl⟩
  obtain ⟨gd, rfl, hd98, hP1⟩ := hcut
  have HP : Hid (Pt Gz w W2 W3 B b o cc cs a2 n2 c2 root (.slice a3 n3 c3) (r)) := hP1
  clear hP1
  obtain ⟨e0, e1, e2, e3, e4, _, _, _, _, _⟩ := cells5 hd98
  obtain ⟨a13, n13, c13, k13, HF13, HX13, HZ13, hK13, hws0, hws1, hnn, ⟨x0, x1, x2, x3, x4, xf0, xf1, xf2, xf3, xf4⟩, z0, z1, z2, z3, z4, zf0, zf1, zf2, zf3, zf4⟩ := HP.out.opn
  replace HRB := hid (HRB.out.kt hK13)
  clear HP hK13
  have HDh : Hid (Blk98 gd #[.int .i64 d.k, .int .i64 d.n, .string d.s, .int .i64 d.l, .int .i64 d.r] W3) := hd98
  clear hd98 e0 e1 e2 e3 e4
  have qk3 : (d.k == 3) = true := beq_iff_eq.2 HK3.out
  clear HK3 HDH hcsn hLu' hkl
  obtain ⟨e0, e2⟩ := zj2 0 2 HDh.out rfl rfl
  go_wp2_with fail
  clear e0 e2
  refine (na_at hsz HNA.out _).mono ?_
  rintro e W4 ⟨rfl, hb1⟩
  have HP : Hid (Pt Gz w W3 W4 B b o cc cs a2 n2 c2 root (.slice a3 n3 c3) (r)) := Pt.below HF13.out HX13.out HZ13.out (KT.refl _) hb1
  clear hb1
  clear HF13 HX13 HZ13 hws0 hws1 hnn x0 x1 x2 x3 x4 xf0 xf1 xf2 xf3 xf4 z0 z1 z2 z3 z4 zf0 zf1 zf2 zf3 zf4
  obtain ⟨a14, n14, c14, k14, HF14, HX14, HZ14, hK14, hws0, hws1, hnn, ⟨x0, x1, x2, x3, x4, xf0, xf1, xf2, xf3, xf4⟩, z0, z1, z2, z3, z4, zf0, zf1, zf2, zf3, zf4⟩ := HP.out.opn
  replace HRB := hid (HRB.out.kt hK14)
  replace HDh := hid (HDh.out.kt hK14)
  clear HP hK14
  go_upto_region 19 with fail
  have e2 := zB 2 HDh.out rfl
  have hgh := (alt HDh.out)
  clear HNA qk3 hsz
  by_cases hc1 : cu = 1
  ·have HLZ : Hid (t = []) := List.length_eq_zero_iff.1 (by omega); subst hc1; have HCU : Hid (t.length ≤ 0) := by show _ ≤ _; omega
   clear hcu'
   go_region_with (go_at_call 82; (refine (word_at HW.out HF14.out HGL.out (al := (some ⟨g2, p2, none⟩)) (cl := 0) HCU.out (by rw [HLZ.out]; exact RowT.nil _ _)).mono ?_; rintro e v1 ⟨qa, qn, qc, qk, rfl, hx1, hg1, hs1⟩; have HE : Hid _ := hx1; have HG : Hid _ := hg1; have HS : Hid _ := hs1; obtain ⟨y0, y1, y2, y3, y4, yf0, yf1, yf2, yf3, yf4⟩ := HF14.out.cells hg1 HX14.out; obtain ⟨zy0, zy1, zy2, zy3, zy4, zyf0, zyf1, zyf2, zyf3, zyf4⟩ := HF14.out.cells hg1 HZ14.out; clear hx1 hg1 hs1; unfold xV))
   all_goals (try go_wp2)
   all_goals
    refine bodyPost_ret (fin104 rfl rfl (set5_same _ _ _ _ _ (HF14.out.rep.kt HG.out (by decide) HZ14.out) _ _ _ _ _)) rfl ?_
    exact HF14.out.ret HZ14.out HE.out HG.out HS.out
  ·have hc2 : 1 < cu := by omega
   go_region_with (go_at_call 82; (refine (word_at HW.out HF14.out HGL.out (al := (some ⟨g2, p2 + 1, none⟩)) (cl := cu - 1) (by omega) HRB.out.tail).mono ?_; rintro e v1 ⟨qa, qn, qc, qk, rfl, hx1, hg1, hs1⟩; have HE : Hid _ := hx1; have HG : Hid _ := hg1; have HS : Hid _ := hs1; obtain ⟨y0, y1, y2, y3, y4, yf0, yf1, yf2, yf3, yf4⟩ := HF14.out.cells hg1 HX14.out; obtain ⟨zy0, zy1, zy2, zy3, zy4, zyf0, zyf1, zyf2, zyf3, zyf4⟩ := HF14.out.cells hg1 HZ14.out; clear hx1 hg1 hs1; unfold xV))
   all_goals (try go_wp2)
   all_goals
    refine bodyPost_ret (fin104 rfl rfl (set5_same _ _ _ _ _ (HF14.out.rep.kt HG.out (by decide) HZ14.out) _ _ _ _ _)) rfl ?_
    exact HF14.out.ret HZ14.out HE.out HG.out HS.out
end
end Go.Proofs.Ytgjeefedcfakdaa
