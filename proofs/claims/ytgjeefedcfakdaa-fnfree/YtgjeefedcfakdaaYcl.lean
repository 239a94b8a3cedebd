/- The model's expander: l4Special: quote, if, and parts of a wrong number. The model's expander: l4Special: set. The model's expander: l4Special: when. The model's expander: cond, plain. -/
import Derived.Deep.DeepCutAuto
import Derived.Test.YtgjeefedcfakdaaYsp
import Derived.Test.YtgjeefedcfakdaaYap
set_option linter.unusedVariables false
namespace Go.Proofs.Ytgjeefedcfakdaa
open Go.ChangeShapes Go.WideShapes Go.ChangeAt Go.RowKit
section
variable {B b o cc : Nat} {cs : List Dat} {a2 : Option Addr} {n2 c2 : Nat} {root : Int} {R : Int → Sx → Sx}
set_option maxRecDepth 100000 in
set_option maxHeartbeats 2000000 in
theorem l4Bad_quote (sw : ByteArray) (hw : sw.toList = [113, 117, 111, 116, 101]) (l : List Int) (hl : l.length ≤ 1048576) (hs : l.length ≠ 1) : WC B b o cc cs a2 n2 c2 root sw (l) ((fun r => failN r 1)) := by
 intro Gz w a3 n3 c3 code r al cl hB hGl hrow hr hcl hal
 obtain ⟨W0, HW0, HP⟩ := Pt.begin cc a2 n2 c2 root hB hrow hr
 have HGL : Hid (∀ g, Gz g → g < w.heap.size) := hGl
 have ws0 : (sw.toList == [113, 117, 111, 116, 101]) = true := beq_iff_eq.2 hw
 have ls1 : ((l.length : Int) == 1) = false := by rw [beq_eq_false_iff_ne]; omega
 clear hw hs hrow hr hal hGl hB
 unfold xV
 go_enter Try.func82, Try.ntmps82
 go_upto_region 52 with fail
 rw [HW0.out]
 clear HW0
 obtain ⟨a10, n10, c10, k10, HF10, HX10, HZ10, hK10, hws0, hws1, hnn, ⟨x0, x1, x2, x3, x4, xf0, xf1, xf2, xf3, xf4⟩, z0, z1, z2, z3, z4, zf0, zf1, zf2, zf3, zf4⟩ := HP.out.opn
 clear HP hK10
 go_wp2_with fail
 refine (fail_at HF10.out).mono ?_
 rintro e v1 ⟨qa, qn, qc, qk, rfl, hx1, hg1, hs1⟩
 have HE : Hid _ := hx1
 have HG : Hid _ := hg1
 have HS : Hid _ := hs1
 obtain ⟨zy0, zy1, zy2, zy3, zy4, zyf0, zyf1, zyf2, zyf3, zyf4⟩ := HF10.out.cells hg1 HZ10.out
 clear hx1 hg1 hs1
 unfold xV
 go_wp2
 refine bodyPost_ret (fin104 rfl rfl (set5_same _ _ _ _ _ (HF10.out.rep.kt HG.out (by decide) HZ10.out) _ _ _ _ _)) rfl ?_
 exact HF10.out.ret HZ10.out HE.out HG.out HS.out
set_option maxRecDepth 100000 in
set_option maxHeartbeats 2000000 in
theorem l4Bad_if (sw : ByteArray) (hw : sw.toList = [105, 102]) (l : List Int) (hl : l.length ≤ 1048576) (hs : l.length ≠ 3) : WC B b o cc cs a2 n2 c2 root sw (l) ((fun r => failN r 1)) := by
 intro Gz w a3 n3 c3 code r al cl hB hGl hrow hr hcl hal
 obtain ⟨W0, HW0, HP⟩ := Pt.begin cc a2 n2 c2 root hB hrow hr
 have HGL : Hid (∀ g, Gz g → g < w.heap.size) := hGl
 have ws0 : (sw.toList == [113, 117, 111, 116, 101]) = false := by rw [hw]; rfl
 have ws1 : (sw.toList == [105, 102]) = true := beq_iff_eq.2 hw
 have ls1 : ((l.length : Int) == 3) = false := by rw [beq_eq_false_iff_ne]; omega
 clear hw hs hrow hr hal hGl hB
 unfold xV
 go_enter Try.func82, Try.ntmps82
 go_upto_region 52 with fail
 rw [HW0.out]
 clear HW0
 obtain ⟨a10, n10, c10, k10, HF10, HX10, HZ10, hK10, hws0, hws1, hnn, ⟨x0, x1, x2, x3, x4, xf0, xf1, xf2, xf3, xf4⟩, z0, z1, z2, z3, z4, zf0, zf1, zf2, zf3, zf4⟩ := HP.out.opn
 clear HP hK10
 go_wp2_with fail
 refine (fail_at HF10.out).mono ?_
 rintro e v1 ⟨qa, qn, qc, qk, rfl, hx1, hg1, hs1⟩
 have HE : Hid _ := hx1
 have HG : Hid _ := hg1
 have HS : Hid _ := hs1
 obtain ⟨zy0, zy1, zy2, zy3, zy4, zyf0, zyf1, zyf2, zyf3, zyf4⟩ := HF10.out.cells hg1 HZ10.out
 clear hx1 hg1 hs1
 unfold xV
 go_wp2
 refine bodyPost_ret (fin104 rfl rfl (set5_same _ _ _ _ _ (HF10.out.rep.kt HG.out (by decide) HZ10.out) _ _ _ _ _)) rfl ?_
 exact HF10.out.ret HZ10.out HE.out HG.out HS.out
set_option maxRecDepth 100000 in
set_option maxHeartbeats 2000000 in
theorem l4Bad_set (sw : ByteArray) (hw : sw.toList = [115, 101, 116, 33]) (l : List Int) (hl : l.length ≤ 1048576) (hs : l.length ≠ 2) : WC B b o cc cs a2 n2 c2 root sw (l) ((fun r => failN r 1)) := by
 intro Gz w a3 n3 c3 code r al cl hB hGl hrow hr hcl hal
 obtain ⟨W0, HW0, HP⟩ := Pt.begin cc a2 n2 c2 root hB hrow hr
 have HGL : Hid (∀ g, Gz g → g < w.heap.size) := hGl
 have ws0 : (sw.toList == [113, 117, 111, 116, 101]) = false := by rw [hw]; rfl
 have ws1 : (sw.toList == [105, 102]) = false := by rw [hw]; rfl
 have ws2 : (sw.toList == [98, 101, 103, 105, 110]) = false := by rw [hw]; rfl
 have ws3 : (sw.toList == [115, 101, 116, 33]) = true := beq_iff_eq.2 hw
 have ls1 : ((l.length : Int) == 2) = false := by rw [beq_eq_false_iff_ne]; omega
 clear hw hs hrow hr hal hGl hB
 unfold xV
 go_enter Try.func82, Try.ntmps82
 go_upto_region 52 with fail
 rw [HW0.out]
 clear HW0
 obtain ⟨a10, n10, c10, k10, HF10, HX10, HZ10, hK10, hws0, hws1, hnn, ⟨x0, x1, x2, x3, x4, xf0, xf1, xf2, xf3, xf4⟩, z0, z1, z2, z3, z4, zf0, zf1, zf2, zf3, zf4⟩ := HP.out.opn
 clear HP hK10
 go_wp2_with fail
 refine (fail_at HF10.out).mono ?_
 rintro e v1 ⟨qa, qn, qc, qk, rfl, hx1, hg1, hs1⟩
 have HE : Hid _ := hx1
 have HG : Hid _ := hg1
 have HS : Hid _ := hs1
 obtain ⟨zy0, zy1, zy2, zy3, zy4, zyf0, zyf1, zyf2, zyf3, zyf4⟩ := HF10.out.cells hg1 HZ10.out
 clear hx1 hg1 hs1
 unfold xV
 go_wp2
 refine bodyPost_ret (fin104 rfl rfl (set5_same _ _ _ _ _ (HF10.out.rep.kt HG.out (by decide) HZ10.out) _ _ _ _ _)) rfl ?_
 exact HF10.out.ret HZ10.out HE.out HG.out HS.out
set_option maxRecDepth 100000 in
set_option maxHeartbeats 2000000 in
theorem l4Bad_lambda (sw : ByteArray) (hw : sw.toList = [108, 97, 109, 98, 100, 97]) (l : List Int) (hl : l.length ≤ 1048576) (hs : l.length < 2) : WC B b o cc cs a2 n2 c2 root sw (l) ((fun r => failN r 1)) := by
 intro Gz w a3 n3 c3 code r al cl hB hGl hrow hr hcl hal
 obtain ⟨W0, HW0, HP⟩ := Pt.begin cc a2 n2 c2 root hB hrow hr
 have HGL : Hid (∀ g, Gz g → g < w.heap.size) := hGl
 have ws0 : (sw.toList == [113, 117, 111, 116, 101]) = false := by rw [hw]; rfl
 have ws1 : (sw.toList == [105, 102]) = false := by rw [hw]; rfl
 have ws2 : (sw.toList == [98, 101, 103, 105, 110]) = false := by rw [hw]; rfl
 have ws3 : (sw.toList == [115, 101, 116, 33]) = false := by rw [hw]; rfl
 have ws4 : (sw.toList == [108, 97, 109, 98, 100, 97]) = true := beq_iff_eq.2 hw
 have ls1 : decide ((2 : Int) ≤ (l.length : Int)) = false := by simp; omega
 clear hw hs hrow hr hal hGl hB
 unfold xV
 go_enter Try.func82, Try.ntmps82
 go_upto_region 52 with fail
 rw [HW0.out]
 clear HW0
 obtain ⟨a10, n10, c10, k10, HF10, HX10, HZ10, hK10, hws0, hws1, hnn, ⟨x0, x1, x2, x3, x4, xf0, xf1, xf2, xf3, xf4⟩, z0, z1, z2, z3, z4, zf0, zf1, zf2, zf3, zf4⟩ := HP.out.opn
 clear HP hK10
 go_wp2_with fail
 refine (fail_at HF10.out).mono ?_
 rintro e v1 ⟨qa, qn, qc, qk, rfl, hx1, hg1, hs1⟩
 have HE : Hid _ := hx1
 have HG : Hid _ := hg1
 have HS : Hid _ := hs1
 obtain ⟨zy0, zy1, zy2, zy3, zy4, zyf0, zyf1, zyf2, zyf3, zyf4⟩ := HF10.out.cells hg1 HZ10.out
 clear hx1 hg1 hs1
 unfold xV
 go_wp2
 refine bodyPost_ret (fin104 rfl rfl (set5_same _ _ _ _ _ (HF10.out.rep.kt HG.out (by decide) HZ10.out) _ _ _ _ _)) rfl ?_
 exact HF10.out.ret HZ10.out HE.out HG.out HS.out
set_option maxRecDepth 100000 in
set_option maxHeartbeats 2000000 in
theorem l4Bad_lets (sw : ByteArray) (hw : sw.toList = [108, 101, 116, 42]) (l : List Int) (hl : l.length ≤ 1048576) (hs : l.length < 2) : WC B b o cc cs a2 n2 c2 root sw (l) ((fun r => failN r 1)) := by
 intro Gz w a3 n3 c3 code r al cl hB hGl hrow hr hcl hal
 obtain ⟨W0, HW0, HP⟩ := Pt.begin cc a2 n2 c2 root hB hrow hr
 have HGL : Hid (∀ g, Gz g → g < w.heap.size) := hGl
 have ws0 : (sw.toList == [113, 117, 111, 116, 101]) = false := by rw [hw]; rfl
 have ws1 : (sw.toList == [105, 102]) = false := by rw [hw]; rfl
 have ws2 : (sw.toList == [98, 101, 103, 105, 110]) = false := by rw [hw]; rfl
 have ws3 : (sw.toList == [115, 101, 116, 33]) = false := by rw [hw]; rfl
 have ws4 : (sw.toList == [108, 97, 109, 98, 100, 97]) = false := by rw [hw]; rfl
 have ws5 : (sw.toList == [108, 101, 116]) = false := by rw [hw]; rfl
 have ws6 : (sw.toList == [108, 101, 116, 42]) = true := beq_iff_eq.2 hw
 have ls1 : decide ((2 : Int) ≤ (l.length : Int)) = false := by simp; omega
 clear hw hs hrow hr hal hGl hB
 unfold xV
 go_enter Try.func82, Try.ntmps82
 go_upto_region 52 with fail
 rw [HW0.out]
 clear HW0
 obtain ⟨a10, n10, c10, k10, HF10, HX10, HZ10, hK10, hws0, hws1, hnn, ⟨x0, x1, x2, x3, x4, xf0, xf1, xf2, xf3, xf4⟩, z0, z1, z2, z3, z4, zf0, zf1, zf2, zf3, zf4⟩ := HP.out.opn
 clear HP hK10
 go_wp2_with fail
 refine (fail_at HF10.out).mono ?_
 rintro e v1 ⟨qa, qn, qc, qk, rfl, hx1, hg1, hs1⟩
 have HE : Hid _ := hx1
 have HG : Hid _ := hg1
 have HS : Hid _ := hs1
 obtain ⟨zy0, zy1, zy2, zy3, zy4, zyf0, zyf1, zyf2, zyf3, zyf4⟩ := HF10.out.cells hg1 HZ10.out
 clear hx1 hg1 hs1
 unfold xV
 go_wp2
 refine bodyPost_ret (fin104 rfl rfl (set5_same _ _ _ _ _ (HF10.out.rep.kt HG.out (by decide) HZ10.out) _ _ _ _ _)) rfl ?_
 exact HF10.out.ret HZ10.out HE.out HG.out HS.out
set_option maxRecDepth 100000 in
set_option maxHeartbeats 2000000 in
theorem l4Bad_when (sw : ByteArray) (hw : sw.toList = [119, 104, 101, 110]) (l : List Int) (hl : l.length ≤ 1048576) (hs : l.length < 2) : WC B b o cc cs a2 n2 c2 root sw (l) ((fun r => failN r 1)) := by
 intro Gz w a3 n3 c3 code r al cl hB hGl hrow hr hcl hal
 obtain ⟨W0, HW0, HP⟩ := Pt.begin cc a2 n2 c2 root hB hrow hr
 have HGL : Hid (∀ g, Gz g → g < w.heap.size) := hGl
 have ws0 : (sw.toList == [113, 117, 111, 116, 101]) = false := by rw [hw]; rfl
 have ws1 : (sw.toList == [105, 102]) = false := by rw [hw]; rfl
 have ws2 : (sw.toList == [98, 101, 103, 105, 110]) = false := by rw [hw]; rfl
 have ws3 : (sw.toList == [115, 101, 116, 33]) = false := by rw [hw]; rfl
 have ws4 : (sw.toList == [108, 97, 109, 98, 100, 97]) = false := by rw [hw]; rfl
 have ws5 : (sw.toList == [108, 101, 116]) = false := by rw [hw]; rfl
 have ws6 : (sw.toList == [108, 101, 116, 42]) = false := by rw [hw]; rfl
 have ws7 : (sw.toList == [99, 111, 110, 100]) = false := by rw [hw]; rfl
 have ws8 : (sw.toList == [97, 110, 100]) = false := by rw [hw]; rfl
 have ws9 : (sw.toList == [111, 114]) = false := by rw [hw]; rfl
 have ws10 : (sw.toList == [119, 104, 101, 110]) = true := beq_iff_eq.2 hw
 have ls1 : decide ((2 : Int) ≤ (l.length : Int)) = false := by simp; omega
 clear hw hs hrow hr hal hGl hB
 unfold xV
 go_enter Try.func82, Try.ntmps82
 go_upto_region 52 with fail
 rw [HW0.out]
 clear HW0
 obtain ⟨a10, n10, c10, k10, HF10, HX10, HZ10, hK10, hws0, hws1, hnn, ⟨x0, x1, x2, x3, x4, xf0, xf1, xf2, xf3, xf4⟩, z0, z1, z2, z3, z4, zf0, zf1, zf2, zf3, zf4⟩ := HP.out.opn
 clear HP hK10
 go_wp2_with fail
 refine (fail_at HF10.out).mono ?_
 rintro e v1 ⟨qa, qn, qc, qk, rfl, hx1, hg1, hs1⟩
 have HE : Hid _ := hx1
 have HG : Hid _ := hg1
 have HS : Hid _ := hs1
 obtain ⟨zy0, zy1, zy2, zy3, zy4, zyf0, zyf1, zyf2, zyf3, zyf4⟩ := HF10.out.cells hg1 HZ10.out
 clear hx1 hg1 hs1
 unfold xV
 go_wp2
 refine bodyPost_ret (fin104 rfl rfl (set5_same _ _ _ _ _ (HF10.out.rep.kt HG.out (by decide) HZ10.out) _ _ _ _ _)) rfl ?_
 exact HF10.out.ret HZ10.out HE.out HG.out HS.out
set_option maxRecDepth 100000 in
set_option maxHeartbeats 2000000 in
theorem l4Sp_quote (sw : ByteArray) (hw : sw.toList = [113, 117, 111, 116, 101]) (i : Int) (F : Sx → Sx) (hi : FC B b o cc cs a2 n2 c2 root 78 i F) : WC B b o cc cs a2 n2 c2 root sw ([i]) (F) := by
 intro Gz w a3 n3 c3 code r al cl hB hGl hrow hr hcl hal
 obtain ⟨g, p, rfl⟩ := hal.some
 obtain ⟨W0, HW0, HP⟩ := Pt.begin cc a2 n2 c2 root hB hrow hr
 have HGL : Hid (∀ g, Gz g → g < w.heap.size) := hGl
 have HT : Hid (RowT w (some ⟨g, p, none⟩) [i]) := hal
 have HI : Hid (FC B b o cc cs a2 n2 c2 root 78 i F) := hi
 have ws0 : (sw.toList == [113, 117, 111, 116, 101]) = true := beq_iff_eq.2 hw
 clear hw hi hrow hr hal hGl hB
 unfold xV
 go_enter Try.func82, Try.ntmps82
 go_upto_region 7 with fail
 rw [HW0.out]
 clear HW0
 obtain ⟨a10, n10, c10, k10, HF10, HX10, HZ10, hK10, hws0, hws1, hnn, ⟨x0, x1, x2, x3, x4, xf0, xf1, xf2, xf3, xf4⟩, z0, z1, z2, z3, z4, zf0, zf1, zf2, zf3, zf4⟩ := HP.out.opn
 replace HT := hid (HT.out.kt hK10)
 clear HP hK10
 have c0 := HT.out.head
 go_region_with (go_at_call 78; (refine (form_at HI.out HF10.out HGL.out).mono ?_; rintro e v1 ⟨qa, qn, qc, qk, rfl, hx1, hg1, hs1⟩; have HE : Hid _ := hx1; have HG : Hid _ := hg1; have HS : Hid _ := hs1; obtain ⟨y0, y1, y2, y3, y4, yf0, yf1, yf2, yf3, yf4⟩ := HF10.out.cells hg1 HX10.out; obtain ⟨zy0, zy1, zy2, zy3, zy4, zyf0, zyf1, zyf2, zyf3, zyf4⟩ := HF10.out.cells hg1 HZ10.out; clear hx1 hg1 hs1; unfold xV))
 all_goals (try go_wp2)
 all_goals
  refine bodyPost_ret (fin104 rfl rfl (set5_same _ _ _ _ _ (HF10.out.rep.kt HG.out (by decide) HZ10.out) _ _ _ _ _)) rfl ?_
  exact HF10.out.ret HZ10.out HE.out HG.out HS.out
set_option maxRecDepth 100000 in
set_option maxHeartbeats 2000000 in
theorem l4Sp_if (sw : ByteArray) (hw : sw.toList = [105, 102]) (l : List Int) (hn : cs.length ≤ 1048576) (hl : l.length ≤ 1048576) (hs : l.length = 3) (hi : AC B b o cc cs a2 n2 c2 root R (l)) : WC B b o cc cs a2 n2 c2 root sw (l) ((fun r => putN (allX R l r).1 (ifN (allX R l r).2))) := by
 intro Gz w a3 n3 c3 code r al cl hB hGl hrow hr hcl hal
 obtain ⟨W0, HW0, HP⟩ := Pt.begin cc a2 n2 c2 root hB hrow hr
 have HGL : Hid (∀ g, Gz g → g < w.heap.size) := hGl
 have HT : Hid (RowT w al l) := hal
 have HI : Hid (AC B b o cc cs a2 n2 c2 root R (l)) := hi
 have ws0 : (sw.toList == [113, 117, 111, 116, 101]) = false := by rw [hw]; rfl
 have ws1 : (sw.toList == [105, 102]) = true := beq_iff_eq.2 hw
 have ls1 : ((l.length : Int) == 3) = true := by rw [beq_iff_eq]; omega
 clear hs hw
 clear hi hrow hr hal hGl hB
 unfold xV
 go_enter Try.func82, Try.ntmps82
 go_upto_region 10 with fail
 rw [HW0.out]
 clear HW0
 obtain ⟨a10, n10, c10, k10, HF10, HX10, HZ10, hK10, hws0, hws1, hnn, ⟨x0, x1, x2, x3, x4, xf0, xf1, xf2, xf3, xf4⟩, z0, z1, z2, z3, z4, zf0, zf1, zf2, zf3, zf4⟩ := HP.out.opn
 replace HT := hid (HT.out.kt hK10)
 clear HP hK10
 go_wp2_with fail
 refine (all_at HI.out HF10.out HGL.out (al := al) (cl := cl) hcl HT.out).mono ?_
 rintro e v1 ⟨a11, n11, c11, k11, ux11, cu11, rfl, hx1, hg1, hs1, ho1, hl1, hc1⟩
 have HF11 : Hid (Fx Gz w (v1.alloc (Obj.cells #[.slice (some ⟨b, o, none⟩) cs.length cc, .slice a2 n2 c2, .slice a11 n11 c11, .int .i64 root, .int .i64 k11] 104)) B b o cs (.slice a3 n3 c3) (.slice a11 n11 c11) n11 k11 (allX R (l) r).1) := (HF10.out.call hg1 hs1 hx1).below (bR _ _)
 have HX11 : Hid ((v1.alloc (Obj.cells #[.slice (some ⟨b, o, none⟩) cs.length cc, .slice a2 n2 c2, .slice a11 n11 c11, .int .i64 root, .int .i64 k11] 104)).heap[v1.heap.size]? = some (Obj.cells #[.slice (some ⟨b, o, none⟩) cs.length cc, .slice a2 n2 c2, .slice a11 n11 c11, .int .i64 root, .int .i64 k11] 104)) := blk_at _ _ _ rfl
 have HZ11 : Hid ((v1.alloc (Obj.cells #[.slice (some ⟨b, o, none⟩) cs.length cc, .slice a2 n2 c2, .slice a11 n11 c11, .int .i64 root, .int .i64 k11] 104)).heap[w.heap.size + 1]? = some (Obj.cells #[.slice none 0 0, .slice none 0 0, .slice none 0 0, .int .i64 0, .int .i64 0] 104)) := blk_past (HF10.out.rep.kt hg1 (by decide) HZ10.out)
 have HU11 : Hid (NewI w (v1.alloc (Obj.cells #[.slice (some ⟨b, o, none⟩) cs.length cc, .slice a2 n2 c2, .slice a11 n11 c11, .int .i64 root, .int .i64 k11] 104)) ux11 (allX R (l) r).2 cu11) := ho1.kt (KT.below (bR _ _))
 have HM11 : Hid ((allX R (l) r).2.length = l.length) := hl1
 have hcu11 := hc1
 have hk1 : KT W0 (v1.alloc (Obj.cells #[.slice (some ⟨b, o, none⟩) cs.length cc, .slice a2 n2 c2, .slice a11 n11 c11, .int .i64 root, .int .i64 k11] 104)) := KT.trans (fun q c t ht e => HF10.out.rep.kt hg1 ht.1 e) (KT.below (bR _ _))
 have hHT := HT.out.kt hk1
 clear HT
 have HT : Hid (RowT (v1.alloc (Obj.cells #[.slice (some ⟨b, o, none⟩) cs.length cc, .slice a2 n2 c2, .slice a11 n11 c11, .int .i64 root, .int .i64 k11] 104)) al l) := hHT
 clear hHT
 clear hx1 hg1 hs1 ho1 hl1 hc1 hk1
 clear HF10 HX10 HZ10 hws0 hws1 hnn x0 x1 x2 x3 x4 xf0 xf1 xf2 xf3 xf4 z0 z1 z2 z3 z4 zf0 zf1 zf2 zf3 zf4
 unfold xV
 go_upto_region 11 with fail
 generalize v1.alloc (Obj.cells #[.slice (some ⟨b, o, none⟩) cs.length cc, .slice a2 n2 c2, .slice a11 n11 c11, .int .i64 root, .int .i64 k11] 104) = W1 at *
 generalize v1.heap.size = gy11 at *
 obtain ⟨x0, x1, x2, x3, x4, xf0, xf1, xf2, xf3, xf4⟩ := cells5 HX11.out
 obtain ⟨z0, z1, z2, z3, z4, zf0, zf1, zf2, zf3, zf4⟩ := cells5 HZ11.out
 have hws0 : gy11 < W1.heap.size := (alt HX11.out)
 have hws1 : w.heap.size + 1 < W1.heap.size := (alt HZ11.out)
 have hnn : n11 ≤ 400 := HF11.out.n400
 go_wp2_with fail
 refine (put_len HF11.out HGL.out (ifN (allX R (l) r).2) (NewS.nil _ _ _) HU11.out rfl HM11.out (Nat.le_refl _) hcu11).mono ?_
 rintro e v1 ⟨qa, qn, qc, qk, rfl, hx1, hg1, hs1⟩
 have HE : Hid _ := hx1
 have HG : Hid _ := hg1
 have HS : Hid _ := hs1
 obtain ⟨zy0, zy1, zy2, zy3, zy4, zyf0, zyf1, zyf2, zyf3, zyf4⟩ := HF11.out.cells hg1 HZ11.out
 clear hx1 hg1 hs1
 unfold xV
 go_wp2
 refine bodyPost_ret (fin104 rfl rfl (set5_same _ _ _ _ _ (HF11.out.rep.kt HG.out (by decide) HZ11.out) _ _ _ _ _)) rfl ?_
 exact HF11.out.ret HZ11.out HE.out HG.out HS.out
end
end Go.Proofs.Ytgjeefedcfakdaa
set_option linter.unusedVariables false
namespace Go.Proofs.Ytgjeefedcfakdaa
open Go.ChangeShapes Go.WideShapes Go.ChangeAt Go.RowKit
section
variable {B b o cc : Nat} {cs : List Dat} {a2 : Option Addr} {n2 c2 : Nat} {root : Int} {R : Int → Sx → Sx}
set_option maxRecDepth 100000 in
set_option maxHeartbeats 4000000 in
theorem l4Sp_set (hg : Good cs) (sw : ByteArray) (hw : sw.toList = [115, 101, 116, 33]) (kx : Nat) (e : Int) (nm : ByteArray) (hkx : kx < cs.length) (hnm : nmOf cs (kx : Int) = some nm) (hi : FC B b o cc cs a2 n2 c2 root 70 e (R e)) : WC B b o cc cs a2 n2 c2 root sw ([(kx : Int), e]) (fun r => putN (R e r) (setN nm (lastN (R e r)))) := by
 intro Gz w a3 n3 c3 code r al cl hB hGl hrow hr hcl hal
 obtain ⟨g, p, rfl⟩ := hal.some
 obtain ⟨W0, HW0, HP⟩ := Pt.begin cc a2 n2 c2 root hB hrow hr
 have HGL : Hid (∀ g, Gz g → g < w.heap.size) := hGl
 have HT : Hid (RowT w (some ⟨g, p, none⟩) [(kx : Int), e]) := hal
 have HI : Hid (FC B b o cc cs a2 n2 c2 root 70 e (R e)) := hi
 have HNM : Hid (nmOf cs (kx : Int) = some nm) := hnm
 have ws0 : (sw.toList == [113, 117, 111, 116, 101]) = false := by rw [hw]; rfl
 have ws1 : (sw.toList == [105, 102]) = false := by rw [hw]; rfl
 have ws2 : (sw.toList == [98, 101, 103, 105, 110]) = false := by rw [hw]; rfl
 have ws3 : (sw.toList == [115, 101, 116, 33]) = true := beq_iff_eq.2 hw
 clear hw hi hrow hr hal hGl hB hnm
 unfold xV
 go_enter Try.func82, Try.ntmps82
 go_upto_region 16 with fail
 rw [HW0.out]
 clear HW0
 obtain ⟨a10, n10, c10, k10, HF10, HX10, HZ10, hK10, hws0, hws1, hnn, ⟨x0, x1, x2, x3, x4, xf0, xf1, xf2, xf3, xf4⟩, z0, z1, z2, z3, z4, zf0, zf1, zf2, zf3, zf4⟩ := HP.out.opn
 replace HT := hid (HT.out.kt hK10)
 clear HP hK10
 go_cut [9, 10] (fun sv iv wx => sv = .string nm ∧ iv = .bool true ∧ Pt Gz w W0 wx B b o cc cs a2 n2 c2 root (.slice a3 n3 c3) (r))
 case first =>
  have c0 := HT.out.head
  have HSN : Hid (nm = (cel cs (kx : Int)).s) := nm_some HNM.out
  go_region_with (go_at_call 87; (refine (nm_call hg HF10.out kx hkx).mono ?_; rintro e9 v1 ⟨rfl, hb1⟩))
  all_goals (go_wp2_with fail; go_meet; exact ⟨by rw [← HSN.out], by rw [HNM.out]; rfl, Pt.below HF10.out HX10.out HZ10.out (KT.refl _) hb1⟩)
 case rest =>
  clear HF10 HX10 HZ10 hws0 hws1 hnn x0 x1 x2 x3 x4 xf0 xf1 xf2 xf3 xf4 z0 z1 z2 z3 z4 zf0 zf1 zf2 zf3 zf4
  obtain ⟨W1, rfl⟩ : ∃ x, x = wc := ⟨_, rfl⟩
  obtain ⟨rfl, rfl, hP1⟩ := hcut
  have HP : Hid (Pt Gz w W0 W1 B b o cc cs a2 n2 c2 root (.slice a3 n3 c3) (r)) := hP1
  clear hP1
  obtain ⟨a11, n11, c11, k11, HF11, HX11, HZ11, hK11, hws0, hws1, hnn, ⟨x0, x1, x2, x3, x4, xf0, xf1, xf2, xf3, xf4⟩, z0, z1, z2, z3, z4, zf0, zf1, zf2, zf3, zf4⟩ := HP.out.opn
  replace HT := hid (HT.out.kt hK11)
  clear HP hK11
  go_upto_region 18 with fail
  go_cut [] (fun wx => Pt Gz w W1 wx B b o cc cs a2 n2 c2 root (.slice a3 n3 c3) (R e r))
  case first =>
   have c1 := HT.out.second
   go_region_with (go_at_call 70; (refine (form_at HI.out HF11.out HGL.out).mono ?_; rintro e v1 ⟨qa, qn, qc, qk, rfl, hx1, hg1, hs1⟩; have HE : Hid _ := hx1; have HG : Hid _ := hg1; have HS : Hid _ := hs1; obtain ⟨y0, y1, y2, y3, y4, yf0, yf1, yf2, yf3, yf4⟩ := HF11.out.cells hg1 HX11.out; obtain ⟨zy0, zy1, zy2, zy3, zy4, zyf0, zyf1, zyf2, zyf3, zyf4⟩ := HF11.out.cells hg1 HZ11.out; clear hx1 hg1 hs1; unfold xV))
   all_goals (go_wp2_with fail; go_meet; exact Pt.next HF11.out HX11.out HZ11.out (KT.refl _) HE.out HG.out HS.out)
  case rest =>
   clear HF11 HX11 HZ11 hws0 hws1 hnn x0 x1 x2 x3 x4 xf0 xf1 xf2 xf3 xf4 z0 z1 z2 z3 z4 zf0 zf1 zf2 zf3 zf4
   obtain ⟨W2, rfl⟩ : ∃ x, x = wc := ⟨_, rfl⟩
   obtain ⟨s1, hEs1⟩ : ∃ q, q = R e r := ⟨_, rfl⟩
   rw [← hEs1] at hcut
   have Es1 : Hid (s1 = R e r) := hEs1
   clear hEs1
   have HP : Hid (Pt Gz w W1 W2 B b o cc cs a2 n2 c2 root (.slice a3 n3 c3) (s1)) := hcut
   clear hcut
   obtain ⟨a12, n12, c12, k12, HF12, HX12, HZ12, hK12, hws0, hws1, hnn, ⟨x0, x1, x2, x3, x4, xf0, xf1, xf2, xf3, xf4⟩, z0, z1, z2, z3, z4, zf0, zf1, zf2, zf3, zf4⟩ := HP.out.opn
   replace HT := hid (HT.out.kt hK12)
   clear HP hK12
   go_upto_region 19 with fail
   have HQ : Hid (putN s1 (setN nm ((n12 : Int) - 1)) = putN (R e r) (setN nm (lastN (R e r)))) := by show _ = _; rw [HF12.out.last, Es1.out] <;> rfl
   go_region_with (first | (go_at_call 71; (refine (l4Last_eq (some ⟨b, o, none⟩) a2 a12 cs.length n2 n12 cc c2 c12 root k12 _ (by omega)).mono ?_; rintro e v2 ⟨rfl, rfl⟩)) | (go_at_call 79; (refine (put_at HF12.out HGL.out (setN nm ((n12 : Int) - 1)) (NewS.nil _ _ _) (NewI.lit [((n12 : Int) - 1)] (by first | exact blk_drew (blk_at _ _ _ (by simp)) | exact blk_drew (blk_past (blk_at _ _ _ (by simp))) | exact blk_drew (blk_past (blk_past (blk_at _ _ _ (by simp)))) | exact blk_at _ _ _ (by simp) | exact blk_past (blk_at _ _ _ (by simp))) (by first | omega | (simp <;> omega))) (Nat.le_refl _) (Nat.le_refl _)).mono ?_; rintro e v1 ⟨qa, qn, qc, qk, rfl, hx1, hg1, hs1⟩; have HE : Hid _ := hx1; have HG : Hid _ := hg1; have HS : Hid _ := hs1; obtain ⟨y0, y1, y2, y3, y4, yf0, yf1, yf2, yf3, yf4⟩ := HF12.out.cells hg1 HX12.out; obtain ⟨zy0, zy1, zy2, zy3, zy4, zyf0, zyf1, zyf2, zyf3, zyf4⟩ := HF12.out.cells hg1 HZ12.out; clear hx1 hg1 hs1; unfold xV)))
   all_goals (try go_wp2)
   all_goals
    refine bodyPost_ret (fin104 rfl rfl (set5_same _ _ _ _ _ (HF12.out.rep.kt HG.out (by decide) HZ12.out) _ _ _ _ _)) rfl ?_
    rw [← HQ.out]
    exact HF12.out.ret HZ12.out HE.out HG.out HS.out
end
end Go.Proofs.Ytgjeefedcfakdaa
set_option linter.unusedVariables false
namespace Go.Proofs.Ytgjeefedcfakdaa
open Go.ChangeShapes Go.WideShapes Go.ChangeAt Go.RowKit
section
variable {B b o cc : Nat} {cs : List Dat} {a2 : Option Addr} {n2 c2 : Nat} {root : Int} {R : Int → Sx → Sx}
set_option maxRecDepth 100000 in
set_option maxHeartbeats 8000000 in
theorem l4Sp_when (sw : ByteArray) (hw : sw.toList = [119, 104, 101, 110]) (c bb : Int) (t : List Int) (hl : t.length ≤ 1048576) (hi : FC B b o cc cs a2 n2 c2 root 70 c (R c)) (hb : LC B b o cc cs a2 n2 c2 root 86 (bb :: t) (bodyX R (bb :: t))) : WC B b o cc cs a2 n2 c2 root sw (c :: bb :: t) (whenX R c (bb :: t)) := by
 intro Gz w a3 n3 c3 code r al cl hB hGl hrow hr hcl hal
 obtain ⟨g, p, rfl⟩ := hal.some
 obtain ⟨W0, HW0, HP⟩ := Pt.begin cc a2 n2 c2 root hB hrow hr
 have HGL : Hid (∀ g, Gz g → g < w.heap.size) := hGl
 have HT : Hid (RowT w (some ⟨g, p, none⟩) (c :: bb :: t)) := hal
 have HI : Hid (FC B b o cc cs a2 n2 c2 root 70 c (R c)) := hi
 have HIB : Hid (LC B b o cc cs a2 n2 c2 root 86 (bb :: t) (bodyX R (bb :: t))) := hb
 have ws0 : (sw.toList == [113, 117, 111, 116, 101]) = false := by rw [hw]; rfl
 have ws1 : (sw.toList == [105, 102]) = false := by rw [hw]; rfl
 have ws2 : (sw.toList == [98, 101, 103, 105, 110]) = false := by rw [hw]; rfl
 have ws3 : (sw.toList == [115, 101, 116, 33]) = false := by rw [hw]; rfl
 have ws4 : (sw.toList == [108, 97, 109, 98, 100, 97]) = false := by rw [hw]; rfl
 have ws5 : (sw.toList == [108, 101, 116]) = false := by rw [hw]; rfl
 have ws6 : (sw.toList == [108, 101, 116, 42]) = false := by rw [hw]; rfl
 have ws7 : (sw.toList == [99, 111, 110, 100]) = false := by rw [hw]; rfl
 have ws8 : (sw.toList == [97, 110, 100]) = false := by rw [hw]; rfl
 have ws9 : (sw.toList == [111, 114]) = false := by rw [hw]; rfl
 have ws10 : (sw.toList == [119, 104, 101, 110]) = true := beq_iff_eq.2 hw
 have hcl' : t.length + 1 + 1 ≤ cl := hcl
 have hge : decide ((2 : Int) ≤ (t.length : Int) + 1 + 1) = true := by simp; omega
 clear hw hi hb hrow hr hal hGl hB hcl
 unfold xV
 go_enter Try.func82, Try.ntmps82
 go_upto_region 42 with fail
 rw [HW0.out]
 clear HW0
 obtain ⟨a10, n10, c10, k10, HF10, HX10, HZ10, hK10, hws0, hws1, hnn, ⟨x0, x1, x2, x3, x4, xf0, xf1, xf2, xf3, xf4⟩, z0, z1, z2, z3, z4, zf0, zf1, zf2, zf3, zf4⟩ := HP.out.opn
 replace HT := hid (HT.out.kt hK10)
 clear HP hK10
 go_cut [] (fun wx => Pt Gz w W0 wx B b o cc cs a2 n2 c2 root (.slice a3 n3 c3) (R c r))
 case first =>
  have c0 := HT.out.head
  go_region_with (go_at_call 70; (refine (form_at HI.out HF10.out HGL.out).mono ?_; rintro e v1 ⟨qa, qn, qc, qk, rfl, hx1, hg1, hs1⟩; have HE : Hid _ := hx1; have HG : Hid _ := hg1; have HS : Hid _ := hs1; obtain ⟨y0, y1, y2, y3, y4, yf0, yf1, yf2, yf3, yf4⟩ := HF10.out.cells hg1 HX10.out; obtain ⟨zy0, zy1, zy2, zy3, zy4, zyf0, zyf1, zyf2, zyf3, zyf4⟩ := HF10.out.cells hg1 HZ10.out; clear hx1 hg1 hs1; unfold xV))
  all_goals (go_wp2_with fail; go_meet; exact Pt.next HF10.out HX10.out HZ10.out (KT.refl _) HE.out HG.out HS.out)
 case rest =>
  clear HF10 HX10 HZ10 hws0 hws1 hnn x0 x1 x2 x3 x4 xf0 xf1 xf2 xf3 xf4 z0 z1 z2 z3 z4 zf0 zf1 zf2 zf3 zf4
  obtain ⟨W1, rfl⟩ : ∃ x, x = wc := ⟨_, rfl⟩
  obtain ⟨s1, hEs1⟩ : ∃ q, q = R c r := ⟨_, rfl⟩
  rw [← hEs1] at hcut
  have Es1 : Hid (s1 = R c r) := hEs1
  clear hEs1
  have HP : Hid (Pt Gz w W0 W1 B b o cc cs a2 n2 c2 root (.slice a3 n3 c3) (s1)) := hcut
  clear hcut
  obtain ⟨a11, n11, c11, k11, HF11, HX11, HZ11, hK11, hws0, hws1, hnn, ⟨x0, x1, x2, x3, x4, xf0, xf1, xf2, xf3, xf4⟩, z0, z1, z2, z3, z4, zf0, zf1, zf2, zf3, zf4⟩ := HP.out.opn
  replace HT := hid (HT.out.kt hK11)
  clear HP hK11
  go_wp2_with fail
  refine (l4Last_any (some ⟨b, o, none⟩) a2 a11 cs.length n2 n11 cc c2 c11 root k11 W1 (by omega)).mono ?_
  rintro e W2 ⟨rfl, hb1⟩
  have HP : Hid (Pt Gz w W1 W2 B b o cc cs a2 n2 c2 root (.slice a3 n3 c3) (s1)) := Pt.below HF11.out HX11.out HZ11.out (KT.refl _) hb1
  have HA : Hid ((n11 : Int) - 1 = lastN s1) := HF11.out.last
  clear hb1
  clear HF11 HX11 HZ11 hws0 hws1 hnn x0 x1 x2 x3 x4 xf0 xf1 xf2 xf3 xf4 z0 z1 z2 z3 z4 zf0 zf1 zf2 zf3 zf4
  obtain ⟨a12, n12, c12, k12, HF12, HX12, HZ12, hK12, hws0, hws1, hnn, ⟨x0, x1, x2, x3, x4, xf0, xf1, xf2, xf3, xf4⟩, z0, z1, z2, z3, z4, zf0, zf1, zf2, zf3, zf4⟩ := HP.out.opn
  replace HT := hid (HT.out.kt hK12)
  clear HP hK12
  go_upto_region 44 with fail
  go_cut [] (fun wx => Pt Gz w W2 wx B b o cc cs a2 n2 c2 root (.slice a3 n3 c3) (bodyX R (bb :: t) s1))
  case first =>
   go_region_with (go_at_call 86; (refine (list_at HIB.out HF12.out HGL.out (al := (some ⟨g, p + 1, none⟩)) (cl := (cl - 1)) (by show t.length + 1 ≤ cl - 1; omega) HT.out.tail).mono ?_; rintro e v1 ⟨qa, qn, qc, qk, rfl, hx1, hg1, hs1⟩; have HE : Hid _ := hx1; have HG : Hid _ := hg1; have HS : Hid _ := hs1; obtain ⟨y0, y1, y2, y3, y4, yf0, yf1, yf2, yf3, yf4⟩ := HF12.out.cells hg1 HX12.out; obtain ⟨zy0, zy1, zy2, zy3, zy4, zyf0, zyf1, zyf2, zyf3, zyf4⟩ := HF12.out.cells hg1 HZ12.out; clear hx1 hg1 hs1; unfold xV))
   all_goals (go_wp2_with fail; go_meet; exact Pt.next HF12.out HX12.out HZ12.out (KT.refl _) HE.out HG.out HS.out)
  case rest =>
   clear HF12 HX12 HZ12 hws0 hws1 hnn x0 x1 x2 x3 x4 xf0 xf1 xf2 xf3 xf4 z0 z1 z2 z3 z4 zf0 zf1 zf2 zf3 zf4
   obtain ⟨W3, rfl⟩ : ∃ x, x = wc := ⟨_, rfl⟩
   obtain ⟨s2, hEs2⟩ : ∃ q, q = bodyX R (bb :: t) s1 := ⟨_, rfl⟩
   rw [← hEs2] at hcut
   have Es2 : Hid (s2 = bodyX R (bb :: t) s1) := hEs2
   clear hEs2
   have HP : Hid (Pt Gz w W2 W3 B b o cc cs a2 n2 c2 root (.slice a3 n3 c3) (s2)) := hcut
   clear hcut
   obtain ⟨a13, n13, c13, k13, HF13, HX13, HZ13, hK13, hws0, hws1, hnn, ⟨x0, x1, x2, x3, x4, xf0, xf1, xf2, xf3, xf4⟩, z0, z1, z2, z3, z4, zf0, zf1, zf2, zf3, zf4⟩ := HP.out.opn
   replace HT := hid (HT.out.kt hK13)
   clear HP hK13
   go_wp2_with fail
   refine (l4Last_any (some ⟨b, o, none⟩) a2 a13 cs.length n2 n13 cc c2 c13 root k13 W3 (by omega)).mono ?_
   rintro e W4 ⟨rfl, hb1⟩
   have HP : Hid (Pt Gz w W3 W4 B b o cc cs a2 n2 c2 root (.slice a3 n3 c3) (s2)) := Pt.below HF13.out HX13.out HZ13.out (KT.refl _) hb1
   have HV : Hid ((n13 : Int) - 1 = lastN s2) := HF13.out.last
   clear hb1
   clear HF13 HX13 HZ13 hws0 hws1 hnn x0 x1 x2 x3 x4 xf0 xf1 xf2 xf3 xf4 z0 z1 z2 z3 z4 zf0 zf1 zf2 zf3 zf4
   obtain ⟨a14, n14, c14, k14, HF14, HX14, HZ14, hK14, hws0, hws1, hnn, ⟨x0, x1, x2, x3, x4, xf0, xf1, xf2, xf3, xf4⟩, z0, z1, z2, z3, z4, zf0, zf1, zf2, zf3, zf4⟩ := HP.out.opn
   replace HT := hid (HT.out.kt hK14)
   clear HP hK14
   go_wp2_with fail
   refine (bool_at HF14.out 0).mono ?_
   rintro e v1 ⟨qa, qn, qc, qk, rfl, hx1, hg1, hs1⟩
   have hcut : Pt Gz w W4 (set5 v1 w.heap.size (.slice (some ⟨b, o, none⟩) cs.length cc) (.slice a2 n2 c2) (.slice qa qn qc) (.int .i64 root) (.int .i64 qk)) B b o cc cs a2 n2 c2 root (.slice a3 n3 c3) (putN s2 (boolN 0)) := Pt.next HF14.out HX14.out HZ14.out (KT.refl _) hx1 hg1 hs1
   obtain ⟨y0, y1, y2, y3, y4, yf0, yf1, yf2, yf3, yf4⟩ := HF14.out.cells hg1 HX14.out
   obtain ⟨zy0, zy1, zy2, zy3, zy4, zyf0, zyf1, zyf2, zyf3, zyf4⟩ := HF14.out.cells hg1 HZ14.out
   clear hx1 hg1 hs1
   clear HF14 HX14 HZ14 hws0 hws1 hnn x0 x1 x2 x3 x4 xf0 xf1 xf2 xf3 xf4 z0 z1 z2 z3 z4 zf0 zf1 zf2 zf3 zf4
   obtain ⟨s3, hEs3⟩ : ∃ q, q = putN s2 (boolN 0) := ⟨_, rfl⟩
   rw [← hEs3] at hcut
   have Es3 : Hid (s3 = putN s2 (boolN 0)) := hEs3
   clear hEs3
   have HP : Hid (Pt Gz w W4 (set5 v1 w.heap.size (.slice (some ⟨b, o, none⟩) cs.length cc) (.slice a2 n2 c2) (.slice qa qn qc) (.int .i64 root) (.int .i64 qk)) B b o cc cs a2 n2 c2 root (.slice a3 n3 c3) (s3)) := hcut
   clear hcut
   unfold xV
   go_upto_region 47 with fail
   clear y0 y1 y2 y3 y4 yf0 yf1 yf2 yf3 yf4 zy0 zy1 zy2 zy3 zy4 zyf0 zyf1 zyf2 zyf3 zyf4
   generalize hw : (set5 v1 w.heap.size (.slice (some ⟨b, o, none⟩) cs.length cc) (.slice a2 n2 c2) (.slice qa qn qc) (.int .i64 root) (.int .i64 qk)) = W5 at HP
   unfold set5 at hw
   rw [hw]
   clear hw
   obtain ⟨a15, n15, c15, k15, HF15, HX15, HZ15, hK15, hws0, hws1, hnn, ⟨x0, x1, x2, x3, x4, xf0, xf1, xf2, xf3, xf4⟩, z0, z1, z2, z3, z4, zf0, zf1, zf2, zf3, zf4⟩ := HP.out.opn
   replace HT := hid (HT.out.kt hK15)
   clear HP hK15
   have HQ : Hid (putN s3 (ifN [((n11 : Int) - 1), ((n13 : Int) - 1), ((n15 : Int) - 1)]) = whenX R c (bb :: t) r) := by show _ = _; rw [HA.out, HV.out, HF15.out.last, Es3.out, Es2.out, Es1.out] <;> rfl
   go_region_with (first | (go_at_call 71; (refine (l4Last_eq (some ⟨b, o, none⟩) a2 a15 cs.length n2 n15 cc c2 c15 root k15 _ (by omega)).mono ?_; rintro e v2 ⟨rfl, rfl⟩)) | (go_at_call 95; (refine (if_at HF15.out HGL.out ((n11 : Int) - 1) ((n13 : Int) - 1) ((n15 : Int) - 1)).mono ?_; rintro e v1 ⟨qa, qn, qc, qk, rfl, hx1, hg1, hs1⟩; have HE : Hid _ := hx1; have HG : Hid _ := hg1; have HS : Hid _ := hs1; obtain ⟨y0, y1, y2, y3, y4, yf0, yf1, yf2, yf3, yf4⟩ := HF15.out.cells hg1 HX15.out; obtain ⟨zy0, zy1, zy2, zy3, zy4, zyf0, zyf1, zyf2, zyf3, zyf4⟩ := HF15.out.cells hg1 HZ15.out; clear hx1 hg1 hs1; unfold xV)))
   all_goals (try go_wp2)
   all_goals
    refine bodyPost_ret (fin104 rfl rfl (set5_same _ _ _ _ _ (HF15.out.rep.kt HG.out (by decide) HZ15.out) _ _ _ _ _)) rfl ?_
    rw [← HQ.out]
    exact HF15.out.ret HZ15.out HE.out HG.out HS.out
end
end Go.Proofs.Ytgjeefedcfakdaa
set_option linter.unusedVariables false
namespace Go.Proofs.Ytgjeefedcfakdaa
open Go.ChangeShapes Go.WideShapes Go.ChangeAt Go.RowKit
section
variable {B b o cc : Nat} {cs : List Dat} {a2 : Option Addr} {n2 c2 : Nat} {root : Int} {R : Int → Sx → Sx}
theorem condX_bad {cs : List Dat} {R : Int → Sx → Sx} {c : Int} {l : List Int} {s : Sx} (h : ∀ x y z, lstOf cs c ≠ some (x :: y :: z)) : condX cs R (c :: l) s = failN s 1 := by
 unfold condX
 split
 ·rename_i x y z he
  exact absurd he (h x y z)
 ·rfl
theorem condX_more {cs : List Dat} {R : Int → Sx → Sx} {c h b : Int} {t l : List Int} {s : Sx} (hl : lstOf cs c = some (h :: b :: t)) (hn : ¬ ((cel cs h).k = 3 ∧ (cel cs h).s.toList = wElse)) : condX cs R (c :: l) s = ifX (R h s) (bodyX R (b :: t) (R h s)) (condX cs R l (bodyX R (b :: t) (R h s))) := by
 simp only [condX, hl, if_neg hn]
theorem condX_else {cs : List Dat} {R : Int → Sx → Sx} {c h b : Int} {t : List Int} {s : Sx} (hl : lstOf cs c = some (h :: b :: t)) (hn : (cel cs h).k = 3 ∧ (cel cs h).s.toList = wElse) : condX cs R [c] s = bodyX R (b :: t) s := by
 simp only [condX, hl, if_pos hn, if_true]
theorem condX_early {cs : List Dat} {R : Int → Sx → Sx} {c h b d : Int} {t l : List Int} {s : Sx} (hl : lstOf cs c = some (h :: b :: t)) (hn : (cel cs h).k = 3 ∧ (cel cs h).s.toList = wElse) : condX cs R (c :: d :: l) s = failN s 1 := by
 simp only [condX, hl, if_pos hn]
 rfl
end
end Go.Proofs.Ytgjeefedcfakdaa
