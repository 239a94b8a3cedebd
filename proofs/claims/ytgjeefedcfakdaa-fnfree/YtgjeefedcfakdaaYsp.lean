/- The model's expander: l4Special: what is handed on whole. -/
import Derived.Deep.DeepCutAuto
import Derived.Test.YtgjeefedcfakdaaYap
set_option linter.unusedVariables false
namespace Go.Proofs.Ytgjeefedcfakdaa
open Go.ChangeShapes Go.WideShapes Go.ChangeAt Go.RowKit
section
variable {B b o cc : Nat} {cs : List Dat} {a2 : Option Addr} {n2 c2 : Nat} {root : Int} {R : Int → Sx → Sx}
def WC (B b o cc : Nat) (cs : List Dat) (a2 : Option Addr) (n2 c2 : Nat) (root : Int) (sw : ByteArray) (l : List Int) (F : Sx → Sx) : Prop :=
 ∀ (Gz : Nat → Prop) (W : World) (a3 : Option Addr) (n3 c3 : Nat) (code : Int) (r : Sx) (al : Option Addr) (cl : Nat), B ≤ W.heap.size → (∀ g, Gz g → g < W.heap.size) → RowD W B (some ⟨b, o, none⟩) cs → XRep Gz W B (.slice a3 n3 c3) n3 code r → l.length ≤ cl → RowT W al l →
  Calls Try.prog 82 #[xV (.slice (some ⟨b, o, none⟩) cs.length cc) (.slice a2 n2 c2) (.slice a3 n3 c3) root code, .string sw, .slice al l.length cl] W fun e w' => XEnd Gz B (.slice (some ⟨b, o, none⟩) cs.length cc) (.slice a2 n2 c2) a3 n3 c3 root (F r) W e w'
set_option maxRecDepth 100000 in
set_option maxHeartbeats 2000000 in
theorem l4Sp_86 (F : Sx → Sx) (sw : ByteArray) (hw : sw.toList = [98, 101, 103, 105, 110]) (l : List Int) (hl : l.length ≤ 1048576) (ht : LC B b o cc cs a2 n2 c2 root 86 (l) (F)) : WC B b o cc cs a2 n2 c2 root sw (l) (F) := by
 intro Gz w a3 n3 c3 code r al cl hB hGl hrow hr hcl hal
 obtain ⟨W0, HW0, HP⟩ := Pt.begin cc a2 n2 c2 root hB hrow hr
 have HGL : Hid (∀ g, Gz g → g < w.heap.size) := hGl
 have HT : Hid (RowT w al l) := hal
 have HL : Hid (LC B b o cc cs a2 n2 c2 root 86 (l) (F)) := ht
 have ws0 : (sw.toList == [113, 117, 111, 116, 101]) = false := by rw [hw]; rfl
 have ws1 : (sw.toList == [105, 102]) = false := by rw [hw]; rfl
 have ws2 : (sw.toList == [98, 101, 103, 105, 110]) = true := beq_iff_eq.2 hw
 clear hw ht hrow hr hal hGl hB
 unfold xV
 go_enter Try.func82, Try.ntmps82
 go_upto_region 13 with fail
 rw [HW0.out]
 clear HW0
 obtain ⟨a10, n10, c10, k10, HF10, HX10, HZ10, hK10, hws0, hws1, hnn, ⟨x0, x1, x2, x3, x4, xf0, xf1, xf2, xf3, xf4⟩, z0, z1, z2, z3, z4, zf0, zf1, zf2, zf3, zf4⟩ := HP.out.opn
 replace HT := hid (HT.out.kt hK10)
 clear HP hK10
 go_wp2_with fail
 refine (list_at HL.out HF10.out HGL.out (al := al) (cl := cl) hcl HT.out).mono ?_
 rintro e v1 ⟨qa, qn, qc, qk, rfl, hx1, hg1, hs1⟩
 have HE : Hid _ := hx1
 have HG : Hid _ := hg1
 have HS : Hid _ := hs1
 obtain ⟨zy0, zy1, zy2, zy3, zy4, zyf0, zyf1, zyf2, zyf3, zyf4⟩ := HF10.out.cells hg1 HZ10.out
 clear hx1 hg1 hs1
 unfold xV
 go_wp2
 refine bodyPost_ret (fin104 rfl rfl (set5_same _ _ _ _ _ (HF10.out.rep.kt HG.out (by decide) HZ10.out) _ _ _ _ _)) rfl ?_
 exact HF10.out.ret HZ10.out HE.out HG.out HS.out
set_option maxRecDepth 100000 in
set_option maxHeartbeats 2000000 in
theorem l4Sp_89 (F : Sx → Sx) (sw : ByteArray) (hw : sw.toList = [108, 101, 116]) (l : List Int) (hl : l.length ≤ 1048576) (ht : LC B b o cc cs a2 n2 c2 root 89 (l) (F)) : WC B b o cc cs a2 n2 c2 root sw (l) (F) := by
 intro Gz w a3 n3 c3 code r al cl hB hGl hrow hr hcl hal
 obtain ⟨W0, HW0, HP⟩ := Pt.begin cc a2 n2 c2 root hB hrow hr
 have HGL : Hid (∀ g, Gz g → g < w.heap.size) := hGl
 have HT : Hid (RowT w al l) := hal
 have HL : Hid (LC B b o cc cs a2 n2 c2 root 89 (l) (F)) := ht
 have ws0 : (sw.toList == [113, 117, 111, 116, 101]) = false := by rw [hw]; rfl
 have ws1 : (sw.toList == [105, 102]) = false := by rw [hw]; rfl
 have ws2 : (sw.toList == [98, 101, 103, 105, 110]) = false := by rw [hw]; rfl
 have ws3 : (sw.toList == [115, 101, 116, 33]) = false := by rw [hw]; rfl
 have ws4 : (sw.toList == [108, 97, 109, 98, 100, 97]) = false := by rw [hw]; rfl
 have ws5 : (sw.toList == [108, 101, 116]) = true := beq_iff_eq.2 hw
 clear hw ht hrow hr hal hGl hB
 unfold xV
 go_enter Try.func82, Try.ntmps82
 go_upto_region 28 with fail
 rw [HW0.out]
 clear HW0
 obtain ⟨a10, n10, c10, k10, HF10, HX10, HZ10, hK10, hws0, hws1, hnn, ⟨x0, x1, x2, x3, x4, xf0, xf1, xf2, xf3, xf4⟩, z0, z1, z2, z3, z4, zf0, zf1, zf2, zf3, zf4⟩ := HP.out.opn
 replace HT := hid (HT.out.kt hK10)
 clear HP hK10
 go_wp2_with fail
 refine (list_at HL.out HF10.out HGL.out (al := al) (cl := cl) hcl HT.out).mono ?_
 rintro e v1 ⟨qa, qn, qc, qk, rfl, hx1, hg1, hs1⟩
 have HE : Hid _ := hx1
 have HG : Hid _ := hg1
 have HS : Hid _ := hs1
 obtain ⟨zy0, zy1, zy2, zy3, zy4, zyf0, zyf1, zyf2, zyf3, zyf4⟩ := HF10.out.cells hg1 HZ10.out
 clear hx1 hg1 hs1
 unfold xV
 go_wp2
 refine bodyPost_ret (fin104 rfl rfl (set5_same _ _ _ _ _ (HF10.out.rep.kt HG.out (by decide) HZ10.out) _ _ _ _ _)) rfl ?_
 exact HF10.out.ret HZ10.out HE.out HG.out HS.out
set_option maxRecDepth 100000 in
set_option maxHeartbeats 2000000 in
theorem l4Sp_92 (F : Sx → Sx) (sw : ByteArray) (hw : sw.toList = [99, 111, 110, 100]) (l : List Int) (hl : l.length ≤ 1048576) (ht : LC B b o cc cs a2 n2 c2 root 92 (l) (F)) : WC B b o cc cs a2 n2 c2 root sw (l) (F) := by
 intro Gz w a3 n3 c3 code r al cl hB hGl hrow hr hcl hal
 obtain ⟨W0, HW0, HP⟩ := Pt.begin cc a2 n2 c2 root hB hrow hr
 have HGL : Hid (∀ g, Gz g → g < w.heap.size) := hGl
 have HT : Hid (RowT w al l) := hal
 have HL : Hid (LC B b o cc cs a2 n2 c2 root 92 (l) (F)) := ht
 have ws0 : (sw.toList == [113, 117, 111, 116, 101]) = false := by rw [hw]; rfl
 have ws1 : (sw.toList == [105, 102]) = false := by rw [hw]; rfl
 have ws2 : (sw.toList == [98, 101, 103, 105, 110]) = false := by rw [hw]; rfl
 have ws3 : (sw.toList == [115, 101, 116, 33]) = false := by rw [hw]; rfl
 have ws4 : (sw.toList == [108, 97, 109, 98, 100, 97]) = false := by rw [hw]; rfl
 have ws5 : (sw.toList == [108, 101, 116]) = false := by rw [hw]; rfl
 have ws6 : (sw.toList == [108, 101, 116, 42]) = false := by rw [hw]; rfl
 have ws7 : (sw.toList == [99, 111, 110, 100]) = true := beq_iff_eq.2 hw
 clear hw ht hrow hr hal hGl hB
 unfold xV
 go_enter Try.func82, Try.ntmps82
 go_upto_region 35 with fail
 rw [HW0.out]
 clear HW0
 obtain ⟨a10, n10, c10, k10, HF10, HX10, HZ10, hK10, hws0, hws1, hnn, ⟨x0, x1, x2, x3, x4, xf0, xf1, xf2, xf3, xf4⟩, z0, z1, z2, z3, z4, zf0, zf1, zf2, zf3, zf4⟩ := HP.out.opn
 replace HT := hid (HT.out.kt hK10)
 clear HP hK10
 go_wp2_with fail
 refine (list_at HL.out HF10.out HGL.out (al := al) (cl := cl) hcl HT.out).mono ?_
 rintro e v1 ⟨qa, qn, qc, qk, rfl, hx1, hg1, hs1⟩
 have HE : Hid _ := hx1
 have HG : Hid _ := hg1
 have HS : Hid _ := hs1
 obtain ⟨zy0, zy1, zy2, zy3, zy4, zyf0, zyf1, zyf2, zyf3, zyf4⟩ := HF10.out.cells hg1 HZ10.out
 clear hx1 hg1 hs1
 unfold xV
 go_wp2
 refine bodyPost_ret (fin104 rfl rfl (set5_same _ _ _ _ _ (HF10.out.rep.kt HG.out (by decide) HZ10.out) _ _ _ _ _)) rfl ?_
 exact HF10.out.ret HZ10.out HE.out HG.out HS.out
set_option maxRecDepth 100000 in
set_option maxHeartbeats 2000000 in
theorem l4Sp_93 (F : Sx → Sx) (sw : ByteArray) (hw : sw.toList = [97, 110, 100]) (l : List Int) (hl : l.length ≤ 1048576) (ht : LC B b o cc cs a2 n2 c2 root 93 (l) (F)) : WC B b o cc cs a2 n2 c2 root sw (l) (F) := by
 intro Gz w a3 n3 c3 code r al cl hB hGl hrow hr hcl hal
 obtain ⟨W0, HW0, HP⟩ := Pt.begin cc a2 n2 c2 root hB hrow hr
 have HGL : Hid (∀ g, Gz g → g < w.heap.size) := hGl
 have HT : Hid (RowT w al l) := hal
 have HL : Hid (LC B b o cc cs a2 n2 c2 root 93 (l) (F)) := ht
 have ws0 : (sw.toList == [113, 117, 111, 116, 101]) = false := by rw [hw]; rfl
 have ws1 : (sw.toList == [105, 102]) = false := by rw [hw]; rfl
 have ws2 : (sw.toList == [98, 101, 103, 105, 110]) = false := by rw [hw]; rfl
 have ws3 : (sw.toList == [115, 101, 116, 33]) = false := by rw [hw]; rfl
 have ws4 : (sw.toList == [108, 97, 109, 98, 100, 97]) = false := by rw [hw]; rfl
 have ws5 : (sw.toList == [108, 101, 116]) = false := by rw [hw]; rfl
 have ws6 : (sw.toList == [108, 101, 116, 42]) = false := by rw [hw]; rfl
 have ws7 : (sw.toList == [99, 111, 110, 100]) = false := by rw [hw]; rfl
 have ws8 : (sw.toList == [97, 110, 100]) = true := beq_iff_eq.2 hw
 clear hw ht hrow hr hal hGl hB
 unfold xV
 go_enter Try.func82, Try.ntmps82
 go_upto_region 37 with fail
 rw [HW0.out]
 clear HW0
 obtain ⟨a10, n10, c10, k10, HF10, HX10, HZ10, hK10, hws0, hws1, hnn, ⟨x0, x1, x2, x3, x4, xf0, xf1, xf2, xf3, xf4⟩, z0, z1, z2, z3, z4, zf0, zf1, zf2, zf3, zf4⟩ := HP.out.opn
 replace HT := hid (HT.out.kt hK10)
 clear HP hK10
 go_wp2_with fail
 refine (list_at HL.out HF10.out HGL.out (al := al) (cl := cl) hcl HT.out).mono ?_
 rintro e v1 ⟨qa, qn, qc, qk, rfl, hx1, hg1, hs1⟩
 have HE : Hid _ := hx1
 have HG : Hid _ := hg1
 have HS : Hid _ := hs1
 obtain ⟨zy0, zy1, zy2, zy3, zy4, zyf0, zyf1, zyf2, zyf3, zyf4⟩ := HF10.out.cells hg1 HZ10.out
 clear hx1 hg1 hs1
 unfold xV
 go_wp2
 refine bodyPost_ret (fin104 rfl rfl (set5_same _ _ _ _ _ (HF10.out.rep.kt HG.out (by decide) HZ10.out) _ _ _ _ _)) rfl ?_
 exact HF10.out.ret HZ10.out HE.out HG.out HS.out
set_option maxRecDepth 100000 in
set_option maxHeartbeats 2000000 in
theorem l4Sp_94 (F : Sx → Sx) (sw : ByteArray) (hw : sw.toList = [111, 114]) (l : List Int) (hl : l.length ≤ 1048576) (ht : LC B b o cc cs a2 n2 c2 root 94 (l) (F)) : WC B b o cc cs a2 n2 c2 root sw (l) (F) := by
 intro Gz w a3 n3 c3 code r al cl hB hGl hrow hr hcl hal
 obtain ⟨W0, HW0, HP⟩ := Pt.begin cc a2 n2 c2 root hB hrow hr
 have HGL : Hid (∀ g, Gz g → g < w.heap.size) := hGl
 have HT : Hid (RowT w al l) := hal
 have HL : Hid (LC B b o cc cs a2 n2 c2 root 94 (l) (F)) := ht
 have ws0 : (sw.toList == [113, 117, 111, 116, 101]) = false := by rw [hw]; rfl
 have ws1 : (sw.toList == [105, 102]) = false := by rw [hw]; rfl
 have ws2 : (sw.toList == [98, 101, 103, 105, 110]) = false := by rw [hw]; rfl
 have ws3 : (sw.toList == [115, 101, 116, 33]) = false := by rw [hw]; rfl
 have ws4 : (sw.toList == [108, 97, 109, 98, 100, 97]) = false := by rw [hw]; rfl
 have ws5 : (sw.toList == [108, 101, 116]) = false := by rw [hw]; rfl
 have ws6 : (sw.toList == [108, 101, 116, 42]) = false := by rw [hw]; rfl
 have ws7 : (sw.toList == [99, 111, 110, 100]) = false := by rw [hw]; rfl
 have ws8 : (sw.toList == [97, 110, 100]) = false := by rw [hw]; rfl
 have ws9 : (sw.toList == [111, 114]) = true := beq_iff_eq.2 hw
 clear hw ht hrow hr hal hGl hB
 unfold xV
 go_enter Try.func82, Try.ntmps82
 go_upto_region 39 with fail
 rw [HW0.out]
 clear HW0
 obtain ⟨a10, n10, c10, k10, HF10, HX10, HZ10, hK10, hws0, hws1, hnn, ⟨x0, x1, x2, x3, x4, xf0, xf1, xf2, xf3, xf4⟩, z0, z1, z2, z3, z4, zf0, zf1, zf2, zf3, zf4⟩ := HP.out.opn
 replace HT := hid (HT.out.kt hK10)
 clear HP hK10
 go_wp2_with fail
 refine (list_at HL.out HF10.out HGL.out (al := al) (cl := cl) hcl HT.out).mono ?_
 rintro e v1 ⟨qa, qn, qc, qk, rfl, hx1, hg1, hs1⟩
 have HE : Hid _ := hx1
 have HG : Hid _ := hg1
 have HS : Hid _ := hs1
 obtain ⟨zy0, zy1, zy2, zy3, zy4, zyf0, zyf1, zyf2, zyf3, zyf4⟩ := HF10.out.cells hg1 HZ10.out
 clear hx1 hg1 hs1
 unfold xV
 go_wp2
 refine bodyPost_ret (fin104 rfl rfl (set5_same _ _ _ _ _ (HF10.out.rep.kt HG.out (by decide) HZ10.out) _ _ _ _ _)) rfl ?_
 exact HF10.out.ret HZ10.out HE.out HG.out HS.out
end
end Go.Proofs.Ytgjeefedcfakdaa
