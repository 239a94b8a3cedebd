/- The model's expander: l4Record: field. The model's expander: l4Special: records, primitives, set! of no name. -/
import Derived.Deep.DeepCutAuto
import Derived.Test.YtgjeefedcfakdaaYrd
import Derived.Test.YtgjeefedcfakdaaYqu
set_option linter.unusedVariables false
namespace Go.Proofs.Ytgjeefedcfakdaa
open Go.ChangeShapes Go.WideShapes Go.ChangeAt Go.RowKit
section
variable {B b o cc : Nat} {cs : List Dat} {a2 : Option Addr} {n2 c2 : Nat} {root : Int} {R : Int → Sx → Sx}
set_option maxRecDepth 100000 in
set_option maxHeartbeats 4000000 in
theorem l4Rec_ok_field (hg : Good cs) (sw : ByteArray) (hw : sw.toList = [102, 105, 101, 108, 100]) (kx : Nat) (hkx : kx < cs.length) (nm : ByteArray) (hnm : nmOf cs (kx : Int) = some nm) (ki : Nat) (d : Dat) (hdi : cs[ki]? = some d) (hnn : d.k = 1 ∧ 0 ≤ d.n ∧ d.n ≤ 7) (e9 : Int) (hi : AC B b o cc cs a2 n2 c2 root R ([e9])) : RC B b o cc cs a2 n2 c2 root sw ([(kx : Int), (ki : Int), e9]) (recX R sw d.n nm ([e9])) := by
 intro Gz w a3 n3 c3 code r al cl hB hGl hrow hr hcl hal
 obtain ⟨g, p, rfl⟩ := hal.some
 obtain ⟨W0, HW0, HP⟩ := Pt.begin cc a2 n2 c2 root hB hrow hr
 have HGL : Hid (∀ g, Gz g → g < w.heap.size) := hGl
 have HT : Hid (RowT w (some ⟨g, p, none⟩) ([(kx : Int), (ki : Int), e9])) := hal
 have HNM : Hid (nmOf cs (kx : Int) = some nm) := hnm
 have HI : Hid (AC B b o cc cs a2 n2 c2 root R ([e9])) := hi
 have rsf : (sw.toList == [102, 105, 101, 108, 100]) = true := beq_iff_eq.2 hw
 have rsm : (sw.toList == [109, 97, 107, 101]) = false := by rw [hw]; rfl
 have rsn : (sw.toList != [109, 97, 107, 101]) = true := by rw [hw]; rfl
 have hcsn := hg.n
 have hcl' : 3 ≤ cl := hcl
 have HDI : Hid (cs[ki]? = some d) := hdi
 clear hdi
 have qk1 : (d.k == 1) = true := beq_iff_eq.2 hnn.1
 have HIN : Hid ((decide (0 ≤ d.n) && decide (d.n ≤ 7)) = true) := by show _ = _; simp [hnn.2.1, hnn.2.2]
 clear hnn
 clear hw hrow hr hal hGl hB hnm hi hcl
 unfold xV
 go_enter Try.func96, Try.ntmps96
 go_upto_region 6 with fail
 rw [HW0.out]
 clear HW0
 obtain ⟨a10, n10, c10, k10, HF10, HX10, HZ10, hK10, hws0, hws1, hnn, ⟨x0, x1, x2, x3, x4, xf0, xf1, xf2, xf3, xf4⟩, z0, z1, z2, z3, z4, zf0, zf1, zf2, zf3, zf4⟩ := HP.out.opn
 replace HT := hid (HT.out.kt hK10)
 clear HP hK10
 go_cut [8, 9] (fun tv iv wx => tv = .string nm ∧ iv = .bool true ∧ Pt Gz w W0 wx B b o cc cs a2 n2 c2 root (.slice a3 n3 c3) (r))
 case first =>
  have c0 := HT.out.head
  have HSN : Hid (nm = (cel cs (kx : Int)).s) := nm_some HNM.out
  go_region_with (go_at_call 87; (refine (nm_call hg HF10.out kx hkx).mono ?_; rintro e9 v1 ⟨rfl, hb1⟩))
  all_goals (go_wp2_with fail; go_meet; exact ⟨by rw [← HSN.out], by rw [HNM.out]; rfl, Pt.below HF10.out HX10.out HZ10.out (KT.refl _) hb1⟩)
 case rest =>
  clear HF10 HX10 HZ10 hws0 hws1 hnn x0 x1 x2 x3 x4 xf0 xf1 xf2 xf3 xf4 z0 z1 z2 z3 z4 zf0 zf1 zf2 zf3 zf4
  obtain ⟨W1, rfl⟩ : ∃ x, x = wc := ⟨_, rfl⟩
  obtain ⟨rfl, rfl, hP1⟩ := hcut
  have HP : Hid (Pt Gz w W0 W1 B b o cc cs a2 n2 c2 root (.slice a3 n3 c3) (r)) := hP1
  clear hP1
  obtain ⟨a11, n11, c11, k11, HF11, HX11, HZ11, hK11, hws0, hws1, hnn, ⟨x0, x1, x2, x3, x4, xf0, xf1, xf2, xf3, xf4⟩, z0, z1, z2, z3, z4, zf0, zf1, zf2, zf3, zf4⟩ := HP.out.opn
  replace HT := hid (HT.out.kt hK11)
  clear HP hK11
  clear HNM
  go_upto_region 9 with fail
  go_cut [11] (fun pv wx => ∃ gd, pv = .pointer (some ⟨gd, 0, none⟩) ∧ wx.heap[gd]? = some (Obj.cells #[.int .i64 d.k, .int .i64 d.n, .string d.s, .int .i64 d.l, .int .i64 d.r] 98) ∧ Pt Gz w W1 wx B b o cc cs a2 n2 c2 root (.slice a3 n3 c3) (r))
  case first =>
   have c1 := HT.out.second
   have hgw := HT.out.lt
   have hd := HDI.out
   obtain ⟨hbB, d0, d1, d2, d3, d4⟩ := HF11.out.dat hd
   have hbw : b < W1.heap.size := by have := HF11.out.bsz; omega
   have hkl : ki < cs.length := (llt hd)
   have hcsn := hg.n
   go_region_with (fail)
   all_goals (go_wp2_with fail; go_meet; exact ⟨_, rfl, (by first | exact blk_drew (blk_at _ _ _ rfl) | exact blk_at _ _ _ rfl), Pt.below HF11.out HX11.out HZ11.out (KT.refl _) (by first | exact (bR _ _).drew | exact (Below.refl _ _).drew.alloc (Nat.le_refl _) _ | exact bR _ _)⟩)
  case rest =>
   clear HF11 HX11 HZ11 hws0 hws1 hnn x0 x1 x2 x3 x4 xf0 xf1 xf2 xf3 xf4 z0 z1 z2 z3 z4 zf0 zf1 zf2 zf3 zf4
   obtain ⟨W2, rfl⟩ : ∃ x, x = wc := ⟨_, rfl⟩
   obtain ⟨gd, rfl, hd98, hP1⟩ := hcut
   have HP : Hid (Pt Gz w W1 W2 B b o cc cs a2 n2 c2 root (.slice a3 n3 c3) (r)) := hP1
   clear hP1
   obtain ⟨e0, e1, e2, e3, e4, _, _, _, _, _⟩ := cells5 hd98
   obtain ⟨a12, n12, c12, k12, HF12, HX12, HZ12, hK12, hws0, hws1, hnn, ⟨x0, x1, x2, x3, x4, xf0, xf1, xf2, xf3, xf4⟩, z0, z1, z2, z3, z4, zf0, zf1, zf2, zf3, zf4⟩ := HP.out.opn
   replace HT := hid (HT.out.kt hK12)
   clear HP hK12
   have HDh : Hid (Blk98 gd #[.int .i64 d.k, .int .i64 d.n, .string d.s, .int .i64 d.l, .int .i64 d.r] W2) := hd98
   clear hd98 e0 e1 e2 e3 e4
   go_upto_region 10 with fail
   go_cut [9] (fun iv wx => iv = .bool true ∧ Pt Gz w W2 wx B b o cc cs a2 n2 c2 root (.slice a3 n3 c3) (r))
   case first =>
    obtain ⟨e0, e1⟩ := zn2 HDh.out rfl rfl
    go_wp2_with (go_at_call 24; (refine (l1In_any d.n 0 7 _).mono ?_; rintro e v1 ⟨rfl, rfl⟩))
    go_meet
    exact ⟨by rw [HIN.out], Pt.below HF12.out HX12.out HZ12.out (KT.refl _) (Below.refl _ _)⟩
   case rest =>
    clear HF12 HX12 HZ12 hws0 hws1 hnn x0 x1 x2 x3 x4 xf0 xf1 xf2 xf3 xf4 z0 z1 z2 z3 z4 zf0 zf1 zf2 zf3 zf4
    obtain ⟨W3, rfl⟩ : ∃ x, x = wc := ⟨_, rfl⟩
    obtain ⟨rfl, hP1⟩ := hcut
    have HP : Hid (Pt Gz w W2 W3 B b o cc cs a2 n2 c2 root (.slice a3 n3 c3) (r)) := hP1
    clear hP1
    obtain ⟨a13, n13, c13, k13, HF13, HX13, HZ13, hK13, hws0, hws1, hnn, ⟨x0, x1, x2, x3, x4, xf0, xf1, xf2, xf3, xf4⟩, z0, z1, z2, z3, z4, zf0, zf1, zf2, zf3, zf4⟩ := HP.out.opn
    replace HT := hid (HT.out.kt hK13)
    replace HDh := hid (HDh.out.kt hK13)
    clear HP hK13
    have e1 := zB 1 HDh.out rfl
    go_upto_region 14 with fail
    clear e1 HDh
    have hc1 : ¬ cl = 2 := by omega
    have hc2 : 2 < cl := by omega
    clear hcl'
    go_cut [12, 13] (fun yv av wx => ∃ (gy : Nat) (aY : Option Addr) (nY cY : Nat) (kY : Int) (ux : Option Addr) (cu : Nat), yv = .pointer (some ⟨gy, 0, none⟩) ∧ av = .slice ux 1 cu ∧ Fx Gz w wx B b o cs (.slice a3 n3 c3) (.slice aY nY cY) nY kY (allX R ([e9]) r).1 ∧ wx.heap[gy]? = some (Obj.cells #[.slice (some ⟨b, o, none⟩) cs.length cc, .slice a2 n2 c2, .slice aY nY cY, .int .i64 root, .int .i64 kY] 104) ∧ wx.heap[w.heap.size + 1]? = some (Obj.cells #[.slice none 0 0, .slice none 0 0, .slice none 0 0, .int .i64 0, .int .i64 0] 104) ∧ NewI w wx ux (allX R ([e9]) r).2 cu ∧ (allX R ([e9]) r).2.length = 1 ∧ 1 ≤ cu)
    case first =>
     go_region_with (go_at_call 83; (refine (all_at2 HI.out HF13.out HGL.out (al := (some ⟨g, p + 2, none⟩)) (cl := (cl - 2)) (by show 1 ≤ cl - 2; omega) HT.out.tail.tail).mono ?_; rintro e v1 ⟨qa, qn, qc, qk, ux, cux, rfl, hx1, hg1, hg2, hv1, ho1, hl1, hc1⟩; have HE : Hid _ := hx1; have HG : Hid _ := hg1; have HG2 : Hid _ := hg2; have HO : Hid (NewI w v1 ux (allX R ([e9]) r).2 cux) := ho1; have HL1 : Hid _ := hl1; have HC1 : Hid _ := hc1; clear hx1 hg1 hg2 ho1 hl1 hc1; (first | (have hy := HG.out W3.heap.size #[.slice none 0 0, .slice none 0 0, .slice none 0 0, .int .i64 0, .int .i64 0] 104 (by decide) (by first | exact blk_drew (blk_at _ _ _ rfl) | exact blk_at _ _ _ rfl); have HY : Hid _ := hy; obtain ⟨y0, y1, y2, y3, y4, yf0, yf1, yf2, yf3, yf4⟩ := cells5 hy; clear hy) | skip); unfold xV))
     all_goals (go_wp2_with fail; go_meet; first | exact ⟨_, qa, qn, qc, qk, ux, cux, rfl, rfl, Fx.lay HE.out HY.out (by omega) _ _ _ _ _, set5_same _ _ _ _ _ HY.out _ _ _ _ _, (set5_other _ _ _ _ _ _ _ _ (by omega)).trans (HG2.out _ _ 104 (by decide) HZ13.out), HO.out.kt (KT.lay HY.out _ _ _ _ _), HL1.out, HC1.out⟩ | exact ⟨_, qa, qn, qc, qk, ux, cux, rfl, rfl, Fx.below HE.out (bR _ _), blk_at _ _ _ rfl, blk_past (HG2.out _ _ 104 (by decide) HZ13.out), HO.out.kt (KT.below (bR _ _)), HL1.out, HC1.out⟩)
    case rest =>
     clear HF13 HX13 HZ13 hws0 hws1 hnn x0 x1 x2 x3 x4 xf0 xf1 xf2 xf3 xf4 z0 z1 z2 z3 z4 zf0 zf1 zf2 zf3 zf4
     obtain ⟨W4, rfl⟩ : ∃ x, x = wc := ⟨_, rfl⟩
     obtain ⟨gy, a14, n14, c14, k14, ux14, cu14, rfl, rfl, f1, f2, f3, f4, f5, f6⟩ := hcut
     have HF14 : Hid (Fx Gz w W4 B b o cs (.slice a3 n3 c3) (.slice a14 n14 c14) n14 k14 (allX R ([e9]) r).1) := f1
     have HX14 : Hid (W4.heap[gy]? = some (Obj.cells #[.slice (some ⟨b, o, none⟩) cs.length cc, .slice a2 n2 c2, .slice a14 n14 c14, .int .i64 root, .int .i64 k14] 104)) := f2
     have HZ14 : Hid (W4.heap[w.heap.size + 1]? = some (Obj.cells #[.slice none 0 0, .slice none 0 0, .slice none 0 0, .int .i64 0, .int .i64 0] 104)) := f3
     have HU14 : Hid (NewI w W4 ux14 (allX R ([e9]) r).2 cu14) := f4
     have HM14 : Hid ((allX R ([e9]) r).2.length = 1) := f5
     have hcu14 := f6
     clear f1 f2 f3 f4 f5 f6
     obtain ⟨x0, x1, x2, x3, x4, xf0, xf1, xf2, xf3, xf4⟩ := cells5 HX14.out
     obtain ⟨z0, z1, z2, z3, z4, zf0, zf1, zf2, zf3, zf4⟩ := cells5 HZ14.out
     have hws0 : gy < W4.heap.size := (alt HX14.out)
     have hws1 : w.heap.size + 1 < W4.heap.size := (alt HZ14.out)
     have hnn : n14 ≤ 400 := HF14.out.n400
     go_wp2_with fail
     refine (put_len HF14.out HGL.out (recN sw d.n nm (allX R ([e9]) r).2) (NewS.lit [nm] (by first | exact blk_at _ _ _ rfl | exact blk_at _ _ _ (by simp)) (by first | omega | (simp <;> omega))) (HU14.out.kt (KT.below (bR _ _))) rfl HM14.out (Nat.le_refl _) hcu14).mono ?_
     rintro e v1 ⟨qa, qn, qc, qk, rfl, hx1, hg1, hs1⟩
     have HE : Hid _ := hx1
     have HG : Hid _ := hg1
     have HS : Hid _ := hs1
     obtain ⟨zy0, zy1, zy2, zy3, zy4, zyf0, zyf1, zyf2, zyf3, zyf4⟩ := HF14.out.cells hg1 HZ14.out
     clear hx1 hg1 hs1
     unfold xV
     go_wp2
     refine bodyPost_ret (fin104 rfl rfl (set5_same _ _ _ _ _ (HF14.out.rep.kt HG.out (by decide) HZ14.out) _ _ _ _ _)) rfl ?_
     exact HF14.out.ret HZ14.out HE.out HG.out HS.out
end
end Go.Proofs.Ytgjeefedcfakdaa
set_option linter.unusedVariables false
namespace Go.Proofs.Ytgjeefedcfakdaa
open Go.ChangeShapes Go.WideShapes Go.ChangeAt Go.RowKit
section
variable {B b o cc : Nat} {cs : List Dat} {a2 : Option Addr} {n2 c2 : Nat} {root : Int} {R : Int → Sx → Sx}
def wordsS : List (List UInt8) := [[113, 117, 111, 116, 101], [105, 102], [98, 101, 103, 105, 110], [115, 101, 116, 33], [108, 97, 109, 98, 100, 97], [108, 101, 116], [108, 101, 116, 42], [99, 111, 110, 100], [97, 110, 100], [111, 114], [119, 104, 101, 110], [109, 97, 107, 101], [102, 105, 101, 108, 100], [105, 115]]
set_option maxRecDepth 100000 in
set_option maxHeartbeats 2000000 in
theorem l4Sp_rec_make (F : Sx → Sx) (sw : ByteArray) (hw : sw.toList = [109, 97, 107, 101]) (l : List Int) (hl : l.length ≤ 1048576) (ht : RC B b o cc cs a2 n2 c2 root sw l F) : WC B b o cc cs a2 n2 c2 root sw (l) (F) := by
 intro Gz w a3 n3 c3 code r al cl hB hGl hrow hr hcl hal
 obtain ⟨W0, HW0, HP⟩ := Pt.begin cc a2 n2 c2 root hB hrow hr
 have HGL : Hid (∀ g, Gz g → g < w.heap.size) := hGl
 have HT : Hid (RowT w al l) := hal
 have HL : Hid (RC B b o cc cs a2 n2 c2 root sw l F) := ht
 have ws0 : (sw.toList == [113, 117, 111, 116, 101]) = false := by rw [hw]; rfl
 have ws1 : (sw.toList == [105, 102]) = false := by rw [hw]; rfl
 have ws2 : (sw.toList == [98, 101, 103, 105, 110]) = false := by rw [hw]; rfl
 have ws3 : (sw.toList == [115, 101, 116, 33]) = false := by rw [hw]; rfl
 have ws4 : (sw.toList == [108, 97, 109, 98, 100, 97]) = false := by rw [hw]; rfl
 have ws5 : (sw.toList == [108, 101, 116]) = false := by rw [hw]; rfl
 have ws6 : (sw.toList == [108, 101, 116, 42]) = false := by rw [hw]; rfl
 have ws7 : (sw.toList == [99, 111, 110, 100]) = false := by rw [hw]; rfl
 have ws8 : (sw.toList == [97, 110, 100]) = false := by rw [hw]; rfl
 have ws9 : (sw.toList == [111, 114]) = false := by rw [hw]; rfl
 have ws10 : (sw.toList == [119, 104, 101, 110]) = false := by rw [hw]; rfl
 have ws11 : (sw.toList == [109, 97, 107, 101]) = true := beq_iff_eq.2 hw
 clear hw ht hrow hr hal hGl hB
 unfold xV
 go_enter Try.func82, Try.ntmps82
 go_upto_region 51 with fail
 rw [HW0.out]
 clear HW0
 obtain ⟨a10, n10, c10, k10, HF10, HX10, HZ10, hK10, hws0, hws1, hnn, ⟨x0, x1, x2, x3, x4, xf0, xf1, xf2, xf3, xf4⟩, z0, z1, z2, z3, z4, zf0, zf1, zf2, zf3, zf4⟩ := HP.out.opn
 replace HT := hid (HT.out.kt hK10)
 clear HP hK10
 go_wp2_with fail
 refine (rec_at HL.out HF10.out HGL.out (al := al) (cl := cl) hcl HT.out).mono ?_
 rintro e v1 ⟨qa, qn, qc, qk, rfl, hx1, hg1, hs1⟩
 have HE : Hid _ := hx1
 have HG : Hid _ := hg1
 have HS : Hid _ := hs1
 obtain ⟨zy0, zy1, zy2, zy3, zy4, zyf0, zyf1, zyf2, zyf3, zyf4⟩ := HF10.out.cells hg1 HZ10.out
 clear hx1 hg1 hs1
 unfold xV
 go_wp2
 refine bodyPost_ret (fin104 rfl rfl (set5_same _ _ _ _ _ (HF10.out.rep.kt HG.out (by decide) HZ10.out) _ _ _ _ _)) rfl ?_
 exact HF10.out.ret HZ10.out HE.out HG.out HS.out
set_option maxRecDepth 100000 in
set_option maxHeartbeats 2000000 in
theorem l4Sp_rec_field (F : Sx → Sx) (sw : ByteArray) (hw : sw.toList = [102, 105, 101, 108, 100]) (l : List Int) (hl : l.length ≤ 1048576) (ht : RC B b o cc cs a2 n2 c2 root sw l F) : WC B b o cc cs a2 n2 c2 root sw (l) (F) := by
 intro Gz w a3 n3 c3 code r al cl hB hGl hrow hr hcl hal
 obtain ⟨W0, HW0, HP⟩ := Pt.begin cc a2 n2 c2 root hB hrow hr
 have HGL : Hid (∀ g, Gz g → g < w.heap.size) := hGl
 have HT : Hid (RowT w al l) := hal
 have HL : Hid (RC B b o cc cs a2 n2 c2 root sw l F) := ht
 have ws0 : (sw.toList == [113, 117, 111, 116, 101]) = false := by rw [hw]; rfl
 have ws1 : (sw.toList == [105, 102]) = false := by rw [hw]; rfl
 have ws2 : (sw.toList == [98, 101, 103, 105, 110]) = false := by rw [hw]; rfl
 have ws3 : (sw.toList == [115, 101, 116, 33]) = false := by rw [hw]; rfl
 have ws4 : (sw.toList == [108, 97, 109, 98, 100, 97]) = false := by rw [hw]; rfl
 have ws5 : (sw.toList == [108, 101, 116]) = false := by rw [hw]; rfl
 have ws6 : (sw.toList == [108, 101, 116, 42]) = false := by rw [hw]; rfl
 have ws7 : (sw.toList == [99, 111, 110, 100]) = false := by rw [hw]; rfl
 have ws8 : (sw.toList == [97, 110, 100]) = false := by rw [hw]; rfl
 have ws9 : (sw.toList == [111, 114]) = false := by rw [hw]; rfl
 have ws10 : (sw.toList == [119, 104, 101, 110]) = false := by rw [hw]; rfl
 have ws11 : (sw.toList == [109, 97, 107, 101]) = false := by rw [hw]; rfl
 have ws12 : (sw.toList == [102, 105, 101, 108, 100]) = true := beq_iff_eq.2 hw
 clear hw ht hrow hr hal hGl hB
 unfold xV
 go_enter Try.func82, Try.ntmps82
 go_upto_region 51 with fail
 rw [HW0.out]
 clear HW0
 obtain ⟨a10, n10, c10, k10, HF10, HX10, HZ10, hK10, hws0, hws1, hnn, ⟨x0, x1, x2, x3, x4, xf0, xf1, xf2, xf3, xf4⟩, z0, z1, z2, z3, z4, zf0, zf1, zf2, zf3, zf4⟩ := HP.out.opn
 replace HT := hid (HT.out.kt hK10)
 clear HP hK10
 go_wp2_with fail
 refine (rec_at HL.out HF10.out HGL.out (al := al) (cl := cl) hcl HT.out).mono ?_
 rintro e v1 ⟨qa, qn, qc, qk, rfl, hx1, hg1, hs1⟩
 have HE : Hid _ := hx1
 have HG : Hid _ := hg1
 have HS : Hid _ := hs1
 obtain ⟨zy0, zy1, zy2, zy3, zy4, zyf0, zyf1, zyf2, zyf3, zyf4⟩ := HF10.out.cells hg1 HZ10.out
 clear hx1 hg1 hs1
 unfold xV
 go_wp2
 refine bodyPost_ret (fin104 rfl rfl (set5_same _ _ _ _ _ (HF10.out.rep.kt HG.out (by decide) HZ10.out) _ _ _ _ _)) rfl ?_
 exact HF10.out.ret HZ10.out HE.out HG.out HS.out
set_option maxRecDepth 100000 in
set_option maxHeartbeats 2000000 in
theorem l4Sp_rec_is (F : Sx → Sx) (sw : ByteArray) (hw : sw.toList = [105, 115]) (l : List Int) (hl : l.length ≤ 1048576) (ht : RC B b o cc cs a2 n2 c2 root sw l F) : WC B b o cc cs a2 n2 c2 root sw (l) (F) := by
 intro Gz w a3 n3 c3 code r al cl hB hGl hrow hr hcl hal
 obtain ⟨W0, HW0, HP⟩ := Pt.begin cc a2 n2 c2 root hB hrow hr
 have HGL : Hid (∀ g, Gz g → g < w.heap.size) := hGl
 have HT : Hid (RowT w al l) := hal
 have HL : Hid (RC B b o cc cs a2 n2 c2 root sw l F) := ht
 have ws0 : (sw.toList == [113, 117, 111, 116, 101]) = false := by rw [hw]; rfl
 have ws1 : (sw.toList == [105, 102]) = false := by rw [hw]; rfl
 have ws2 : (sw.toList == [98, 101, 103, 105, 110]) = false := by rw [hw]; rfl
 have ws3 : (sw.toList == [115, 101, 116, 33]) = false := by rw [hw]; rfl
 have ws4 : (sw.toList == [108, 97, 109, 98, 100, 97]) = false := by rw [hw]; rfl
 have ws5 : (sw.toList == [108, 101, 116]) = false := by rw [hw]; rfl
 have ws6 : (sw.toList == [108, 101, 116, 42]) = false := by rw [hw]; rfl
 have ws7 : (sw.toList == [99, 111, 110, 100]) = false := by rw [hw]; rfl
 have ws8 : (sw.toList == [97, 110, 100]) = false := by rw [hw]; rfl
 have ws9 : (sw.toList == [111, 114]) = false := by rw [hw]; rfl
 have ws10 : (sw.toList == [119, 104, 101, 110]) = false := by rw [hw]; rfl
 have ws11 : (sw.toList == [109, 97, 107, 101]) = false := by rw [hw]; rfl
 have ws12 : (sw.toList == [102, 105, 101, 108, 100]) = false := by rw [hw]; rfl
 have ws13 : (sw.toList == [105, 115]) = true := beq_iff_eq.2 hw
 clear hw ht hrow hr hal hGl hB
 unfold xV
 go_enter Try.func82, Try.ntmps82
 go_upto_region 51 with fail
 rw [HW0.out]
 clear HW0
 obtain ⟨a10, n10, c10, k10, HF10, HX10, HZ10, hK10, hws0, hws1, hnn, ⟨x0, x1, x2, x3, x4, xf0, xf1, xf2, xf3, xf4⟩, z0, z1, z2, z3, z4, zf0, zf1, zf2, zf3, zf4⟩ := HP.out.opn
 replace HT := hid (HT.out.kt hK10)
 clear HP hK10
 go_wp2_with fail
 refine (rec_at HL.out HF10.out HGL.out (al := al) (cl := cl) hcl HT.out).mono ?_
 rintro e v1 ⟨qa, qn, qc, qk, rfl, hx1, hg1, hs1⟩
 have HE : Hid _ := hx1
 have HG : Hid _ := hg1
 have HS : Hid _ := hs1
 obtain ⟨zy0, zy1, zy2, zy3, zy4, zyf0, zyf1, zyf2, zyf3, zyf4⟩ := HF10.out.cells hg1 HZ10.out
 clear hx1 hg1 hs1
 unfold xV
 go_wp2
 refine bodyPost_ret (fin104 rfl rfl (set5_same _ _ _ _ _ (HF10.out.rep.kt HG.out (by decide) HZ10.out) _ _ _ _ _)) rfl ?_
 exact HF10.out.ret HZ10.out HE.out HG.out HS.out
set_option maxRecDepth 100000 in
set_option maxHeartbeats 2000000 in
theorem l4Sp_prim_ok (sw : ByteArray) (hw : ∀ v ∈ wordsS, sw.toList ≠ v) (l : List Int) (hn : cs.length ≤ 1048576) (hl : l.length ≤ 1048576) (hs : arL sw.toList = (l.length : Int)) (hi : AC B b o cc cs a2 n2 c2 root R (l)) : WC B b o cc cs a2 n2 c2 root sw (l) (fun r => putN (allX R l r).1 (primN sw (allX R l r).2)) := by
 intro Gz w a3 n3 c3 code r al cl hB hGl hrow hr hcl hal
 obtain ⟨W0, HW0, HP⟩ := Pt.begin cc a2 n2 c2 root hB hrow hr
 have HGL : Hid (∀ g, Gz g → g < w.heap.size) := hGl
 have HT : Hid (RowT w al l) := hal
 have HI : Hid (AC B b o cc cs a2 n2 c2 root R (l)) := hi
 clear hi
 have ws0 : (sw.toList == [113, 117, 111, 116, 101]) = false := beq_eq_false_iff_ne.2 (hw _ (by decide))
 have ws1 : (sw.toList == [105, 102]) = false := beq_eq_false_iff_ne.2 (hw _ (by decide))
 have ws2 : (sw.toList == [98, 101, 103, 105, 110]) = false := beq_eq_false_iff_ne.2 (hw _ (by decide))
 have ws3 : (sw.toList == [115, 101, 116, 33]) = false := beq_eq_false_iff_ne.2 (hw _ (by decide))
 have ws4 : (sw.toList == [108, 97, 109, 98, 100, 97]) = false := beq_eq_false_iff_ne.2 (hw _ (by decide))
 have ws5 : (sw.toList == [108, 101, 116]) = false := beq_eq_false_iff_ne.2 (hw _ (by decide))
 have ws6 : (sw.toList == [108, 101, 116, 42]) = false := beq_eq_false_iff_ne.2 (hw _ (by decide))
 have ws7 : (sw.toList == [99, 111, 110, 100]) = false := beq_eq_false_iff_ne.2 (hw _ (by decide))
 have ws8 : (sw.toList == [97, 110, 100]) = false := beq_eq_false_iff_ne.2 (hw _ (by decide))
 have ws9 : (sw.toList == [111, 114]) = false := beq_eq_false_iff_ne.2 (hw _ (by decide))
 have ws10 : (sw.toList == [119, 104, 101, 110]) = false := beq_eq_false_iff_ne.2 (hw _ (by decide))
 have ws11 : (sw.toList == [109, 97, 107, 101]) = false := beq_eq_false_iff_ne.2 (hw _ (by decide))
 have ws12 : (sw.toList == [102, 105, 101, 108, 100]) = false := beq_eq_false_iff_ne.2 (hw _ (by decide))
 have ws13 : (sw.toList == [105, 115]) = false := beq_eq_false_iff_ne.2 (hw _ (by decide))
 have HAR : Hid (∀ w, Calls Try.prog 51 #[.string sw] w fun e w' => e = .returned (.int .i64 (arL sw.toList)) ∧ w' = w) := fun w => specAr_any sw w
 have ls1 : (arL sw.toList == (l.length : Int)) = true := beq_iff_eq.2 hs
 clear hw hrow hr hal hGl hB hs
 unfold xV
 go_enter Try.func82, Try.ntmps82
 go_upto_region 2 with fail
 rw [HW0.out]
 clear HW0
 obtain ⟨a10, n10, c10, k10, HF10, HX10, HZ10, hK10, hws0, hws1, hnn, ⟨x0, x1, x2, x3, x4, xf0, xf1, xf2, xf3, xf4⟩, z0, z1, z2, z3, z4, zf0, zf1, zf2, zf3, zf4⟩ := HP.out.opn
 replace HT := hid (HT.out.kt hK10)
 clear HP hK10
 go_wp2_with fail
 refine (HAR.out _).mono ?_
 rintro e v9 ⟨rfl, hv9⟩
 have hv9 := hv9.symm
 subst hv9
 go_wp2_with fail
 refine (all_at HI.out HF10.out HGL.out (al := al) (cl := cl) hcl HT.out).mono ?_
 rintro e v1 ⟨a11, n11, c11, k11, ux11, cu11, rfl, hx1, hg1, hs1, ho1, hl1, hc1⟩
 have HF11 : Hid (Fx Gz w (v1.alloc (Obj.cells #[.slice (some ⟨b, o, none⟩) cs.length cc, .slice a2 n2 c2, .slice a11 n11 c11, .int .i64 root, .int .i64 k11] 104)) B b o cs (.slice a3 n3 c3) (.slice a11 n11 c11) n11 k11 (allX R (l) r).1) := (HF10.out.call hg1 hs1 hx1).below (bR _ _)
 have HX11 : Hid ((v1.alloc (Obj.cells #[.slice (some ⟨b, o, none⟩) cs.length cc, .slice a2 n2 c2, .slice a11 n11 c11, .int .i64 root, .int .i64 k11] 104)).heap[v1.heap.size]? = some (Obj.cells #[.slice (some ⟨b, o, none⟩) cs.length cc, .slice a2 n2 c2, .slice a11 n11 c11, .int .i64 root, .int .i64 k11] 104)) := blk_at _ _ _ rfl
 have HZ11 : Hid ((v1.alloc (Obj.cells #[.slice (some ⟨b, o, none⟩) cs.length cc, .slice a2 n2 c2, .slice a11 n11 c11, .int .i64 root, .int .i64 k11] 104)).heap[w.heap.size + 1]? = some (Obj.cells #[.slice none 0 0, .slice none 0 0, .slice none 0 0, .int .i64 0, .int .i64 0] 104)) := blk_past (HF10.out.rep.kt hg1 (by decide) HZ10.out)
 have HU11 : Hid (NewI w (v1.alloc (Obj.cells #[.slice (some ⟨b, o, none⟩) cs.length cc, .slice a2 n2 c2, .slice a11 n11 c11, .int .i64 root, .int .i64 k11] 104)) ux11 (allX R (l) r).2 cu11) := ho1.kt (KT.below (bR _ _))
 have HM11 : Hid ((allX R (l) r).2.length = l.length) := hl1
 have hcu11 := hc1
 have hk1 : KT W0 (v1.alloc (Obj.cells #[.slice (some ⟨b, o, none⟩) cs.length cc, .slice a2 n2 c2, .slice a11 n11 c11, .int .i64 root, .int .i64 k11] 104)) := KT.trans (fun q c t ht e => HF10.out.rep.kt hg1 ht.1 e) (KT.below (bR _ _))
 have hHT := HT.out.kt hk1
 clear HT
 have HT : Hid (RowT (v1.alloc (Obj.cells #[.slice (some ⟨b, o, none⟩) cs.length cc, .slice a2 n2 c2, .slice a11 n11 c11, .int .i64 root, .int .i64 k11] 104)) al l) := hHT
 clear hHT
 clear hx1 hg1 hs1 ho1 hl1 hc1 hk1
 clear HF10 HX10 HZ10 hws0 hws1 hnn x0 x1 x2 x3 x4 xf0 xf1 xf2 xf3 xf4 z0 z1 z2 z3 z4 zf0 zf1 zf2 zf3 zf4
 unfold xV
 go_upto_region 4 with fail
 generalize v1.alloc (Obj.cells #[.slice (some ⟨b, o, none⟩) cs.length cc, .slice a2 n2 c2, .slice a11 n11 c11, .int .i64 root, .int .i64 k11] 104) = W1 at *
 generalize v1.heap.size = gy11 at *
 obtain ⟨x0, x1, x2, x3, x4, xf0, xf1, xf2, xf3, xf4⟩ := cells5 HX11.out
 obtain ⟨z0, z1, z2, z3, z4, zf0, zf1, zf2, zf3, zf4⟩ := cells5 HZ11.out
 have hws0 : gy11 < W1.heap.size := (alt HX11.out)
 have hws1 : w.heap.size + 1 < W1.heap.size := (alt HZ11.out)
 have hnn : n11 ≤ 400 := HF11.out.n400
 go_wp2_with fail
 refine (put_len HF11.out HGL.out (primN sw (allX R (l) r).2) (NewS.nil _ _ _) HU11.out rfl HM11.out (Nat.le_refl _) hcu11).mono ?_
 rintro e v1 ⟨qa, qn, qc, qk, rfl, hx1, hg1, hs1⟩
 have HE : Hid _ := hx1
 have HG : Hid _ := hg1
 have HS : Hid _ := hs1
 obtain ⟨zy0, zy1, zy2, zy3, zy4, zyf0, zyf1, zyf2, zyf3, zyf4⟩ := HF11.out.cells hg1 HZ11.out
 clear hx1 hg1 hs1
 unfold xV
 go_wp2
 refine bodyPost_ret (fin104 rfl rfl (set5_same _ _ _ _ _ (HF11.out.rep.kt HG.out (by decide) HZ11.out) _ _ _ _ _)) rfl ?_
 exact HF11.out.ret HZ11.out HE.out HG.out HS.out
set_option maxRecDepth 100000 in
set_option maxHeartbeats 2000000 in
theorem l4Sp_prim_bad (sw : ByteArray) (hw : ∀ v ∈ wordsS, sw.toList ≠ v) (l : List Int) (hn : cs.length ≤ 1048576) (hl : l.length ≤ 1048576) (hs : arL sw.toList ≠ (l.length : Int)) : WC B b o cc cs a2 n2 c2 root sw (l) (fun r => failN r 1) := by
 intro Gz w a3 n3 c3 code r al cl hB hGl hrow hr hcl hal
 obtain ⟨W0, HW0, HP⟩ := Pt.begin cc a2 n2 c2 root hB hrow hr
 have HGL : Hid (∀ g, Gz g → g < w.heap.size) := hGl
 have HT : Hid (RowT w al l) := hal
 have ws0 : (sw.toList == [113, 117, 111, 116, 101]) = false := beq_eq_false_iff_ne.2 (hw _ (by decide))
 have ws1 : (sw.toList == [105, 102]) = false := beq_eq_false_iff_ne.2 (hw _ (by decide))
 have ws2 : (sw.toList == [98, 101, 103, 105, 110]) = false := beq_eq_false_iff_ne.2 (hw _ (by decide))
 have ws3 : (sw.toList == [115, 101, 116, 33]) = false := beq_eq_false_iff_ne.2 (hw _ (by decide))
 have ws4 : (sw.toList == [108, 97, 109, 98, 100, 97]) = false := beq_eq_false_iff_ne.2 (hw _ (by decide))
 have ws5 : (sw.toList == [108, 101, 116]) = false := beq_eq_false_iff_ne.2 (hw _ (by decide))
 have ws6 : (sw.toList == [108, 101, 116, 42]) = false := beq_eq_false_iff_ne.2 (hw _ (by decide))
 have ws7 : (sw.toList == [99, 111, 110, 100]) = false := beq_eq_false_iff_ne.2 (hw _ (by decide))
 have ws8 : (sw.toList == [97, 110, 100]) = false := beq_eq_false_iff_ne.2 (hw _ (by decide))
 have ws9 : (sw.toList == [111, 114]) = false := beq_eq_false_iff_ne.2 (hw _ (by decide))
 have ws10 : (sw.toList == [119, 104, 101, 110]) = false := beq_eq_false_iff_ne.2 (hw _ (by decide))
 have ws11 : (sw.toList == [109, 97, 107, 101]) = false := beq_eq_false_iff_ne.2 (hw _ (by decide))
 have ws12 : (sw.toList == [102, 105, 101, 108, 100]) = false := beq_eq_false_iff_ne.2 (hw _ (by decide))
 have ws13 : (sw.toList == [105, 115]) = false := beq_eq_false_iff_ne.2 (hw _ (by decide))
 have HAR : Hid (∀ w, Calls Try.prog 51 #[.string sw] w fun e w' => e = .returned (.int .i64 (arL sw.toList)) ∧ w' = w) := fun w => specAr_any sw w
 have ls1 : (arL sw.toList == (l.length : Int)) = false := beq_eq_false_iff_ne.2 hs
 clear hw hrow hr hal hGl hB hs
 unfold xV
 go_enter Try.func82, Try.ntmps82
 go_upto_region 2 with fail
 rw [HW0.out]
 clear HW0
 obtain ⟨a10, n10, c10, k10, HF10, HX10, HZ10, hK10, hws0, hws1, hnn, ⟨x0, x1, x2, x3, x4, xf0, xf1, xf2, xf3, xf4⟩, z0, z1, z2, z3, z4, zf0, zf1, zf2, zf3, zf4⟩ := HP.out.opn
 replace HT := hid (HT.out.kt hK10)
 clear HP hK10
 go_wp2_with fail
 refine (HAR.out _).mono ?_
 rintro e v9 ⟨rfl, hv9⟩
 have hv9 := hv9.symm
 subst hv9
 go_wp2_with fail
 refine (fail_at HF10.out).mono ?_
 rintro e v1 ⟨qa, qn, qc, qk, rfl, hx1, hg1, hs1⟩
 have HE : Hid _ := hx1
 have HG : Hid _ := hg1
 have HS : Hid _ := hs1
 obtain ⟨zy0, zy1, zy2, zy3, zy4, zyf0, zyf1, zyf2, zyf3, zyf4⟩ := HF10.out.cells hg1 HZ10.out
 clear hx1 hg1 hs1
 unfold xV
 go_wp2
 refine bodyPost_ret (fin104 rfl rfl (set5_same _ _ _ _ _ (HF10.out.rep.kt HG.out (by decide) HZ10.out) _ _ _ _ _)) rfl ?_
 exact HF10.out.ret HZ10.out HE.out HG.out HS.out
set_option maxRecDepth 100000 in
set_option maxHeartbeats 4000000 in
theorem l4Sp_set_bad (hg : Good cs) (sw : ByteArray) (hw : sw.toList = [115, 101, 116, 33]) (kx : Nat) (e : Int) (hkx : kx < cs.length) (hnm : nmOf cs (kx : Int) = none) : WC B b o cc cs a2 n2 c2 root sw ([(kx : Int), e]) (fun r => failN r 1) := by
 intro Gz w a3 n3 c3 code r al cl hB hGl hrow hr hcl hal
 obtain ⟨g, p, rfl⟩ := hal.some
 obtain ⟨W0, HW0, HP⟩ := Pt.begin cc a2 n2 c2 root hB hrow hr
 have HGL : Hid (∀ g, Gz g → g < w.heap.size) := hGl
 have HT : Hid (RowT w (some ⟨g, p, none⟩) [(kx : Int), e]) := hal
 have HNM : Hid (nmOf cs (kx : Int) = none) := hnm
 have ws0 : (sw.toList == [113, 117, 111, 116, 101]) = false := by rw [hw]; rfl
 have ws1 : (sw.toList == [105, 102]) = false := by rw [hw]; rfl
 have ws2 : (sw.toList == [98, 101, 103, 105, 110]) = false := by rw [hw]; rfl
 have ws3 : (sw.toList == [115, 101, 116, 33]) = true := beq_iff_eq.2 hw
 clear hw hrow hr hal hGl hB hnm
 unfold xV
 go_enter Try.func82, Try.ntmps82
 go_upto_region 16 with fail
 rw [HW0.out]
 clear HW0
 obtain ⟨a10, n10, c10, k10, HF10, HX10, HZ10, hK10, hws0, hws1, hnn, ⟨x0, x1, x2, x3, x4, xf0, xf1, xf2, xf3, xf4⟩, z0, z1, z2, z3, z4, zf0, zf1, zf2, zf3, zf4⟩ := HP.out.opn
 replace HT := hid (HT.out.kt hK10)
 clear HP hK10
 go_cut [10] (fun iv wx => iv = .bool false ∧ Pt Gz w W0 wx B b o cc cs a2 n2 c2 root (.slice a3 n3 c3) (r))
 case first =>
  have c0 := HT.out.head
  go_region_with (go_at_call 87; (refine (nm_call hg HF10.out kx hkx).mono ?_; rintro e9 v1 ⟨rfl, hb1⟩))
  all_goals (go_wp2_with fail; go_meet; exact ⟨by rw [HNM.out]; rfl, Pt.below HF10.out HX10.out HZ10.out (KT.refl _) hb1⟩)
 case rest =>
  clear HF10 HX10 HZ10 hws0 hws1 hnn x0 x1 x2 x3 x4 xf0 xf1 xf2 xf3 xf4 z0 z1 z2 z3 z4 zf0 zf1 zf2 zf3 zf4
  obtain ⟨W1, rfl⟩ : ∃ x, x = wc := ⟨_, rfl⟩
  obtain ⟨rfl, hP1⟩ := hcut
  have HP : Hid (Pt Gz w W0 W1 B b o cc cs a2 n2 c2 root (.slice a3 n3 c3) (r)) := hP1
  clear hP1
  obtain ⟨a11, n11, c11, k11, HF11, HX11, HZ11, hK11, hws0, hws1, hnn, ⟨x0, x1, x2, x3, x4, xf0, xf1, xf2, xf3, xf4⟩, z0, z1, z2, z3, z4, zf0, zf1, zf2, zf3, zf4⟩ := HP.out.opn
  replace HT := hid (HT.out.kt hK11)
  clear HP hK11
  go_wp2_with fail
  refine (fail_at HF11.out).mono ?_
  rintro e v1 ⟨qa, qn, qc, qk, rfl, hx1, hg1, hs1⟩
  have HE : Hid _ := hx1
  have HG : Hid _ := hg1
  have HS : Hid _ := hs1
  obtain ⟨zy0, zy1, zy2, zy3, zy4, zyf0, zyf1, zyf2, zyf3, zyf4⟩ := HF11.out.cells hg1 HZ11.out
  clear hx1 hg1 hs1
  unfold xV
  go_wp2
  refine bodyPost_ret (fin104 rfl rfl (set5_same _ _ _ _ _ (HF11.out.rep.kt HG.out (by decide) HZ11.out) _ _ _ _ _)) rfl ?_
  exact HF11.out.ret HZ11.out HE.out HG.out HS.out
end
end Go.Proofs.Ytgjeefedcfakdaa
