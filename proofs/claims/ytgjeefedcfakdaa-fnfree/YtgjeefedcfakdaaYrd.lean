/- The model's expander: l4Record: failures of field. The model's expander: l4Record: make. The model's expander: l4Record: is. -/
import Derived.Deep.DeepCutAuto
import Derived.Test.YtgjeefedcfakdaaYqu
set_option linter.unusedVariables false
namespace Go.Proofs.Ytgjeefedcfakdaa
open Go.ChangeShapes Go.WideShapes Go.ChangeAt Go.RowKit
section
variable {B b o cc : Nat} {cs : List Dat} {a2 : Option Addr} {n2 c2 : Nat} {root : Int} {R : Int → Sx → Sx}
set_option maxRecDepth 100000 in
set_option maxHeartbeats 4000000 in
theorem l4Rec_noname_field (hg : Good cs) (sw : ByteArray) (hw : sw.toList = [102, 105, 101, 108, 100]) (kx : Nat) (hkx : kx < cs.length) (hnm : nmOf cs (kx : Int) = none) (ki : Nat) (d : Dat) (hdi : cs[ki]? = some d) (t : List Int) (hl : t.length ≤ 1048576) : RC B b o cc cs a2 n2 c2 root sw ((kx : Int) :: (ki : Int) :: t) (fun r => failN r 1) := by
 intro Gz w a3 n3 c3 code r al cl hB hGl hrow hr hcl hal
 obtain ⟨g, p, rfl⟩ := hal.some
 obtain ⟨W0, HW0, HP⟩ := Pt.begin cc a2 n2 c2 root hB hrow hr
 have HGL : Hid (∀ g, Gz g → g < w.heap.size) := hGl
 have HT : Hid (RowT w (some ⟨g, p, none⟩) ((kx : Int) :: (ki : Int) :: t)) := hal
 have HNM : Hid (nmOf cs (kx : Int) = none) := hnm
 have rsf : (sw.toList == [102, 105, 101, 108, 100]) = true := beq_iff_eq.2 hw
 have rsm : (sw.toList == [109, 97, 107, 101]) = false := by rw [hw]; rfl
 have rsn : (sw.toList != [109, 97, 107, 101]) = true := by rw [hw]; rfl
 have hcsn := hg.n
 have HDI : Hid (cs[ki]? = some d) := hdi
 clear hdi
 have hlt : decide ((t.length : Int) + 1 + 1 < 2) = false := by simp; omega
 clear hw hrow hr hal hGl hB hnm
 unfold xV
 go_enter Try.func96, Try.ntmps96
 go_upto_region 6 with fail
 rw [HW0.out]
 clear HW0
 obtain ⟨a10, n10, c10, k10, HF10, HX10, HZ10, hK10, hws0, hws1, hnn, ⟨x0, x1, x2, x3, x4, xf0, xf1, xf2, xf3, xf4⟩, z0, z1, z2, z3, z4, zf0, zf1, zf2, zf3, zf4⟩ := HP.out.opn
 replace HT := hid (HT.out.kt hK10)
 clear HP hK10
 go_cut [8, 9] (fun tv iv wx => ∃ s : ByteArray, tv = .string s ∧ iv = .bool false ∧ Pt Gz w W0 wx B b o cc cs a2 n2 c2 root (.slice a3 n3 c3) (r))
 case first =>
  have c0 := HT.out.head
  go_region_with (go_at_call 87; (refine (nm_call hg HF10.out kx hkx).mono ?_; rintro e9 v1 ⟨rfl, hb1⟩))
  all_goals (go_wp2_with fail; go_meet; exact ⟨_, rfl, by rw [HNM.out]; rfl, Pt.below HF10.out HX10.out HZ10.out (KT.refl _) hb1⟩)
 case rest =>
  clear HF10 HX10 HZ10 hws0 hws1 hnn x0 x1 x2 x3 x4 xf0 xf1 xf2 xf3 xf4 z0 z1 z2 z3 z4 zf0 zf1 zf2 zf3 zf4
  obtain ⟨W1, rfl⟩ : ∃ x, x = wc := ⟨_, rfl⟩
  obtain ⟨s9, rfl, rfl, hP1⟩ := hcut
  have HP : Hid (Pt Gz w W0 W1 B b o cc cs a2 n2 c2 root (.slice a3 n3 c3) (r)) := hP1
  clear hP1
  obtain ⟨a11, n11, c11, k11, HF11, HX11, HZ11, hK11, hws0, hws1, hnn, ⟨x0, x1, x2, x3, x4, xf0, xf1, xf2, xf3, xf4⟩, z0, z1, z2, z3, z4, zf0, zf1, zf2, zf3, zf4⟩ := HP.out.opn
  replace HT := hid (HT.out.kt hK11)
  clear HP hK11
  go_upto_region 9 with fail
  go_cut [11] (fun pv wx => ∃ gd, pv = .pointer (some ⟨gd, 0, none⟩) ∧ wx.heap[gd]? = some (Obj.cells #[.int .i64 d.k, .int .i64 d.n, .string d.s, .int .i64 d.l, .int .i64 d.r] 98) ∧ Pt Gz w W1 wx B b o cc cs a2 n2 c2 root (.slice a3 n3 c3) (r))
  case first =>
   have c1 := HT.out.second
   have hgw := HT.out.lt
   have hd := HDI.out
   obtain ⟨hbB, d0, d1, d2, d3, d4⟩ := HF11.out.dat hd
   have hbw : b < W1.heap.size := by have := HF11.out.bsz; omega
   have hkl : ki < cs.length := (llt hd)
   have hcsn := hg.n
   go_region_with (fail)
   all_goals (go_wp2_with fail; go_meet; exact ⟨_, rfl, (by first | exact blk_drew (blk_at _ _ _ rfl) | exact blk_at _ _ _ rfl), Pt.below HF11.out HX11.out HZ11.out (KT.refl _) (by first | exact (bR _ _).drew | exact (Below.refl _ _).drew.alloc (Nat.le_refl _) _ | exact bR _ _)⟩)
  case rest =>
   clear HF11 HX11 HZ11 hws0 hws1 hnn x0 x1 x2 x3 x4 xf0 xf1 xf2 xf3 xf4 z0 z1 z2 z3 z4 zf0 zf1 zf2 zf3 zf4
   obtain ⟨W2, rfl⟩ : ∃ x, x = wc := ⟨_, rfl⟩
   obtain ⟨gd, rfl, hd98, hP1⟩ := hcut
   have HP : Hid (Pt Gz w W1 W2 B b o cc cs a2 n2 c2 root (.slice a3 n3 c3) (r)) := hP1
   clear hP1
   obtain ⟨e0, e1, e2, e3, e4, _, _, _, _, _⟩ := cells5 hd98
   obtain ⟨a12, n12, c12, k12, HF12, HX12, HZ12, hK12, hws0, hws1, hnn, ⟨x0, x1, x2, x3, x4, xf0, xf1, xf2, xf3, xf4⟩, z0, z1, z2, z3, z4, zf0, zf1, zf2, zf3, zf4⟩ := HP.out.opn
   replace HT := hid (HT.out.kt hK12)
   clear HP hK12
   have HDh : Hid (Blk98 gd #[.int .i64 d.k, .int .i64 d.n, .string d.s, .int .i64 d.l, .int .i64 d.r] W2) := hd98
   clear hd98 e0 e1 e2 e3 e4
   go_upto_region 10 with fail
   go_cut [9] (fun iv wx => iv = .bool false ∧ Pt Gz w W2 wx B b o cc cs a2 n2 c2 root (.slice a3 n3 c3) (r))
   case first =>
    obtain ⟨e0, e1⟩ := zn2 HDh.out rfl rfl
    go_wp2_with fail
    go_meet
    exact ⟨rfl, Pt.below HF12.out HX12.out HZ12.out (KT.refl _) (Below.refl _ _)⟩
   case rest =>
    clear HF12 HX12 HZ12 hws0 hws1 hnn x0 x1 x2 x3 x4 xf0 xf1 xf2 xf3 xf4 z0 z1 z2 z3 z4 zf0 zf1 zf2 zf3 zf4
    obtain ⟨W3, rfl⟩ : ∃ x, x = wc := ⟨_, rfl⟩
    obtain ⟨rfl, hP1⟩ := hcut
    have HP : Hid (Pt Gz w W2 W3 B b o cc cs a2 n2 c2 root (.slice a3 n3 c3) (r)) := hP1
    clear hP1
    obtain ⟨a13, n13, c13, k13, HF13, HX13, HZ13, hK13, hws0, hws1, hnn, ⟨x0, x1, x2, x3, x4, xf0, xf1, xf2, xf3, xf4⟩, z0, z1, z2, z3, z4, zf0, zf1, zf2, zf3, zf4⟩ := HP.out.opn
    replace HT := hid (HT.out.kt hK13)
    replace HDh := hid (HDh.out.kt hK13)
    clear HP hK13
    have e1 := zB 1 HDh.out rfl
    go_wp2_with fail
    refine (fail_at HF13.out).mono ?_
    rintro e v1 ⟨qa, qn, qc, qk, rfl, hx1, hg1, hs1⟩
    have HE : Hid _ := hx1
    have HG : Hid _ := hg1
    have HS : Hid _ := hs1
    obtain ⟨zy0, zy1, zy2, zy3, zy4, zyf0, zyf1, zyf2, zyf3, zyf4⟩ := HF13.out.cells hg1 HZ13.out
    clear hx1 hg1 hs1
    unfold xV
    go_wp2
    refine bodyPost_ret (fin104 rfl rfl (set5_same _ _ _ _ _ (HF13.out.rep.kt HG.out (by decide) HZ13.out) _ _ _ _ _)) rfl ?_
    exact HF13.out.ret HZ13.out HE.out HG.out HS.out
set_option maxRecDepth 100000 in
set_option maxHeartbeats 4000000 in
theorem l4Rec_num_field (hg : Good cs) (sw : ByteArray) (hw : sw.toList = [102, 105, 101, 108, 100]) (kx : Nat) (hkx : kx < cs.length) (nm : ByteArray) (hnm : nmOf cs (kx : Int) = some nm) (ki : Nat) (d : Dat) (hdi : cs[ki]? = some d) (t : List Int) (hl : t.length ≤ 1048576) (hnn : ¬ (d.k = 1 ∧ 0 ≤ d.n ∧ d.n ≤ 7)) : RC B b o cc cs a2 n2 c2 root sw ((kx : Int) :: (ki : Int) :: t) (fun r => failN r 1) := by
 intro Gz w a3 n3 c3 code r al cl hB hGl hrow hr hcl hal
 obtain ⟨g, p, rfl⟩ := hal.some
 obtain ⟨W0, HW0, HP⟩ := Pt.begin cc a2 n2 c2 root hB hrow hr
 have HGL : Hid (∀ g, Gz g → g < w.heap.size) := hGl
 have HT : Hid (RowT w (some ⟨g, p, none⟩) ((kx : Int) :: (ki : Int) :: t)) := hal
 have HNM : Hid (nmOf cs (kx : Int) = some nm) := hnm
 have rsf : (sw.toList == [102, 105, 101, 108, 100]) = true := beq_iff_eq.2 hw
 have rsm : (sw.toList == [109, 97, 107, 101]) = false := by rw [hw]; rfl
 have rsn : (sw.toList != [109, 97, 107, 101]) = true := by rw [hw]; rfl
 have hcsn := hg.n
 have HDI : Hid (cs[ki]? = some d) := hdi
 clear hdi
 have hlt : decide ((t.length : Int) + 1 + 1 < 2) = false := by simp; omega
 have HNN : Hid (¬ (d.k = 1 ∧ 0 ≤ d.n ∧ d.n ≤ 7)) := hnn
 clear hnn
 clear hw hrow hr hal hGl hB hnm
 unfold xV
 go_enter Try.func96, Try.ntmps96
 go_upto_region 6 with fail
 rw [HW0.out]
 clear HW0
 obtain ⟨a10, n10, c10, k10, HF10, HX10, HZ10, hK10, hws0, hws1, hnn, ⟨x0, x1, x2, x3, x4, xf0, xf1, xf2, xf3, xf4⟩, z0, z1, z2, z3, z4, zf0, zf1, zf2, zf3, zf4⟩ := HP.out.opn
 replace HT := hid (HT.out.kt hK10)
 clear HP hK10
 go_cut [8, 9] (fun tv iv wx => tv = .string nm ∧ iv = .bool true ∧ Pt Gz w W0 wx B b o cc cs a2 n2 c2 root (.slice a3 n3 c3) (r))
 case first =>
  have c0 := HT.out.head
  have HSN : Hid (nm = (cel cs (kx : Int)).s) := nm_some HNM.out
  go_region_with (go_at_call 87; (refine (nm_call hg HF10.out kx hkx).mono ?_; rintro e9 v1 ⟨rfl, hb1⟩))
  all_goals (go_wp2_with fail; go_meet; exact ⟨by rw [← HSN.out], by rw [HNM.out]; rfl, Pt.below HF10.out HX10.out HZ10.out (KT.refl _) hb1⟩)
 case rest =>
  clear HF10 HX10 HZ10 hws0 hws1 hnn x0 x1 x2 x3 x4 xf0 xf1 xf2 xf3 xf4 z0 z1 z2 z3 z4 zf0 zf1 zf2 zf3 zf4
  obtain ⟨W1, rfl⟩ : ∃ x, x = wc := ⟨_, rfl⟩
  obtain ⟨rfl, rfl, hP1⟩ := hcut
  have HP : Hid (Pt Gz w W0 W1 B b o cc cs a2 n2 c2 root (.slice a3 n3 c3) (r)) := hP1
  clear hP1
  obtain ⟨a11, n11, c11, k11, HF11, HX11, HZ11, hK11, hws0, hws1, hnn, ⟨x0, x1, x2, x3, x4, xf0, xf1, xf2, xf3, xf4⟩, z0, z1, z2, z3, z4, zf0, zf1, zf2, zf3, zf4⟩ := HP.out.opn
  replace HT := hid (HT.out.kt hK11)
  clear HP hK11
  go_upto_region 9 with fail
  go_cut [11] (fun pv wx => ∃ gd, pv = .pointer (some ⟨gd, 0, none⟩) ∧ wx.heap[gd]? = some (Obj.cells #[.int .i64 d.k, .int .i64 d.n, .string d.s, .int .i64 d.l, .int .i64 d.r] 98) ∧ Pt Gz w W1 wx B b o cc cs a2 n2 c2 root (.slice a3 n3 c3) (r))
  case first =>
   have c1 := HT.out.second
   have hgw := HT.out.lt
   have hd := HDI.out
   obtain ⟨hbB, d0, d1, d2, d3, d4⟩ := HF11.out.dat hd
   have hbw : b < W1.heap.size := by have := HF11.out.bsz; omega
   have hkl : ki < cs.length := (llt hd)
   have hcsn := hg.n
   go_region_with (fail)
   all_goals (go_wp2_with fail; go_meet; exact ⟨_, rfl, (by first | exact blk_drew (blk_at _ _ _ rfl) | exact blk_at _ _ _ rfl), Pt.below HF11.out HX11.out HZ11.out (KT.refl _) (by first | exact (bR _ _).drew | exact (Below.refl _ _).drew.alloc (Nat.le_refl _) _ | exact bR _ _)⟩)
  case rest =>
   clear HF11 HX11 HZ11 hws0 hws1 hnn x0 x1 x2 x3 x4 xf0 xf1 xf2 xf3 xf4 z0 z1 z2 z3 z4 zf0 zf1 zf2 zf3 zf4
   obtain ⟨W2, rfl⟩ : ∃ x, x = wc := ⟨_, rfl⟩
   obtain ⟨gd, rfl, hd98, hP1⟩ := hcut
   have HP : Hid (Pt Gz w W1 W2 B b o cc cs a2 n2 c2 root (.slice a3 n3 c3) (r)) := hP1
   clear hP1
   obtain ⟨e0, e1, e2, e3, e4, _, _, _, _, _⟩ := cells5 hd98
   obtain ⟨a12, n12, c12, k12, HF12, HX12, HZ12, hK12, hws0, hws1, hnn, ⟨x0, x1, x2, x3, x4, xf0, xf1, xf2, xf3, xf4⟩, z0, z1, z2, z3, z4, zf0, zf1, zf2, zf3, zf4⟩ := HP.out.opn
   replace HT := hid (HT.out.kt hK12)
   clear HP hK12
   have HDh : Hid (Blk98 gd #[.int .i64 d.k, .int .i64 d.n, .string d.s, .int .i64 d.l, .int .i64 d.r] W2) := hd98
   clear hd98 e0 e1 e2 e3 e4
   go_upto_region 10 with fail
   go_cut [9] (fun iv wx => iv = .bool false ∧ Pt Gz w W2 wx B b o cc cs a2 n2 c2 root (.slice a3 n3 c3) (r))
   case first =>
    obtain ⟨e0, e1⟩ := zn2 HDh.out rfl rfl
    by_cases hk1 : d.k = 1
    ·have qk1 : (d.k == 1) = true := beq_iff_eq.2 hk1
     have HIN : Hid ((decide (0 ≤ d.n) && decide (d.n ≤ 7)) = false) := by show _ = _; have := HNN.out; simp only [hk1, true_and] at this; by_cases h0 : 0 ≤ d.n <;> by_cases h7 : d.n ≤ 7 <;> simp [h0, h7] <;> exact this ⟨h0, h7⟩
     clear hk1
     go_wp2_with (go_at_call 24; (refine (l1In_any d.n 0 7 _).mono ?_; rintro e v1 ⟨rfl, rfl⟩))
     go_meet
     exact ⟨by rw [HIN.out], Pt.below HF12.out HX12.out HZ12.out (KT.refl _) (Below.refl _ _)⟩
    ·have qk1 : (d.k == 1) = false := beq_eq_false_iff_ne.2 hk1
     clear hk1
     go_wp2_with fail
     go_meet
     exact ⟨rfl, Pt.below HF12.out HX12.out HZ12.out (KT.refl _) (Below.refl _ _)⟩
   case rest =>
    clear HF12 HX12 HZ12 hws0 hws1 hnn x0 x1 x2 x3 x4 xf0 xf1 xf2 xf3 xf4 z0 z1 z2 z3 z4 zf0 zf1 zf2 zf3 zf4
    obtain ⟨W3, rfl⟩ : ∃ x, x = wc := ⟨_, rfl⟩
    obtain ⟨rfl, hP1⟩ := hcut
    have HP : Hid (Pt Gz w W2 W3 B b o cc cs a2 n2 c2 root (.slice a3 n3 c3) (r)) := hP1
    clear hP1
    obtain ⟨a13, n13, c13, k13, HF13, HX13, HZ13, hK13, hws0, hws1, hnn, ⟨x0, x1, x2, x3, x4, xf0, xf1, xf2, xf3, xf4⟩, z0, z1, z2, z3, z4, zf0, zf1, zf2, zf3, zf4⟩ := HP.out.opn
    replace HT := hid (HT.out.kt hK13)
    replace HDh := hid (HDh.out.kt hK13)
    clear HP hK13
    have e1 := zB 1 HDh.out rfl
    go_wp2_with fail
    refine (fail_at HF13.out).mono ?_
    rintro e v1 ⟨qa, qn, qc, qk, rfl, hx1, hg1, hs1⟩
    have HE : Hid _ := hx1
    have HG : Hid _ := hg1
    have HS : Hid _ := hs1
    obtain ⟨zy0, zy1, zy2, zy3, zy4, zyf0, zyf1, zyf2, zyf3, zyf4⟩ := HF13.out.cells hg1 HZ13.out
    clear hx1 hg1 hs1
    unfold xV
    go_wp2
    refine bodyPost_ret (fin104 rfl rfl (set5_same _ _ _ _ _ (HF13.out.rep.kt HG.out (by decide) HZ13.out) _ _ _ _ _)) rfl ?_
    exact HF13.out.ret HZ13.out HE.out HG.out HS.out
set_option maxRecDepth 100000 in
set_option maxHeartbeats 4000000 in
theorem l4Rec_len_field (hg : Good cs) (sw : ByteArray) (hw : sw.toList = [102, 105, 101, 108, 100]) (kx : Nat) (hkx : kx < cs.length) (nm : ByteArray) (hnm : nmOf cs (kx : Int) = some nm) (ki : Nat) (d : Dat) (hdi : cs[ki]? = some d) (t : List Int) (hl : t.length ≤ 1048576) (hnn : d.k = 1 ∧ 0 ≤ d.n ∧ d.n ≤ 7) (hlen : t.length ≠ 1) : RC B b o cc cs a2 n2 c2 root sw ((kx : Int) :: (ki : Int) :: t) (fun r => failN r 1) := by
 intro Gz w a3 n3 c3 code r al cl hB hGl hrow hr hcl hal
 obtain ⟨g, p, rfl⟩ := hal.some
 obtain ⟨W0, HW0, HP⟩ := Pt.begin cc a2 n2 c2 root hB hrow hr
 have HGL : Hid (∀ g, Gz g → g < w.heap.size) := hGl
 have HT : Hid (RowT w (some ⟨g, p, none⟩) ((kx : Int) :: (ki : Int) :: t)) := hal
 have HNM : Hid (nmOf cs (kx : Int) = some nm) := hnm
 have rsf : (sw.toList == [102, 105, 101, 108, 100]) = true := beq_iff_eq.2 hw
 have rsm : (sw.toList == [109, 97, 107, 101]) = false := by rw [hw]; rfl
 have rsn : (sw.toList != [109, 97, 107, 101]) = true := by rw [hw]; rfl
 have hcsn := hg.n
 have HDI : Hid (cs[ki]? = some d) := hdi
 clear hdi
 have hlt : decide ((t.length : Int) + 1 + 1 < 2) = false := by simp; omega
 have qk1 : (d.k == 1) = true := beq_iff_eq.2 hnn.1
 have HIN : Hid ((decide (0 ≤ d.n) && decide (d.n ≤ 7)) = true) := by show _ = _; simp [hnn.2.1, hnn.2.2]
 have hne : ((t.length : Int) + 1 + 1 != 3) = true := by rw [bne_iff_ne]; omega
 clear hnn
 clear hw hrow hr hal hGl hB hnm hlen
 unfold xV
 go_enter Try.func96, Try.ntmps96
 go_upto_region 6 with fail
 rw [HW0.out]
 clear HW0
 obtain ⟨a10, n10, c10, k10, HF10, HX10, HZ10, hK10, hws0, hws1, hnn, ⟨x0, x1, x2, x3, x4, xf0, xf1, xf2, xf3, xf4⟩, z0, z1, z2, z3, z4, zf0, zf1, zf2, zf3, zf4⟩ := HP.out.opn
 replace HT := hid (HT.out.kt hK10)
 clear HP hK10
 go_cut [8, 9] (fun tv iv wx => tv = .string nm ∧ iv = .bool true ∧ Pt Gz w W0 wx B b o cc cs a2 n2 c2 root (.slice a3 n3 c3) (r))
 case first =>
  have c0 := HT.out.head
  have HSN : Hid (nm = (cel cs (kx : Int)).s) := nm_some HNM.out
  go_region_with (go_at_call 87; (refine (nm_call hg HF10.out kx hkx).mono ?_; rintro e9 v1 ⟨rfl, hb1⟩))
  all_goals (go_wp2_with fail; go_meet; exact ⟨by rw [← HSN.out], by rw [HNM.out]; rfl, Pt.below HF10.out HX10.out HZ10.out (KT.refl _) hb1⟩)
 case rest =>
  clear HF10 HX10 HZ10 hws0 hws1 hnn x0 x1 x2 x3 x4 xf0 xf1 xf2 xf3 xf4 z0 z1 z2 z3 z4 zf0 zf1 zf2 zf3 zf4
  obtain ⟨W1, rfl⟩ : ∃ x, x = wc := ⟨_, rfl⟩
  obtain ⟨rfl, rfl, hP1⟩ := hcut
  have HP : Hid (Pt Gz w W0 W1 B b o cc cs a2 n2 c2 root (.slice a3 n3 c3) (r)) := hP1
  clear hP1
  obtain ⟨a11, n11, c11, k11, HF11, HX11, HZ11, hK11, hws0, hws1, hnn, ⟨x0, x1, x2, x3, x4, xf0, xf1, xf2, xf3, xf4⟩, z0, z1, z2, z3, z4, zf0, zf1, zf2, zf3, zf4⟩ := HP.out.opn
  replace HT := hid (HT.out.kt hK11)
  clear HP hK11
  go_upto_region 9 with fail
  go_cut [11] (fun pv wx => ∃ gd, pv = .pointer (some ⟨gd, 0, none⟩) ∧ wx.heap[gd]? = some (Obj.cells #[.int .i64 d.k, .int .i64 d.n, .string d.s, .int .i64 d.l, .int .i64 d.r] 98) ∧ Pt Gz w W1 wx B b o cc cs a2 n2 c2 root (.slice a3 n3 c3) (r))
  case first =>
   have c1 := HT.out.second
   have hgw := HT.out.lt
   have hd := HDI.out
   obtain ⟨hbB, d0, d1, d2, d3, d4⟩ := HF11.out.dat hd
   have hbw : b < W1.heap.size := by have := HF11.out.bsz; omega
   have hkl : ki < cs.length := (llt hd)
   have hcsn := hg.n
   go_region_with (fail)
   all_goals (go_wp2_with fail; go_meet; exact ⟨_, rfl, (by first | exact blk_drew (blk_at _ _ _ rfl) | exact blk_at _ _ _ rfl), Pt.below HF11.out HX11.out HZ11.out (KT.refl _) (by first | exact (bR _ _).drew | exact (Below.refl _ _).drew.alloc (Nat.le_refl _) _ | exact bR _ _)⟩)
  case rest =>
   clear HF11 HX11 HZ11 hws0 hws1 hnn x0 x1 x2 x3 x4 xf0 xf1 xf2 xf3 xf4 z0 z1 z2 z3 z4 zf0 zf1 zf2 zf3 zf4
   obtain ⟨W2, rfl⟩ : ∃ x, x = wc := ⟨_, rfl⟩
   obtain ⟨gd, rfl, hd98, hP1⟩ := hcut
   have HP : Hid (Pt Gz w W1 W2 B b o cc cs a2 n2 c2 root (.slice a3 n3 c3) (r)) := hP1
   clear hP1
   obtain ⟨e0, e1, e2, e3, e4, _, _, _, _, _⟩ := cells5 hd98
   obtain ⟨a12, n12, c12, k12, HF12, HX12, HZ12, hK12, hws0, hws1, hnn, ⟨x0, x1, x2, x3, x4, xf0, xf1, xf2, xf3, xf4⟩, z0, z1, z2, z3, z4, zf0, zf1, zf2, zf3, zf4⟩ := HP.out.opn
   replace HT := hid (HT.out.kt hK12)
   clear HP hK12
   have HDh : Hid (Blk98 gd #[.int .i64 d.k, .int .i64 d.n, .string d.s, .int .i64 d.l, .int .i64 d.r] W2) := hd98
   clear hd98 e0 e1 e2 e3 e4
   go_upto_region 10 with fail
   go_cut [9] (fun iv wx => iv = .bool true ∧ Pt Gz w W2 wx B b o cc cs a2 n2 c2 root (.slice a3 n3 c3) (r))
   case first =>
    obtain ⟨e0, e1⟩ := zn2 HDh.out rfl rfl
    go_wp2_with (go_at_call 24; (refine (l1In_any d.n 0 7 _).mono ?_; rintro e v1 ⟨rfl, rfl⟩))
    go_meet
    exact ⟨by rw [HIN.out], Pt.below HF12.out HX12.out HZ12.out (KT.refl _) (Below.refl _ _)⟩
   case rest =>
    clear HF12 HX12 HZ12 hws0 hws1 hnn x0 x1 x2 x3 x4 xf0 xf1 xf2 xf3 xf4 z0 z1 z2 z3 z4 zf0 zf1 zf2 zf3 zf4
    obtain ⟨W3, rfl⟩ : ∃ x, x = wc := ⟨_, rfl⟩
    obtain ⟨rfl, hP1⟩ := hcut
    have HP : Hid (Pt Gz w W2 W3 B b o cc cs a2 n2 c2 root (.slice a3 n3 c3) (r)) := hP1
    clear hP1
    obtain ⟨a13, n13, c13, k13, HF13, HX13, HZ13, hK13, hws0, hws1, hnn, ⟨x0, x1, x2, x3, x4, xf0, xf1, xf2, xf3, xf4⟩, z0, z1, z2, z3, z4, zf0, zf1, zf2, zf3, zf4⟩ := HP.out.opn
    replace HT := hid (HT.out.kt hK13)
    replace HDh := hid (HDh.out.kt hK13)
    clear HP hK13
    have e1 := zB 1 HDh.out rfl
    go_wp2_with fail
    refine (fail_at HF13.out).mono ?_
    rintro e v1 ⟨qa, qn, qc, qk, rfl, hx1, hg1, hs1⟩
    have HE : Hid _ := hx1
    have HG : Hid _ := hg1
    have HS : Hid _ := hs1
    obtain ⟨zy0, zy1, zy2, zy3, zy4, zyf0, zyf1, zyf2, zyf3, zyf4⟩ := HF13.out.cells hg1 HZ13.out
    clear hx1 hg1 hs1
    unfold xV
    go_wp2
    refine bodyPost_ret (fin104 rfl rfl (set5_same _ _ _ _ _ (HF13.out.rep.kt HG.out (by decide) HZ13.out) _ _ _ _ _)) rfl ?_
    exact HF13.out.ret HZ13.out HE.out HG.out HS.out
end
end Go.Proofs.Ytgjeefedcfakdaa
set_option linter.unusedVariables false
namespace Go.Proofs.Ytgjeefedcfakdaa
open Go.ChangeShapes Go.WideShapes Go.ChangeAt Go.RowKit
section
variable {B b o cc : Nat} {cs : List Dat} {a2 : Option Addr} {n2 c2 : Nat} {root : Int} {R : Int → Sx → Sx}
theorem all_at2 {w W V : World} {v0 : Value} {r : Sx} {a : Option Addr} {n c : Nat} {code : Int} {Gz : Nat → Prop} {l : List Int} (hI : AC B b o cc cs a2 n2 c2 root R l) (hF : Fx Gz w W B b o cs v0 (.slice a n c) n code r) (hG : ∀ g, Gz g → g < w.heap.size) {al : Option Addr} {cl : Nat} (hcl : l.length ≤ cl) (hr : RowT W al l) (hb : Below W.heap.size W V := by repeat first | exact Below.refl _ _ | refine Below.drew ?_ | refine Below.alloc ?_ (by simp <;> omega) _) :
  Calls Try.prog 83 #[xV (.slice (some ⟨b, o, none⟩) cs.length cc) (.slice a2 n2 c2) (.slice a n c) root code, .slice al l.length cl] V fun e w' => ∃ (a' : Option Addr) (n' c' : Nat) (k' : Int) (u : Option Addr) (cu : Nat), e = .returned (.tuple #[xV (.slice (some ⟨b, o, none⟩) cs.length cc) (.slice a2 n2 c2) (.slice a' n' c') root k', .slice u l.length cu]) ∧ Fx Gz w w' B b o cs v0 (.slice a' n' c') n' k' (allX R l r).1 ∧ (∀ (g : Nat) (c : Array Value) (t : TypeId), t ≠ 35 → V.heap[g]? = some (Obj.cells c t) → w'.heap[g]? = some (Obj.cells c t)) ∧ (∀ (g : Nat) (c : Array Value) (t : TypeId), t ≠ 35 → W.heap[g]? = some (Obj.cells c t) → w'.heap[g]? = some (Obj.cells c t)) ∧ W.heap.size ≤ w'.heap.size ∧ NewI w w' u (allX R l r).2 cu ∧ (allX R l r).2.length = l.length ∧ l.length ≤ cu := by
 refine (all_at hI (hF.below hb) hG (hb := Below.refl _ _) hcl (hr.kt (KT.below hb))).mono ?_
 rintro e w' ⟨a', n', c', k', u, cu, rfl, hx, hg, hs, ho, hl, hc⟩
 exact ⟨a', n', c', k', u, cu, rfl, (hF.below hb).call hg hs hx, fun g c t ht e => (hF.below hb).rep.kt hg ht e, fun g c t ht e => (hF.below hb).rep.kt hg ht ((hb.block g (alt e)).trans e), Nat.le_trans hb.size hg.size, ho, hl, hc⟩
set_option maxRecDepth 100000 in
set_option maxHeartbeats 4000000 in
theorem l4Rec_ok_make (hg : Good cs) (sw : ByteArray) (hw : sw.toList = [109, 97, 107, 101]) (kx : Nat) (hkx : kx < cs.length) (nm : ByteArray) (hnm : nmOf cs (kx : Int) = some nm) (t : List Int) (hlen : t.length ≤ 8) (hi : AC B b o cc cs a2 n2 c2 root R (t)) : RC B b o cc cs a2 n2 c2 root sw ((kx : Int) :: t) (recX R sw 0 nm (t)) := by
 intro Gz w a3 n3 c3 code r al cl hB hGl hrow hr hcl hal
 obtain ⟨g, p, rfl⟩ := hal.some
 obtain ⟨W0, HW0, HP⟩ := Pt.begin cc a2 n2 c2 root hB hrow hr
 have HGL : Hid (∀ g, Gz g → g < w.heap.size) := hGl
 have HT : Hid (RowT w (some ⟨g, p, none⟩) ((kx : Int) :: t)) := hal
 have HNM : Hid (nmOf cs (kx : Int) = some nm) := hnm
 have HI : Hid (AC B b o cc cs a2 n2 c2 root R (t)) := hi
 have rsf : (sw.toList == [102, 105, 101, 108, 100]) = false := by rw [hw]; rfl
 have rsm : (sw.toList == [109, 97, 107, 101]) = true := beq_iff_eq.2 hw
 have rsn : (sw.toList != [109, 97, 107, 101]) = false := by rw [hw]; rfl
 have hcsn := hg.n
 have hcl' : t.length + 1 ≤ cl := hcl
 have hlt : decide ((t.length : Int) + 1 < 1) = false := by simp; omega
 have hgt : decide ((t.length : Int) + 1 > 9) = false := by simp; omega
 have hgt2 : decide (9 < (t.length : Int) + 1) = false := by simp; omega
 clear hw hrow hr hal hGl hB hnm hi hcl hlen
 unfold xV
 go_enter Try.func96, Try.ntmps96
 go_upto_region 6 with fail
 rw [HW0.out]
 clear HW0
 obtain ⟨a10, n10, c10, k10, HF10, HX10, HZ10, hK10, hws0, hws1, hnn, ⟨x0, x1, x2, x3, x4, xf0, xf1, xf2, xf3, xf4⟩, z0, z1, z2, z3, z4, zf0, zf1, zf2, zf3, zf4⟩ := HP.out.opn
 replace HT := hid (HT.out.kt hK10)
 clear HP hK10
 go_cut [8, 9] (fun tv iv wx => tv = .string nm ∧ iv = .bool true ∧ Pt Gz w W0 wx B b o cc cs a2 n2 c2 root (.slice a3 n3 c3) (r))
 case first =>
  have c0 := HT.out.head
  have HSN : Hid (nm = (cel cs (kx : Int)).s) := nm_some HNM.out
  go_region_with (go_at_call 87; (refine (nm_call hg HF10.out kx hkx).mono ?_; rintro e9 v1 ⟨rfl, hb1⟩))
  all_goals (go_wp2_with fail; go_meet; exact ⟨by rw [← HSN.out], by rw [HNM.out]; rfl, Pt.below HF10.out HX10.out HZ10.out (KT.refl _) hb1⟩)
 case rest =>
  clear HF10 HX10 HZ10 hws0 hws1 hnn x0 x1 x2 x3 x4 xf0 xf1 xf2 xf3 xf4 z0 z1 z2 z3 z4 zf0 zf1 zf2 zf3 zf4
  obtain ⟨W1, rfl⟩ : ∃ x, x = wc := ⟨_, rfl⟩
  obtain ⟨rfl, rfl, hP1⟩ := hcut
  have HP : Hid (Pt Gz w W0 W1 B b o cc cs a2 n2 c2 root (.slice a3 n3 c3) (r)) := hP1
  clear hP1
  obtain ⟨a11, n11, c11, k11, HF11, HX11, HZ11, hK11, hws0, hws1, hnn, ⟨x0, x1, x2, x3, x4, xf0, xf1, xf2, xf3, xf4⟩, z0, z1, z2, z3, z4, zf0, zf1, zf2, zf3, zf4⟩ := HP.out.opn
  replace HT := hid (HT.out.kt hK11)
  clear HP hK11
  clear HNM
  go_upto_region 14 with fail
  go_cut [12, 13] (fun yv av wx => ∃ (gy : Nat) (aY : Option Addr) (nY cY : Nat) (kY : Int) (ux : Option Addr) (cu : Nat), yv = .pointer (some ⟨gy, 0, none⟩) ∧ av = .slice ux t.length cu ∧ Fx Gz w wx B b o cs (.slice a3 n3 c3) (.slice aY nY cY) nY kY (allX R (t) r).1 ∧ wx.heap[gy]? = some (Obj.cells #[.slice (some ⟨b, o, none⟩) cs.length cc, .slice a2 n2 c2, .slice aY nY cY, .int .i64 root, .int .i64 kY] 104) ∧ wx.heap[w.heap.size + 1]? = some (Obj.cells #[.slice none 0 0, .slice none 0 0, .slice none 0 0, .int .i64 0, .int .i64 0] 104) ∧ NewI w wx ux (allX R (t) r).2 cu ∧ (allX R (t) r).2.length = t.length ∧ t.length ≤ cu)
  case first =>
   by_cases hc1 : cl = 1
   ·have HLZ : Hid (t = []) := List.length_eq_zero_iff.1 (by omega); subst hc1; have HCU : Hid (t.length ≤ 0) := by show _ ≤ _; omega
    clear hcl'
    go_region_with (go_at_call 83; (refine (all_at2 HI.out HF11.out HGL.out (al := (some ⟨g, p, none⟩)) (cl := 0) HCU.out (by rw [HLZ.out]; exact RowT.nil _ _)).mono ?_; rintro e v1 ⟨qa, qn, qc, qk, ux, cux, rfl, hx1, hg1, hg2, hv1, ho1, hl1, hc1⟩; have HE : Hid _ := hx1; have HG : Hid _ := hg1; have HG2 : Hid _ := hg2; have HO : Hid (NewI w v1 ux (allX R (t) r).2 cux) := ho1; have HL1 : Hid _ := hl1; have HC1 : Hid _ := hc1; clear hx1 hg1 hg2 ho1 hl1 hc1; (first | (have hy := HG.out W1.heap.size #[.slice none 0 0, .slice none 0 0, .slice none 0 0, .int .i64 0, .int .i64 0] 104 (by decide) (by first | exact blk_drew (blk_at _ _ _ rfl) | exact blk_at _ _ _ rfl); have HY : Hid _ := hy; obtain ⟨y0, y1, y2, y3, y4, yf0, yf1, yf2, yf3, yf4⟩ := cells5 hy; clear hy) | skip); unfold xV))
    all_goals (go_wp2_with fail; go_meet; first | exact ⟨_, qa, qn, qc, qk, ux, cux, rfl, rfl, Fx.lay HE.out HY.out (by omega) _ _ _ _ _, set5_same _ _ _ _ _ HY.out _ _ _ _ _, (set5_other _ _ _ _ _ _ _ _ (by omega)).trans (HG2.out _ _ 104 (by decide) HZ11.out), HO.out.kt (KT.lay HY.out _ _ _ _ _), HL1.out, HC1.out⟩ | exact ⟨_, qa, qn, qc, qk, ux, cux, rfl, rfl, Fx.below HE.out (bR _ _), blk_at _ _ _ rfl, blk_past (HG2.out _ _ 104 (by decide) HZ11.out), HO.out.kt (KT.below (bR _ _)), HL1.out, HC1.out⟩)
   ·have hc2 : 1 < cl := by omega
    go_region_with (go_at_call 83; (refine (all_at2 HI.out HF11.out HGL.out (al := (some ⟨g, p + 1, none⟩)) (cl := (cl - 1)) (by omega) HT.out.tail).mono ?_; rintro e v1 ⟨qa, qn, qc, qk, ux, cux, rfl, hx1, hg1, hg2, hv1, ho1, hl1, hc1⟩; have HE : Hid _ := hx1; have HG : Hid _ := hg1; have HG2 : Hid _ := hg2; have HO : Hid (NewI w v1 ux (allX R (t) r).2 cux) := ho1; have HL1 : Hid _ := hl1; have HC1 : Hid _ := hc1; clear hx1 hg1 hg2 ho1 hl1 hc1; (first | (have hy := HG.out W1.heap.size #[.slice none 0 0, .slice none 0 0, .slice none 0 0, .int .i64 0, .int .i64 0] 104 (by decide) (by first | exact blk_drew (blk_at _ _ _ rfl) | exact blk_at _ _ _ rfl); have HY : Hid _ := hy; obtain ⟨y0, y1, y2, y3, y4, yf0, yf1, yf2, yf3, yf4⟩ := cells5 hy; clear hy) | skip); unfold xV))
    all_goals (go_wp2_with fail; go_meet; first | exact ⟨_, qa, qn, qc, qk, ux, cux, rfl, rfl, Fx.lay HE.out HY.out (by omega) _ _ _ _ _, set5_same _ _ _ _ _ HY.out _ _ _ _ _, (set5_other _ _ _ _ _ _ _ _ (by omega)).trans (HG2.out _ _ 104 (by decide) HZ11.out), HO.out.kt (KT.lay HY.out _ _ _ _ _), HL1.out, HC1.out⟩ | exact ⟨_, qa, qn, qc, qk, ux, cux, rfl, rfl, Fx.below HE.out (bR _ _), blk_at _ _ _ rfl, blk_past (HG2.out _ _ 104 (by decide) HZ11.out), HO.out.kt (KT.below (bR _ _)), HL1.out, HC1.out⟩)
  case rest =>
   clear HF11 HX11 HZ11 hws0 hws1 hnn x0 x1 x2 x3 x4 xf0 xf1 xf2 xf3 xf4 z0 z1 z2 z3 z4 zf0 zf1 zf2 zf3 zf4
   obtain ⟨W2, rfl⟩ : ∃ x, x = wc := ⟨_, rfl⟩
   obtain ⟨gy, a12, n12, c12, k12, ux12, cu12, rfl, rfl, f1, f2, f3, f4, f5, f6⟩ := hcut
   have HF12 : Hid (Fx Gz w W2 B b o cs (.slice a3 n3 c3) (.slice a12 n12 c12) n12 k12 (allX R (t) r).1) := f1
   have HX12 : Hid (W2.heap[gy]? = some (Obj.cells #[.slice (some ⟨b, o, none⟩) cs.length cc, .slice a2 n2 c2, .slice a12 n12 c12, .int .i64 root, .int .i64 k12] 104)) := f2
   have HZ12 : Hid (W2.heap[w.heap.size + 1]? = some (Obj.cells #[.slice none 0 0, .slice none 0 0, .slice none 0 0, .int .i64 0, .int .i64 0] 104)) := f3
   have HU12 : Hid (NewI w W2 ux12 (allX R (t) r).2 cu12) := f4
   have HM12 : Hid ((allX R (t) r).2.length = t.length) := f5
   have hcu12 := f6
   clear f1 f2 f3 f4 f5 f6
   obtain ⟨x0, x1, x2, x3, x4, xf0, xf1, xf2, xf3, xf4⟩ := cells5 HX12.out
   obtain ⟨z0, z1, z2, z3, z4, zf0, zf1, zf2, zf3, zf4⟩ := cells5 HZ12.out
   have hws0 : gy < W2.heap.size := (alt HX12.out)
   have hws1 : w.heap.size + 1 < W2.heap.size := (alt HZ12.out)
   have hnn : n12 ≤ 400 := HF12.out.n400
   go_wp2_with fail
   refine (put_len HF12.out HGL.out (recN sw 0 nm (allX R (t) r).2) (NewS.lit [nm] (by first | exact blk_at _ _ _ rfl | exact blk_at _ _ _ (by simp)) (by first | omega | (simp <;> omega))) (HU12.out.kt (KT.below (bR _ _))) rfl HM12.out (Nat.le_refl _) hcu12).mono ?_
   rintro e v1 ⟨qa, qn, qc, qk, rfl, hx1, hg1, hs1⟩
   have HE : Hid _ := hx1
   have HG : Hid _ := hg1
   have HS : Hid _ := hs1
   obtain ⟨zy0, zy1, zy2, zy3, zy4, zyf0, zyf1, zyf2, zyf3, zyf4⟩ := HF12.out.cells hg1 HZ12.out
   clear hx1 hg1 hs1
   unfold xV
   go_wp2
   refine bodyPost_ret (fin104 rfl rfl (set5_same _ _ _ _ _ (HF12.out.rep.kt HG.out (by decide) HZ12.out) _ _ _ _ _)) rfl ?_
   exact HF12.out.ret HZ12.out HE.out HG.out HS.out
end
end Go.Proofs.Ytgjeefedcfakdaa
set_option linter.unusedVariables false
namespace Go.Proofs.Ytgjeefedcfakdaa
open Go.ChangeShapes Go.WideShapes Go.ChangeAt Go.RowKit
section
variable {B b o cc : Nat} {cs : List Dat} {a2 : Option Addr} {n2 c2 : Nat} {root : Int} {R : Int → Sx → Sx}
set_option maxRecDepth 100000 in
set_option maxHeartbeats 4000000 in
theorem l4Rec_ok_is (hg : Good cs) (sw : ByteArray) (hw : sw.toList = [105, 115]) (kx : Nat) (hkx : kx < cs.length) (nm : ByteArray) (hnm : nmOf cs (kx : Int) = some nm) (e9 : Int) (hi : AC B b o cc cs a2 n2 c2 root R ([e9])) : RC B b o cc cs a2 n2 c2 root sw ([(kx : Int), e9]) (recX R sw 0 nm ([e9])) := by
 intro Gz w a3 n3 c3 code r al cl hB hGl hrow hr hcl hal
 obtain ⟨g, p, rfl⟩ := hal.some
 obtain ⟨W0, HW0, HP⟩ := Pt.begin cc a2 n2 c2 root hB hrow hr
 have HGL : Hid (∀ g, Gz g → g < w.heap.size) := hGl
 have HT : Hid (RowT w (some ⟨g, p, none⟩) ([(kx : Int), e9])) := hal
 have HNM : Hid (nmOf cs (kx : Int) = some nm) := hnm
 have HI : Hid (AC B b o cc cs a2 n2 c2 root R ([e9])) := hi
 have rsf : (sw.toList == [102, 105, 101, 108, 100]) = false := by rw [hw]; rfl
 have rsm : (sw.toList == [109, 97, 107, 101]) = false := by rw [hw]; rfl
 have rsn : (sw.toList != [109, 97, 107, 101]) = true := by rw [hw]; rfl
 have hcsn := hg.n
 have hcl' : 2 ≤ cl := hcl
 clear hw hrow hr hal hGl hB hnm hi hcl
 unfold xV
 go_enter Try.func96, Try.ntmps96
 go_upto_region 6 with fail
 rw [HW0.out]
 clear HW0
 obtain ⟨a10, n10, c10, k10, HF10, HX10, HZ10, hK10, hws0, hws1, hnn, ⟨x0, x1, x2, x3, x4, xf0, xf1, xf2, xf3, xf4⟩, z0, z1, z2, z3, z4, zf0, zf1, zf2, zf3, zf4⟩ := HP.out.opn
 replace HT := hid (HT.out.kt hK10)
 clear HP hK10
 go_cut [8, 9] (fun tv iv wx => tv = .string nm ∧ iv = .bool true ∧ Pt Gz w W0 wx B b o cc cs a2 n2 c2 root (.slice a3 n3 c3) (r))
 case first =>
  have c0 := HT.out.head
  have HSN : Hid (nm = (cel cs (kx : Int)).s) := nm_some HNM.out
  go_region_with (go_at_call 87; (refine (nm_call hg HF10.out kx hkx).mono ?_; rintro e9 v1 ⟨rfl, hb1⟩))
  all_goals (go_wp2_with fail; go_meet; exact ⟨by rw [← HSN.out], by rw [HNM.out]; rfl, Pt.below HF10.out HX10.out HZ10.out (KT.refl _) hb1⟩)
 case rest =>
  clear HF10 HX10 HZ10 hws0 hws1 hnn x0 x1 x2 x3 x4 xf0 xf1 xf2 xf3 xf4 z0 z1 z2 z3 z4 zf0 zf1 zf2 zf3 zf4
  obtain ⟨W1, rfl⟩ : ∃ x, x = wc := ⟨_, rfl⟩
  obtain ⟨rfl, rfl, hP1⟩ := hcut
  have HP : Hid (Pt Gz w W0 W1 B b o cc cs a2 n2 c2 root (.slice a3 n3 c3) (r)) := hP1
  clear hP1
  obtain ⟨a11, n11, c11, k11, HF11, HX11, HZ11, hK11, hws0, hws1, hnn, ⟨x0, x1, x2, x3, x4, xf0, xf1, xf2, xf3, xf4⟩, z0, z1, z2, z3, z4, zf0, zf1, zf2, zf3, zf4⟩ := HP.out.opn
  replace HT := hid (HT.out.kt hK11)
  clear HP hK11
  clear HNM
  go_upto_region 14 with fail
  have hc1 : ¬ cl = 1 := by omega
  have hc2 : 1 < cl := by omega
  clear hcl'
  go_cut [12, 13] (fun yv av wx => ∃ (gy : Nat) (aY : Option Addr) (nY cY : Nat) (kY : Int) (ux : Option Addr) (cu : Nat), yv = .pointer (some ⟨gy, 0, none⟩) ∧ av = .slice ux 1 cu ∧ Fx Gz w wx B b o cs (.slice a3 n3 c3) (.slice aY nY cY) nY kY (allX R ([e9]) r).1 ∧ wx.heap[gy]? = some (Obj.cells #[.slice (some ⟨b, o, none⟩) cs.length cc, .slice a2 n2 c2, .slice aY nY cY, .int .i64 root, .int .i64 kY] 104) ∧ wx.heap[w.heap.size + 1]? = some (Obj.cells #[.slice none 0 0, .slice none 0 0, .slice none 0 0, .int .i64 0, .int .i64 0] 104) ∧ NewI w wx ux (allX R ([e9]) r).2 cu ∧ (allX R ([e9]) r).2.length = 1 ∧ 1 ≤ cu)
  case first =>
   go_region_with (go_at_call 83; (refine (all_at2 HI.out HF11.out HGL.out (al := (some ⟨g, p + 1, none⟩)) (cl := (cl - 1)) (by show 1 ≤ cl - 1; omega) HT.out.tail).mono ?_; rintro e v1 ⟨qa, qn, qc, qk, ux, cux, rfl, hx1, hg1, hg2, hv1, ho1, hl1, hc1⟩; have HE : Hid _ := hx1; have HG : Hid _ := hg1; have HG2 : Hid _ := hg2; have HO : Hid (NewI w v1 ux (allX R ([e9]) r).2 cux) := ho1; have HL1 : Hid _ := hl1; have HC1 : Hid _ := hc1; clear hx1 hg1 hg2 ho1 hl1 hc1; (first | (have hy := HG.out W1.heap.size #[.slice none 0 0, .slice none 0 0, .slice none 0 0, .int .i64 0, .int .i64 0] 104 (by decide) (by first | exact blk_drew (blk_at _ _ _ rfl) | exact blk_at _ _ _ rfl); have HY : Hid _ := hy; obtain ⟨y0, y1, y2, y3, y4, yf0, yf1, yf2, yf3, yf4⟩ := cells5 hy; clear hy) | skip); unfold xV))
   all_goals (go_wp2_with fail; go_meet; first | exact ⟨_, qa, qn, qc, qk, ux, cux, rfl, rfl, Fx.lay HE.out HY.out (by omega) _ _ _ _ _, set5_same _ _ _ _ _ HY.out _ _ _ _ _, (set5_other _ _ _ _ _ _ _ _ (by omega)).trans (HG2.out _ _ 104 (by decide) HZ11.out), HO.out.kt (KT.lay HY.out _ _ _ _ _), HL1.out, HC1.out⟩ | exact ⟨_, qa, qn, qc, qk, ux, cux, rfl, rfl, Fx.below HE.out (bR _ _), blk_at _ _ _ rfl, blk_past (HG2.out _ _ 104 (by decide) HZ11.out), HO.out.kt (KT.below (bR _ _)), HL1.out, HC1.out⟩)
  case rest =>
   clear HF11 HX11 HZ11 hws0 hws1 hnn x0 x1 x2 x3 x4 xf0 xf1 xf2 xf3 xf4 z0 z1 z2 z3 z4 zf0 zf1 zf2 zf3 zf4
   obtain ⟨W2, rfl⟩ : ∃ x, x = wc := ⟨_, rfl⟩
   obtain ⟨gy, a12, n12, c12, k12, ux12, cu12, rfl, rfl, f1, f2, f3, f4, f5, f6⟩ := hcut
   have HF12 : Hid (Fx Gz w W2 B b o cs (.slice a3 n3 c3) (.slice a12 n12 c12) n12 k12 (allX R ([e9]) r).1) := f1
   have HX12 : Hid (W2.heap[gy]? = some (Obj.cells #[.slice (some ⟨b, o, none⟩) cs.length cc, .slice a2 n2 c2, .slice a12 n12 c12, .int .i64 root, .int .i64 k12] 104)) := f2
   have HZ12 : Hid (W2.heap[w.heap.size + 1]? = some (Obj.cells #[.slice none 0 0, .slice none 0 0, .slice none 0 0, .int .i64 0, .int .i64 0] 104)) := f3
   have HU12 : Hid (NewI w W2 ux12 (allX R ([e9]) r).2 cu12) := f4
   have HM12 : Hid ((allX R ([e9]) r).2.length = 1) := f5
   have hcu12 := f6
   clear f1 f2 f3 f4 f5 f6
   obtain ⟨x0, x1, x2, x3, x4, xf0, xf1, xf2, xf3, xf4⟩ := cells5 HX12.out
   obtain ⟨z0, z1, z2, z3, z4, zf0, zf1, zf2, zf3, zf4⟩ := cells5 HZ12.out
   have hws0 : gy < W2.heap.size := (alt HX12.out)
   have hws1 : w.heap.size + 1 < W2.heap.size := (alt HZ12.out)
   have hnn : n12 ≤ 400 := HF12.out.n400
   go_wp2_with fail
   refine (put_len HF12.out HGL.out (recN sw 0 nm (allX R ([e9]) r).2) (NewS.lit [nm] (by first | exact blk_at _ _ _ rfl | exact blk_at _ _ _ (by simp)) (by first | omega | (simp <;> omega))) (HU12.out.kt (KT.below (bR _ _))) rfl HM12.out (Nat.le_refl _) hcu12).mono ?_
   rintro e v1 ⟨qa, qn, qc, qk, rfl, hx1, hg1, hs1⟩
   have HE : Hid _ := hx1
   have HG : Hid _ := hg1
   have HS : Hid _ := hs1
   obtain ⟨zy0, zy1, zy2, zy3, zy4, zyf0, zyf1, zyf2, zyf3, zyf4⟩ := HF12.out.cells hg1 HZ12.out
   clear hx1 hg1 hs1
   unfold xV
   go_wp2
   refine bodyPost_ret (fin104 rfl rfl (set5_same _ _ _ _ _ (HF12.out.rep.kt HG.out (by decide) HZ12.out) _ _ _ _ _)) rfl ?_
   exact HF12.out.ret HZ12.out HE.out HG.out HS.out
end
end Go.Proofs.Ytgjeefedcfakdaa
