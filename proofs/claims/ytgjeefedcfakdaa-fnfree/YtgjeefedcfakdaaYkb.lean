/- The model's expander: l4Form: lists. What a form means is small: plain. What a form means without failure has a node: plain. -/
import Derived.Deep.DeepCutAuto
import Derived.Test.YtgjeefedcfakdaaYfb
import Derived.Test.YtgjeefedcfakdaaYcr
import Derived.Test.YtgjeefedcfakdaaYle
set_option linter.unusedVariables false
namespace Go.Proofs.Ytgjeefedcfakdaa
open Go.ChangeShapes Go.WideShapes Go.ChangeAt Go.RowKit
section
variable {B b o cc : Nat} {cs : List Dat} {a2 : Option Addr} {n2 c2 : Nat} {root : Int} {R : Int → Sx → Sx}
set_option maxRecDepth 100000 in
set_option maxHeartbeats 4000000 in
theorem l4Form_call (hg : Good cs) (k : Nat) (dp : Dat) (hdp : cs[k]? = some dp) (hk : dp.k = 5) (kh : Nat) (t : List Int) (hl : lstOf cs (k : Int) = some ((kh : Int) :: t)) (d : Dat) (hdh : cs[kh]? = some d) (hna : d.k ≠ 3 ∨ naL d.s.toList = true) (hlen : t.length ≤ 8) (hi : AC B b o cc cs a2 n2 c2 root R ((kh : Int) :: t)) : FP (fun r => r.2 = 0) B b o cc cs a2 n2 c2 root 70 k (fun r => putN (allX R ((kh : Int) :: t) r).1 (callN (allX R ((kh : Int) :: t) r).2)) := by
 intro Gz w a3 n3 c3 code r hB hGl hrow hr hz
 obtain ⟨W0, HW0, HP⟩ := Pt.begin cc a2 n2 c2 root hB hrow hr
 have HGL : Hid (∀ g, Gz g → g < w.heap.size) := hGl
 have HDH : Hid (cs[kh]? = some d) := hdh
 have HNA : Hid (d.k ≠ 3 ∨ naL d.s.toList = true) := hna
 have hsz : d.s.size ≤ 1048576 := hg.sz d (List.mem_of_getElem? hdh)
 have HLEN : Hid (t.length ≤ 8) := hlen
 clear hlen
 clear hdh hna
 have HI : Hid (AC B b o cc cs a2 n2 c2 root R ((kh : Int) :: t)) := hi
 clear hi
 have HLS : Hid (lstOf cs (k : Int) = some ((kh : Int) :: t)) := hl
 clear hl
 have hkl : k < cs.length := (llt hdp)
 have hcsn := hg.n
 have HZ0 : Hid (r.2 = 0) := hz
 have HD0 : Hid (cs[k]? = some dp) := hdp
 clear hrow hr hGl hB hdp hz
 unfold xV
 go_enter Try.func70, Try.ntmps70
 go_upto_region 1 with fail
 rw [HW0.out]
 clear HW0
 obtain ⟨a10, n10, c10, k10, HF10, HX10, HZ10, hK10, hws0, hws1, hnn, ⟨x0, x1, x2, x3, x4, xf0, xf1, xf2, xf3, xf4⟩, z0, z1, z2, z3, z4, zf0, zf1, zf2, zf3, zf4⟩ := HP.out.opn
 clear HP hK10
 obtain rfl : k10 = 0 := by have := HF10.out.rep.2.1; rw [this]; exact HZ0.out
 obtain ⟨hbB, d0, d1, d2, d3, d4⟩ := HF10.out.dat HD0.out
 have hbw : b < W0.heap.size := by have := HF10.out.bsz; omega
 rw [hk] at d0
 clear hk
 go_upto_region 14 with fail
 have HP : Hid (Pt Gz w W0 (W0.alloc (Obj.cells #[.int .i64 5, .int .i64 dp.n, .string dp.s, .int .i64 dp.l, .int .i64 dp.r] 98)) B b o cc cs a2 n2 c2 root (.slice a3 n3 c3) (r)) := Pt.below HF10.out HX10.out HZ10.out (KT.refl _) (bR _ _)
 have HD : Hid (Blk98 W0.heap.size #[.int .i64 5, .int .i64 dp.n, .string dp.s, .int .i64 dp.l, .int .i64 dp.r] (W0.alloc (Obj.cells #[.int .i64 5, .int .i64 dp.n, .string dp.s, .int .i64 dp.l, .int .i64 dp.r] 98))) := blk_at _ _ _ rfl
 clear d0 d1 d2 d3 d4 hbw hbB
 clear HF10 HX10 HZ10 hws0 hws1 hnn x0 x1 x2 x3 x4 xf0 xf1 xf2 xf3 xf4 z0 z1 z2 z3 z4 zf0 zf1 zf2 zf3 zf4
 generalize W0.alloc (Obj.cells #[.int .i64 5, .int .i64 dp.n, .string dp.s, .int .i64 dp.l, .int .i64 dp.r] 98) = W1 at *
 generalize W0.heap.size = gd at *
 have HP : Hid (Pt Gz w W1 W1 B b o cc cs a2 n2 c2 root (.slice a3 n3 c3) r) := by obtain ⟨a, n, c, code, F, hX, hZ, hK⟩ := HP.out; exact ⟨a, n, c, code, F, hX, hZ, KT.refl _⟩
 obtain ⟨a11, n11, c11, k11, HF11, HX11, HZ11, hK11, hws0, hws1, hnn, ⟨x0, x1, x2, x3, x4, xf0, xf1, xf2, xf3, xf4⟩, z0, z1, z2, z3, z4, zf0, zf1, zf2, zf3, zf4⟩ := HP.out.opn
 clear HP hK11
 clear HD
 go_wp2_with fail
 refine (lst_at hg HF11.out k hkl).mono ?_
 rintro e W2 ⟨u, cu, L, ok, rfl, hb1, _, h2, h3, h4, h5, h6⟩
 have HP : Hid (Pt Gz w W1 W2 B b o cc cs a2 n2 c2 root (.slice a3 n3 c3) (r)) := Pt.below HF11.out HX11.out HZ11.out (KT.refl _) hb1
 have HRB : Hid (RowT W2 u L) := h2
 have HCO : Hid (if ok = true then lstOf cs (k : Int) = some L else lstOf cs (k : Int) = none) := h5
 clear hb1 h2 h5 h6
 obtain ⟨rfl, rfl⟩ : ok = true ∧ L = (kh : Int) :: t := by
  have h := HCO.out
  rw [HLS.out] at h
  cases ok
  ·simp at h
  ·simp at h
   exact ⟨rfl, h.symm⟩
 have hcu' : t.length + 1 ≤ cu := h4
 have hLu' : t.length + 1 ≤ cs.length := h3
 obtain ⟨g2, p2, rfl⟩ := HRB.out.some
 clear HCO h3 h4
 clear HF11 HX11 HZ11 hws0 hws1 hnn x0 x1 x2 x3 x4 xf0 xf1 xf2 xf3 xf4 z0 z1 z2 z3 z4 zf0 zf1 zf2 zf3 zf4
 obtain ⟨a12, n12, c12, k12, HF12, HX12, HZ12, hK12, hws0, hws1, hnn, ⟨x0, x1, x2, x3, x4, xf0, xf1, xf2, xf3, xf4⟩, z0, z1, z2, z3, z4, zf0, zf1, zf2, zf3, zf4⟩ := HP.out.opn
 clear HP hK12
 clear HD0 HLS HZ0
 go_upto_region 17 with fail
 go_cut [8] (fun pv wx => ∃ gd, pv = .pointer (some ⟨gd, 0, none⟩) ∧ wx.heap[gd]? = some (Obj.cells #[.int .i64 d.k, .int .i64 d.n, .string d.s, .int .i64 d.l, .int .i64 d.r] 98) ∧ Pt Gz w W2 wx B b o cc cs a2 n2 c2 root (.slice a3 n3 c3) (r))
 case first =>
  have c1 := HRB.out.head
  have hgw := HRB.out.lt
  have hd := HDH.out
  obtain ⟨hbB, d0, d1, d2, d3, d4⟩ := HF12.out.dat hd
  have hbw : b < W2.heap.size := by have := HF12.out.bsz; omega
  have hkl : kh < cs.length := (llt hd)
  have hcsn := hg.n
  go_region_with (fail)
  all_goals (go_wp2_with fail; go_meet; exact ⟨_, rfl, (by first | exact blk_drew (blk_at _ _ _ rfl) | exact blk_at _ _ _ rfl), Pt.below HF12.out HX12.out HZ12.out (KT.refl _) (by first | exact (bR _ _).drew | exact (Below.refl _ _).drew.alloc (Nat.le_refl _) _ | exact bR _ _)⟩)
 case rest =>
  clear HF12 HX12 HZ12 hws0 hws1 hnn x0 x1 x2 x3 x4 xf0 xf1 xf2 xf3 xf4 z0 z1 z2 z3 z4 zf0 zf1 zf2 zf3 zf4
  obtain ⟨W3, rfl⟩ : ∃ x, x = wc := ⟨_, rfl⟩
  obtain ⟨gd, rfl, hd98, hP1⟩ := hcut
  have HP : Hid (Pt Gz w W2 W3 B b o cc cs a2 n2 c2 root (.slice a3 n3 c3) (r)) := hP1
  clear hP1
  obtain ⟨e0, e1, e2, e3, e4, _, _, _, _, _⟩ := cells5 hd98
  obtain ⟨a13, n13, c13, k13, HF13, HX13, HZ13, hK13, hws0, hws1, hnn, ⟨x0, x1, x2, x3, x4, xf0, xf1, xf2, xf3, xf4⟩, z0, z1, z2, z3, z4, zf0, zf1, zf2, zf3, zf4⟩ := HP.out.opn
  replace HRB := hid (HRB.out.kt hK13)
  clear HP hK13
  have HDh : Hid (Blk98 gd #[.int .i64 d.k, .int .i64 d.n, .string d.s, .int .i64 d.l, .int .i64 d.r] W3) := hd98
  clear hd98 e0 e1 e2 e3 e4
  go_upto_region 18 with fail
  go_cut [72] (fun bv wx => bv = .bool false ∧ Pt Gz w W3 wx B b o cc cs a2 n2 c2 root (.slice a3 n3 c3) (r))
  case first =>
   obtain ⟨e0, e2⟩ := zj2 0 2 HDh.out rfl rfl
   by_cases hk3 : d.k = 3
   ·have qk3 : (d.k == 3) = true := beq_iff_eq.2 hk3
    have HNT : Hid (naL d.s.toList = true) := HNA.out.resolve_left fun h => h hk3
    clear hk3
    go_wp2_with fail
    refine (na_at hsz HNT.out _).mono ?_
    rintro e v1 ⟨rfl, hb1⟩
    go_wp2_with fail
    go_meet
    exact ⟨rfl, Pt.below HF13.out HX13.out HZ13.out (KT.refl _) hb1⟩
   ·have qk3 : (d.k == 3) = false := beq_eq_false_iff_ne.2 hk3
    clear hk3
    go_wp2_with fail
    go_meet
    exact ⟨rfl, Pt.below HF13.out HX13.out HZ13.out (KT.refl _) (Below.refl _ _)⟩
  case rest =>
   clear HF13 HX13 HZ13 hws0 hws1 hnn x0 x1 x2 x3 x4 xf0 xf1 xf2 xf3 xf4 z0 z1 z2 z3 z4 zf0 zf1 zf2 zf3 zf4
   obtain ⟨W4, rfl⟩ : ∃ x, x = wc := ⟨_, rfl⟩
   obtain ⟨rfl, hP1⟩ := hcut
   have HP : Hid (Pt Gz w W3 W4 B b o cc cs a2 n2 c2 root (.slice a3 n3 c3) (r)) := hP1
   clear hP1
   obtain ⟨a14, n14, c14, k14, HF14, HX14, HZ14, hK14, hws0, hws1, hnn, ⟨x0, x1, x2, x3, x4, xf0, xf1, xf2, xf3, xf4⟩, z0, z1, z2, z3, z4, zf0, zf1, zf2, zf3, zf4⟩ := HP.out.opn
   replace HRB := hid (HRB.out.kt hK14)
   replace HDh := hid (HDh.out.kt hK14)
   clear HP hK14
   clear HDh HDH HNA
   have hgt : decide ((t.length : Int) + 1 > 9) = false := by have := HLEN.out; simp; omega
   have hgt2 : decide (9 < (t.length : Int) + 1) = false := by have := HLEN.out; simp; omega
   clear HLEN
   go_wp2_with fail
   refine (all_at HI.out HF14.out HGL.out (al := (some ⟨g2, p2, none⟩)) (cl := cu) hcu' HRB.out).mono ?_
   rintro e v1 ⟨a15, n15, c15, k15, ux15, cu15, rfl, hx1, hg1, hs1, ho1, hl1, hc1⟩
   have HF15 : Hid (Fx Gz w (v1.alloc (Obj.cells #[.slice (some ⟨b, o, none⟩) cs.length cc, .slice a2 n2 c2, .slice a15 n15 c15, .int .i64 root, .int .i64 k15] 104)) B b o cs (.slice a3 n3 c3) (.slice a15 n15 c15) n15 k15 (allX R ((kh : Int) :: t) r).1) := (HF14.out.call hg1 hs1 hx1).below (bR _ _)
   have HX15 : Hid ((v1.alloc (Obj.cells #[.slice (some ⟨b, o, none⟩) cs.length cc, .slice a2 n2 c2, .slice a15 n15 c15, .int .i64 root, .int .i64 k15] 104)).heap[v1.heap.size]? = some (Obj.cells #[.slice (some ⟨b, o, none⟩) cs.length cc, .slice a2 n2 c2, .slice a15 n15 c15, .int .i64 root, .int .i64 k15] 104)) := blk_at _ _ _ rfl
   have HZ15 : Hid ((v1.alloc (Obj.cells #[.slice (some ⟨b, o, none⟩) cs.length cc, .slice a2 n2 c2, .slice a15 n15 c15, .int .i64 root, .int .i64 k15] 104)).heap[w.heap.size + 1]? = some (Obj.cells #[.slice none 0 0, .slice none 0 0, .slice none 0 0, .int .i64 0, .int .i64 0] 104)) := blk_past (HF14.out.rep.kt hg1 (by decide) HZ14.out)
   have HU15 : Hid (NewI w (v1.alloc (Obj.cells #[.slice (some ⟨b, o, none⟩) cs.length cc, .slice a2 n2 c2, .slice a15 n15 c15, .int .i64 root, .int .i64 k15] 104)) ux15 (allX R ((kh : Int) :: t) r).2 cu15) := ho1.kt (KT.below (bR _ _))
   have HM15 : Hid ((allX R ((kh : Int) :: t) r).2.length = ((kh : Int) :: t : List Int).length) := hl1
   have hcu15 := hc1
   have hk1 : KT W4 (v1.alloc (Obj.cells #[.slice (some ⟨b, o, none⟩) cs.length cc, .slice a2 n2 c2, .slice a15 n15 c15, .int .i64 root, .int .i64 k15] 104)) := KT.trans (fun q c t ht e => HF14.out.rep.kt hg1 ht.1 e) (KT.below (bR _ _))
   have hHRB := HRB.out.kt hk1
   clear HRB
   have HRB : Hid (RowT (v1.alloc (Obj.cells #[.slice (some ⟨b, o, none⟩) cs.length cc, .slice a2 n2 c2, .slice a15 n15 c15, .int .i64 root, .int .i64 k15] 104)) (some ⟨g2, p2, none⟩) ((kh : Int) :: t)) := hHRB
   clear hHRB
   clear hx1 hg1 hs1 ho1 hl1 hc1 hk1
   clear HF14 HX14 HZ14 hws0 hws1 hnn x0 x1 x2 x3 x4 xf0 xf1 xf2 xf3 xf4 z0 z1 z2 z3 z4 zf0 zf1 zf2 zf3 zf4
   unfold xV
   go_upto_region 23 with fail
   generalize v1.alloc (Obj.cells #[.slice (some ⟨b, o, none⟩) cs.length cc, .slice a2 n2 c2, .slice a15 n15 c15, .int .i64 root, .int .i64 k15] 104) = W5 at *
   generalize v1.heap.size = gy15 at *
   obtain ⟨x0, x1, x2, x3, x4, xf0, xf1, xf2, xf3, xf4⟩ := cells5 HX15.out
   obtain ⟨z0, z1, z2, z3, z4, zf0, zf1, zf2, zf3, zf4⟩ := cells5 HZ15.out
   have hws0 : gy15 < W5.heap.size := (alt HX15.out)
   have hws1 : w.heap.size + 1 < W5.heap.size := (alt HZ15.out)
   have hnn : n15 ≤ 400 := HF15.out.n400
   go_wp2_with fail
   refine (put_len HF15.out HGL.out (callN (allX R ((kh : Int) :: t) r).2) (NewS.nil _ _ _) HU15.out rfl HM15.out (Nat.le_refl _) hcu15).mono ?_
   rintro e v1 ⟨qa, qn, qc, qk, rfl, hx1, hg1, hs1⟩
   have HE : Hid _ := hx1
   have HG : Hid _ := hg1
   have HS : Hid _ := hs1
   obtain ⟨zy0, zy1, zy2, zy3, zy4, zyf0, zyf1, zyf2, zyf3, zyf4⟩ := HF15.out.cells hg1 HZ15.out
   clear hx1 hg1 hs1
   unfold xV
   go_wp2
   refine bodyPost_ret (fin104 rfl rfl (set5_same _ _ _ _ _ (HF15.out.rep.kt HG.out (by decide) HZ15.out) _ _ _ _ _)) rfl ?_
   exact HF15.out.ret HZ15.out HE.out HG.out HS.out
set_option maxRecDepth 100000 in
set_option maxHeartbeats 4000000 in
theorem l4Form_callbig (hg : Good cs) (k : Nat) (dp : Dat) (hdp : cs[k]? = some dp) (hk : dp.k = 5) (kh : Nat) (t : List Int) (hl : lstOf cs (k : Int) = some ((kh : Int) :: t)) (d : Dat) (hdh : cs[kh]? = some d) (hna : d.k ≠ 3 ∨ naL d.s.toList = true) (hlen : 8 < t.length) : FP (fun r => r.2 = 0) B b o cc cs a2 n2 c2 root 70 k (fun r => failN r 1) := by
 intro Gz w a3 n3 c3 code r hB hGl hrow hr hz
 obtain ⟨W0, HW0, HP⟩ := Pt.begin cc a2 n2 c2 root hB hrow hr
 have HGL : Hid (∀ g, Gz g → g < w.heap.size) := hGl
 have HDH : Hid (cs[kh]? = some d) := hdh
 have HNA : Hid (d.k ≠ 3 ∨ naL d.s.toList = true) := hna
 have hsz : d.s.size ≤ 1048576 := hg.sz d (List.mem_of_getElem? hdh)
 have HLEN : Hid (8 < t.length) := hlen
 clear hlen
 clear hdh hna
 have HLS : Hid (lstOf cs (k : Int) = some ((kh : Int) :: t)) := hl
 clear hl
 have hkl : k < cs.length := (llt hdp)
 have hcsn := hg.n
 have HZ0 : Hid (r.2 = 0) := hz
 have HD0 : Hid (cs[k]? = some dp) := hdp
 clear hrow hr hGl hB hdp hz
 unfold xV
 go_enter Try.func70, Try.ntmps70
 go_upto_region 1 with fail
 rw [HW0.out]
 clear HW0
 obtain ⟨a10, n10, c10, k10, HF10, HX10, HZ10, hK10, hws0, hws1, hnn, ⟨x0, x1, x2, x3, x4, xf0, xf1, xf2, xf3, xf4⟩, z0, z1, z2, z3, z4, zf0, zf1, zf2, zf3, zf4⟩ := HP.out.opn
 clear HP hK10
 obtain rfl : k10 = 0 := by have := HF10.out.rep.2.1; rw [this]; exact HZ0.out
 obtain ⟨hbB, d0, d1, d2, d3, d4⟩ := HF10.out.dat HD0.out
 have hbw : b < W0.heap.size := by have := HF10.out.bsz; omega
 rw [hk] at d0
 clear hk
 go_upto_region 14 with fail
 have HP : Hid (Pt Gz w W0 (W0.alloc (Obj.cells #[.int .i64 5, .int .i64 dp.n, .string dp.s, .int .i64 dp.l, .int .i64 dp.r] 98)) B b o cc cs a2 n2 c2 root (.slice a3 n3 c3) (r)) := Pt.below HF10.out HX10.out HZ10.out (KT.refl _) (bR _ _)
 have HD : Hid (Blk98 W0.heap.size #[.int .i64 5, .int .i64 dp.n, .string dp.s, .int .i64 dp.l, .int .i64 dp.r] (W0.alloc (Obj.cells #[.int .i64 5, .int .i64 dp.n, .string dp.s, .int .i64 dp.l, .int .i64 dp.r] 98))) := blk_at _ _ _ rfl
 clear d0 d1 d2 d3 d4 hbw hbB
 clear HF10 HX10 HZ10 hws0 hws1 hnn x0 x1 x2 x3 x4 xf0 xf1 xf2 xf3 xf4 z0 z1 z2 z3 z4 zf0 zf1 zf2 zf3 zf4
 generalize W0.alloc (Obj.cells #[.int .i64 5, .int .i64 dp.n, .string dp.s, .int .i64 dp.l, .int .i64 dp.r] 98) = W1 at *
 generalize W0.heap.size = gd at *
 have HP : Hid (Pt Gz w W1 W1 B b o cc cs a2 n2 c2 root (.slice a3 n3 c3) r) := by obtain ⟨a, n, c, code, F, hX, hZ, hK⟩ := HP.out; exact ⟨a, n, c, code, F, hX, hZ, KT.refl _⟩
 obtain ⟨a11, n11, c11, k11, HF11, HX11, HZ11, hK11, hws0, hws1, hnn, ⟨x0, x1, x2, x3, x4, xf0, xf1, xf2, xf3, xf4⟩, z0, z1, z2, z3, z4, zf0, zf1, zf2, zf3, zf4⟩ := HP.out.opn
 clear HP hK11
 clear HD
 go_wp2_with fail
 refine (lst_at hg HF11.out k hkl).mono ?_
 rintro e W2 ⟨u, cu, L, ok, rfl, hb1, _, h2, h3, h4, h5, h6⟩
 have HP : Hid (Pt Gz w W1 W2 B b o cc cs a2 n2 c2 root (.slice a3 n3 c3) (r)) := Pt.below HF11.out HX11.out HZ11.out (KT.refl _) hb1
 have HRB : Hid (RowT W2 u L) := h2
 have HCO : Hid (if ok = true then lstOf cs (k : Int) = some L else lstOf cs (k : Int) = none) := h5
 clear hb1 h2 h5 h6
 obtain ⟨rfl, rfl⟩ : ok = true ∧ L = (kh : Int) :: t := by
  have h := HCO.out
  rw [HLS.out] at h
  cases ok
  ·simp at h
  ·simp at h
   exact ⟨rfl, h.symm⟩
 have hcu' : t.length + 1 ≤ cu := h4
 have hLu' : t.length + 1 ≤ cs.length := h3
 obtain ⟨g2, p2, rfl⟩ := HRB.out.some
 clear HCO h3 h4
 clear HF11 HX11 HZ11 hws0 hws1 hnn x0 x1 x2 x3 x4 xf0 xf1 xf2 xf3 xf4 z0 z1 z2 z3 z4 zf0 zf1 zf2 zf3 zf4
 obtain ⟨a12, n12, c12, k12, HF12, HX12, HZ12, hK12, hws0, hws1, hnn, ⟨x0, x1, x2, x3, x4, xf0, xf1, xf2, xf3, xf4⟩, z0, z1, z2, z3, z4, zf0, zf1, zf2, zf3, zf4⟩ := HP.out.opn
 clear HP hK12
 clear HD0 HLS HZ0
 go_upto_region 17 with fail
 go_cut [8] (fun pv wx => ∃ gd, pv = .pointer (some ⟨gd, 0, none⟩) ∧ wx.heap[gd]? = some (Obj.cells #[.int .i64 d.k, .int .i64 d.n, .string d.s, .int .i64 d.l, .int .i64 d.r] 98) ∧ Pt Gz w W2 wx B b o cc cs a2 n2 c2 root (.slice a3 n3 c3) (r))
 case first =>
  have c1 := HRB.out.head
  have hgw := HRB.out.lt
  have hd := HDH.out
  obtain ⟨hbB, d0, d1, d2, d3, d4⟩ := HF12.out.dat hd
  have hbw : b < W2.heap.size := by have := HF12.out.bsz; omega
  have hkl : kh < cs.length := (llt hd)
  have hcsn := hg.n
  go_region_with (fail)
  all_goals (go_wp2_with fail; go_meet; exact ⟨_, rfl, (by first | exact blk_drew (blk_at _ _ _ rfl) | exact blk_at _ _ _ rfl), Pt.below HF12.out HX12.out HZ12.out (KT.refl _) (by first | exact (bR _ _).drew | exact (Below.refl _ _).drew.alloc (Nat.le_refl _) _ | exact bR _ _)⟩)
 case rest =>
  clear HF12 HX12 HZ12 hws0 hws1 hnn x0 x1 x2 x3 x4 xf0 xf1 xf2 xf3 xf4 z0 z1 z2 z3 z4 zf0 zf1 zf2 zf3 zf4
  obtain ⟨W3, rfl⟩ : ∃ x, x = wc := ⟨_, rfl⟩
  obtain ⟨gd, rfl, hd98, hP1⟩ := hcut
  have HP : Hid (Pt Gz w W2 W3 B b o cc cs a2 n2 c2 root (.slice a3 n3 c3) (r)) := hP1
  clear hP1
  obtain ⟨e0, e1, e2, e3, e4, _, _, _, _, _⟩ := cells5 hd98
  obtain ⟨a13, n13, c13, k13, HF13, HX13, HZ13, hK13, hws0, hws1, hnn, ⟨x0, x1, x2, x3, x4, xf0, xf1, xf2, xf3, xf4⟩, z0, z1, z2, z3, z4, zf0, zf1, zf2, zf3, zf4⟩ := HP.out.opn
  replace HRB := hid (HRB.out.kt hK13)
  clear HP hK13
  have HDh : Hid (Blk98 gd #[.int .i64 d.k, .int .i64 d.n, .string d.s, .int .i64 d.l, .int .i64 d.r] W3) := hd98
  clear hd98 e0 e1 e2 e3 e4
  go_upto_region 18 with fail
  go_cut [72] (fun bv wx => bv = .bool false ∧ Pt Gz w W3 wx B b o cc cs a2 n2 c2 root (.slice a3 n3 c3) (r))
  case first =>
   obtain ⟨e0, e2⟩ := zj2 0 2 HDh.out rfl rfl
   by_cases hk3 : d.k = 3
   ·have qk3 : (d.k == 3) = true := beq_iff_eq.2 hk3
    have HNT : Hid (naL d.s.toList = true) := HNA.out.resolve_left fun h => h hk3
    clear hk3
    go_wp2_with fail
    refine (na_at hsz HNT.out _).mono ?_
    rintro e v1 ⟨rfl, hb1⟩
    go_wp2_with fail
    go_meet
    exact ⟨rfl, Pt.below HF13.out HX13.out HZ13.out (KT.refl _) hb1⟩
   ·have qk3 : (d.k == 3) = false := beq_eq_false_iff_ne.2 hk3
    clear hk3
    go_wp2_with fail
    go_meet
    exact ⟨rfl, Pt.below HF13.out HX13.out HZ13.out (KT.refl _) (Below.refl _ _)⟩
  case rest =>
   clear HF13 HX13 HZ13 hws0 hws1 hnn x0 x1 x2 x3 x4 xf0 xf1 xf2 xf3 xf4 z0 z1 z2 z3 z4 zf0 zf1 zf2 zf3 zf4
   obtain ⟨W4, rfl⟩ : ∃ x, x = wc := ⟨_, rfl⟩
   obtain ⟨rfl, hP1⟩ := hcut
   have HP : Hid (Pt Gz w W3 W4 B b o cc cs a2 n2 c2 root (.slice a3 n3 c3) (r)) := hP1
   clear hP1
   obtain ⟨a14, n14, c14, k14, HF14, HX14, HZ14, hK14, hws0, hws1, hnn, ⟨x0, x1, x2, x3, x4, xf0, xf1, xf2, xf3, xf4⟩, z0, z1, z2, z3, z4, zf0, zf1, zf2, zf3, zf4⟩ := HP.out.opn
   replace HRB := hid (HRB.out.kt hK14)
   replace HDh := hid (HDh.out.kt hK14)
   clear HP hK14
   clear HDh HDH HNA
   have hgt : decide ((t.length : Int) + 1 > 9) = true := by have := HLEN.out; simp; omega
   have hgt2 : decide (9 < (t.length : Int) + 1) = true := by have := HLEN.out; simp; omega
   clear HLEN
   go_wp2_with fail
   refine (fail_at HF14.out).mono ?_
   rintro e v1 ⟨qa, qn, qc, qk, rfl, hx1, hg1, hs1⟩
   have HE : Hid _ := hx1
   have HG : Hid _ := hg1
   have HS : Hid _ := hs1
   obtain ⟨zy0, zy1, zy2, zy3, zy4, zyf0, zyf1, zyf2, zyf3, zyf4⟩ := HF14.out.cells hg1 HZ14.out
   clear hx1 hg1 hs1
   unfold xV
   go_wp2
   refine bodyPost_ret (fin104 rfl rfl (set5_same _ _ _ _ _ (HF14.out.rep.kt HG.out (by decide) HZ14.out) _ _ _ _ _)) rfl ?_
   exact HF14.out.ret HZ14.out HE.out HG.out HS.out
end
end Go.Proofs.Ytgjeefedcfakdaa
set_option linter.unusedVariables false
namespace Go.Proofs.Ytgjeefedcfakdaa
def NSm (d : Nod) : Prop := i64B d.k ∧ i64B d.n ∧ d.s.size ≤ 1048576 ∧ d.names.length ≤ 1000 ∧ d.args.length ≤ 1001 ∧ ∀ x ∈ d.names, x.size ≤ 1048576
def SmS (s : Sx) : Prop := ∀ d ∈ s.1, NSm d
def SmF (F : Sx → Sx) : Prop := ∀ s, SmS s → SmS (F s)
theorem i64c {k : Int} (h : decide (-9223372036854775808 ≤ k ∧ k ≤ 9223372036854775807) = true) : i64B k := by unfold i64B; exact of_decide_eq_true h
theorem sm_put {s : Sx} {d : Nod} (h : SmS s) (hd : NSm d) : SmS (putN s d) := by
 unfold putN
 split
 ·split
  ·intro x hx
   rcases List.mem_append.1 hx with hx | hx
   ·exact h x hx
   ·rw [List.mem_singleton.1 hx]; exact hd
  ·exact h
 ·exact h
theorem sm_fail {s : Sx} (h : SmS s) (c : Int) : SmS (failN s c) := by
 unfold failN
 split
 ·exact h
 ·exact h
theorem smF_fail : SmF (fun r => failN r 1) := fun s h => sm_fail h 1
theorem ns_args {k : Int} {s : ByteArray} {l : List Int} (hk : i64B k) (hs : s.size ≤ 1048576) (hl : l.length ≤ 1001) : NSm ⟨k, 0, s, [], l⟩ := ⟨hk, i64c rfl, hs, Nat.zero_le _, hl, fun x h => by cases h⟩
theorem sm_all {R : Int → Sx → Sx} : ∀ (l : List Int), (∀ x ∈ l, SmF (R x)) → ∀ s, SmS s → SmS (allX R l s).1
 | [], _, s, h => h
 | i :: l, hR, s, h => sm_all l (fun x hx => hR x (by simp [hx])) _ (hR i (by simp) s h)
theorem all_len (R : Int → Sx → Sx) : ∀ (l : List Int) (s : Sx), (allX R l s).2.length = l.length
 | [], _ => rfl
 | i :: l, s => by show (allX R l _).2.length + 1 = l.length + 1; rw [all_len R l]
theorem sm_body {R : Int → Sx → Sx} {l : List Int} (hl : l.length ≤ 1000) (hR : ∀ x ∈ l, SmF (R x)) : SmF (bodyX R l) := by
 intro s h
 unfold bodyX
 split
 ·exact sm_fail h 1
 ·split
  ·exact sm_all l hR s h
  ·exact sm_put (sm_all l hR s h) (ns_args (i64c rfl) (Nat.zero_le _) (by rw [all_len]; omega))
theorem sm_lam {ss : List ByteArray} (h1 : ss.length ≤ 1000) (h2 : ∀ x ∈ ss, x.size ≤ 1048576) : SmF (lamX ss) := fun s h => sm_put h ⟨i64c rfl, i64c rfl, Nat.zero_le _, h1, by simp [lamN], h2⟩
theorem sm_call (f : Sx) {s : Sx} (h : SmS s) : SmS (callX f s) := sm_put h (ns_args (i64c rfl) (Nat.zero_le _) (by simp))
theorem sm_if (a b : Sx) {s : Sx} (h : SmS s) : SmS (ifX a b s) := sm_put h (ns_args (i64c rfl) (Nat.zero_le _) (by simp))
theorem ns_bool {n : Int} (h : i64B n) : NSm (boolN n) := ⟨i64c rfl, h, Nat.zero_le _, Nat.zero_le _, Nat.zero_le _, fun x h => by cases h⟩
theorem sm_and {R : Int → Sx → Sx} : ∀ (l : List Int), (∀ x ∈ l, SmF (R x)) → SmF (andX R l)
 | [], _ => fun s h => sm_put h (ns_bool (i64c rfl))
 | [i], hR => hR i (by simp)
 | i :: j :: l, hR => fun s h => sm_if _ _ (sm_put (sm_and (j :: l) (fun x hx => hR x (by simp at hx ⊢; exact .inr hx)) _ (hR i (by simp) s h)) (ns_bool (i64c rfl)))
theorem ns_or : NSm (varN orS) := ⟨i64c rfl, i64c rfl, by decide, Nat.zero_le _, Nat.zero_le _, fun x h => by cases h⟩
theorem sm_or {R : Int → Sx → Sx} : ∀ (l : List Int), (∀ x ∈ l, SmF (R x)) → SmF (orX R l)
 | [], _ => fun s h => sm_put h (ns_bool (i64c rfl))
 | [i], hR => hR i (by simp)
 | i :: j :: l, hR => fun s h => sm_call _ (hR i (by simp) _ (sm_lam (by simp) (by simp; decide) _ (sm_if _ _ (sm_or (j :: l) (fun x hx => hR x (by simp at hx ⊢; exact .inr hx)) _ (sm_put (sm_put h ns_or) ns_or)))))
theorem sm_when {R : Int → Sx → Sx} {c : Int} {b : List Int} (hc : SmF (R c)) (hb : SmF (bodyX R b)) : SmF (whenX R c b) := fun s h => sm_if _ _ (sm_put (hb _ (hc s h)) (ns_bool (i64c rfl)))
section
variable {cs : List Dat}
theorem nm_size (hz : ∀ d ∈ cs, d.s.size ≤ 1048576) {i : Int} {s : ByteArray} (h : nmOf cs i = some s) : s.size ≤ 1048576 := by
 unfold nmOf at h
 split at h
 ·rename_i hk
  have e := Option.some.inj h
  subst e
  by_cases hi : i.toNat < cs.length
  ·have : cel cs i = cs[i.toNat] := by unfold cel; simp [List.getD, hi]
   rw [this]
   exact hz _ (List.getElem_mem hi)
  ·have hd : cel cs i = default := by unfold cel; rw [List.getD_eq_getElem?_getD, List.getElem?_eq_none (by omega)]; rfl
   rw [hd] at hk
   exact absurd hk.1 (by decide)
 ·cases h
theorem nms_size (hz : ∀ d ∈ cs, d.s.size ≤ 1048576) : ∀ (l : List Int) {ss : List ByteArray}, nmsOf cs l = some ss → ∀ x ∈ ss, x.size ≤ 1048576
 | [], ss, h => by
  have e := Option.some.inj h
  subst e
  simp
 | i :: l, ss, h => by
  simp only [nmsOf] at h
  cases hn : nmOf cs i with
  | none => rw [hn] at h; cases h
  | some s =>
   rw [hn] at h
   cases hm : nmsOf cs l with
   | none => rw [hm] at h; cases h
   | some t =>
    rw [hm] at h
    have e := Option.some.inj h
    subst e
    intro x hx
    rcases List.mem_cons.1 hx with rfl | hx
    ·exact nm_size hz hn
    ·exact nms_size hz l hm x hx
theorem pars_ok (hz : ∀ d ∈ cs, d.s.size ≤ 1048576) {l : List Int} {ss : List ByteArray} (h : parsOf cs l = some ss) : ss.length ≤ 8 ∧ ∀ x ∈ ss, x.size ≤ 1048576 := by
 unfold parsOf at h
 cases hn : nmsOf cs l with
 | none => rw [hn] at h; cases h
 | some t =>
  rw [hn] at h
  simp only [Option.bind_some] at h
  split at h
  ·rename_i hk
   have e := Option.some.inj h
   subst e
   exact ⟨hk.2, nms_size hz l hn⟩
  ·cases h
variable {R : Int → Sx → Sx}
theorem sm_let (hz : ∀ d ∈ cs, d.s.size ≤ 1048576) {p : Int} {b : List Int} (hb : SmF (bodyX R b)) (hR : ∀ ns fs, bndOf cs p = some (ns, fs) → fs.length ≤ 1000 ∧ ∀ x ∈ fs, SmF (R x)) : SmF (letX cs R p b) := by
 intro s h
 cases hv : bndOf cs p with
 | none => rw [letX_none hv]; exact sm_fail h 1
 | some q =>
  obtain ⟨ns, fs⟩ := q
  obtain ⟨h1, h2⟩ := hR ns fs hv
  cases hp : parsOf cs ns with
  | none => rw [letX_bad hv hp]; exact sm_fail h 1
  | some ss =>
   obtain ⟨h3, h4⟩ := pars_ok hz hp
   rw [letX_ok hv hp]
   exact sm_put (sm_all fs h2 _ (sm_lam (by omega) h4 _ (hb s h))) (ns_args (i64c rfl) (Nat.zero_le _) (by simp [all_len]; omega))
theorem sm_star (hz : ∀ d ∈ cs, d.s.size ≤ 1048576) {b : List Int} (hb : SmF (bodyX R b)) : ∀ (xs ys : List Int), (∀ x ∈ ys, SmF (R x)) → SmF (starX cs R xs ys b)
 | [], ys, _ => fun s h => by simp only [starX]; exact hb s h
 | x :: xs, [], _ => fun s h => by simp only [starX]; exact hb s h
 | x :: xs, e :: es, hR => fun s h => by
  simp only [starX]
  cases hn : nmOf cs x with
  | none => exact sm_fail h 1
  | some nm => exact sm_call _ (hR e (by simp) _ (sm_lam (by simp) (by simp; exact nm_size hz hn) _ (sm_star hz hb xs es (fun y hy => hR y (by simp [hy])) s h)))
theorem sm_cond : ∀ (l : List Int), (∀ c ∈ l, ∀ L, lstOf cs c = some L → L.length ≤ 1000 ∧ ∀ x ∈ L, SmF (R x)) → SmF (condX cs R l)
 | [], _ => fun s h => sm_put h (ns_bool (i64c rfl))
 | c :: l, hR => fun s h => by
  by_cases hno : ∀ x y z, lstOf cs c ≠ some (x :: y :: z)
  ·rw [condX_bad hno]
   exact sm_fail h 1
  ·obtain ⟨x, y, z, hls⟩ : ∃ x y z, lstOf cs c = some (x :: y :: z) := by
    apply Classical.byContradiction
    intro hc
    exact hno fun x y z he => hc ⟨x, y, z, he⟩
   obtain ⟨h1, h2⟩ := hR c (by simp) _ hls
   have hB : SmF (bodyX R (y :: z)) := sm_body (by simp at h1 ⊢; omega) fun q hq => h2 q (by simp at hq ⊢; exact .inr hq)
   by_cases hel : (cel cs x).k = 3 ∧ (cel cs x).s.toList = wElse
   ·match l with
    | [] => rw [condX_else hls hel]; exact hB s h
    | d :: l => rw [condX_early hls hel]; exact sm_fail h 1
   ·rw [condX_more hls hel]
    exact sm_if _ _ (sm_cond l (fun c hc => hR c (by simp [hc])) _ (hB _ (h2 x (by simp) s h)))
theorem sm_quote (hw : ∀ i, i64B (cel cs i).n ∧ (cel cs i).s.size ≤ 1048576) : ∀ (f : Nat) (i : Int), SmF (quoteX cs f i)
 | 0, _ => fun s h => h
 | f + 1, i => fun s h => by
  obtain ⟨h1, h2⟩ := hw i
  unfold quoteX
  split
  ·exact sm_put h ⟨i64c rfl, h1, Nat.zero_le _, Nat.zero_le _, Nat.zero_le _, fun x h => by cases h⟩
  ·split
   ·exact sm_put h (ns_bool h1)
   ·split
    ·exact sm_put h ⟨i64c rfl, i64c rfl, h2, Nat.zero_le _, Nat.zero_le _, fun x h => by cases h⟩
    ·split
     ·exact sm_put h ⟨i64c rfl, i64c rfl, Nat.zero_le _, Nat.zero_le _, Nat.zero_le _, fun x h => by cases h⟩
     ·exact sm_put (sm_quote hw f _ _ (sm_quote hw f _ s h)) (ns_args (i64c rfl) (by decide) (by simp))
theorem sm_rec {w t : ByteArray} {n : Int} {l : List Int} (hl : l.length ≤ 1000) (hR : ∀ x ∈ l, SmF (R x)) (hw : w.size ≤ 1048576) (ht : t.size ≤ 1048576) (hn : i64B n) : SmF (recX R w n t l) := fun s h =>
 sm_put (sm_all l hR s h) ⟨i64c rfl, hn, hw, by simp [recN], by simp [recN, all_len]; omega, by simp [recN]; exact ht⟩
end
end Go.Proofs.Ytgjeefedcfakdaa
set_option linter.unusedVariables false
set_option maxRecDepth 100000
set_option maxHeartbeats 8000000
namespace Go.Proofs.Ytgjeefedcfakdaa
open Go.ChangeShapes Go.WideShapes Go.ChangeAt Go.RowKit
def LnF (F : Sx → Sx) : Prop := ∀ s, (F s).2 = 0 → (F s).1 ≠ []
theorem put_ln (s : Sx) (d : Nod) (h : (putN s d).2 = 0) : (putN s d).1 ≠ [] := by
 unfold putN at h ⊢
 split
 ·rename_i h0
  rw [if_pos h0] at h
  split
  ·simp
  ·rename_i h4
   rw [if_neg h4] at h
   exact absurd h (show ¬ (2 : Int) = 0 by decide)
 ·rename_i h0
  rw [if_neg h0] at h
  exact absurd h h0
theorem fail_ln (s : Sx) (h : (failN s 1).2 = 0) : (failN s 1).1 ≠ [] := by
 unfold failN at h
 split at h
 ·exact absurd h (show ¬ (1 : Int) = 0 by decide)
 ·rename_i h0
  exact absurd h h0
theorem ln_fail : LnF (fun r => failN r 1) := fun s h => fail_ln s h
theorem ln_body {R : Int → Sx → Sx} {l : List Int} (hR : ∀ x ∈ l, LnF (R x)) : LnF (bodyX R l) := by
 intro s
 unfold bodyX
 split
 ·exact fail_ln s
 ·split
  ·rename_i h1
   obtain ⟨i, rfl⟩ := List.length_eq_one_iff.1 h1
   exact hR i (by simp) s
  ·exact put_ln _ _
theorem ln_and {R : Int → Sx → Sx} : ∀ (l : List Int), (∀ x ∈ l, LnF (R x)) → LnF (andX R l)
 | [], _ => fun s => put_ln _ _
 | [i], hR => hR i (by simp)
 | i :: j :: l, hR => fun s => put_ln _ _
theorem ln_or {R : Int → Sx → Sx} : ∀ (l : List Int), (∀ x ∈ l, LnF (R x)) → LnF (orX R l)
 | [], _ => fun s => put_ln _ _
 | [i], hR => hR i (by simp)
 | i :: j :: l, hR => fun s => put_ln _ _
theorem ln_let {cs : List Dat} {R : Int → Sx → Sx} {p : Int} {b : List Int} : LnF (letX cs R p b) := by
 intro s
 unfold letX
 split
 ·exact put_ln _ _
 ·exact fail_ln s
theorem ln_star {cs : List Dat} {R : Int → Sx → Sx} {b : List Int} (hb : LnF (bodyX R b)) : ∀ (xs ys : List Int), LnF (starX cs R xs ys b)
 | [], ys => fun s => by simp only [starX]; exact hb s
 | x :: xs, [] => fun s => by simp only [starX]; exact hb s
 | x :: xs, e :: es => fun s => by
  simp only [starX]
  cases hn : nmOf cs x with
  | none => exact fail_ln s
  | some nm => exact put_ln _ _
theorem ln_cond {cs : List Dat} {R : Int → Sx → Sx} : ∀ (l : List Int), (∀ c ∈ l, ∀ L, lstOf cs c = some L → ∀ x ∈ L, LnF (R x)) → LnF (condX cs R l)
 | [], _ => fun s => put_ln _ _
 | c :: l, hR => fun s => by
  by_cases hno : ∀ x y z, lstOf cs c ≠ some (x :: y :: z)
  ·rw [condX_bad hno]
   exact fail_ln s
  ·obtain ⟨x, y, z, hls⟩ : ∃ x y z, lstOf cs c = some (x :: y :: z) := by
    apply Classical.byContradiction
    intro hc
    exact hno fun x y z he => hc ⟨x, y, z, he⟩
   have h2 := hR c (by simp) _ hls
   have hB : LnF (bodyX R (y :: z)) := ln_body fun q hq => h2 q (by simp at hq ⊢; exact .inr hq)
   by_cases hel : (cel cs x).k = 3 ∧ (cel cs x).s.toList = wElse
   ·match l with
    | [] => rw [condX_else hls hel]; exact hB s
    | d :: l => rw [condX_early hls hel]; exact fail_ln s
   ·rw [condX_more hls hel]
    exact put_ln _ _
theorem ln_quote {cs : List Dat} (f : Nat) (i : Int) : LnF (quoteX cs (f + 1) i) := by
 intro s
 unfold quoteX
 split
 ·exact put_ln _ _
 ·split
  ·exact put_ln _ _
  ·split
   ·exact put_ln _ _
   ·split
    ·exact put_ln _ _
    ·exact put_ln _ _
theorem ln_if {G : Sx → Sx} (h : LnF G) : LnF (fun r => if r.2 = 0 then G r else r) := by
 intro s
 by_cases hz : s.2 = 0
 ·simp only [if_pos hz]
  exact h s
 ·simp only [if_neg hz]
  exact fun h => absurd h hz
end Go.Proofs.Ytgjeefedcfakdaa
