/- The model's expander: l4Body. The model's expander: lists, names, parameters and pairs, from the world of the step ahead. A row of ints onto a row of ints, be it empty or not, as one step of a region. -/
import Derived.Deep.DeepCutAuto
import Derived.Test.YtgjeefedcfakdaaYal
set_option linter.unusedVariables false
namespace Go.Proofs.Ytgjeefedcfakdaa
open Go.ChangeShapes Go.WideShapes Go.ChangeAt Go.RowKit
section
variable {B b o cc : Nat} {cs : List Dat} {a2 : Option Addr} {n2 c2 : Nat} {root : Int} {R : Int → Sx → Sx}
set_option maxRecDepth 100000 in
set_option maxHeartbeats 2000000 in
theorem l4Body_nil : LC B b o cc cs a2 n2 c2 root 86 ([]) (bodyX R []) := by
 intro Gz w a3 n3 c3 code r al cl hB hGl hrow hr hcl hal
 obtain ⟨W0, HW0, HP⟩ := Pt.begin cc a2 n2 c2 root hB hrow hr
 have HGL : Hid (∀ g, Gz g → g < w.heap.size) := hGl
 clear hrow hr hal hGl hB hcl
 unfold xV
 go_enter Try.func86, Try.ntmps86
 go_upto_region 2 with fail
 rw [HW0.out]
 clear HW0
 obtain ⟨a10, n10, c10, k10, HF10, HX10, HZ10, hK10, hws0, hws1, hnn, ⟨x0, x1, x2, x3, x4, xf0, xf1, xf2, xf3, xf4⟩, z0, z1, z2, z3, z4, zf0, zf1, zf2, zf3, zf4⟩ := HP.out.opn
 clear HP hK10
 go_wp2_with fail
 have HQ : Hid (failN r 1 = bodyX R [] r) := by show _ = _; rw [] <;> rfl
 refine (fail_at HF10.out).mono ?_
 rintro e v1 ⟨qa, qn, qc, qk, rfl, hx1, hg1, hs1⟩
 have HE : Hid _ := hx1
 have HG : Hid _ := hg1
 have HS : Hid _ := hs1
 obtain ⟨zy0, zy1, zy2, zy3, zy4, zyf0, zyf1, zyf2, zyf3, zyf4⟩ := HF10.out.cells hg1 HZ10.out
 clear hx1 hg1 hs1
 unfold xV
 go_wp2
 refine bodyPost_ret (fin104 rfl rfl (set5_same _ _ _ _ _ (HF10.out.rep.kt HG.out (by decide) HZ10.out) _ _ _ _ _)) rfl ?_
 rw [← HQ.out]
 exact HF10.out.ret HZ10.out HE.out HG.out HS.out
set_option maxRecDepth 100000 in
set_option maxHeartbeats 2000000 in
theorem l4Body_one (i : Int) (hn : cs.length ≤ 1048576) (hi : AC B b o cc cs a2 n2 c2 root R ([i])) : LC B b o cc cs a2 n2 c2 root 86 ([i]) (bodyX R ([i])) := by
 intro Gz w a3 n3 c3 code r al cl hB hGl hrow hr hcl hal
 obtain ⟨W0, HW0, HP⟩ := Pt.begin cc a2 n2 c2 root hB hrow hr
 have HGL : Hid (∀ g, Gz g → g < w.heap.size) := hGl
 have HT : Hid (RowT w al ([i])) := hal
 have HI : Hid (AC B b o cc cs a2 n2 c2 root R ([i])) := hi
 have hcl' : 1 ≤ cl := hcl
 clear hi hrow hr hal hGl hB hcl
 unfold xV
 go_enter Try.func86, Try.ntmps86
 go_upto_region 3 with fail
 rw [HW0.out]
 clear HW0
 obtain ⟨a10, n10, c10, k10, HF10, HX10, HZ10, hK10, hws0, hws1, hnn, ⟨x0, x1, x2, x3, x4, xf0, xf1, xf2, xf3, xf4⟩, z0, z1, z2, z3, z4, zf0, zf1, zf2, zf3, zf4⟩ := HP.out.opn
 replace HT := hid (HT.out.kt hK10)
 clear HP hK10
 go_wp2_with fail
 refine (all_at HI.out HF10.out HGL.out (al := al) (cl := cl) hcl' HT.out).mono ?_
 rintro e v1 ⟨a11, n11, c11, k11, ux11, cu11, rfl, hx1, hg1, hs1, ho1, hl1, hc1⟩
 have HF11 : Hid (Fx Gz w (v1.alloc (Obj.cells #[.slice (some ⟨b, o, none⟩) cs.length cc, .slice a2 n2 c2, .slice a11 n11 c11, .int .i64 root, .int .i64 k11] 104)) B b o cs (.slice a3 n3 c3) (.slice a11 n11 c11) n11 k11 (allX R ([i]) r).1) := (HF10.out.call hg1 hs1 hx1).below (bR _ _)
 have HX11 : Hid ((v1.alloc (Obj.cells #[.slice (some ⟨b, o, none⟩) cs.length cc, .slice a2 n2 c2, .slice a11 n11 c11, .int .i64 root, .int .i64 k11] 104)).heap[v1.heap.size]? = some (Obj.cells #[.slice (some ⟨b, o, none⟩) cs.length cc, .slice a2 n2 c2, .slice a11 n11 c11, .int .i64 root, .int .i64 k11] 104)) := blk_at _ _ _ rfl
 have HZ11 : Hid ((v1.alloc (Obj.cells #[.slice (some ⟨b, o, none⟩) cs.length cc, .slice a2 n2 c2, .slice a11 n11 c11, .int .i64 root, .int .i64 k11] 104)).heap[w.heap.size + 1]? = some (Obj.cells #[.slice none 0 0, .slice none 0 0, .slice none 0 0, .int .i64 0, .int .i64 0] 104)) := blk_past (HF10.out.rep.kt hg1 (by decide) HZ10.out)
 have HU11 : Hid (NewI w (v1.alloc (Obj.cells #[.slice (some ⟨b, o, none⟩) cs.length cc, .slice a2 n2 c2, .slice a11 n11 c11, .int .i64 root, .int .i64 k11] 104)) ux11 (allX R ([i]) r).2 cu11) := ho1.kt (KT.below (bR _ _))
 have HM11 : Hid ((allX R ([i]) r).2.length = ([i] : List Int).length) := hl1
 have hcu11 := hc1
 have hk1 : KT W0 (v1.alloc (Obj.cells #[.slice (some ⟨b, o, none⟩) cs.length cc, .slice a2 n2 c2, .slice a11 n11 c11, .int .i64 root, .int .i64 k11] 104)) := KT.trans (fun q c t ht e => HF10.out.rep.kt hg1 ht.1 e) (KT.below (bR _ _))
 have hHT := HT.out.kt hk1
 clear HT
 have HT : Hid (RowT (v1.alloc (Obj.cells #[.slice (some ⟨b, o, none⟩) cs.length cc, .slice a2 n2 c2, .slice a11 n11 c11, .int .i64 root, .int .i64 k11] 104)) al ([i])) := hHT
 clear hHT
 clear hx1 hg1 hs1 ho1 hl1 hc1 hk1
 clear HF10 HX10 HZ10 hws0 hws1 hnn x0 x1 x2 x3 x4 xf0 xf1 xf2 xf3 xf4 z0 z1 z2 z3 z4 zf0 zf1 zf2 zf3 zf4
 unfold xV
 go_upto_region 4 with fail
 generalize v1.alloc (Obj.cells #[.slice (some ⟨b, o, none⟩) cs.length cc, .slice a2 n2 c2, .slice a11 n11 c11, .int .i64 root, .int .i64 k11] 104) = W1 at *
 generalize v1.heap.size = gy11 at *
 obtain ⟨x0, x1, x2, x3, x4, xf0, xf1, xf2, xf3, xf4⟩ := cells5 HX11.out
 obtain ⟨z0, z1, z2, z3, z4, zf0, zf1, zf2, zf3, zf4⟩ := cells5 HZ11.out
 have hws0 : gy11 < W1.heap.size := (alt HX11.out)
 have hws1 : w.heap.size + 1 < W1.heap.size := (alt HZ11.out)
 have hnn : n11 ≤ 400 := HF11.out.n400
 have HQ : (allX R ([i]) r).1 = bodyX R [i] r := rfl
 go_wp2
 refine bodyPost_ret (fin104 rfl rfl (set5_same _ _ _ _ _ HZ11.out _ _ _ _ _)) rfl ?_
 rw [← HQ]
 exact HF11.out.done _ _ HZ11.out (by omega) _ _ _ _ _
set_option maxRecDepth 100000 in
set_option maxHeartbeats 2000000 in
theorem l4Body_more (i j : Int) (l : List Int) (hn : cs.length ≤ 1048576) (hl : l.length ≤ 1048576) (hi : AC B b o cc cs a2 n2 c2 root R (i :: j :: l)) : LC B b o cc cs a2 n2 c2 root 86 (i :: j :: l) (bodyX R (i :: j :: l)) := by
 intro Gz w a3 n3 c3 code r al cl hB hGl hrow hr hcl hal
 obtain ⟨W0, HW0, HP⟩ := Pt.begin cc a2 n2 c2 root hB hrow hr
 have HGL : Hid (∀ g, Gz g → g < w.heap.size) := hGl
 have HT : Hid (RowT w al (i :: j :: l)) := hal
 have HI : Hid (AC B b o cc cs a2 n2 c2 root R (i :: j :: l)) := hi
 have hcl' : l.length + 1 + 1 ≤ cl := hcl
 clear hi hrow hr hal hGl hB hcl
 unfold xV
 go_enter Try.func86, Try.ntmps86
 go_upto_region 3 with fail
 rw [HW0.out]
 clear HW0
 obtain ⟨a10, n10, c10, k10, HF10, HX10, HZ10, hK10, hws0, hws1, hnn, ⟨x0, x1, x2, x3, x4, xf0, xf1, xf2, xf3, xf4⟩, z0, z1, z2, z3, z4, zf0, zf1, zf2, zf3, zf4⟩ := HP.out.opn
 replace HT := hid (HT.out.kt hK10)
 clear HP hK10
 go_wp2_with fail
 refine (all_at HI.out HF10.out HGL.out (al := al) (cl := cl) hcl' HT.out).mono ?_
 rintro e v1 ⟨a11, n11, c11, k11, ux11, cu11, rfl, hx1, hg1, hs1, ho1, hl1, hc1⟩
 have HF11 : Hid (Fx Gz w (v1.alloc (Obj.cells #[.slice (some ⟨b, o, none⟩) cs.length cc, .slice a2 n2 c2, .slice a11 n11 c11, .int .i64 root, .int .i64 k11] 104)) B b o cs (.slice a3 n3 c3) (.slice a11 n11 c11) n11 k11 (allX R (i :: j :: l) r).1) := (HF10.out.call hg1 hs1 hx1).below (bR _ _)
 have HX11 : Hid ((v1.alloc (Obj.cells #[.slice (some ⟨b, o, none⟩) cs.length cc, .slice a2 n2 c2, .slice a11 n11 c11, .int .i64 root, .int .i64 k11] 104)).heap[v1.heap.size]? = some (Obj.cells #[.slice (some ⟨b, o, none⟩) cs.length cc, .slice a2 n2 c2, .slice a11 n11 c11, .int .i64 root, .int .i64 k11] 104)) := blk_at _ _ _ rfl
 have HZ11 : Hid ((v1.alloc (Obj.cells #[.slice (some ⟨b, o, none⟩) cs.length cc, .slice a2 n2 c2, .slice a11 n11 c11, .int .i64 root, .int .i64 k11] 104)).heap[w.heap.size + 1]? = some (Obj.cells #[.slice none 0 0, .slice none 0 0, .slice none 0 0, .int .i64 0, .int .i64 0] 104)) := blk_past (HF10.out.rep.kt hg1 (by decide) HZ10.out)
 have HU11 : Hid (NewI w (v1.alloc (Obj.cells #[.slice (some ⟨b, o, none⟩) cs.length cc, .slice a2 n2 c2, .slice a11 n11 c11, .int .i64 root, .int .i64 k11] 104)) ux11 (allX R (i :: j :: l) r).2 cu11) := ho1.kt (KT.below (bR _ _))
 have HM11 : Hid ((allX R (i :: j :: l) r).2.length = (i :: j :: l : List Int).length) := hl1
 have hcu11 := hc1
 have hk1 : KT W0 (v1.alloc (Obj.cells #[.slice (some ⟨b, o, none⟩) cs.length cc, .slice a2 n2 c2, .slice a11 n11 c11, .int .i64 root, .int .i64 k11] 104)) := KT.trans (fun q c t ht e => HF10.out.rep.kt hg1 ht.1 e) (KT.below (bR _ _))
 have hHT := HT.out.kt hk1
 clear HT
 have HT : Hid (RowT (v1.alloc (Obj.cells #[.slice (some ⟨b, o, none⟩) cs.length cc, .slice a2 n2 c2, .slice a11 n11 c11, .int .i64 root, .int .i64 k11] 104)) al (i :: j :: l)) := hHT
 clear hHT
 clear hx1 hg1 hs1 ho1 hl1 hc1 hk1
 clear HF10 HX10 HZ10 hws0 hws1 hnn x0 x1 x2 x3 x4 xf0 xf1 xf2 xf3 xf4 z0 z1 z2 z3 z4 zf0 zf1 zf2 zf3 zf4
 unfold xV
 go_upto_region 4 with fail
 generalize v1.alloc (Obj.cells #[.slice (some ⟨b, o, none⟩) cs.length cc, .slice a2 n2 c2, .slice a11 n11 c11, .int .i64 root, .int .i64 k11] 104) = W1 at *
 generalize v1.heap.size = gy11 at *
 obtain ⟨x0, x1, x2, x3, x4, xf0, xf1, xf2, xf3, xf4⟩ := cells5 HX11.out
 obtain ⟨z0, z1, z2, z3, z4, zf0, zf1, zf2, zf3, zf4⟩ := cells5 HZ11.out
 have hws0 : gy11 < W1.heap.size := (alt HX11.out)
 have hws1 : w.heap.size + 1 < W1.heap.size := (alt HZ11.out)
 have hnn : n11 ≤ 400 := HF11.out.n400
 go_upto_region 6 with fail
 go_wp2_with fail
 have HQ : Hid (putN (allX R (i :: j :: l) r).1 (seqN (allX R (i :: j :: l) r).2) = bodyX R (i :: j :: l) r) := by show _ = _; rw [] <;> rfl
 refine (put_len HF11.out HGL.out (seqN (allX R (i :: j :: l) r).2) (NewS.nil _ _ _) HU11.out rfl HM11.out (Nat.le_refl _) hcu11).mono ?_
 rintro e v1 ⟨qa, qn, qc, qk, rfl, hx1, hg1, hs1⟩
 have HE : Hid _ := hx1
 have HG : Hid _ := hg1
 have HS : Hid _ := hs1
 obtain ⟨zy0, zy1, zy2, zy3, zy4, zyf0, zyf1, zyf2, zyf3, zyf4⟩ := HF11.out.cells hg1 HZ11.out
 clear hx1 hg1 hs1
 unfold xV
 go_wp2
 refine bodyPost_ret (fin104 rfl rfl (set5_same _ _ _ _ _ (HF11.out.rep.kt HG.out (by decide) HZ11.out) _ _ _ _ _)) rfl ?_
 rw [← HQ.out]
 exact HF11.out.ret HZ11.out HE.out HG.out HS.out
theorem l4Body_any (hn : cs.length ≤ 1048576) (l : List Int) (hl : l.length ≤ 1048576) (hi : ∀ x ∈ l, FC B b o cc cs a2 n2 c2 root 70 x (R x)) : LC B b o cc cs a2 n2 c2 root 86 (l) (bodyX R l) := by
 have hA := l4All_any l hn hl hi
 match l, hl, hA with
 | [], _, _ => exact l4Body_nil
 | [i], _, hA => exact l4Body_one i hn hA
 | i :: j :: l, hl, hA => exact l4Body_more i j l hn (by simp at hl; omega) hA
end
end Go.Proofs.Ytgjeefedcfakdaa
set_option linter.unusedVariables false
namespace Go.Proofs.Ytgjeefedcfakdaa
variable {Gz : Nat → Prop}
open Go.ChangeShapes Go.WideShapes Go.ChangeAt Go.RowKit
theorem RowT.lt {W : World} {g p : Nat} {i : Int} {l : List Int} (h : RowT W (Option.some ⟨g, p, none⟩) (i :: l)) : g < W.heap.size := by
 obtain ⟨g', p', c, h1, h2, h3⟩ := h (by simp)
 obtain ⟨rfl, rfl⟩ : g = g' ∧ p = p' := by simpa using h1
 exact (alt h2)
def Kinds (cs : List Dat) : Prop := ∀ (j : Nat) (d : Dat), cs[j]? = some d → 1 ≤ d.k ∧ d.k ≤ 5
structure Good (cs : List Dat) : Prop where
 n : cs.length ≤ 1048576
 ah : Ahead cs
 sz : ∀ d ∈ cs, d.s.size ≤ 1048576
 ks : Kinds cs
section
variable {w W V : World} {B b o cc : Nat} {cs : List Dat} {a2 : Option Addr} {n2 c2 : Nat} {root : Int} {v0 v : Value} {r : Sx} {n : Nat} {code : Int}
theorem Fx.dat (hF : Fx Gz w W B b o cs v0 v n code r) {k : Nat} {d : Dat} (hd : cs[k]? = some d) : b < B ∧ DatAt W b (o + k * 5) d := by
 obtain ⟨b1, o1, hbo, hbb, hda⟩ := hF.row k d hd
 obtain ⟨rfl, rfl⟩ : b = b1 ∧ o = o1 := by simpa using hbo
 exact ⟨hbb, hda⟩
theorem lst_at (hg : Good cs) (hF : Fx Gz w W B b o cs v0 v n code r) (k : Nat) (hk : k < cs.length) (hb : Below W.heap.size W V := by repeat first | exact Below.refl _ _ | refine Below.drew ?_ | refine Below.alloc ?_ (by simp <;> omega) _) :
  Calls Try.prog 81 #[.agg #[.slice (some ⟨b, o, none⟩) cs.length cc, .slice a2 n2 c2], .int .i64 k] V fun e w' => ∃ (u : Option Addr) (cu : Nat) (L : List Int) (ok : Bool), e = .returned (.tuple #[.slice u L.length cu, .bool ok]) ∧ Below W.heap.size W w' ∧ NewI w w' u L cu ∧ RowT w' u L ∧ L.length ≤ cs.length ∧ L.length ≤ cu ∧ (if ok = true then lstOf cs (k : Int) = some L else lstOf cs (k : Int) = none) ∧ ∀ x ∈ L, 0 ≤ x ∧ x < (k : Int) := by
 have hV := hF.below hb
 refine (l4List_any b o cc (.slice a2 n2 c2) k V cs hk hg.n (hV.row.mono hV.bsz) hg.ah).mono ?_
 rintro e w' ⟨v', L, ok, rfl, ho, hl, hb1, hc, hm⟩
 obtain ⟨u, cu, rfl⟩ := ho.slice
 exact ⟨u, cu, L, ok, rfl, bT hb hb1, NewI.of ho (by have := hF.gr.size; have := hb.size; omega), RowT.of ho, by omega, ho.cap, hc, hm.out⟩
theorem nm_call (hg : Good cs) (hF : Fx Gz w W B b o cs v0 v n code r) (k : Nat) (hk : k < cs.length) (hb : Below W.heap.size W V := by repeat first | exact Below.refl _ _ | refine Below.drew ?_ | refine Below.alloc ?_ (by simp <;> omega) _) :
  Calls Try.prog 87 #[.agg #[.slice (some ⟨b, o, none⟩) cs.length cc, .slice a2 n2 c2], .int .i64 k] V fun e w' => e = .returned (.tuple #[.string (cel cs k).s, .bool (nmOf cs k).isSome]) ∧ Below W.heap.size W w' := by
 have hV := hF.below hb
 obtain ⟨d, hd⟩ : ∃ d, cs[k]? = some d := ⟨_, List.getElem?_eq_getElem hk⟩
 obtain ⟨hbb, hda⟩ := hV.dat hd
 refine (l4Name_any b o cs.length cc (.slice a2 n2 c2) k d V hk hg.n (by have := hV.bsz; omega) (hg.sz d (List.mem_of_getElem? hd)) hda).mono ?_
 rintro e w' ⟨rfl, hb1⟩
 refine ⟨?_, bT hb hb1⟩
 rw [cel_of hd, nm_at hd]
 by_cases h : (decide (d.k = 3) && naL d.s.toList) = true
 ·rw [if_pos h, h]; rfl
 ·rw [if_neg h]; simp only [Bool.not_eq_true] at h; rw [h]; rfl
theorem nm_some {k : Nat} {s : ByteArray} (h : nmOf cs (k : Int) = some s) : s = (cel cs k).s := by
 unfold nmOf at h
 split at h
 ·exact (Option.some.inj h).symm
 ·cases h
theorem par_at (hg : Good cs) (hF : Fx Gz w W B b o cs v0 v n code r) (l : List Int) (hl : l.length ≤ 1048576) (hm : ∀ x ∈ l, 0 ≤ x ∧ x < (cs.length : Int)) {al : Option Addr} {cl : Nat} (hr : RowT W al l) (hb : Below W.heap.size W V := by repeat first | exact Below.refl _ _ | refine Below.drew ?_ | refine Below.alloc ?_ (by simp <;> omega) _) :
  Calls Try.prog 88 #[.agg #[.slice (some ⟨b, o, none⟩) cs.length cc, .slice a2 n2 c2], .slice al l.length cl] V fun e w' => ∃ (u : Option Addr) (cu : Nat) (ss : List ByteArray) (ok : Bool), e = .returned (.tuple #[.slice u ss.length cu, .bool ok]) ∧ Below W.heap.size W w' ∧ NewS w w' u ss cu ∧ ss.length ≤ cu ∧ (if ok = true then parsOf cs l = some ss else parsOf cs l = none) := by
 have hV := hF.below hb
 have hrl : RowI V V.heap.size al l := fun i x hi => by
  obtain ⟨g, p, c, h1, h2, h3⟩ := (hr.kt (KT.below hb)) (fun e => by rw [e] at hi; simp at hi)
  exact ⟨g, p, h1, (alt h2), cell_blk h2 (h3 i x hi)⟩
 refine (l4Params_any b o cc (.slice a2 n2 c2) al l cl V cs hl hg.n hm hrl (hV.row.mono hV.bsz) hg.sz).mono ?_
 rintro e w' ⟨v', ss, ok, rfl, ho, hlen, hsz, hb1, hc⟩
 obtain ⟨u, cu, rfl, hcu⟩ : ∃ u cu, v' = .slice u ss.length cu ∧ ss.length ≤ cu := by
  obtain ⟨hl2, ⟨hv, h0⟩ | ⟨g, cap', cur, hv, _, _, h3, _⟩⟩ := ho
  ·exact ⟨none, 0, by rw [hv, h0], by omega⟩
  ·exact ⟨_, _, hv, h3⟩
 exact ⟨u, cu, ss, ok, rfl, bT hb hb1, NewS.of ho (by have := hF.gr.size; have := hb.size; omega), hcu, hc⟩
theorem bnd_call (hg : Good cs) (hF : Fx Gz w W B b o cs v0 v n code r) (k : Nat) (hk : k < cs.length) (hb : Below W.heap.size W V := by repeat first | exact Below.refl _ _ | refine Below.drew ?_ | refine Below.alloc ?_ (by simp <;> omega) _) :
  Calls Try.prog 90 #[.agg #[.slice (some ⟨b, o, none⟩) cs.length cc, .slice a2 n2 c2], .int .i64 k] V fun e w' => ∃ (u q : Option Addr) (cu cq : Nat) (ns fs : List Int) (ok : Bool), e = .returned (.tuple #[.slice u ns.length cu, .slice q fs.length cq, .bool ok]) ∧ Below W.heap.size W w' ∧ RowT w' u ns ∧ RowT w' q fs ∧ ns.length < cs.length ∧ fs.length = ns.length ∧ ns.length ≤ cu ∧ fs.length ≤ cq ∧ (if ok = true then bndOf cs (k : Int) = some (ns, fs) else bndOf cs (k : Int) = none) ∧ (∀ x ∈ ns, 0 ≤ x ∧ x < (k : Int)) ∧ ∀ x ∈ fs, 0 ≤ x ∧ x < (k : Int) := by
 have hV := hF.below hb
 refine (l4Binds_any b o cc (.slice a2 n2 c2) k V cs hk hg.n (hV.row.mono hV.bsz) hg.ah).mono ?_
 rintro e w' ⟨nv, fv, ns, fs, ok, rfl, ho, hf, hl, hfl, hb1, hc, hm⟩
 obtain ⟨u, cu, rfl⟩ := ho.slice
 obtain ⟨q, cq, rfl⟩ := hf.slice
 exact ⟨u, q, cu, cq, ns, fs, ok, rfl, bT hb hb1, RowT.of ho, RowT.of hf, by omega, hfl, ho.cap, hf.cap, hc, hm.out.1, hm.out.2⟩
end
end Go.Proofs.Ytgjeefedcfakdaa
set_option linter.unusedVariables false
set_option maxRecDepth 100000
set_option maxHeartbeats 8000000
namespace Go.Proofs.Ytgjeefedcfakdaa
open Go.ChangeShapes Go.WideShapes Go.ChangeAt Go.RowKit
theorem append_noneI (w : World) (i : TypeInfo) (hi : Try.prog.info? 3 = some i) (ty : TypeId) (base a : Option Addr) (n c cx : Nat) (hle : n ≤ c) :
  (Builtin.append_ #[33, 33] ty #[.slice base n c, .slice a 0 cx]).run Try.prog w = .ok (.slice base n c) w := by
 cases base <;> cases a <;> simp [Builtin.append_, run_underlying Try.underlying33, sizeOf, typeInfo, hi, hle, storeCells, Builtin.lenOf, Builtin.firstCells, loadCells, loadCellsFrom]
theorem step_append_I {ops : Array Oper} {o : Oper} {a : Act} {w : World} {K : Act → World → Prop} {Q : Exit → Act → World → Prop} {E : Prop} (hgd : o.guard = none) (s x : Operand)
  (ho : o.op = .call { callee := .builtin .append, args := #[s, x], argTypes := #[33, 33] }) (B : Nat) (v : Value) (l m : List Int) (hs : a.eval s = v) (hown : OwnI w B v l) (ax : Option Addr) (cx : Nat) (hx : a.eval x = .slice ax m.length cx) (hr : RowI w w.heap.size ax m)
  (hlen : l.length + m.length ≤ 1048576) (hB : B ≤ w.heap.size)
  (h : ∀ v' w', OwnI w' B v' (l ++ m) → w.grownBy w' v.ownBlock → (v'.ownBlock = v.ownBlock ∨ ∀ k, v'.ownBlock = some k → w.heap.size ≤ k) → K (a.put o.dst v') w') :
  if Region.wanted o (yielded ops a.tmps) = true then Oper.wp Try.prog o a w K Q else E := by
 obtain ⟨i9, hi9, hz90, hz91, hz92⟩ := info_parts info3
 by_cases hm : m = []
 ·subst hm
  obtain ⟨av, cv, rfl⟩ := hown.slice
  have hc := hown.cap
  have hw : Region.wanted o (yielded ops a.tmps) = true := by simp [Region.wanted, hgd]
  rw [if_pos hw]
  have hrun := append_noneI w i9 hi9 o.type av ax l.length cv cx hc
  have hK := h (.slice av l.length cv) w (by simpa using hown) ⟨rfl, rfl, rfl, Nat.le_refl _, fun _ _ _ => rfl⟩ (.inl rfl)
  unfold Oper.wp
  simp [execOp, ho, resolve, invoke, builtin, hs, hx, hrun, Result.andThen]
  exact hK
 ·have h0 : 0 < m.length := List.length_pos_iff.2 hm
  obtain ⟨y, hy⟩ : ∃ y, m[0]? = some y := ⟨_, List.getElem?_eq_getElem h0⟩
  obtain ⟨b, of, hax, hbl, _⟩ := hr 0 y hy
  subst hax
  refine step_append_lies w hgd s x 33 ho B 3 i9 _ 1 8 Try.underlying33 hi9 hz90 hz91 hz92 rfl (by omega) v l.length (l.map (Value.int .i64)) hs hown ⟨b, of, none⟩ m.length cx (m.map (Value.int .i64)) hx (by simp) ?_ ?_ h0 (by simp [maxLen]; omega) (by omega) hB w.heap.size rfl ?_
  ·intro j u hu
   rw [List.getElem?_map] at hu
   cases hmj : m[j]? with
   | none => rw [hmj] at hu; cases hu
   | some z =>
    rw [hmj] at hu
    have hu : Value.int .i64 z = u := Option.some.inj hu
    subst hu
    obtain ⟨b', o', e1, _, e3⟩ := hr j z hmj
    simp only [Option.some.injEq, Addr.mk.injEq, and_true] at e1
    obtain ⟨rfl, rfl⟩ := e1
    have : (⟨b, of, none⟩ : Addr).add j = ⟨b, of + j, none⟩ := by unfold Addr.add; split <;> simp_all
    rw [this]
    exact e3
  ·intro u hu
   obtain ⟨z, _, rfl⟩ := List.mem_map.1 hu
   rfl
  ·intro g cap w' hown' hgrow hat hlt
   refine h _ w' ?_ hgrow ?_
   ·show World.ownsRow _ _ _ _ _ _ _
    rw [List.length_append, List.map_append]
    exact hown'
   ·rcases hat with h1 | h1
    ·left; rw [h1]; rfl
    ·right
     intro k hk
     have : g = k := Option.some.inj hk
     omega
theorem step_call79 {ops : Array Oper} {o : Oper} {a : Act} {w : World} {K : Act → World → Prop} {Q : Exit → Act → World → Prop} {E : Prop} (hgd : o.guard = none) (x y : Operand) (t u : TypeId)
  (ho : o.op = .call { callee := .value (.func 79), args := #[x, y], argTypes := #[t, u] }) (v1 v2 : Value) (hx : a.eval x = v1) (hy : a.eval y = v2) (R : Ending → World → Prop) (hc : Calls Try.prog 79 #[v1, v2] w R) (h : ∀ e w', R e w' → ∃ u, e = .returned u ∧ K (a.put o.dst u) w') :
  if Region.wanted o (yielded ops a.tmps) = true then Oper.wp Try.prog o a w K Q else E := by
 have hw : Region.wanted o (yielded ops a.tmps) = true := by simp [Region.wanted, hgd]
 rw [if_pos hw]
 unfold Oper.wp
 have hf : a.eval (Operand.func 79) = .func (.func 79) #[] #[] := rfl
 simp [execOp, ho, resolve, invoke, hx, hy, hf, Deferred.ofValue]
 refine hc.mono fun e w' hr => ?_
 obtain ⟨u, rfl, hk⟩ := h e w' hr
 exact hk
theorem ownI_one {W : World} {B g : Nat} {x : Int} (h : W.heap[g]? = some (.cells #[.int .i64 x] 3 (0, 0))) (hB : B ≤ g) : OwnI W B (.slice (some ⟨g, 0, none⟩) 1 1) [x] := ⟨rfl, .inr ⟨g, 1, #[.int .i64 x], rfl, hB, h, Nat.le_refl _, by simp [maxLen], rfl, rfl⟩⟩
theorem below_own {W V w7 : World} {r : Option Nat} (hb : Below W.heap.size W V) (hg : V.grownBy w7 r) (hr : ∀ k, r = some k → W.heap.size ≤ k) : Below W.heap.size W w7 := by
 have h1 := hb.size
 have h2 := hg.size
 exact ⟨hg.os.trans hb.os, hg.tape.trans hb.tape, hg.output.trans hb.output, by omega, fun k hk => (hg.block k (by omega) fun e => by have := hr k e.symm; omega).trans (hb.block k hk)⟩
end Go.Proofs.Ytgjeefedcfakdaa
