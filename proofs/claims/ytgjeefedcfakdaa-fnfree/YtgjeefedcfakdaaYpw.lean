/- The model: Expand of what was read. The model: a program drawn by its text. A program of one's own, changed in one cell: plain. -/
import Derived.Test.YtgjeefedcfakdaaPrs
import Derived.Test.YtgjeefedcfakdaaRok
import Derived.Test.YtgjeefedcfakdaaDrx
set_option linter.unusedVariables false
set_option maxRecDepth 100000
set_option maxHeartbeats 8000000
namespace Go.Proofs.Ytgjeefedcfakdaa
open Go.ChangeShapes Go.WideShapes Go.ChangeAt Go.RowKit
theorem good_of {cs : List Dat} (h : R2.okC cs) (hn : cs.length ≤ 1000) : Good cs := by
 refine ⟨by omega, fun i d hd h5 => ?_, fun d hd => by have := R2.ok_size h d hd; omega, fun i d hd => ?_⟩
 ·rcases h i d hd with ⟨k, _⟩ | ⟨k, _⟩ | ⟨k, _⟩ | ⟨k, _⟩ | ⟨k, _, n, l0, l1, r0, r1⟩
  ·omega
  ·omega
  ·omega
  ·omega
  ·exact ⟨l0, l1, r0, r1⟩
 ·rcases h i d hd with ⟨k, _⟩ | ⟨k, _⟩ | ⟨k, _⟩ | ⟨k, _⟩ | ⟨k, _⟩ <;> omega
theorem n64_of {cs : List Dat} (h : R2.okC cs) : ∀ d ∈ cs, i64B d.n := by
 intro d hd
 obtain ⟨i, hi⟩ := List.mem_iff_getElem?.1 hd
 rcases h i d hi with ⟨_, _, n1, n2, _⟩ | ⟨_, _, n, _⟩ | ⟨_, _, n, _⟩ | ⟨_, _, n, _⟩ | ⟨_, _, n, _⟩ <;> exact ⟨by omega, by omega⟩
def XpPost (w : World) (e : Ending) (w' : World) : Prop :=
 ∃ (a : Option Addr) (c : Nat) (ns : List Nod) (root code : Int), e = .returned (.tuple #[.agg #[.slice a ns.length c, .int .i64 root], .int .i64 code]) ∧ OwnN (fun g => g < w.heap.size) w' w.heap.size (.slice a ns.length c) ns ∧ ns.length ≤ 400 ∧ (∀ d ∈ ns, NSm d) ∧ (code = 0 → ns ≠ []) ∧ i64B root ∧ Below w.heap.size w w'
theorem info26 : (Try.prog.info? 26).map (·.size) = some 2 := by kernel_rfl
theorem fin26t {fn : Func} {p q : Tmp} {W : World} {g : Nat} {v0 v1 u : Value} {tmps : Array Value} (hf : fn.results = #[.cell p 26, .tmp q]) (hp : tmps.getD p undef = .pointer (some ⟨g, 0, none⟩)) (hq : tmps.getD q undef = u) (h : W.heap[g]? = some (.cells #[v0, v1] 26 (0, 0))) :
  (results fn tmps).run Try.prog W = .ok (.tuple #[.agg #[v0, v1], u]) W := by
 rw [results_cell_tmp hf, hp, hq]
 simp [asAddr, run_loadVar_row W g 26 26 #[v0, v1] (0, 0) _ h Try.underlying26 rfl info26, Result.andThen]
theorem XRep.set {Gz : Nat → Prop} {W : World} {B n g j : Nat} {v y : Value} {code : Int} {r : Sx} {c : Array Value} {t : TypeId} (h : XRep Gz W B v n code r) (hk : W.heap[g]? = some (Obj.cells c t)) (ht : t ≠ 3 ∧ t ≠ 9 ∧ t ≠ 35) : XRep Gz (W.setCell ⟨g, j, none⟩ y) B v n code r := by
 refine h.but (fun b hb => heap_setCell_other _ _ _ _ hb) (by simp) hk ⟨ht.1, ht.2.1⟩ fun e => ?_
 obtain ⟨xs, ⟨_, ⟨hv2, _⟩ | ⟨q, cap', cur, hv2, _, hblk, _⟩⟩, _⟩ := h.2.2.2.2
 ·rw [hv2] at e
  cases e
 ·rw [hv2] at e
  obtain rfl : q = g := by injection e
  rw [hblk] at hk
  injection Option.some.inj hk with q1 q2
  exact ht.2.2 q2.symm
theorem l4Expand_any {cs : List Dat} (hok : R2.okC cs) (hn : cs.length ≤ 1000) (b o cc : Nat) (a2 : Option Addr) (n2 c2 : Nat) (i : Nat) (hi : i < cs.length) (w : World) (hr : RowD w w.heap.size (some ⟨b, o, none⟩) cs) :
  Calls Try.prog 55 #[.agg #[.slice (some ⟨b, o, none⟩) cs.length cc, .slice a2 n2 c2], .int .i64 i] w fun e w' => XpPost w e w' := by
 obtain ⟨R, hR⟩ := l4Form_all (B := w.heap.size) (b := b) (o := o) (cc := cc) (a2 := a2) (n2 := n2) (c2 := c2) (root := 0) (good_of hok hn) hn (n64_of hok) cs.length (Nat.le_refl _)
 obtain ⟨hF, hS, hL⟩ := hR i (by omega) (by omega)
 have HF : Hid _ := hF
 have HS : Hid (SmF (R i)) := hS
 have HL : Hid (LnF (R i)) := hL
 have HR : Hid (RowD w w.heap.size (some ⟨b, o, none⟩) cs) := hr
 clear hF hS hL hR hr
 obtain ⟨v0, hv0⟩ : ∃ v0, v0 = (w.alloc (Obj.cells #[.slice (some ⟨b, o, none⟩) cs.length cc, .slice a2 n2 c2] 66)).alloc (Obj.cells #[.slice none 0 0, .int .i64 0] 26) := ⟨_, rfl⟩
 have HB0 : Hid (Below w.heap.size w v0) := by rw [hv0]; exact (bR _ _).alloc (by simp) _
 have HK0 : Hid (v0.heap[w.heap.size + 1]? = some (Obj.cells #[.slice none 0 0, .int .i64 0] 26)) := by rw [hv0]; exact blk_at _ _ _ (by simp)
 go_enter Try.func55, Try.ntmps55
 go_wp2_with fail
 rw [← hv0]
 refine (HF.out (fun g => g < w.heap.size) v0 none 0 0 0 ([], 0) HB0.out.size (fun g h => Nat.lt_of_lt_of_le h HB0.out.size) (HR.out.keep fun k hk => HB0.out.block k hk) ⟨rfl, rfl, Nat.zero_le _, i64c rfl, OwnN.nil _ _⟩).mono ?_
 rintro e v1 ⟨qa, qn, qc, qk, rfl, hx, hg1, hs1⟩
 have hb1 : Below v0.heap.size v0 v1 := ⟨hg1.os, hg1.tape, hg1.output, hg1.size, fun k hk => hg1.block k hk (by intro h; cases h)⟩
 have HX : Hid (XRep (fun g => g < w.heap.size) v1 w.heap.size (.slice qa qn qc) qn qk (R i ([], 0))) := hx
 have HB1 : Hid (Below w.heap.size w v1) := bT HB0.out hb1
 have HK1 : Hid (v1.heap[w.heap.size + 1]? = some (Obj.cells #[.slice none 0 0, .int .i64 0] 26)) := (hb1.block _ (alt HK0.out)).trans HK0.out
 obtain ⟨c0, c1⟩ := zn2 HK1.out rfl rfl
 have f0 := frozen_blk HK1.out 0
 have f1 := frozen_blk HK1.out 1
 have hz1 : w.heap.size + 1 < v1.heap.size := (alt HK1.out)
 have hqn : qn ≤ 400 := by have := hx.1; have := hx.2.2.1; omega
 have HSM : Hid (SmS (R i ([], 0))) := HS.out _ (fun d h => by cases h)
 have HLN : Hid ((R i ([], 0)).2 = 0 → (R i ([], 0)).1 ≠ []) := HL.out _
 clear hx hg1 hs1 hb1 HK0 HB0 hv0 HF HS HL HR
 unfold xV
 by_cases h0 : qk = 0
 ·subst h0
  go_wp2_with fail
  refine (l4Last_any (some ⟨b, o, none⟩) a2 qa cs.length n2 qn cc c2 qc 0 0 _ (by omega)).mono ?_
  rintro e v2 ⟨rfl, hb2⟩
  have hba : Below v1.heap.size v1 v2 := (bR _ _).trans (hb2.mono (by simp))
  have KX : v2.heap[v1.heap.size]? = some (Obj.cells #[.slice (some ⟨b, o, none⟩) cs.length cc, .slice a2 n2 c2, .slice qa qn qc, .int .i64 0, .int .i64 0] 104) := (hb2.block _ (by simp)).trans (blk_at _ _ _ rfl)
  have KR := (hba.block _ hz1).trans HK1.out
  have HKX : Hid _ := KX
  have HKR : Hid _ := KR
  have HBA : Hid (Below v1.heap.size v1 v2) := hba
  obtain ⟨x0, x1, x2, x3, x4, y0, y1, y2, y3, y4⟩ := cells5 KX
  obtain ⟨c0, c1⟩ := zn2 KR rfl rfl
  have f0 := frozen_blk KR 0
  have f1 := frozen_blk KR 1
  clear hb2 hba KX KR
  have hne : ¬ v1.heap.size = w.heap.size + 1 := by omega
  have hne2 : ¬ w.heap.size + 1 = v1.heap.size := by omega
  go_wp2
  have K3 : (v2.setCell ⟨v1.heap.size, 3, none⟩ (.int .i64 ((qn : Int) - 1))).heap[w.heap.size + 1]? = some (Obj.cells #[.slice none 0 0, .int .i64 0] 26) := (heap_setCell_other _ _ _ _ hne2).trans HKR.out
  refine bodyPost_ret (fin26t rfl rfl rfl (heap_setCell_same _ _ 1 _ _ _ (heap_setCell_same _ _ 0 _ _ _ K3))) rfl ?_
  have X1 := (HX.out.below HBA.out).set (j := 3) (y := .int .i64 ((qn : Int) - 1)) HKX.out ⟨by decide, by decide, by decide⟩
  have X2 := X1.set (j := 0) (y := .slice qa qn qc) K3 ⟨by decide, by decide, by decide⟩
  have X3 := X2.set (j := 1) (y := .int .i64 ((qn : Int) - 1)) (heap_setCell_same _ _ 0 _ _ _ K3) ⟨by decide, by decide, by decide⟩
  have hbl : Below w.heap.size w v2 := HB1.out.trans (HBA.out.mono (by omega))
  have hq := X3.1
  have hc := X3.2.1
  have hll := X3.2.2.1
  have ho := X3.2.2.2.2
  subst hq
  exact ⟨qa, qc, _, _, 0, rfl, ho, hll, HSM.out, fun _ => HLN.out hc.symm, ⟨by omega, by omega⟩, ((hbl.setCell (p := ⟨v1.heap.size, 3, none⟩) (by show _ ≤ v1.heap.size; omega) _).setCell (p := ⟨w.heap.size + 1, 0, none⟩) (by show _ ≤ w.heap.size + 1; omega) _).setCell (p := ⟨w.heap.size + 1, 1, none⟩) (by show _ ≤ w.heap.size + 1; omega) _⟩
 ·have hcz : (qk != 0) = true := bne_iff_ne.2 h0
  have HC : Hid (¬ qk = 0) := h0
  clear h0
  go_upto_region 3 with fail
  go_region_with (fail)
  all_goals (try go_wp2)
  all_goals
   have KC := heap_setCell_same _ _ 1 _ _ (Value.int .i64 0) (heap_setCell_same _ _ 0 _ _ (Value.slice none 0 0) HK1.out)
   have hbl : Below w.heap.size w ((v1.setCell ⟨w.heap.size + 1, 0, none⟩ (.slice none 0 0)).setCell ⟨w.heap.size + 1, 1, none⟩ (.int .i64 0)) := (HB1.out.setCell (p := ⟨w.heap.size + 1, 0, none⟩) (by show _ ≤ w.heap.size + 1; omega) _).setCell (p := ⟨w.heap.size + 1, 1, none⟩) (by show _ ≤ w.heap.size + 1; omega) _
   refine bodyPost_ret (fin26t rfl rfl rfl (blk_drew (blk_past KC))) rfl ?_
   exact ⟨none, 0, [], 0, qk, rfl, OwnN.nil _ _, Nat.zero_le _, (fun d h => by cases h), fun h => absurd h HC.out, i64c rfl, (hbl.alloc (by simp; omega) _).drew⟩
theorem OwnN.weak {G G' : Nat → Prop} {W : World} {B B' : Nat} {v : Value} {ns : List Nod} (h : OwnN G W B v ns) (hG : ∀ g, G' g → G g) (hB : B' ≤ B) : OwnN G' W B' v ns := by
 obtain ⟨xs, ⟨hl, hx⟩, h2⟩ := h
 refine ⟨xs, ⟨hl, ?_⟩, fun j d hd => ?_⟩
 ·rcases hx with hx | ⟨g, cap', cur, hv, a1, a2⟩
  ·exact .inl hx
  ·exact .inr ⟨g, cap', cur, hv, Nat.le_trans hB a1, a2⟩
 ·obtain ⟨an, cn, aa, ca, e0, e1, e2, e3, e4, hr⟩ := h2 j d hd
  exact ⟨an, cn, aa, ca, e0, e1, e2, e3, e4, hr.keep fun b hq => ⟨⟨hq.1, hq.2.1, hq.2.2.1, fun h => hq.2.2.2 (hG b h)⟩, rfl⟩⟩
theorem XpPost.from {w V w' : World} {e : Ending} (hb : Below w.heap.size w V) (h : XpPost V e w') : XpPost w e w' := by
 obtain ⟨a, c, ns, root, code, h1, h2, h3, h4, h5, h6, h7⟩ := h
 exact ⟨a, c, ns, root, code, h1, h2.weak (fun g h => Nat.lt_of_lt_of_le h hb.size) hb.size, h3, h4, h5, h6, bT hb h7⟩
theorem XpPost.below {w w' : World} {e : Ending} (h : XpPost w e w') : Below w.heap.size w w' := by
 obtain ⟨a, c, ns, root, code, h1, h2, h3, h4, h5, h6, h7⟩ := h
 exact h7
theorem OwnN.set {G : Nat → Prop} {W : World} {B g j : Nat} {v y : Value} {ns : List Nod} {c : Array Value} {t : TypeId} (h : OwnN G W B v ns) (hn : ns.length ≤ 400) (hk : W.heap[g]? = some (Obj.cells c t)) (ht : t ≠ 3 ∧ t ≠ 9 ∧ t ≠ 35) : OwnN G (W.setCell ⟨g, j, none⟩ y) B v ns :=
 (XRep.set (n := ns.length) (code := 0) (r := (ns, 0)) ⟨rfl, rfl, hn, i64c rfl, h⟩ hk ht).2.2.2.2
theorem expand_any {cs : List Dat} {ts : List Int} (hok : R2.okC cs) (hn : cs.length ≤ 1000) (hts : ∀ t ∈ ts, 0 ≤ t ∧ t < cs.length) (hl : ts.length ≤ 1000000) (a tb : Option Addr) (ca cb : Nat) (w : World) (hr : RowD w w.heap.size a cs) (hi : RowI w w.heap.size tb ts) :
  Calls Try.prog 42 #[.agg #[.slice a cs.length ca, .slice tb ts.length cb], .int .i64 0] w fun e w' => XpPost w e w' := by
 obtain ⟨r, hdk⟩ := R2.dok_any cs ts hok hn hl
 obtain ⟨v0, hv0⟩ : ∃ v0, v0 = (w.alloc (Obj.cells #[.slice a cs.length ca, .slice tb ts.length cb] 66)).alloc (Obj.cells #[.slice none 0 0, .int .i64 0] 26) := ⟨_, rfl⟩
 have hb0 : Below w.heap.size w v0 := by rw [hv0]; exact (bR _ _).alloc (by simp) _
 have hk0 : v0.heap[w.heap.size + 1]? = some (Obj.cells #[.slice none 0 0, .int .i64 0] 26) := by rw [hv0]; exact blk_at _ _ _ (by simp)
 have hd0 : v0.heap[w.heap.size]? = some (Obj.cells #[.slice a cs.length ca, .slice tb ts.length cb] 66) := by rw [hv0]; exact blk_past (blk_at _ _ _ rfl)
 have HR : Hid (RowD w w.heap.size a cs) := hr
 have HI : Hid (RowI w w.heap.size tb ts) := hi
 have HDK : Hid (∀ V, Below w.heap.size w V → Calls Try.prog 54 #[.agg #[.slice a cs.length ca, .slice tb ts.length cb]] V fun e w' => Ans V (.bool r) e w') := fun V hb => hdk a tb ca cb V ((hr.below hb).mono hb.size) ((hi.below hb).mono hb.size)
 have HB0 : Hid (Below w.heap.size w v0) := hb0
 have HK0 : Hid _ := hk0
 have HD0 : Hid _ := hd0
 clear hr hi hdk hb0 hk0 hd0
 go_enter Try.func42, Try.ntmps42
 go_wp2_with fail
 rw [← hv0]
 clear hv0
 refine (HDK.out v0 HB0.out).mono ?_
 rintro e v1 ⟨rfl, hb1⟩
 have HB1 : Hid (Below w.heap.size w v1) := bT HB0.out hb1
 have HK1 : Hid (v1.heap[w.heap.size + 1]? = some (Obj.cells #[.slice none 0 0, .int .i64 0] 26)) := (hb1.block _ (alt HK0.out)).trans HK0.out
 have HD1 : Hid (v1.heap[w.heap.size]? = some (Obj.cells #[.slice a cs.length ca, .slice tb ts.length cb] 66)) := (hb1.block _ (alt HD0.out)).trans HD0.out
 clear hb1 HB0 HK0 HD0 HDK
 obtain ⟨c0, c1⟩ := zn2 HK1.out rfl rfl
 have f0 := frozen_blk HK1.out 0
 have f1 := frozen_blk HK1.out 1
 obtain ⟨e0, e1⟩ := zn2 HD1.out rfl rfl
 have hz1 : w.heap.size + 1 < v1.heap.size := (alt HK1.out)
 by_cases hgo : r = true ∧ ts ≠ []
 ·obtain ⟨rfl, hne⟩ := hgo
  obtain ⟨t0, tr, rfl⟩ := List.exists_cons_of_ne_nil hne
  obtain ⟨q0, q1⟩ := hts t0 (by simp)
  obtain ⟨k0, rfl⟩ := Int.eq_ofNat_of_zero_le q0
  have hk0 : k0 < cs.length := by omega
  obtain ⟨g, p, rfl, hgp, ct0⟩ := HI.out 0 _ rfl
  obtain ⟨b, o, rfl, hbw, _⟩ := HR.out k0 _ (List.getElem?_eq_getElem hk0)
  have ct : v1.cell? ⟨g, p, none⟩ = some (.int .i64 (k0 : Int)) := (World.cell?_of_block (w := w) (a := ⟨g, p, none⟩) (HB1.out.block g hgp)).trans ct0
  have hge : decide ((tr.length : Int) + 1 ≤ 0) = false := decide_eq_false (by omega)
  have HX : Hid (∀ V, Below v1.heap.size v1 V → Calls Try.prog 55 #[.agg #[.slice (some ⟨b, o, none⟩) cs.length ca, .slice (some ⟨g, p, none⟩) ((k0 : Int) :: tr).length cb], .int .i64 k0] V fun e w' => XpPost v1 e w' ∧ ∀ (g : Nat) (o : Obj), V.heap[g]? = some o → w'.heap[g]? = some o) := fun V hb => (l4Expand_any hok hn b o ca (some ⟨g, p, none⟩) ((k0 : Int) :: tr).length cb k0 hk0 V (((HR.out.below HB1.out).mono HB1.out.size).keep (fun k hk => hb.block k hk) |>.mono hb.size)).mono fun e w' h => ⟨h.from hb, fun g o e => (h.below.block g (alt e)).trans e⟩
  have hgv : g < v1.heap.size := by omega
  have hwv : w.heap.size < v1.heap.size := by omega
  clear hne ct0 hgp hbw hts q1
  go_upto_region 3 with fail
  go_cut [6, 7] (fun pv cv wx => ∃ (g6 : Nat) (a5 : Option Addr) (c5 : Nat) (ns : List Nod) (root code : Int), pv = .pointer (some ⟨g6, 0, none⟩) ∧ cv = .int .i64 code ∧ v1.heap.size ≤ g6 ∧ wx.heap[g6]? = some (Obj.cells #[.slice a5 ns.length c5, .int .i64 root] 26) ∧ OwnN (fun g => g < v1.heap.size) wx v1.heap.size (.slice a5 ns.length c5) ns ∧ ns.length ≤ 400 ∧ (∀ d ∈ ns, NSm d) ∧ (code = 0 → ns ≠ []) ∧ i64B root ∧ Below v1.heap.size v1 wx)
  case first =>
   go_region_with (go_at_call 55; (refine (HX.out _ (by first | exact (Below.refl _ _).drew | exact (bR _ _).drew)).mono ?_; rintro e v5 ⟨⟨a5, c5, ns, root, code, rfl, ho, h4, h5, h6, h7, hb5⟩, hv5⟩; have HV : Hid _ := hv5; have HO : Hid (OwnN (fun g => g < v1.heap.size) v5 v1.heap.size (.slice a5 ns.length c5) ns) := ho; have H5 : Hid (∀ d ∈ ns, NSm d) := h5; have H6 : Hid (code = 0 → ns ≠ []) := h6; have H7 : Hid (i64B root) := h7; have HB5 : Hid (Below v1.heap.size v1 v5) := hb5; clear ho h5 h6 h7 hb5 hv5; (first | (have hy := HV.out v1.heap.size (Obj.cells #[.slice none 0 0, .int .i64 0] 26) (blk_drew (blk_at _ _ _ rfl)); have HY : Hid _ := hy; have y0 := cell_blk (j := 0) hy rfl; have y1 := cell_blk (j := 1) hy rfl; have z0 := frozen_blk hy 0; have z1 := frozen_blk hy 1; clear hy) | skip)))
   all_goals
    go_wp2_with fail
    go_meet
    first
     | exact ⟨v1.heap.size, a5, c5, ns, root, code, rfl, rfl, Nat.le_refl _, heap_setCell_same _ _ 1 _ _ _ (heap_setCell_same _ _ 0 _ _ _ HY.out), (HO.out.set h4 HY.out ⟨by decide, by decide, by decide⟩).set h4 (heap_setCell_same _ _ 0 _ _ _ HY.out) ⟨by decide, by decide, by decide⟩, h4, H5.out, H6.out, H7.out, (HB5.out.setCell (p := ⟨v1.heap.size, 0, none⟩) (Nat.le_refl _) _).setCell (p := ⟨v1.heap.size, 1, none⟩) (Nat.le_refl _) _⟩
     | exact ⟨v5.heap.size, a5, c5, ns, root, code, rfl, rfl, HB5.out.size, blk_at _ _ _ rfl, HO.out.below (bR _ _), h4, H5.out, H6.out, H7.out, HB5.out.alloc HB5.out.size _⟩
  case rest =>
   obtain ⟨W2, rfl⟩ : ∃ x, x = wc := ⟨_, rfl⟩
   obtain ⟨g6, a5, c5, ns, root, code, rfl, rfl, hg6, k6, ho, h4, h5, h6, h7, hb⟩ := hcut
   have KR : W2.heap[w.heap.size + 1]? = some (Obj.cells #[.slice none 0 0, .int .i64 0] 26) := (hb.block _ hz1).trans HK1.out
   have HO : Hid _ := ho
   have H5 : Hid (∀ d ∈ ns, NSm d) := h5
   have H6 : Hid (code = 0 → ns ≠ []) := h6
   have H7 : Hid (i64B root) := h7
   have HB : Hid (Below v1.heap.size v1 W2) := hb
   have HKR : Hid _ := KR
   clear c0 c1 f0 f1 e0 e1 ct ho h5 h6 h7 hb HX
   obtain ⟨y0, y1⟩ := zn2 k6 rfl rfl
   obtain ⟨c0, c1⟩ := zn2 KR rfl rfl
   have f0 := frozen_blk KR 0
   have f1 := frozen_blk KR 1
   clear KR k6
   go_wp2
   refine bodyPost_ret (fin26t rfl rfl rfl (heap_setCell_same _ _ 1 _ _ _ (heap_setCell_same _ _ 0 _ _ _ HKR.out))) rfl ?_
   exact ⟨a5, c5, ns, root, code, rfl, ((OwnN.set HO.out h4 HKR.out ⟨by decide, by decide, by decide⟩).set h4 (heap_setCell_same _ _ 0 _ _ _ HKR.out) ⟨by decide, by decide, by decide⟩).weak (fun g h => Nat.lt_of_lt_of_le h HB1.out.size) HB1.out.size, h4, H5.out, H6.out, H7.out, ((bT HB1.out HB.out).setCell (p := ⟨w.heap.size + 1, 0, none⟩) (by show _ ≤ w.heap.size + 1; omega) _).setCell (p := ⟨w.heap.size + 1, 1, none⟩) (by show _ ≤ w.heap.size + 1; omega) _⟩
 ·have hrt : r = false ∨ (r = true ∧ ts = []) := by
   cases r
   ·exact .inl rfl
   ·exact .inr ⟨rfl, Classical.byContradiction fun h => hgo ⟨rfl, h⟩⟩
  clear hgo
  rcases hrt with rfl | ⟨rfl, rfl⟩
  ·have K3 := HK1.out
   go_wp2
   refine bodyPost_ret (fin26t rfl rfl rfl (heap_setCell_same _ _ 1 _ _ _ (heap_setCell_same _ _ 0 _ _ _ K3))) rfl ?_
   exact ⟨none, 0, [], 0, 1, rfl, OwnN.nil _ _, Nat.zero_le _, (fun d h => by cases h), fun h => absurd h (by decide), i64c rfl, (HB1.out.setCell (p := ⟨w.heap.size + 1, 0, none⟩) (by show _ ≤ w.heap.size + 1; omega) _).setCell (p := ⟨w.heap.size + 1, 1, none⟩) (by show _ ≤ w.heap.size + 1; omega) _⟩
  ·have K3 := HK1.out
   go_wp2
   refine bodyPost_ret (fin26t rfl rfl rfl (heap_setCell_same _ _ 1 _ _ _ (heap_setCell_same _ _ 0 _ _ _ K3))) rfl ?_
   exact ⟨none, 0, [], 0, 1, rfl, OwnN.nil _ _, Nat.zero_le _, (fun d h => by cases h), fun h => absurd h (by decide), i64c rfl, (HB1.out.setCell (p := ⟨w.heap.size + 1, 0, none⟩) (by show _ ≤ w.heap.size + 1; omega) _).setCell (p := ⟨w.heap.size + 1, 1, none⟩) (by show _ ≤ w.heap.size + 1; omega) _⟩
end Go.Proofs.Ytgjeefedcfakdaa
set_option linter.unusedVariables false
namespace Go.Proofs.Ytgjeefedcfakdaa
open Go.ChangeShapes Go.WideShapes Go.ChangeAt Go.RowKit
open Cu (Cw Code1 CurS)
theorem Cw_below {w W W' : World} {c : Nat} {d : Code1} (h : Cw w c d W) (hb : Below W.heap.size W W') : Cw w c d W' := by
 have hlt := h.lt
 obtain ⟨⟨s, hs⟩, hg, hl⟩ := h
 exact ⟨⟨s, Cu.cur_blocks hs fun k hk => hb.block k (by omega)⟩, Cu.grownBy_trans hg (gb_below _ hb), hl⟩
def PgPost (w : World) (c : Nat) (d : Code1) (e : Ending) (w' : World) : Prop :=
 ∃ (a : Option Addr) (cap : Nat) (ns : List Nod) (root : Int), e = .returned (.agg #[.slice a ns.length cap, .int .i64 root]) ∧ OwnN (fun g => g < w.heap.size) w' w.heap.size (.slice a ns.length cap) ns ∧ ns ≠ [] ∧ ns.length ≤ 400 ∧ (∀ d ∈ ns, NSm d) ∧ i64B root ∧ Cw w c d w'
theorem frN_le {n : Nat} (hn : n ≤ 4) : Cu.frN n ≤ 100000 := by
 match n, hn with
 | 0, _ => decide
 | 1, _ => decide
 | 2, _ => decide
 | 3, _ => decide
 | 4, _ => decide
set_option maxRecDepth 100000 in
set_option maxHeartbeats 4000000 in
theorem l3Some_any (w : World) (c : Nat) (d : Code1) (n : Nat) (hn : n ≤ 4) (hs : ∃ s, CurS w c d s) (hc : c < w.heap.size) :
  Calls Try.prog 28 #[.pointer (some ⟨c, 0, none⟩), .int .i64 (n : Int)] w fun e w' => PgPost w c d e w' := by
 have hfr := frN_le hn
 have HFC : Hid (∀ W, Cw W c d W → Calls Try.prog 41 #[.pointer (some ⟨c, 0, none⟩), .int .i64 (n : Int)] W fun e W' => ∃ t, e = .returned (.string t) ∧ t.size ≤ Cu.frN n ∧ Cw W c d W') := fun W h => Cu.form_cw W c d n hn W h
 have HC0 : Hid (Cw w c d (w.alloc (Obj.cells #[.slice none 0 0, .int .i64 0] 26))) := (Cw_self hs hc).alloc _
 clear hs hn
 go_enter Try.func28, Try.ntmps28
 go_wp2_with fail
 go_loopw [5] (fun kv wr => ∃ k : Nat, kv = .int .i64 (k : Int) ∧ k ≤ 8 ∧ Cw w c d wr ∧ wr.heap[w.heap.size]? = some (Obj.cells #[.slice none 0 0, .int .i64 0] 26)) (fun kv _ => 8 - (intOf kv).toNat)
 case atStart => exact ⟨0, rfl, by omega, HC0.out, blk_at _ _ _ rfl⟩
 case round =>
  obtain ⟨k, rfl, hk, hcw, hz⟩ := hrel
  have HCW : Hid (Cw w c d wr) := hcw
  have HZ : Hid _ := hz
  clear hcw hz
  by_cases hk8 : k < 8
  ·have hlt : decide ((k : Int) < 8) = true := decide_eq_true (by omega)
   go_wp2_with fail
   refine (HFC.out _ (Cw_self HCW.out.1 HCW.out.lt)).mono ?_
   rintro e W1 ⟨t, rfl, ht, h1⟩
   obtain ⟨cs, ts, p, hp, hok, hts, htm, hrd⟩ := R2.read_ok t (by omega)
   have hnc : ¬ w.heap.size = c := by omega
   have HZ1 : Hid (W1.heap[w.heap.size]? = some (Obj.cells #[.slice none 0 0, .int .i64 0] 26)) := Cw_blk h1 HZ.out hnc
   have HC1 : Hid (Cw w c d W1) := Cw_trans HCW.out h1
   clear h1 HZ HCW
   go_wp2_with fail
   refine (hrd W1).mono ?_
   rintro e W2 ⟨ao, bo, ca, cb, rfl, hoC, hoI, hb2, hn9⟩
   have HC2 : Hid (Cw w c d W2) := Cw_below HC1.out hb2
   have HZ2 : Hid _ := (hb2.block _ (alt HZ1.out)).trans HZ1.out
   have HRD : Hid (RowD W2 W2.heap.size ao cs) := R2.own_rowD hoC
   have HRI : Hid (RowI W2 W2.heap.size bo ts) := R2.own_rowI hoI
   have HEX : Hid (∀ V, Below W2.heap.size W2 V → Calls Try.prog 42 #[.agg #[.slice ao cs.length ca, .slice bo ts.length cb], .int .i64 0] V fun e w' => XpPost V e w') := fun V hb => expand_any hok hn9 htm (by omega) ao bo ca cb V ((HRD.out.below hb).mono hb.size) ((HRI.out.below hb).mono hb.size)
   clear hoC hoI hb2 hrd HC1 HZ1
   go_wp2_with fail
   refine (HEX.out _ (bR _ _)).mono ?_
   rintro e W3 ⟨a5, c5, ns, root, code, rfl, ho, h4, h5, h6, h7, hb3⟩
   have hb23 : Below W2.heap.size W2 W3 := (bR _ _).trans (hb3.mono (by simp))
   have hw2 : w.heap.size ≤ W2.heap.size := HC2.out.2.1.size
   have HC3 : Hid (Cw w c d W3) := Cw_below HC2.out hb23
   have HZ3 : Hid (W3.heap[w.heap.size]? = some (Obj.cells #[.slice none 0 0, .int .i64 0] 26)) := (hb23.block _ (alt HZ2.out)).trans HZ2.out
   have HO3 : Hid (OwnN (fun g => g < w.heap.size) W3 w.heap.size (.slice a5 ns.length c5) ns) := ho.weak (fun g h => by simp; omega) (by simp; omega)
   have H5 : Hid (∀ d ∈ ns, NSm d) := h5
   have H6 : Hid (code = 0 → ns ≠ []) := h6
   have H7 : Hid (i64B root) := h7
   have hz3 : w.heap.size < W3.heap.size := (alt HZ3.out)
   clear ho h5 h6 h7 hb3 hb23 HC2 HZ2 HRD HRI HEX hw2
   obtain ⟨c0, c1⟩ := zn2 HZ3.out rfl rfl
   have f0 := frozen_blk HZ3.out 0
   have f1 := frozen_blk HZ3.out 1
   by_cases hp0 : p < 0
   ·have hpl : decide (p < 0) = true := decide_eq_true hp0
    clear hp0 hp
    by_cases hc0 : code = 0
    ·subst hc0
     have HNE : Hid (ns ≠ []) := H6.out rfl
     go_wp2
     have KS := heap_setCell_same _ _ 1 _ _ (Value.int .i64 root) (heap_setCell_same _ _ 0 _ _ (Value.slice a5 ns.length c5) HZ3.out)
     refine bodyPost_ret (results_cell_row rfl _ _ w.heap.size 26 #[.slice a5 ns.length c5, .int .i64 root] (0, 0) _ rfl (blk_past KS) Try.underlying26 rfl info26) rfl ?_
     exact ⟨a5, c5, ns, root, rfl, ((HO3.out.set h4 HZ3.out ⟨by decide, by decide, by decide⟩).set h4 (heap_setCell_same _ _ 0 _ _ _ HZ3.out) ⟨by decide, by decide, by decide⟩).below (bR _ _), HNE.out, h4, H5.out, H7.out, (Cw_set (Cw_set HC3.out (Nat.le_refl _)) (Nat.le_refl _)).alloc _⟩
    ·have hce : (code == 0) = false := beq_eq_false_iff_ne.2 hc0
     clear hc0
     go_wp2
     exact ⟨⟨k + 1, by simp, by omega, HC3.out.alloc _, blk_past HZ3.out⟩, by simp only [intOf]; omega⟩
   ·have hpl : decide (p < 0) = false := decide_eq_false hp0
    clear hp0 hp
    go_wp2
    exact ⟨⟨k + 1, by simp, by omega, HC3.out.alloc _, blk_past HZ3.out⟩, by simp only [intOf]; omega⟩
  ·have hlt : decide ((k : Int) < 8) = false := decide_eq_false (by omega)
   have K := HZ.out
   obtain ⟨c0, c1⟩ := zn2 K rfl rfl
   have f0 := frozen_blk K 0
   have f1 := frozen_blk K 1
   have hz3 : w.heap.size < wr.heap.size := (alt K)
   clear K
   go_wp2
   have KS := heap_setCell_same _ _ 1 _ _ (Value.int .i64 0) (heap_setCell_same _ _ 0 _ _ (Value.slice (some ⟨wr.heap.size, 0, none⟩) 1 1) HZ.out)
   refine bodyPost_ret (results_cell_row rfl _ _ w.heap.size 26 #[.slice (some ⟨wr.heap.size, 0, none⟩) 1 1, .int .i64 0] (0, 0) _ rfl (blk_past KS) Try.underlying26 rfl info26) rfl ?_
   refine ⟨some ⟨wr.heap.size, 0, none⟩, 1, [numN 5], 0, rfl, ⟨[.int .i64 1, .int .i64 5, .string ⟨#[]⟩, .slice none 0 0, .slice none 0 0], ⟨rfl, .inr ⟨wr.heap.size, 1, _, rfl, by omega, blk_at _ _ _ (by simp), Nat.le_refl _, by decide, rfl, rfl⟩⟩, fun j d hd => ?_⟩, by simp, by simp, fun d hd => ?_, i64c rfl, (Cw_set (Cw_set HCW.out (Nat.le_refl _)) (Nat.le_refl _)).alloc _⟩
   ·match j, hd with
    | 0, hd =>
     obtain rfl : numN 5 = d := Option.some.inj hd
     exact ⟨none, 0, none, 0, rfl, rfl, rfl, rfl, rfl, ⟨fun i x h => by simp [numN] at h, fun i x h => by simp [numN] at h, Nat.le_refl _, Nat.le_refl _⟩, .inl ⟨rfl, rfl, rfl⟩, .inl ⟨rfl, rfl, rfl⟩⟩
   ·obtain rfl := List.mem_singleton.1 hd
    exact ⟨i64c rfl, i64c rfl, Nat.zero_le _, Nat.zero_le _, Nat.zero_le _, fun x h => by cases h⟩
end Go.Proofs.Ytgjeefedcfakdaa
set_option linter.unusedVariables false
namespace Go.Proofs.Ytgjeefedcfakdaa
open Go.ChangeShapes Go.WideShapes Go.ChangeAt Go.RowKit
open Cu (Cw Code1 CurS)
def NSw (d : Nod) : Prop := i64B d.k ∧ i64B d.n ∧ d.s.size ≤ 1048576 ∧ d.names.length ≤ 1001 ∧ d.args.length ≤ 1002 ∧ ∀ x ∈ d.names, x.size ≤ 1048576
theorem NSm.w {d : Nod} (h : NSm d) : NSw d := ⟨h.1, h.2.1, h.2.2.1, by have := h.2.2.2.1; omega, by have := h.2.2.2.2.1; omega, h.2.2.2.2.2⟩
def Cells5 (cur : Array Value) (j : Nat) (an : Option Addr) (cn : Nat) (aa : Option Addr) (ca : Nat) (d : Nod) : Prop :=
 cur[j * 5]? = some (.int .i64 d.k) ∧ cur[j * 5 + 1]? = some (.int .i64 d.n) ∧ cur[j * 5 + 2]? = some (.string d.s) ∧ cur[j * 5 + 3]? = some (.slice an d.names.length cn) ∧ cur[j * 5 + 4]? = some (.slice aa d.args.length ca)
theorem own_cells {G : Nat → Prop} {W : World} {B : Nat} {a : Option Addr} {cap : Nat} {ns : List Nod} (h : OwnN G W B (.slice a ns.length cap) ns) (hn : ns ≠ []) :
  ∃ (g : Nat) (cur : Array Value), a = some ⟨g, 0, none⟩ ∧ B ≤ g ∧ W.heap[g]? = some (Obj.cells cur 35) ∧ cur.size = cap * 5 ∧ ns.length ≤ cap ∧ cap ≤ maxLen ∧ ∀ (j : Nat) (d : Nod), ns[j]? = some d → ∃ an cn aa ca, Cells5 cur j an cn aa ca d ∧ NodX W (NP G W (.slice a ns.length cap)) an cn aa ca d := by
 obtain ⟨xs, ⟨hl, ⟨hv, h0⟩ | ⟨g, cap', cur, hv, a1, hblk, a3, a4, a5, a6⟩⟩, h2⟩ := h
 ·exact absurd (List.length_eq_zero_iff.1 h0) hn
 ·injection hv with e1 e2 e3
  subst e1
  subst e3
  refine ⟨g, cur, rfl, a1, hblk, a5, a3, a4, fun j d hd => ?_⟩
  obtain ⟨an, cn, aa, ca, e0, e1, e2, e3, e4, hr⟩ := h2 j d hd
  have hj := (llt hd)
  have key : ∀ (i : Nat) (v : Value), i < 5 → xs[j * 5 + i]? = some v → cur[j * 5 + i]? = some v := fun i v hi he => by
   rw [← a6, List.getElem?_take_of_lt (by omega)] at he
   rw [← Array.getElem?_toList]
   exact he
  exact ⟨an, cn, aa, ca, ⟨key 0 _ (by omega) e0, key 1 _ (by omega) e1, key 2 _ (by omega) e2, key 3 _ (by omega) e3, key 4 _ (by omega) e4⟩, hr⟩
def RowG (W : World) (lo : Nat) (a : Option Addr) (ns : List Nod) : Prop :=
 ∀ i d, ns[i]? = some d → ∃ b o, a = some ⟨b, o, none⟩ ∧ (lo ≤ b ∧ b < W.heap.size) ∧ NodAt W (fun b => lo ≤ b ∧ b < W.heap.size) b (o + i * 5) d
theorem RowG.keep {W W' : World} {lo : Nat} {a : Option Addr} {ns : List Nod} (h : RowG W lo a ns) (hs : W.heap.size ≤ W'.heap.size) (hk : ∀ b, lo ≤ b → b < W.heap.size → W'.heap[b]? = W.heap[b]?) : RowG W' lo a ns := by
 intro i d hd
 obtain ⟨b, o, h1, h2, h3⟩ := h i d hd
 exact ⟨b, o, h1, ⟨h2.1, by omega⟩, h3.keep (hk b h2.1 h2.2) fun q hq => ⟨⟨hq.1, by omega⟩, hk q hq.1 hq.2⟩⟩
theorem RowG.rown {W : World} {lo : Nat} {a : Option Addr} {ns : List Nod} (h : RowG W lo a ns) : RowN W W.heap.size a ns := by
 intro i d hd
 obtain ⟨b, o, h1, h2, h3⟩ := h i d hd
 exact ⟨b, o, h1, h2.2, h3.keep rfl fun q hq => ⟨hq.2, rfl⟩⟩
theorem RowG.set {W : World} {lo b j : Nat} {y : Value} {a : Option Addr} {ns : List Nod} (h : RowG W lo a ns) (hb : b < lo) : RowG (W.setCell ⟨b, j, none⟩ y) lo a ns := h.keep (by simp) fun q h1 h2 => heap_setCell_other _ _ _ _ (by show q ≠ b; omega)
theorem rown_of {W : World} {g lo : Nat} {cur : Array Value} {ns : List Nod} (hb : W.heap[g]? = some (Obj.cells cur 35)) (h : ∀ (j : Nat) (d : Nod), ns[j]? = some d → ∃ an cn aa ca, Cells5 cur j an cn aa ca d ∧ NodRows W (fun b => lo ≤ b ∧ b < W.heap.size) an cn aa ca d) (hlo : lo ≤ g) : RowG W lo (some ⟨g, 0, none⟩) ns := by
 intro j d hd
 obtain ⟨an, cn, aa, ca, ⟨e0, e1, e2, e3, e4⟩, hr⟩ := h j d hd
 have f : ∀ {i : Nat} {v : Value}, cur[j * 5 + i]? = some v → W.cell? ⟨g, 0 + j * 5 + i, none⟩ = some v := fun {i v} he => by rw [Nat.zero_add]; exact cell_blk hb he
 exact ⟨g, 0, rfl, ⟨hlo, (alt hb)⟩, an, cn, aa, ca, f (i := 0) e0, f e1, f e2, f e3, f e4, hr⟩
theorem own_rown {lo : Nat} {W : World} {a : Option Addr} {cap : Nat} {ns : List Nod} (h : OwnN (fun g => g < lo) W lo (.slice a ns.length cap) ns) (hn : ns ≠ []) : RowG W lo a ns := by
 obtain ⟨g, cur, rfl, h1, h2, h3, h4, h5, h6⟩ := own_cells h hn
 refine rown_of h2 (fun j d hd => ?_) h1
 obtain ⟨an, cn, aa, ca, hc, hr⟩ := h6 j d hd
 exact ⟨an, cn, aa, ca, hc, hr.1.keep fun b hb => ⟨⟨Nat.le_of_not_lt hb.2.2.2, hb.1⟩, rfl⟩⟩
theorem set_other {cur : Array Value} {q r : Nat} {y v : Value} (h : cur[r]? = some v) (hne : r ≠ q) : (cur.setIfInBounds q y)[r]? = some v := by
 rw [Array.getElem?_setIfInBounds_ne (by omega)]
 exact h
theorem set_same {cur : Array Value} {q : Nat} {y v : Value} (h : cur[q]? = some v) : (cur.setIfInBounds q y)[q]? = some y := by
 have := (alt h)
 rw [Array.getElem?_setIfInBounds_self_of_lt this]
theorem rown_set {lo : Nat} {W : World} {a : Option Addr} {cap g : Nat} {ns : List Nod} (h : OwnN (fun g => g < lo) W lo (.slice a ns.length cap) ns) (hn : ns ≠ []) (ha : a = some ⟨g, 0, none⟩) {k : Nat} {d : Nod} (hd : ns[k]? = some d) (i : Nat) (y : Value) (d' : Nod)
  (hi : (i = 0 ∧ y = .int .i64 d'.k ∧ d' = { d with k := d'.k }) ∨ (i = 1 ∧ y = .int .i64 d'.n ∧ d' = { d with n := d'.n }) ∨ (i = 2 ∧ y = .string d'.s ∧ d' = { d with s := d'.s })) :
  RowG (W.setCell ⟨g, k * 5 + i, none⟩ y) lo a (ns.set k d') := by
 obtain ⟨g', cur, hg', h1, h2, h3, h4, h5, h6⟩ := own_cells h hn
 obtain rfl : g = g' := by
  rw [ha] at hg'
  injection hg' with e
  injection e
 subst ha
 have hk := (llt hd)
 refine rown_of (heap_setCell_same _ _ _ _ _ _ h2) (fun j e he => ?_) h1
 have hrow : ∀ {an cn aa ca} {x : Nod}, NodX W (NP (fun g => g < lo) W (.slice (some ⟨g, 0, none⟩) ns.length cap)) an cn aa ca x → NodRows (W.setCell ⟨g, k * 5 + i, none⟩ y) (fun b => lo ≤ b ∧ b < (W.setCell ⟨g, k * 5 + i, none⟩ y).heap.size) an cn aa ca x := fun hr => hr.1.keep fun b hb => ⟨⟨Nat.le_of_not_lt hb.2.2.2, by simpa using hb.1⟩, heap_setCell_other _ _ _ _ (fun e => hb.2.1 (by rw [e]; rfl))⟩
 by_cases hj : j = k
 ·subst hj
  rw [List.getElem?_set_self hk] at he
  obtain rfl := Option.some.inj he
  obtain ⟨an, cn, aa, ca, ⟨e0, e1, e2, e3, e4⟩, hr⟩ := h6 j d hd
  rcases hi with ⟨rfl, rfl, hd'⟩ | ⟨rfl, rfl, hd'⟩ | ⟨rfl, rfl, hd'⟩
  ·refine ⟨an, cn, aa, ca, ⟨set_same e0, ?_, ?_, ?_, ?_⟩, ?_⟩
   ·rw [hd']; exact set_other e1 (by omega)
   ·rw [hd']; exact set_other e2 (by omega)
   ·rw [hd']; exact set_other e3 (by omega)
   ·rw [hd']; exact set_other e4 (by omega)
   ·rw [hd']; exact hrow hr
  ·refine ⟨an, cn, aa, ca, ⟨?_, set_same e1, ?_, ?_, ?_⟩, ?_⟩
   ·rw [hd']; exact set_other e0 (by omega)
   ·rw [hd']; exact set_other e2 (by omega)
   ·rw [hd']; exact set_other e3 (by omega)
   ·rw [hd']; exact set_other e4 (by omega)
   ·rw [hd']; exact hrow hr
  ·refine ⟨an, cn, aa, ca, ⟨?_, ?_, set_same e2, ?_, ?_⟩, ?_⟩
   ·rw [hd']; exact set_other e0 (by omega)
   ·rw [hd']; exact set_other e1 (by omega)
   ·rw [hd']; exact set_other e3 (by omega)
   ·rw [hd']; exact set_other e4 (by omega)
   ·rw [hd']; exact hrow hr
 ·rw [List.getElem?_set_ne (fun e => hj e.symm)] at he
  obtain ⟨an, cn, aa, ca, ⟨e0, e1, e2, e3, e4⟩, hr⟩ := h6 j e he
  have hi5 : i < 5 := by rcases hi with ⟨rfl, _⟩ | ⟨rfl, _⟩ | ⟨rfl, _⟩ <;> omega
  exact ⟨an, cn, aa, ca, ⟨set_other e0 (by omega), set_other e1 (by omega), set_other e2 (by omega), set_other e3 (by omega), set_other e4 (by omega)⟩, hrow hr⟩
theorem OwnN.cw {w W W' : World} {c : Nat} {v : Value} {ns : List Nod} (h : OwnN (fun g => g < w.heap.size) W w.heap.size v ns) (hg : W.grownBy W' (some c)) (hc : c < w.heap.size) : OwnN (fun g => g < w.heap.size) W' w.heap.size v ns := by
 obtain ⟨xs, ⟨hl, hx⟩, h2⟩ := h
 have hb : ∀ b, b < W.heap.size → w.heap.size ≤ b → W'.heap[b]? = W.heap[b]? := fun b h1 h2 => hg.block b h1 (fun e => by have := Option.some.inj e; omega)
 refine ⟨xs, ⟨hl, ?_⟩, fun j d hd => ?_⟩
 ·rcases hx with hx | ⟨g, cap', cur, hv, a1, hblk, a3⟩
  ·exact .inl hx
  ·exact .inr ⟨g, cap', cur, hv, a1, (hb g (alt hblk) a1).trans hblk, a3⟩
 ·obtain ⟨an, cn, aa, ca, e0, e1, e2, e3, e4, hr⟩ := h2 j d hd
  exact ⟨an, cn, aa, ca, e0, e1, e2, e3, e4, hr.keep fun b hq => ⟨⟨Nat.lt_of_lt_of_le hq.1 hg.size, hq.2.1, hq.2.2.1.same (hb b hq.1 (Nat.le_of_not_lt hq.2.2.2)), hq.2.2.2⟩, hb b hq.1 (Nat.le_of_not_lt hq.2.2.2)⟩⟩
end Go.Proofs.Ytgjeefedcfakdaa
