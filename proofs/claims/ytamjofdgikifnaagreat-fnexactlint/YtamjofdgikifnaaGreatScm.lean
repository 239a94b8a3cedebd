/- The model's Compare. -/
import Derived.Test.YtamjofdgikifnaaGreatLnp
set_option linter.unusedVariables false
namespace Go.Proofs.YtamjofdgikifnaaGreat
open Go.ChangeShapes Go.WideShapes Go.ChangeAt Go.RowKit
structure CmS (w : World) (X Y : Obj) (v : Value) (l : List ByteArray) (W : World) : Prop where
 x : W.heap[w.heap.size]? = some X
 y : W.heap[w.heap.size + 1]? = some Y
 own : OwnS W (w.heap.size + 2) v l
 below : Below w.heap.size w W
theorem CmS.size {w W : World} {X Y : Obj} {v : Value} {l : List ByteArray} (h : CmS w X Y v l W) : w.heap.size + 2 ≤ W.heap.size := (Array.getElem?_eq_some_iff.1 h.y).1
theorem CmS.call {w W W' : World} {X Y : Obj} {v : Value} {l : List ByteArray} (h : CmS w X Y v l W) (hb : Below W.heap.size W W') : CmS w X Y v l W' :=
 ⟨blk_keep h.x hb (Array.getElem?_eq_some_iff.1 h.x).1, blk_keep h.y hb (Array.getElem?_eq_some_iff.1 h.y).1, h.own.keep fun b hv => hb.block b (h.own.blk hv).2.1, h.below.trans (hb.mono h.below.size)⟩
theorem CmS.app {w W W' : World} {X Y : Obj} {v v' : Value} {l : List ByteArray} {s : ByteArray} (h : CmS w X Y v l W) (hw : W'.ownsRow (w.heap.size + 2) 9 1 v' (l.length + 1) (l.map Value.string ++ [.string s])) (hg : (W.alloc (Obj.cells #[.string s] 9)).grownBy W' v.ownBlock) : CmS w X Y v' (l ++ [s]) W' := by
 have ho : OwnS (W.alloc (Obj.cells #[.string s] 9)) (w.heap.size + 2) v l := World.ownsRow.alloc h.own _
 have hz := h.size
 have hk : ∀ k, k < w.heap.size + 2 → W'.heap[k]? = (W.alloc (Obj.cells #[.string s] 9)).heap[k]? := fun k hk => hg.block k (by simp; omega) (fun e => by have := (ho.blk e.symm).1; omega)
 refine ⟨(hk _ (by omega)).trans (blk_past h.x), (hk _ (by omega)).trans (blk_past h.y), OwnS.snoc hw, ?_⟩
 exact app_below (h.below.alloc h.below.size _) (by simp; omega) (ho.weak (by omega)) hg
theorem nin_take {l m : List ByteArray} {i : Nat} {d : ByteArray} (h : m[i]? = some d) : nin l (m.take (i + 1)) = nin l (m.take i) ++ (if hasS l d then [] else [d]) := by
 rw [take_snc h]
 unfold nin
 rw [List.filter_append]
 cases hd : hasS l d <;> simp [hd]
theorem nin_len (l m : List ByteArray) : (nin l m).length ≤ m.length := List.length_filter_le _ _
def rsq (k l : List Typ) : List ByteArray := (l.filter (rsz1 k)).map (·.name)
theorem rsq_take {k l : List Typ} {i : Nat} {t : Typ} (h : l[i]? = some t) : rsq k (l.take (i + 1)) = rsq k (l.take i) ++ (if rsz1 k t then [t.name] else []) := by
 rw [take_snc h]
 unfold rsq
 rw [List.filter_append, List.map_append]
 cases hd : rsz1 k t <;> simp [hd]
theorem rsq_len (k l : List Typ) : (rsq k l).length ≤ l.length := by
 unfold rsq
 rw [List.length_map]
 exact List.length_filter_le _ _
theorem below_drewN {B : Nat} {w w' : World} (h : Below B w w') (n : Nat) : Below B w (w'.drewN n) := ⟨h.os, h.tape, h.output, h.size, h.block⟩
theorem bstep {B : Nat} {w w1 w2 : World} (h : Below B w w1) (hB : B ≤ w1.heap.size) (g : Below w1.heap.size w1 w2) : Below B w w2 := h.trans (g.mono hB)
def srO (x : Srx) (a1 a2 a3 a4 a5 : Option Addr) (c1 c2 c3 c4 c5 : Nat) : Obj := Obj.cells #[.string x.name, .slice a1 x.imps.length c1, .slice a2 x.exps.length c2, .slice a3 x.types.length c3, .slice a4 x.defs.length c4, .slice a5 x.convs.length c5] 34
set_option maxRecDepth 100000 in
set_option maxHeartbeats 4000000 in
theorem specCmp_any (x y : Srx) (a1 a2 a3 a4 a5 b1 b2 b3 b4 b5 : Option Addr) (c1 c2 c3 c4 c5 d1 d2 d3 d4 d5 : Nat) (w : World) (hs : x.small) (ht : y.small) (hr : SrxRows w (fun b => b < w.heap.size) a1 a2 a3 a4 a5 c1 c2 c3 c4 c5 x) (hq : SrxRows w (fun b => b < w.heap.size) b1 b2 b3 b4 b5 d1 d2 d3 d4 d5 y)
  (hfd : ∀ d ∈ x.defs, (flat d.prog.nodes).length ≤ 1048576) (hfv : ∀ d ∈ x.convs, (flat d.prog.nodes).length ≤ 1048576) (hgd : ∀ d ∈ y.defs, (flat d.prog.nodes).length ≤ 1048576) (hgv : ∀ d ∈ y.convs, (flat d.prog.nodes).length ≤ 1048576) :
  Calls Tryz.prog 18 #[.agg #[.string x.name, .slice a1 x.imps.length c1, .slice a2 x.exps.length c2, .slice a3 x.types.length c3, .slice a4 x.defs.length c4, .slice a5 x.convs.length c5], .agg #[.string y.name, .slice b1 y.imps.length d1, .slice b2 y.exps.length d2, .slice b3 y.types.length d3, .slice b4 y.defs.length d4, .slice b5 y.convs.length d5]] w fun e w' => TellP (cmpL x y) w e w' := by
 have S : Hid (SrxAt x a1 a2 a3 a4 a5 c1 c2 c3 c4 c5 w) := srxAt x a1 a2 a3 a4 a5 c1 c2 c3 c4 c5 w hs hr
 have T : Hid (SrxAt y b1 b2 b3 b4 b5 d1 d2 d3 d4 d5 w) := srxAt y b1 b2 b3 b4 b5 d1 d2 d3 d4 d5 w ht hq
 have HC1 : Hid (∀ w2, Below w.heap.size w w2 → Calls Tryz.prog 23 #[.agg #[.string x.name, .slice a1 x.imps.length c1, .slice a2 x.exps.length c2, .slice a3 x.types.length c3, .slice a4 x.defs.length c4, .slice a5 x.convs.length c5]] w2 fun e w' => Ans w2 (.bool x.ok) e w') := fun w2 h2 => specSrc_any x a1 a2 a3 a4 a5 c1 c2 c3 c4 c5 w2 hs (SrxRows.keep hr fun b h => ⟨Nat.lt_of_lt_of_le h h2.size, h2.block b h⟩) hfd hfv
 have HC2 : Hid (∀ w2, Below w.heap.size w w2 → Calls Tryz.prog 23 #[.agg #[.string y.name, .slice b1 y.imps.length d1, .slice b2 y.exps.length d2, .slice b3 y.types.length d3, .slice b4 y.defs.length d4, .slice b5 y.convs.length d5]] w2 fun e w' => Ans w2 (.bool y.ok) e w') := fun w2 h2 => specSrc_any y b1 b2 b3 b4 b5 d1 d2 d3 d4 d5 w2 ht (SrxRows.keep hq fun b h => ⟨Nat.lt_of_lt_of_le h h2.size, h2.block b h⟩) hgd hgv
 clear hs ht hr hq hfd hfv hgd hgv
 have HL : Hid (cmpL x y = if x.ok && y.ok then cmpM x y else []) := cmpL_eq x y
 obtain ⟨w0, hw0⟩ : ∃ w0, w0 = ((w.alloc (srO x a1 a2 a3 a4 a5 c1 c2 c3 c4 c5)).alloc (srO y b1 b2 b3 b4 b5 d1 d2 d3 d4 d5)).alloc (Obj.cells #[] 9) := ⟨_, rfl⟩
 have HW : Hid (w0 = _) := hw0
 have hst : CmS w (srO x a1 a2 a3 a4 a5 c1 c2 c3 c4 c5) (srO y b1 b2 b3 b4 b5 d1 d2 d3 d4 d5) (.slice (some ⟨w.heap.size + 2, 0, none⟩) 0 0) [] w0 := by
  rw [hw0]
  exact ⟨blk_past (blk_past (blk_at _ _ _ rfl)), blk_past (blk_at _ _ _ (by simp)), ⟨rfl, .inr ⟨w.heap.size + 2, 0, #[], rfl, Nat.le_refl _, blk_at _ _ _ (by simp), Nat.le_refl _, Nat.zero_le _, rfl, rfl⟩⟩, (((Below.refl _ _).alloc (Nat.le_refl _) _).alloc (by simp) _).alloc (by simp; omega) _⟩
 have e0 := cell_blk (j := 0) hst.x rfl
 have e1 := cell_blk (j := 1) hst.x rfl
 have e2 := cell_blk (j := 2) hst.x rfl
 have e3 := cell_blk (j := 3) hst.x rfl
 have e4 := cell_blk (j := 4) hst.x rfl
 have e5 := cell_blk (j := 5) hst.x rfl
 clear hw0
 obtain ⟨i9, hi9, hz90, hz91, hz92⟩ := info_parts Tryz.inf9
 go_enter Tryz.func18, Tryz.ntmps18
 go_wp2_with fail
 unfold srO at HW
 rw [← HW.out]
 refine (HC1.out _ hst.below).mono ?_
 rintro e w1 ⟨rfl, hb1⟩
 have HST1 : Hid (CmS w (srO x a1 a2 a3 a4 a5 c1 c2 c3 c4 c5) (srO y b1 b2 b3 b4 b5 d1 d2 d3 d4 d5) (.slice (some ⟨w.heap.size + 2, 0, none⟩) 0 0) [] w1) := hst.call hb1
 have f0 := cell_blk (j := 0) HST1.out.y rfl
 have f1 := cell_blk (j := 1) HST1.out.y rfl
 have f2 := cell_blk (j := 2) HST1.out.y rfl
 have f3 := cell_blk (j := 3) HST1.out.y rfl
 have f4 := cell_blk (j := 4) HST1.out.y rfl
 have f5 := cell_blk (j := 5) HST1.out.y rfl
 clear hb1 hst e0 e1 e2 e3 e4 e5 HW
 cases hx : x.ok
 ·have HQ : Hid (cmpL x y = []) := by show _ = _; rw [HL.out, hx]; rfl
  clear HC2 HL hx S T
  go_wp2
  go_ret
  rw [HQ.out]
  exact ⟨_, rfl, HST1.out.own.weak (by omega), HST1.out.below⟩
 ·go_wp2_with fail
  refine (HC2.out _ HST1.out.below).mono ?_
  rintro e w2 ⟨rfl, hb2⟩
  have HST2 : Hid (CmS w (srO x a1 a2 a3 a4 a5 c1 c2 c3 c4 c5) (srO y b1 b2 b3 b4 b5 d1 d2 d3 d4 d5) (.slice (some ⟨w.heap.size + 2, 0, none⟩) 0 0) [] w2) := HST1.out.call hb2
  clear hb2 f0 f1 f2 f3 f4 f5 HST1
  cases hy : y.ok
  ·have HQ : Hid (cmpL x y = []) := by show _ = _; rw [HL.out, hx, hy]; rfl
   clear HL hx hy S T
   go_wp2
   go_ret
   rw [HQ.out]
   exact ⟨_, rfl, HST2.out.own.weak (by omega), HST2.out.below⟩
  ·have HQ : Hid (cmpL x y = cmpM x y) := by show _ = _; rw [HL.out, hx, hy]; rfl
   clear HL hx hy HC1 HC2
   have hyl := T.out.l2
   have hxl := S.out.l2
   have htl := S.out.l3
   have hyt := T.out.l3
   go_wp2
   go_loopw [5, 6] (fun v q wr => ∃ i : Nat, i ≤ y.exps.length ∧ q = .int .i64 i ∧ CmS w (srO x a1 a2 a3 a4 a5 c1 c2 c3 c4 c5) (srO y b1 b2 b3 b4 b5 d1 d2 d3 d4 d5) v ((nin x.exps (y.exps.take i)).map (mkd pls)) wr)
    (fun _ q _ => y.exps.length - (intOf q).toNat)
   case atStart => exact ⟨0, by omega, rfl, HST2.out⟩
   case round =>
    obtain ⟨i, hi, rfl, hst⟩ := hrel
    have hll : ((nin x.exps (y.exps.take i)).map (mkd pls)).length ≤ 3145728 := by
     have := nin_len x.exps (y.exps.take i)
     rw [List.length_take] at this
     rw [List.length_map]; omega
    obtain ⟨oa, oc, rfl, hoc⟩ := hst.own.slice
    have HSW : Hid (CmS w (srO x a1 a2 a3 a4 a5 c1 c2 c3 c4 c5) (srO y b1 b2 b3 b4 b5 d1 d2 d3 d4 d5) (.slice oa ((nin x.exps (y.exps.take i)).map (mkd pls)).length oc) ((nin x.exps (y.exps.take i)).map (mkd pls)) wr) := hst
    have x2 := cell_blk (j := 2) hst.x rfl
    have y2 := cell_blk (j := 2) hst.y rfl
    by_cases hlt : i < y.exps.length
    ·obtain ⟨d, hd⟩ : ∃ d, y.exps[i]? = some d := ⟨_, List.getElem?_eq_getElem hlt⟩
     obtain ⟨e1, o1, ha1, hbb, g0⟩ := (T.out.exps _ hst.below).2.2 i d hd
     have HG : Hid (∀ W, Below wr.heap.size wr W → W.cell? ⟨w.heap.size, 2, none⟩ = some (.slice a2 x.exps.length c2) ∧ W.cell? ⟨w.heap.size + 1, 2, none⟩ = some (.slice b2 y.exps.length d2) ∧ W.cell? ⟨e1, o1 + i, none⟩ = some (.string d)) := fun W hb => ⟨cell_blk (j := 2) (HSW.out.call hb).x rfl, cell_blk (j := 2) (HSW.out.call hb).y rfl, cell_keep g0 hb hbb⟩
     have HI : Hid (∀ W, Below wr.heap.size wr W → Calls Tryz.prog 27 #[.slice a2 x.exps.length c2, .string d] W fun e w' => e = .returned (.bool (hasS x.exps d)) ∧ Below wr.heap.size wr w') := fun W hb => (in_at d S.out.l2 (S.out.exps W (HSW.out.below.trans (hb.mono HSW.out.below.size)))).mono fun e w' h => ⟨h.1, bstep hb hb.size h.2⟩
     have HTK : Hid ((nin x.exps (y.exps.take (i + 1))).map (mkd pls) = ((nin x.exps (y.exps.take i)).map (mkd pls)) ++ (if hasS x.exps d then [] else [mkd pls d])) := by
      show _ = _
      rw [nin_take hd, List.map_append]
      cases hasS x.exps d <;> simp
     have hds : d.size ≤ 1048576 := T.out.sexps d (List.mem_of_getElem? hd)
     clear hd hst x2 y2
     generalize ((nin x.exps (y.exps.take i)).map (mkd pls)) = ls at *
     have z2 := (HG.out _ (Below.refl _ _))
     obtain ⟨z2, z3, z4⟩ := z2
     subst ha1
     cases hh : hasS x.exps d
     ·rw [hh] at HI HTK
      have HLN : Hid ((nin x.exps (y.exps.take (i + 1))).map (mkd pls) = ls ++ [mkd pls d]) := by show _ = _; rw [HTK.out]; rfl
      clear hh HTK
      go_wp2_with fail
      go_region_held3 (fun W => W.cell? ⟨w.heap.size, 2, none⟩ = some (.slice a2 x.exps.length c2) ∧ W.cell? ⟨w.heap.size + 1, 2, none⟩ = some (.slice (some ⟨e1, o1, none⟩) y.exps.length d2) ∧ W.cell? ⟨e1, o1 + i, none⟩ = some (.string d))
       (first | exact HG.out _ (by assumption) | exact HG.out _ (Below.refl _ _) | exact HG.out _ (below_drewN (Below.refl _ _) 1))
       ((go_at_call 27; refine (HI.out _ (below_drewN (Below.refl _ _) 1)).mono ?_; rintro e W ⟨rfl, hbW⟩))
      obtain ⟨q2, q3, q4⟩ := HG.out _ hbW
      have HSV : Hid (CmS w _ _ (.slice oa ls.length oc) ls W) := HSW.out.call hbW
      clear hbW HSW z2 z3 z4 HI
      replace HSW := HSV
      clear HSV
      have hnews : ∀ j u, [Value.string (⟨#[43]⟩ ++ d)][j]? = some u → (W.alloc (Obj.cells #[.string (⟨#[43]⟩ ++ d)] 9)).cell? ((⟨W.heap.size, 0, none⟩ : Addr).add j) = some u := by
       intro j u hj
       rw [add_lit, Nat.zero_add]
       exact cell_blk (blk_at _ _ _ (by simp)) (by simpa using hj)
      have HO1 : Hid ((W.alloc (Obj.cells #[.string (⟨#[43]⟩ ++ d)] 9)).ownsRow (w.heap.size + 2) 9 1 (.slice oa ls.length oc) ls.length (ls.map Value.string)) := World.ownsRow.alloc HSW.out.own _
      have hsz := HSW.out.size
      go_wp2_with (at_builtin; go_loud (refine wpList_append_row rfl _ _ 22 rfl (w.heap.size + 2) 9 i9 _ 1 16 Tryz.underlying22 hi9 hz90 hz91 hz92 rfl (by omega) (.slice oa ls.length oc) ls.length (ls.map Value.string) rfl HO1.out (some ⟨W.heap.size, 0, none⟩) 1 1 [.string (⟨#[43]⟩ ++ d)] rfl rfl (fun _ => ⟨_, rfl, hnews⟩) (by intro u hu; simp at hu; subst hu; rfl) (by unfold maxLen; omega) (by first | omega | (simp; omega)) (by first | omega | (simp; omega)) ?_; intro v' w4 hown hgrow hat; refine stop ?_))
      have HST4 : Hid (CmS w _ _ v' (ls ++ [mkd pls d]) w4) := HSW.out.app hown hgrow
      unfold Hid
      clear hown hgrow hat hnews q2 q3 q4 HG
      go_wp2
      go_roundw
      case rel => exact ⟨i + 1, by omega, by go_num, by rw [HLN.out]; exact HST4.out⟩
      case measure => simp [intOf]; omega
     ·rw [hh] at HI HTK
      have HLN : Hid ((nin x.exps (y.exps.take (i + 1))).map (mkd pls) = ls) := by show _ = _; rw [HTK.out]; simp
      clear hh HTK
      go_wp2_with fail
      go_region_held3 (fun W => W.cell? ⟨w.heap.size, 2, none⟩ = some (.slice a2 x.exps.length c2) ∧ W.cell? ⟨w.heap.size + 1, 2, none⟩ = some (.slice (some ⟨e1, o1, none⟩) y.exps.length d2) ∧ W.cell? ⟨e1, o1 + i, none⟩ = some (.string d))
       (first | exact HG.out _ (by assumption) | exact HG.out _ (Below.refl _ _) | exact HG.out _ (below_drewN (Below.refl _ _) 1))
       ((go_at_call 27; refine (HI.out _ (below_drewN (Below.refl _ _) 1)).mono ?_; rintro e W ⟨rfl, hbW⟩))
      have HSV : Hid (CmS w _ _ (.slice oa ls.length oc) ls W) := HSW.out.call hbW
      clear hbW HSW z2 z3 z4 HI HG
      go_wp2
      go_roundw
      case rel => exact ⟨i + 1, by omega, by go_num, by rw [HLN.out]; exact HSV.out⟩
      case measure => simp [intOf]; omega
    ·obtain rfl : i = y.exps.length := by omega
     have hlt' : decide ((y.exps.length : Int) < (y.exps.length : Int)) = false := by simp
     rw [List.take_length] at HSW hoc hll ⊢
     clear hst
     obtain ⟨Q1, hQ1⟩ : ∃ Q1, Q1 = (nin x.exps y.exps).map (mkd pls) := ⟨_, rfl⟩
     have HQ1 : Hid (Q1 = (nin x.exps y.exps).map (mkd pls)) := hQ1
     have hq1 : Q1.length ≤ 1048576 := by rw [hQ1, List.length_map]; exact Nat.le_trans (nin_len _ _) hyl
     rw [← hQ1] at HSW hoc hll ⊢
     have HS1 : Hid (CmS w (srO x a1 a2 a3 a4 a5 c1 c2 c3 c4 c5) (srO y b1 b2 b3 b4 b5 d1 d2 d3 d4 d5) (.slice oa Q1.length oc) Q1 wr) := HSW
     clear HSW hQ1 hll HST2
     go_wp2
     go_loopw [5, 7] (fun v q wr => ∃ i : Nat, i ≤ x.exps.length ∧ q = .int .i64 i ∧ CmS w (srO x a1 a2 a3 a4 a5 c1 c2 c3 c4 c5) (srO y b1 b2 b3 b4 b5 d1 d2 d3 d4 d5) v (Q1 ++ (nin y.exps (x.exps.take i)).map (mkd mns)) wr)
      (fun _ q _ => x.exps.length - (intOf q).toNat)
     case atStart => exact ⟨0, by omega, rfl, by rw [List.take_zero]; simpa [nin] using HS1.out⟩
     case round =>
      obtain ⟨i, hi, rfl, hst⟩ := hrel
      have hll : (Q1 ++ (nin y.exps (x.exps.take i)).map (mkd mns)).length ≤ 3145728 := by
       have := nin_len y.exps (x.exps.take i)
       rw [List.length_take] at this
       rw [List.length_append, List.length_map]; omega
      obtain ⟨oa, oc, rfl, hoc⟩ := hst.own.slice
      have HSW : Hid (CmS w (srO x a1 a2 a3 a4 a5 c1 c2 c3 c4 c5) (srO y b1 b2 b3 b4 b5 d1 d2 d3 d4 d5) (.slice oa (Q1 ++ (nin y.exps (x.exps.take i)).map (mkd mns)).length oc) (Q1 ++ (nin y.exps (x.exps.take i)).map (mkd mns)) wr) := hst
      have x2 := cell_blk (j := 2) hst.x rfl
      have y2 := cell_blk (j := 2) hst.y rfl
      by_cases hlt : i < x.exps.length
      ·obtain ⟨d, hd⟩ : ∃ d, x.exps[i]? = some d := ⟨_, List.getElem?_eq_getElem hlt⟩
       obtain ⟨e1, o1, ha1, hbb, g0⟩ := (S.out.exps _ hst.below).2.2 i d hd
       have HG : Hid (∀ W, Below wr.heap.size wr W → W.cell? ⟨w.heap.size, 2, none⟩ = some (.slice a2 x.exps.length c2) ∧ W.cell? ⟨w.heap.size + 1, 2, none⟩ = some (.slice b2 y.exps.length d2) ∧ W.cell? ⟨e1, o1 + i, none⟩ = some (.string d)) := fun W hb => ⟨cell_blk (j := 2) (HSW.out.call hb).x rfl, cell_blk (j := 2) (HSW.out.call hb).y rfl, cell_keep g0 hb hbb⟩
       have HI : Hid (∀ W, Below wr.heap.size wr W → Calls Tryz.prog 27 #[.slice b2 y.exps.length d2, .string d] W fun e w' => e = .returned (.bool (hasS y.exps d)) ∧ Below wr.heap.size wr w') := fun W hb => (in_at d T.out.l2 (T.out.exps W (HSW.out.below.trans (hb.mono HSW.out.below.size)))).mono fun e w' h => ⟨h.1, bstep hb hb.size h.2⟩
       have HTK : Hid (Q1 ++ (nin y.exps (x.exps.take (i + 1))).map (mkd mns) = (Q1 ++ (nin y.exps (x.exps.take i)).map (mkd mns)) ++ (if hasS y.exps d then [] else [mkd mns d])) := by
        show _ = _
        rw [nin_take hd, List.map_append]
        cases hasS y.exps d <;> simp [List.append_assoc]
       have hds : d.size ≤ 1048576 := S.out.sexps d (List.mem_of_getElem? hd)
       clear hd hst x2 y2
       generalize (Q1 ++ (nin y.exps (x.exps.take i)).map (mkd mns)) = ls at *
       have z2 := (HG.out _ (Below.refl _ _))
       obtain ⟨z2, z3, z4⟩ := z2
       subst ha1
       cases hh : hasS y.exps d
       ·rw [hh] at HI HTK
        have HLN : Hid (Q1 ++ (nin y.exps (x.exps.take (i + 1))).map (mkd mns) = ls ++ [mkd mns d]) := by show _ = _; rw [HTK.out]; rfl
        clear hh HTK
        go_wp2_with fail
        go_region_held3 (fun W => W.cell? ⟨w.heap.size, 2, none⟩ = some (.slice (some ⟨e1, o1, none⟩) x.exps.length c2) ∧ W.cell? ⟨w.heap.size + 1, 2, none⟩ = some (.slice b2 y.exps.length d2) ∧ W.cell? ⟨e1, o1 + i, none⟩ = some (.string d))
         (first | exact HG.out _ (by assumption) | exact HG.out _ (Below.refl _ _) | exact HG.out _ (below_drewN (Below.refl _ _) 1))
         ((go_at_call 27; refine (HI.out _ (below_drewN (Below.refl _ _) 1)).mono ?_; rintro e W ⟨rfl, hbW⟩))
        obtain ⟨q2, q3, q4⟩ := HG.out _ hbW
        have HSV : Hid (CmS w _ _ (.slice oa ls.length oc) ls W) := HSW.out.call hbW
        clear hbW HSW z2 z3 z4 HI
        replace HSW := HSV
        clear HSV
        have hnews : ∀ j u, [Value.string (⟨#[45]⟩ ++ d)][j]? = some u → (W.alloc (Obj.cells #[.string (⟨#[45]⟩ ++ d)] 9)).cell? ((⟨W.heap.size, 0, none⟩ : Addr).add j) = some u := by
         intro j u hj
         rw [add_lit, Nat.zero_add]
         exact cell_blk (blk_at _ _ _ (by simp)) (by simpa using hj)
        have HO1 : Hid ((W.alloc (Obj.cells #[.string (⟨#[45]⟩ ++ d)] 9)).ownsRow (w.heap.size + 2) 9 1 (.slice oa ls.length oc) ls.length (ls.map Value.string)) := World.ownsRow.alloc HSW.out.own _
        have hsz := HSW.out.size
        go_wp2_with (at_builtin; go_loud (refine wpList_append_row rfl _ _ 22 rfl (w.heap.size + 2) 9 i9 _ 1 16 Tryz.underlying22 hi9 hz90 hz91 hz92 rfl (by omega) (.slice oa ls.length oc) ls.length (ls.map Value.string) rfl HO1.out (some ⟨W.heap.size, 0, none⟩) 1 1 [.string (⟨#[45]⟩ ++ d)] rfl rfl (fun _ => ⟨_, rfl, hnews⟩) (by intro u hu; simp at hu; subst hu; rfl) (by unfold maxLen; omega) (by first | omega | (simp; omega)) (by first | omega | (simp; omega)) ?_; intro v' w4 hown hgrow hat; refine stop ?_))
        have HST4 : Hid (CmS w _ _ v' (ls ++ [mkd mns d]) w4) := HSW.out.app hown hgrow
        unfold Hid
        clear hown hgrow hat hnews q2 q3 q4 HG
        go_wp2
        go_roundw
        case rel => exact ⟨i + 1, by omega, by go_num, by rw [HLN.out]; exact HST4.out⟩
        case measure => simp [intOf]; omega
       ·rw [hh] at HI HTK
        have HLN : Hid (Q1 ++ (nin y.exps (x.exps.take (i + 1))).map (mkd mns) = ls) := by show _ = _; rw [HTK.out]; simp
        clear hh HTK
        go_wp2_with fail
        go_region_held3 (fun W => W.cell? ⟨w.heap.size, 2, none⟩ = some (.slice (some ⟨e1, o1, none⟩) x.exps.length c2) ∧ W.cell? ⟨w.heap.size + 1, 2, none⟩ = some (.slice b2 y.exps.length d2) ∧ W.cell? ⟨e1, o1 + i, none⟩ = some (.string d))
         (first | exact HG.out _ (by assumption) | exact HG.out _ (Below.refl _ _) | exact HG.out _ (below_drewN (Below.refl _ _) 1))
         ((go_at_call 27; refine (HI.out _ (below_drewN (Below.refl _ _) 1)).mono ?_; rintro e W ⟨rfl, hbW⟩))
        have HSV : Hid (CmS w _ _ (.slice oa ls.length oc) ls W) := HSW.out.call hbW
        clear hbW HSW z2 z3 z4 HI HG
        go_wp2
        go_roundw
        case rel => exact ⟨i + 1, by omega, by go_num, by rw [HLN.out]; exact HSV.out⟩
        case measure => simp [intOf]; omega
      ·obtain rfl : i = x.exps.length := by omega
       have hlt' : decide ((x.exps.length : Int) < (x.exps.length : Int)) = false := by simp
       rw [List.take_length] at HSW hoc hll ⊢
       clear hst
       obtain ⟨Q2, hQ2⟩ : ∃ Q2, Q2 = Q1 ++ (nin y.exps x.exps).map (mkd mns) := ⟨_, rfl⟩
       have HQ2 : Hid (Q2 = Q1 ++ (nin y.exps x.exps).map (mkd mns)) := hQ2
       have hq2 : Q2.length ≤ 2097152 := by
        have := nin_len y.exps x.exps
        rw [hQ2, List.length_append, List.length_map]
        omega
       rw [← hQ2] at HSW hoc hll ⊢
       have HS2 : Hid (CmS w (srO x a1 a2 a3 a4 a5 c1 c2 c3 c4 c5) (srO y b1 b2 b3 b4 b5 d1 d2 d3 d4 d5) (.slice oa Q2.length oc) Q2 wr) := HSW
       clear HSW hQ2 hll HS1
       go_wp2
       go_loopw [5, 8] (fun v q wr => ∃ i : Nat, i ≤ x.types.length ∧ q = .int .i64 i ∧ CmS w (srO x a1 a2 a3 a4 a5 c1 c2 c3 c4 c5) (srO y b1 b2 b3 b4 b5 d1 d2 d3 d4 d5) v (Q2 ++ (rsq y.types (x.types.take i)).map (mkd tld)) wr)
        (fun _ q _ => x.types.length - (intOf q).toNat)
       case atStart => exact ⟨0, by omega, rfl, by rw [List.take_zero]; simpa [rsq] using HS2.out⟩
       case round =>
        obtain ⟨i, hi, rfl, hst⟩ := hrel
        have hll : (Q2 ++ (rsq y.types (x.types.take i)).map (mkd tld)).length ≤ 3145728 := by
         have := rsq_len y.types (x.types.take i)
         rw [List.length_take] at this
         rw [List.length_append, List.length_map]
         omega
        obtain ⟨oa, oc, rfl, hoc⟩ := hst.own.slice
        have HSW : Hid (CmS w (srO x a1 a2 a3 a4 a5 c1 c2 c3 c4 c5) (srO y b1 b2 b3 b4 b5 d1 d2 d3 d4 d5) (.slice oa (Q2 ++ (rsq y.types (x.types.take i)).map (mkd tld)).length oc) (Q2 ++ (rsq y.types (x.types.take i)).map (mkd tld)) wr) := hst
        have x3 := cell_blk (j := 3) hst.x rfl
        by_cases hlt : i < x.types.length
        ·obtain ⟨d, hd⟩ : ∃ d, x.types[i]? = some d := ⟨_, List.getElem?_eq_getElem hlt⟩
         obtain ⟨e1, o1, cs, ha1, hbb, rfl, hl⟩ := (S.out.types _ hst.below) i d hd
         have g0 : wr.cell? ⟨e1, o1 + i * 2, none⟩ = some (.string d.name) := hl 0 _ rfl
         have g1 : wr.cell? ⟨e1, o1 + i * 2 + 1, none⟩ = some (.int .i64 d.size) := hl 1 _ rfl
         have HG : Hid (∀ W, Below wr.heap.size wr W → (W.cell? ⟨w.heap.size, 3, none⟩ = some (.slice a3 x.types.length c3) ∧ W.cell? ⟨w.heap.size + 1, 0, none⟩ = some (.string y.name) ∧ W.cell? ⟨w.heap.size + 1, 1, none⟩ = some (.slice b1 y.imps.length d1) ∧ W.cell? ⟨w.heap.size + 1, 2, none⟩ = some (.slice b2 y.exps.length d2) ∧ W.cell? ⟨w.heap.size + 1, 3, none⟩ = some (.slice b3 y.types.length d3) ∧ W.cell? ⟨w.heap.size + 1, 4, none⟩ = some (.slice b4 y.defs.length d4) ∧ W.cell? ⟨w.heap.size + 1, 5, none⟩ = some (.slice b5 y.convs.length d5) ∧ W.cell? ⟨e1, o1 + i * 2, none⟩ = some (.string d.name) ∧ W.cell? ⟨e1, o1 + i * 2 + 1, none⟩ = some (.int .i64 d.size))) := fun W hb => ⟨cell_blk (j := 3) (HSW.out.call hb).x rfl, cell_blk (j := 0) (HSW.out.call hb).y rfl, cell_blk (j := 1) (HSW.out.call hb).y rfl, cell_blk (j := 2) (HSW.out.call hb).y rfl, cell_blk (j := 3) (HSW.out.call hb).y rfl, cell_blk (j := 4) (HSW.out.call hb).y rfl, cell_blk (j := 5) (HSW.out.call hb).y rfl, cell_keep g0 hb hbb, cell_keep g1 hb hbb⟩
         have HI : Hid (∀ W, Below wr.heap.size wr W → Calls Tryz.prog 45 #[.agg #[.string y.name, .slice b1 y.imps.length d1, .slice b2 y.exps.length d2, .slice b3 y.types.length d3, .slice b4 y.defs.length d4, .slice b5 y.convs.length d5], .string d.name] W fun e w' => e = .returned (.int .i64 (szT y.types d.name)) ∧ Below wr.heap.size wr w') := fun W hb => (l18Size_any y b1 b2 b3 b4 b5 d1 d2 d3 d4 d5 d.name W hyt (fun t ht => (T.out.stypes t ht).2) (fun w2 h2 => T.out.types w2 (HSW.out.below.trans ((bstep hb hb.size h2).mono HSW.out.below.size)))).mono fun e w' h => ⟨h.1, bstep hb hb.size h.2⟩
         have HTK : Hid (Q2 ++ (rsq y.types (x.types.take (i + 1))).map (mkd tld) = (Q2 ++ (rsq y.types (x.types.take i)).map (mkd tld)) ++ (if rsz1 y.types d then [mkd tld d.name] else [])) := by
          show _ = _
          rw [rsq_take hd, List.map_append]
          cases rsz1 y.types d <;> simp [List.append_assoc]
         have hds : d.name.size ≤ 1048576 := (S.out.stypes d (List.mem_of_getElem? hd)).1
         have HRZ : Hid (rsz1 y.types d = (decide (0 ≤ szT y.types d.name) && !(szT y.types d.name == d.size))) := rfl
         clear hd hst x3 hl g0 g1
         generalize (Q2 ++ (rsq y.types (x.types.take i)).map (mkd tld)) = ls at *
         have z2 := (HG.out _ (Below.refl _ _))
         obtain ⟨z2, z3, z4, z5, z6, z7, z8, z9, z10⟩ := z2
         subst ha1
         generalize szT y.types d.name = z at *
         by_cases hz : 0 ≤ z
         ·have hz1 : decide (0 ≤ z) = true := by simp [hz]
          cases he : (z == d.size)
          ·rw [hz1, he] at HRZ
           have hne : (z != d.size) = true := by simp [bne, he]
           have HLN : Hid (Q2 ++ (rsq y.types (x.types.take (i + 1))).map (mkd tld) = ls ++ [mkd tld d.name]) := by show _ = _; rw [HTK.out, HRZ.out]; rfl
           clear HTK HRZ
           go_wp2_with fail
           go_region_held3 (fun W => W.cell? ⟨w.heap.size, 3, none⟩ = some (.slice (some ⟨e1, o1, none⟩) x.types.length c3) ∧ W.cell? ⟨w.heap.size + 1, 0, none⟩ = some (.string y.name) ∧ W.cell? ⟨w.heap.size + 1, 1, none⟩ = some (.slice b1 y.imps.length d1) ∧ W.cell? ⟨w.heap.size + 1, 2, none⟩ = some (.slice b2 y.exps.length d2) ∧ W.cell? ⟨w.heap.size + 1, 3, none⟩ = some (.slice b3 y.types.length d3) ∧ W.cell? ⟨w.heap.size + 1, 4, none⟩ = some (.slice b4 y.defs.length d4) ∧ W.cell? ⟨w.heap.size + 1, 5, none⟩ = some (.slice b5 y.convs.length d5) ∧ W.cell? ⟨e1, o1 + i * 2, none⟩ = some (.string d.name) ∧ W.cell? ⟨e1, o1 + i * 2 + 1, none⟩ = some (.int .i64 d.size))
            (first | exact HG.out _ (by assumption) | exact HG.out _ (Below.refl _ _) | exact HG.out _ (below_drewN (Below.refl _ _) 1))
            ((go_at_call 45; refine (HI.out _ (below_drewN (Below.refl _ _) 1)).mono ?_; rintro e W ⟨rfl, hbW⟩))
           obtain ⟨q2, _, _, _, _, _, _, q3, q4⟩ := HG.out _ hbW
           have HSV : Hid (CmS w _ _ (.slice oa ls.length oc) ls W) := HSW.out.call hbW
           clear hbW HSW HI
           replace HSW := HSV
           clear HSV
           have hnews : ∀ j u, [Value.string (⟨#[126]⟩ ++ d.name)][j]? = some u → (W.alloc (Obj.cells #[.string (⟨#[126]⟩ ++ d.name)] 9)).cell? ((⟨W.heap.size, 0, none⟩ : Addr).add j) = some u := by
            intro j u hj
            rw [add_lit, Nat.zero_add]
            exact cell_blk (blk_at _ _ _ (by simp)) (by simpa using hj)
           have HO1 : Hid ((W.alloc (Obj.cells #[.string (⟨#[126]⟩ ++ d.name)] 9)).ownsRow (w.heap.size + 2) 9 1 (.slice oa ls.length oc) ls.length (ls.map Value.string)) := World.ownsRow.alloc HSW.out.own _
           have hsz := HSW.out.size
           go_wp2_with (at_builtin; go_loud (refine wpList_append_row rfl _ _ 22 rfl (w.heap.size + 2) 9 i9 _ 1 16 Tryz.underlying22 hi9 hz90 hz91 hz92 rfl (by omega) (.slice oa ls.length oc) ls.length (ls.map Value.string) rfl HO1.out (some ⟨W.heap.size, 0, none⟩) 1 1 [.string (⟨#[126]⟩ ++ d.name)] rfl rfl (fun _ => ⟨_, rfl, hnews⟩) (by intro u hu; simp at hu; subst hu; rfl) (by unfold maxLen; omega) (by first | omega | (simp; omega)) (by first | omega | (simp; omega)) ?_; intro v' w4 hown hgrow hat; refine stop ?_))
           have HST4 : Hid (CmS w _ _ v' (ls ++ [mkd tld d.name]) w4) := HSW.out.app hown hgrow
           unfold Hid
           clear hown hgrow hat hnews q2 q3 q4 HG
           go_wp2
           go_roundw
           case rel => exact ⟨i + 1, by omega, by go_num, by rw [HLN.out]; exact HST4.out⟩
           case measure => simp [intOf]; omega
          ·rw [hz1, he] at HRZ
           have hne : (z != d.size) = false := by simp [bne, he]
           have HLN : Hid (Q2 ++ (rsq y.types (x.types.take (i + 1))).map (mkd tld) = ls) := by show _ = _; rw [HTK.out, HRZ.out]; simp
           clear HTK HRZ
           go_wp2_with fail
           go_region_held3 (fun W => W.cell? ⟨w.heap.size, 3, none⟩ = some (.slice (some ⟨e1, o1, none⟩) x.types.length c3) ∧ W.cell? ⟨w.heap.size + 1, 0, none⟩ = some (.string y.name) ∧ W.cell? ⟨w.heap.size + 1, 1, none⟩ = some (.slice b1 y.imps.length d1) ∧ W.cell? ⟨w.heap.size + 1, 2, none⟩ = some (.slice b2 y.exps.length d2) ∧ W.cell? ⟨w.heap.size + 1, 3, none⟩ = some (.slice b3 y.types.length d3) ∧ W.cell? ⟨w.heap.size + 1, 4, none⟩ = some (.slice b4 y.defs.length d4) ∧ W.cell? ⟨w.heap.size + 1, 5, none⟩ = some (.slice b5 y.convs.length d5) ∧ W.cell? ⟨e1, o1 + i * 2, none⟩ = some (.string d.name) ∧ W.cell? ⟨e1, o1 + i * 2 + 1, none⟩ = some (.int .i64 d.size))
            (first | exact HG.out _ (by assumption) | exact HG.out _ (Below.refl _ _) | exact HG.out _ (below_drewN (Below.refl _ _) 1))
            ((go_at_call 45; refine (HI.out _ (below_drewN (Below.refl _ _) 1)).mono ?_; rintro e W ⟨rfl, hbW⟩))
           have HSV : Hid (CmS w _ _ (.slice oa ls.length oc) ls W) := HSW.out.call hbW
           obtain ⟨q2, _, _, _, _, _, _, q3, q4⟩ := HG.out _ hbW
           clear hbW HSW HI HG
           go_wp2
           go_roundw
           case rel => exact ⟨i + 1, by omega, by go_num, by rw [HLN.out]; exact HSV.out⟩
           case measure => simp [intOf]; omega
         ·have hz1 : decide (0 ≤ z) = false := by simp; omega
          rw [hz1] at HRZ
          have HLN : Hid (Q2 ++ (rsq y.types (x.types.take (i + 1))).map (mkd tld) = ls) := by show _ = _; rw [HTK.out, HRZ.out]; simp
          clear HTK HRZ
          go_wp2_with fail
          go_region_held3 (fun W => W.cell? ⟨w.heap.size, 3, none⟩ = some (.slice (some ⟨e1, o1, none⟩) x.types.length c3) ∧ W.cell? ⟨w.heap.size + 1, 0, none⟩ = some (.string y.name) ∧ W.cell? ⟨w.heap.size + 1, 1, none⟩ = some (.slice b1 y.imps.length d1) ∧ W.cell? ⟨w.heap.size + 1, 2, none⟩ = some (.slice b2 y.exps.length d2) ∧ W.cell? ⟨w.heap.size + 1, 3, none⟩ = some (.slice b3 y.types.length d3) ∧ W.cell? ⟨w.heap.size + 1, 4, none⟩ = some (.slice b4 y.defs.length d4) ∧ W.cell? ⟨w.heap.size + 1, 5, none⟩ = some (.slice b5 y.convs.length d5) ∧ W.cell? ⟨e1, o1 + i * 2, none⟩ = some (.string d.name) ∧ W.cell? ⟨e1, o1 + i * 2 + 1, none⟩ = some (.int .i64 d.size))
           (first | exact HG.out _ (by assumption) | exact HG.out _ (Below.refl _ _) | exact HG.out _ (below_drewN (Below.refl _ _) 1))
           ((go_at_call 45; refine (HI.out _ (below_drewN (Below.refl _ _) 1)).mono ?_; rintro e W ⟨rfl, hbW⟩))
          have HSV : Hid (CmS w _ _ (.slice oa ls.length oc) ls W) := HSW.out.call hbW
          obtain ⟨q2, _, _, _, _, _, _, q3, q4⟩ := HG.out _ hbW
          clear hbW HSW HI HG
          go_wp2
          go_roundw
          case rel => exact ⟨i + 1, by omega, by go_num, by rw [HLN.out]; exact HSV.out⟩
          case measure => simp [intOf]; omega
        ·obtain rfl : i = x.types.length := by omega
         have hlt' : decide ((x.types.length : Int) < (x.types.length : Int)) = false := by simp
         rw [List.take_length] at HSW hoc hll ⊢
         have HQ3 : Hid (cmpL x y = Q2 ++ (rsq y.types x.types).map (mkd tld)) := by
          show _ = _
          rw [HQ.out, HQ2.out, HQ1.out, List.append_assoc]
          rfl
         clear hst
         go_wp2
         go_ret
         rw [HQ3.out]
         exact ⟨_, rfl, HSW.out.own.weak (by omega), HSW.out.below⟩
end Go.Proofs.YtamjofdgikifnaaGreat
