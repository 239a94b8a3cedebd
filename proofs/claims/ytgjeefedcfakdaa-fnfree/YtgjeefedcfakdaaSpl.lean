/- The model's reader: a list. The model's reader: a datum. -/
import Derived.Test.YtgjeefedcfakdaaPrq
set_option linter.unusedVariables false
namespace Go.Proofs.Ytgjeefedcfakdaa.R2
open Go.ChangeShapes Go.WideShapes Go.ChangeAt Go.RowKit
def P3 (w : World) (v : Value) (ps : List Int) (W : World) : Prop := W.ownsRow (w.heap.size + 2) 3 1 v ps.length (ps.map (Value.int .i64 ·))
theorem P3.blk {w W : World} {v : Value} {ps : List Int} {b : Nat} (h : P3 w v ps W) (hb : v.ownBlock = some b) : w.heap.size + 2 ≤ b ∧ ∃ cur, W.heap[b]? = some (.cells cur 3 (0, 0)) := by
 obtain ⟨hl, ⟨hv, _⟩ | ⟨g, cap, cur, hv, a1, hblk, a3, a4, a5, a6⟩⟩ := h
 ·rw [hv] at hb; cases hb
 ·rw [hv] at hb
  simp only [Value.ownBlock, Option.some.injEq] at hb
  subst hb
  exact ⟨a1, cur, hblk⟩
theorem P3.keep {w W W' : World} {v : Value} {ps : List Int} (h : P3 w v ps W) (hk : ∀ (b : Nat) (cur : Array Value), w.heap.size + 2 ≤ b → W.heap[b]? = some (Obj.cells cur 3 (0, 0)) → W'.heap[b]? = W.heap[b]?) : P3 w v ps W' :=
 own_other h fun b hb => by
  obtain ⟨h1, cur, h2⟩ := P3.blk h hb
  exact hk b cur h1 h2
theorem P3.below {w W W' : World} {v : Value} {ps : List Int} (h : P3 w v ps W) (hb : Below W.heap.size W W') : P3 w v ps W' := P3.keep h fun b cur _ hc => hb.block b (alt hc)
theorem P3.ok {w W W' : World} {v : Value} {ps : List Int} (h : P3 w v ps W) (hk : Lib.OthersKept 98 none W W') : P3 w v ps W' := P3.keep h fun b cur _ hc => (hk b _ hc (by simp) (fun _ _ e => by injection e with _ e; cases e)).trans hc.symm
theorem P3.put6 {w W : World} {v : Value} {ps : List Int} {v0 v1 v2 v3 v4 v5 : Value} (h : P3 w v ps W) : P3 w v ps (put6 W w.heap.size v0 v1 v2 v3 v4 v5) := P3.keep h fun b cur hb _ => put6_other (by omega)
theorem P3.two {w W : World} {v : Value} {ps : List Int} {x y : Value} (h : P3 w v ps W) : P3 w v ps ((W.setCell ⟨w.heap.size, 1, none⟩ x).setCell ⟨w.heap.size, 2, none⟩ y) := P3.keep h fun b cur hb _ => (heap_setCell_other _ _ _ _ (by show b ≠ w.heap.size; omega)).trans (heap_setCell_other _ _ _ _ (by show b ≠ w.heap.size; omega))
theorem P3.parts {w W : World} {pa : Option Addr} {pc : Nat} {ps : List Int} (h : P3 w (.slice pa ps.length pc) ps W) : PartsAt W W.heap.size pa ps := by
 intro i x hx
 have hi := (llt hx)
 obtain ⟨hl, ⟨hv, h0⟩ | ⟨g, cap, cur, hv, a1, hblk, a3, a4, a5, a6⟩⟩ := h
 ·omega
 ·injection hv with e1 e2 e3
  refine ⟨g, 0, cur, e1, (alt hblk), hblk, ?_⟩
  have : (cur.toList.take (ps.length * 1))[i]? = some (.int .i64 x) := by rw [a6, List.getElem?_map, hx]; rfl
  rw [List.getElem?_take_of_lt (by omega)] at this
  rw [Nat.zero_add]
  simpa using this
theorem DSt.grow {s : ByteArray} {bo : Option Addr} {m cb B : Nat} {w : World} {r : Except Nat St} {i : Nat} {la bd : Int} {ao : Option Addr} {n ca : Nat} {W W' : World} {v : Value} {ps : List Int} (hB : B ≤ w.heap.size) (h : DSt s bo m cb B w r i la bd ao n ca W) (hp : P3 w v ps W) (hg : W.grownBy W' v.ownBlock) : DSt s bo m cb B w r i la bd ao n ca W' := by
 have hz := DSt.size h
 obtain ⟨k0, k1, h3, h4, h5⟩ := h
 have ot : ∀ k, k < w.heap.size + 2 → k < W.heap.size → W'.heap[k]? = W.heap[k]? := fun k hk hk2 => hg.block k hk2 fun e => by
  have := (P3.blk hp e.symm).1
  omega
 refine ⟨(ot _ (by omega) (by omega)).trans k0, (ot _ (by omega) (by omega)).trans k1, h3.grown hg (by omega) (fun k hk => by have := (P3.blk hp hk).1; omega), ok_high h4 (fun b hb => ot b (by omega) (by omega)), h5.keep fun b cur hc => hg.block b (alt hc) fun e => ?_⟩
 obtain ⟨_, cur', hc'⟩ := P3.blk hp e.symm
 have := hc.symm.trans hc'
 simp at this
theorem DSt.two' {s : ByteArray} {bo : Option Addr} {m cb B : Nat} {w : World} {r : Except Nat St} {i : Nat} {la bd : Int} {ao : Option Addr} {n ca : Nat} {W : World} (hB : B ≤ w.heap.size) {b e : Nat} (he : e ≤ s.size) (h : DSt s bo m cb B w r i la bd ao n ca W) : DSt s bo m cb B w (r.map fun st => ⟨e, b, st.cs⟩) e b bd ao n ca ((W.setCell ⟨w.heap.size, 1, none⟩ (.int .i64 e)).setCell ⟨w.heap.size, 2, none⟩ (.int .i64 b)) := by
 cases r with
 | ok st => exact DSt.two hB he h
 | error p =>
  obtain ⟨k0, k1, h3, h4, g1, g2, g3⟩ := h
  have ot : ∀ j, j ≠ w.heap.size → ((W.setCell ⟨w.heap.size, 1, none⟩ (.int .i64 e)).setCell ⟨w.heap.size, 2, none⟩ (.int .i64 b)).heap[j]? = W.heap[j]? := fun j hj => (heap_setCell_other _ _ _ _ hj).trans (heap_setCell_other _ _ _ _ hj)
  have kk := heap_setCell_same _ _ 2 _ _ (.int .i64 (b : Int)) (heap_setCell_same _ _ 1 _ _ (.int .i64 (e : Int)) k0)
  exact ⟨kk, (ot _ (by omega)).trans k1, (h3.setCell (p := ⟨w.heap.size, _, none⟩) hB _).setCell (p := ⟨w.heap.size, _, none⟩) hB _, ok_high h4 (fun b hb => ot b (by omega)), he, g2, g3⟩
def LRel (s : ByteArray) (bo : Option Addr) (m cb B f deep : Nat) (w : World) (L : Except Nat St) (o : Value) (wr : World) : Prop :=
 (∃ (ps : List Int) (st : St) (ao pa : Option Addr) (ca pc g : Nat), o = .slice pa ps.length pc ∧ DSt s bo m cb B w (.ok st) st.nx st.la (-1) ao st.cs.length ca wr ∧ P3 w (.slice pa ps.length pc) ps wr ∧ lstP s g (deep + 1) ps st = L ∧ 2 * (s.size - st.nx) + 2 ≤ g ∧ g ≤ f ∧ ps.length ≤ st.nx) ∨
 (∃ (p i : Nat) (la : Int) (ao : Option Addr) (n ca : Nat), DSt s bo m cb B w (.error p) i la p ao n ca wr ∧ L = .error p)
def LMea (s : ByteArray) (w wr : World) : Nat := if intOf ((wr.cell? ⟨w.heap.size, 3, none⟩).getD undef) < 0 then s.size + 1 - (intOf ((wr.cell? ⟨w.heap.size, 1, none⟩).getD undef)).toNat else 0
theorem LMea_ok {s : ByteArray} {bo : Option Addr} {m cb B : Nat} {w : World} {st : St} {i : Nat} {la : Int} {ao : Option Addr} {n ca : Nat} {W : World} (h : DSt s bo m cb B w (.ok st) i la (-1) ao n ca W) : LMea s w W = s.size + 1 - i := by
 unfold LMea
 rw [cell_blk (j := 3) h.1 rfl, cell_blk (j := 1) h.1 rfl]
 simp [intOf]
theorem LMea_err {s : ByteArray} {bo : Option Addr} {m cb B : Nat} {w : World} {p i : Nat} {la : Int} {ao : Option Addr} {n ca : Nat} {W : World} (h : DSt s bo m cb B w (.error p) i la p ao n ca W) : LMea s w W = 0 := by
 unfold LMea
 rw [cell_blk (j := 3) h.1 rfl, if_neg (by simp [intOf])]
theorem P3.none {w W : World} (hg : w.heap.size + 2 ≤ W.heap.size) : P3 w (.slice (some ⟨W.heap.size, 0, none⟩) 0 0) [] (W.alloc (.cells #[] 3)) :=
 ⟨rfl, .inr ⟨W.heap.size, 0, #[], rfl, hg, blk_at _ _ _ rfl, Nat.le_refl _, by simp [maxLen], rfl, rfl⟩⟩
theorem dot_eq1 {s : ByteArray} {B : Nat} {r4 : Except Nat St} {i4 n4 c4 : Nat} {l4 b4 : Int} {a4 : Option Addr} {W : World} (ps : List Int) (h : RepF s B r4 i4 l4 b4 a4 n4 c4 W) (hp : ((tk s (skAt s i4)).toList == [41]) = true) :
  ((Except.map (fun st => (⟨tkE s (skAt s i4), skAt s i4, st.cs⟩ : St)) (Except.map (fun st => (⟨skAt s st.nx, st.la, st.cs⟩ : St)) r4)).bind fun st => prsP st ps) = r4.bind fun st2 => if ((tk s (skAt s st2.nx)).toList == [41]) = true then prsP ⟨tkE s (skAt s st2.nx), skAt s st2.nx, st2.cs⟩ ps else .error (skAt s st2.nx) := by
 cases r4 with
 | error p => rfl
 | ok st =>
  obtain ⟨_, _, rfl, _⟩ := h
  exact (if_pos hp).symm
theorem dot_eq2 {s : ByteArray} {B : Nat} {r4 : Except Nat St} {i4 n4 c4 : Nat} {l4 b4 : Int} {a4 : Option Addr} {W : World} (ps : List Int) (h : RepF s B r4 i4 l4 b4 a4 n4 c4 W) (hp : ¬ ((tk s (skAt s i4)).toList == [41]) = true) :
  ((Except.map (fun st => (⟨skAt s st.nx, st.la, st.cs⟩ : St)) r4).bind fun _ => (.error (skAt s i4) : Except Nat St)) = r4.bind fun st2 => if ((tk s (skAt s st2.nx)).toList == [41]) = true then prsP ⟨tkE s (skAt s st2.nx), skAt s st2.nx, st2.cs⟩ ps else .error (skAt s st2.nx) := by
 cases r4 with
 | error p => rfl
 | ok st =>
  obtain ⟨_, _, rfl, _⟩ := h
  exact (if_neg hp).symm
theorem LRel.next {s : ByteArray} {bo : Option Addr} {m cb B f deep : Nat} {w : World} {L r4 : Except Nat St} {st : St} {i4 n4 c4 g gg cap : Nat} {l4 b4 : Int} {a4 : Option Addr} {W : World} {ps : List Int} (h : DSt s bo m cb B w r4 i4 l4 b4 a4 n4 c4 W) (hp : P3 w (.slice (some ⟨gg, 0, none⟩) (ps ++ [(n4 : Int) - 1]).length cap) (ps ++ [(n4 : Int) - 1]) W)
  (he : (r4.bind fun st2 => lstP s g (deep + 1) (ps ++ [st2.top]) st2) = L) (hg : ∀ st', r4 = .ok st' → st.nx < st'.nx ∧ st'.nx ≤ s.size) (hf : 2 * (s.size - st.nx) + 2 ≤ g + 1) (hgf : g + 1 ≤ f) (hl : ps.length ≤ st.nx) : LRel s bo m cb B f deep w L (.slice (some ⟨gg, 0, none⟩) (ps.length + 1) cap) W := by
 cases r4 with
 | error p =>
  have hb := h.2.2.2.2.2.2
  simp only at hb
  subst hb
  exact .inr ⟨p, i4, l4, a4, n4, c4, h, he.symm⟩
 | ok st2 =>
  obtain ⟨h1, h2⟩ := hg st2 rfl
  obtain ⟨rfl, rfl, rfl, rfl, _⟩ := h.2.2.2.2.2.2
  refine .inl ⟨ps ++ [(st2.cs.length : Int) - 1], st2, a4, some ⟨gg, 0, none⟩, c4, cap, g, by simp, h, hp, he, by omega, by omega, by simp; omega⟩
theorem LMea_lt {s : ByteArray} {bo : Option Addr} {m cb B : Nat} {w wr : World} {r4 : Except Nat St} {st : St} {i4 n4 c4 : Nat} {l4 b4 : Int} {a4 : Option Addr} {W : World} (h : DSt s bo m cb B w r4 i4 l4 b4 a4 n4 c4 W) (hg : ∀ st', r4 = .ok st' → st.nx < st'.nx ∧ st'.nx ≤ s.size) (hs : st.nx ≤ s.size) (hm : LMea s w wr = s.size + 1 - st.nx) : LMea s w W < LMea s w wr := by
 rw [hm]
 cases r4 with
 | error p =>
  have hb := h.2.2.2.2.2.2
  simp only at hb
  subst hb
  rw [LMea_err h]
  omega
 | ok st2 =>
  obtain ⟨h1, h2⟩ := hg st2 rfl
  obtain ⟨rfl, rfl, rfl, rfl, _⟩ := h.2.2.2.2.2.2
  rw [LMea_ok h]
  omega
theorem bldInfo3 : (Try.prog.info? 3).map (fun i => (i.zero, i.size, i.bytes)) = some (some (.int .i64 0), 1, 8) := by kernel_rfl
set_option maxRecDepth 100000 in
set_option maxHeartbeats 4000000 in
theorem l2Datum_list (s : ByteArray) (bo : Option Addr) (m cb B : Nat) (st : St) (ao : Option Addr) (ca deep : Nat) (w : World) (hs : s.size ≤ 1048576) (hB : B ≤ w.heap.size) (h : RepF s B (.ok st) st.nx st.la (-1) ao st.cs.length ca w) (f : Nat) (hN : tkE s (skAt s st.nx) ≠ skAt s st.nx) (hq1 : ((tk s (skAt s st.nx)).toList == [40]) = true) (hd : deep < 24) (hf : 2 * (s.size - st.nx) + 1 ≤ f + 1) (IH : ∀ g, g ≤ f → DatC s bo m cb B g (deep + 1)) :
  Calls Try.prog 53 #[.agg #[.string s, .int .i64 st.nx, .int .i64 st.la, .int .i64 (-1), .slice ao st.cs.length ca, .slice bo m cb], .int .i64 deep] w fun e w' => SpPost s bo m cb B (lstP s f (deep + 1) [] ⟨tkE s (skAt s st.nx), skAt s st.nx, st.cs⟩) w e w' := by
 obtain ⟨i3, hi3, hz30, hz31, hz32⟩ := info_parts bldInfo3
 obtain ⟨L, hL⟩ : ∃ L, L = lstP s f (deep + 1) [] ⟨tkE s (skAt s st.nx), skAt s st.nx, st.cs⟩ := ⟨_, rfl⟩
 rw [← hL]
 have HL0 : Hid (lstP s f (deep + 1) [] ⟨tkE s (skAt s st.nx), skAt s st.nx, st.cs⟩ = L) := hL.symm
 clear hL
 have HIH : Hid (∀ g, g ≤ f → DatC s bo m cb B g (deep + 1)) := IH
 clear IH
 have HD : Hid (DSt s bo m cb B w (.ok st) st.nx st.la (-1) ao st.cs.length ca _) := DSt.start hB h
 have hi := h.1
 have hib := skAt_le s st.nx hi
 have hte := tkE_le s _ hib
 clear h
 go_enter Try.func53, Try.ntmps53
 go_wp2_with fail
 refine (l2Skip_any s st.nx st.la (-1) ao bo st.cs.length ca m cb _ hs hi).mono ?_
 rintro e w1 ⟨rfl, hb1⟩
 have HD1 : Hid (DSt s bo m cb B w (.ok st) st.nx st.la (-1) ao st.cs.length ca w1) := DSt.below hB HD.out hb1
 clear HD hb1
 have k0 := HD1.out.1
 obtain ⟨x0, x1, x2, x3, x4, x5⟩ := zn6 k0 rfl rfl rfl rfl rfl rfl
 have f0 := frozen_blk k0 0
 have f1 := frozen_blk k0 1
 have f2 := frozen_blk k0 2
 have f3 := frozen_blk k0 3
 have f4 := frozen_blk k0 4
 have f5 := frozen_blk k0 5
 clear k0
 go_wp2_with fail
 refine (l2Token_any s _ _ hs hib).mono ?_
 rintro e w2 ⟨rfl, hw2⟩
 have HD2 : Hid (DSt s bo m cb B w (.ok ⟨skAt s st.nx, st.la, st.cs⟩) (skAt s st.nx) st.la (-1) ao st.cs.length ca w2) := by
  rw [hw2]
  exact DSt.lay' hB HD1.out (RepF.skip HD1.out.2.2.2.2)
 clear hw2 HD1 x0 f0 x1 f1 x2 f2 x3 f3 x4 f4 x5 f5
 have k0 := HD2.out.1
 obtain ⟨x0, x1, x2, x3, x4, x5⟩ := zn6 k0 rfl rfl rfl rfl rfl rfl
 have f0 := frozen_blk k0 0
 have f1 := frozen_blk k0 1
 have f2 := frozen_blk k0 2
 have f3 := frozen_blk k0 3
 have f4 := frozen_blk k0 4
 have f5 := frozen_blk k0 5
 clear k0
 have hge := tkE_ge s (skAt s st.nx)
 have hge2 := skAt_ge s st.nx
 have q0 : decide ((tkE s (skAt s st.nx) : Int) = (skAt s st.nx : Int)) = false := by simp; omega
 have q1 : decide ((24 : Int) ≤ (deep : Int)) = false := by simp; omega
 have q0b : ((tkE s (skAt s st.nx) : Int) == (skAt s st.nx : Int)) = false := by simp; omega
 have HD3 : Hid (DSt s bo m cb B w (.ok ⟨tkE s (skAt s st.nx), skAt s st.nx, st.cs⟩) _ _ _ _ _ _ _) := DSt.two (st := ⟨skAt s st.nx, st.la, st.cs⟩) (b := skAt s st.nx) hB hte HD2.out
 simp only [tk] at hq1
 have hq2 : ((s.extract (skAt s st.nx) (tkE s (skAt s st.nx))).toList == [39]) = false := by
  rw [beq_iff_eq.1 hq1]; rfl
 go_wp2_with fail
 go_loopw [10] (fun o wr => LRel s bo m cb B f deep w L o wr) (fun _ wr => LMea s w wr)
 case atStart =>
  have hz := DSt.size HD2.out
  have hwz : ((w2.setCell ⟨w.heap.size, 1, none⟩ (.int .i64 (tkE s (skAt s st.nx) : Nat))).setCell ⟨w.heap.size, 2, none⟩ (.int .i64 (skAt s st.nx : Nat))).heap.size = w2.heap.size := by simp
  have hbl := (Below.refl _ ((w2.setCell ⟨w.heap.size, 1, none⟩ (.int .i64 (tkE s (skAt s st.nx) : Nat))).setCell ⟨w.heap.size, 2, none⟩ (.int .i64 (skAt s st.nx : Nat)))).alloc (Nat.le_refl _) (.cells #[] 3 (0, 0))
  have hp3 := P3.none (w := w) (W := (w2.setCell ⟨w.heap.size, 1, none⟩ (.int .i64 (tkE s (skAt s st.nx) : Nat))).setCell ⟨w.heap.size, 2, none⟩ (.int .i64 (skAt s st.nx : Nat))) (by rw [hwz]; omega)
  rw [hwz] at hp3
  exact .inl ⟨[], ⟨tkE s (skAt s st.nx), skAt s st.nx, st.cs⟩, ao, _, ca, 0, f, rfl, DSt.below hB HD3.out hbl, hp3, HL0.out, by show 2 * (s.size - tkE s (skAt s st.nx)) + 2 ≤ f; omega, Nat.le_refl _, Nat.zero_le _⟩
 case round =>
  clear HD2 HD3 HL0 hq1 hq2 q0 q0b hN hf hge hge2 hte hib hi x0 f0 x1 f1 x2 f2 x3 f3 x4 f4 x5 f5
  rcases hrel with ⟨ps, st, ao, pa, ca, pc, g, rfl, hds, hpt, hlst, hfu, hgf, hpl⟩ | ⟨p, i, la, ao, n, ca, hds, hL⟩
  ·obtain ⟨g, rfl⟩ : ∃ g', g = g' + 1 := ⟨g - 1, by omega⟩
   have HD : Hid (DSt s bo m cb B w (.ok st) st.nx st.la (-1) ao st.cs.length ca wr) := hds
   have HO : Hid (P3 w (.slice pa ps.length pc) ps wr) := hpt
   have HL : Hid (lstP s (g + 1) (deep + 1) ps st = L) := hlst
   clear hds hpt hlst
   have hi := HD.out.2.2.2.2.1
   have hib := skAt_le s st.nx hi
   have hge2 := skAt_ge s st.nx
   have hte := tkE_le s _ hib
   have hge := tkE_ge s (skAt s st.nx)
   have k0 := HD.out.1
   obtain ⟨x0, x1, x2, x3, x4, x5⟩ := zn6 k0 rfl rfl rfl rfl rfl rfl
   have f0 := frozen_blk k0 0
   have f1 := frozen_blk k0 1
   have f2 := frozen_blk k0 2
   have f3 := frozen_blk k0 3
   have f4 := frozen_blk k0 4
   have f5 := frozen_blk k0 5
   clear k0
   go_wp2_with fail
   refine (l2Skip_any s st.nx st.la (-1) ao bo st.cs.length ca m cb _ hs hi).mono ?_
   rintro e w1 ⟨rfl, hb1⟩
   have HD1 : Hid (DSt s bo m cb B w (.ok st) st.nx st.la (-1) ao st.cs.length ca w1) := DSt.below hB HD.out hb1
   have HO1 : Hid (P3 w (.slice pa ps.length pc) ps w1) := P3.below HO.out hb1
   clear hb1 HO x0 f0 x1 f1 x2 f2 x3 f3 x4 f4 x5 f5
   have k0 := HD1.out.1
   obtain ⟨x0, x1, x2, x3, x4, x5⟩ := zn6 k0 rfl rfl rfl rfl rfl rfl
   have f0 := frozen_blk k0 0
   have f1 := frozen_blk k0 1
   have f2 := frozen_blk k0 2
   have f3 := frozen_blk k0 3
   have f4 := frozen_blk k0 4
   have f5 := frozen_blk k0 5
   clear k0
   go_wp2_with fail
   refine (l2Token_any s _ _ hs hib).mono ?_
   rintro e w2 ⟨rfl, hw2⟩
   have HD2 : Hid (DSt s bo m cb B w (.ok ⟨skAt s st.nx, st.la, st.cs⟩) (skAt s st.nx) st.la (-1) ao st.cs.length ca w2) := by
    rw [hw2]
    exact DSt.lay' hB HD1.out (RepF.skip HD1.out.2.2.2.2)
   have HO2 : Hid (P3 w (.slice pa ps.length pc) ps w2) := by
    rw [hw2]
    exact P3.put6 HO1.out
   clear hw2 HD1 HO1 x0 f0 x1 f1 x2 f2 x3 f3 x4 f4 x5 f5
   have k0 := HD2.out.1
   obtain ⟨x0, x1, x2, x3, x4, x5⟩ := zn6 k0 rfl rfl rfl rfl rfl rfl
   have f0 := frozen_blk k0 0
   have f1 := frozen_blk k0 1
   have f2 := frozen_blk k0 2
   have f3 := frozen_blk k0 3
   have f4 := frozen_blk k0 4
   have f5 := frozen_blk k0 5
   clear k0
   have HD3 : Hid (DSt s bo m cb B w (.ok ⟨tkE s (skAt s st.nx), skAt s st.nx, st.cs⟩) _ _ _ _ _ _ _) := DSt.two (st := ⟨skAt s st.nx, st.la, st.cs⟩) (b := skAt s st.nx) hB hte HD2.out
   have HO3 : Hid (P3 w (.slice pa ps.length pc) ps ((w2.setCell ⟨w.heap.size, 1, none⟩ (.int .i64 (tkE s (skAt s st.nx) : Nat))).setCell ⟨w.heap.size, 2, none⟩ (.int .i64 (skAt s st.nx : Nat)))) := P3.two HO2.out
   by_cases hp : ((tk s (skAt s st.nx)).toList == [41]) = true
   ·skip
    have HE : Hid (((putP ⟨tkE s (skAt s st.nx), skAt s st.nx, st.cs⟩ nilD).bind fun st2 => prsP st2 ps) = L) := by
     show _ = _
     rw [← HL.out, lstP_succ, if_pos hp]
    simp only [tk] at hp
    clear HD2 HO2 HD
    go_wp2_with fail
    refine (l2Put_any s bo m cb B (.ok ⟨tkE s (skAt s st.nx), skAt s st.nx, st.cs⟩) _ _ _ _ _ _ nilD _ (by have := DSt.size HD3.out; omega) HD3.out.2.2.2.2).mono ?_
    clear x0 f0 x1 f1 x2 f2 x3 f3 x4 f4 x5 f5
    intro e v4 hp4
    have HO4 : Hid (P3 w (.slice pa ps.length pc) ps v4) := by
     obtain ⟨_, _, _, _, hk⟩ := hp4
     exact P3.ok HO3.out hk
    obtain ⟨i4, l4, b4, a4, n4, c4, rfl, kx, kz, hb4, hk4, hr4⟩ := DSt.got HD3.out hp4
    have hz4 := (alt kz)
    have HZ4 : Hid (B ≤ v4.heap.size) := by show _ ≤ _; omega
    have KZ4 : Hid _ := kz
    have HB4 : Hid _ := hb4
    have HK4 : Hid _ := hk4
    have HR4 : Hid (RepF s B (putP ⟨tkE s (skAt s st.nx), skAt s st.nx, st.cs⟩ nilD) i4 l4 b4 a4 n4 c4 v4) := hr4
    clear kx kz hb4 hk4 hr4 hp4 hz4 HD3 HO3
    go_wp2_with fail
    refine (l2List_any s bo m cb B _ _ _ _ _ _ _ _ _ ps _ HZ4.out HR4.out (by omega) (P3.parts HO4.out)).mono ?_
    intro e w9 hp
    obtain ⟨i9, la9, bd9, ao9, n9, ca9, rfl, kz, hb9, hk9, hr9⟩ := got0 KZ4.out HB4.out HK4.out hp
    have KZ : Hid (w9.heap[w.heap.size + 1]? = some rz) := kz
    have HB9 : Hid (Below B w w9) := hb9
    have HK9 : Hid (Lib.OthersKept 98 none w w9) := hk9
    have HR9 : Hid _ := hr9
    obtain ⟨z0, z1, z2, z3, z4, z5⟩ := zn6 kz rfl rfl rfl rfl rfl rfl
    have y0 := frozen_blk kz 0
    have y1 := frozen_blk kz 1
    have y2 := frozen_blk kz 2
    have y3 := frozen_blk kz 3
    have y4 := frozen_blk kz 4
    have y5 := frozen_blk kz 5
    clear kz hb9 hk9 hr9 hp
    go_wp2
    refine bodyPost_ret (ret6 rfl rfl (.string s) (.int .i64 i9) (.int .i64 la9) (.int .i64 bd9) (.slice ao9 n9 ca9) (.slice bo m cb) KZ.out) rfl ?_
    exact end6 (by omega) (by omega) HE.out HR9.out KZ.out HB9.out HK9.out
   ·have hp' : ((s.extract (skAt s st.nx) (tkE s (skAt s st.nx))).toList == [41]) = false := by simpa [tk] using hp
    by_cases hdot : ((tk s (skAt s st.nx)).toList == [46]) = true ∧ ps ≠ []
    ·skip
     obtain ⟨hdt, hpz⟩ := hdot
     have hps : ps.length ≠ 0 := fun e => hpz (List.eq_nil_of_length_eq_zero e)
     have qd : decide ((0 : Int) < (ps.length : Int)) = true := by simp; omega
     have HE : Hid ((datP s g (deep + 1) (skAt s (tkE s (skAt s st.nx))) st.cs).bind (fun st2 => if ((tk s (skAt s st2.nx)).toList == [41]) = true then prsP ⟨tkE s (skAt s st2.nx), skAt s st2.nx, st2.cs⟩ ps else .error (skAt s st2.nx)) = L) := by
      show _ = _
      rw [← HL.out, lstP_succ, if_neg hp, if_pos ⟨hdt, hpz⟩]
     simp only [tk] at hdt
     clear HD2 HO2 HD hp hpz
     go_wp2_with fail
     refine (HIH.out g (by omega) (.ok ⟨tkE s (skAt s st.nx), skAt s st.nx, st.cs⟩) _ _ _ _ _ _ _ (by have := DSt.size HD3.out; omega) HD3.out.2.2.2.2 ?_).mono ?_
     ·intro st' e
      obtain rfl := Except.ok.inj e
      show 2 * (s.size - tkE s (skAt s st.nx)) + 1 ≤ g
      omega
     clear x0 f0 x1 f1 x2 f2 x3 f3 x4 f4 x5 f5
     intro e v4 hp4
     have HO4 : Hid (P3 w (.slice pa ps.length pc) ps v4) := by
      obtain ⟨_, _, _, _, hk⟩ := hp4
      exact P3.ok HO3.out hk
     obtain ⟨i4, l4, b4, a4, n4, c4, rfl, kx, kz, hb4, hk4, hr4⟩ := DSt.got HD3.out hp4
     have hi4 : i4 ≤ s.size := hr4.1
     have KX4 : Hid _ := kx
     have KZ4 : Hid _ := kz
     have HB4 : Hid _ := hb4
     have HK4 : Hid _ := hk4
     have HR4 : Hid (RepF s B (datP s g (deep + 1) (skAt s (tkE s (skAt s st.nx))) st.cs) i4 l4 b4 a4 n4 c4 v4) := hr4
     clear kx kz hb4 hk4 hr4 hp4 HD3 HO3
     go_wp2_with fail
     refine (l2Skip_any s i4 l4 b4 a4 bo n4 c4 m cb _ hs hi4).mono ?_
     rintro e w5 ⟨rfl, hb5⟩
     have hz5 := (alt KZ4.out)
     have KX5 : Hid _ := (hb5.block _ (by omega)).trans KX4.out
     have KZ5 : Hid _ := (hb5.block _ (by omega)).trans KZ4.out
     have HB5 : Hid _ := HB4.out.trans (hb5.mono (by omega))
     have HK5 : Hid (Lib.OthersKept 98 none w w5) := fun k o hk hkb ho => (ok_below hb5) k o (HK4.out k o hk hkb ho) hkb ho
     have HR5 : Hid (RepF s B (datP s g (deep + 1) (skAt s (tkE s (skAt s st.nx))) st.cs) i4 l4 b4 a4 n4 c4 w5) := RepF.below HR4.out hb5
     have HO5 : Hid (P3 w (.slice pa ps.length pc) ps w5) := P3.below HO4.out hb5
     clear hb5 KX4 KZ4 HB4 HK4 HR4 HO4 hz5
     have kx := KX5.out
     obtain ⟨x0, x1, x2, x3, x4, x5⟩ := zn6 kx rfl rfl rfl rfl rfl rfl
     have f0 := frozen_blk kx 0
     have f1 := frozen_blk kx 1
     have f2 := frozen_blk kx 2
     have f3 := frozen_blk kx 3
     have f4 := frozen_blk kx 4
     have f5 := frozen_blk kx 5
     clear kx
     have hib4 := skAt_le s i4 hi4
     have hte4 := tkE_le s _ hib4
     have hge4 := tkE_ge s (skAt s i4)
     go_wp2_with fail
     refine (l2Token_any s _ _ hs hib4).mono ?_
     rintro e w6 ⟨rfl, hw6⟩
     have HD6 : Hid (DSt s bo m cb B w (Except.map (fun st => (⟨skAt s st.nx, st.la, st.cs⟩ : St)) (datP s g (deep + 1) (skAt s (tkE s (skAt s st.nx))) st.cs)) (skAt s i4) l4 b4 a4 n4 c4 w6) := by
      rw [hw6]
      exact DSt.lay hB KX5.out KZ5.out HB5.out HK5.out (RepF.skip HR5.out)
     have HO6 : Hid (P3 w (.slice pa ps.length pc) ps w6) := by
      rw [hw6]
      exact P3.put6 HO5.out
     clear hw6 KX5 KZ5 HB5 HK5 HO5 x0 f0 x1 f1 x2 f2 x3 f3 x4 f4 x5 f5
     have k0 := HD6.out.1
     obtain ⟨x0, x1, x2, x3, x4, x5⟩ := zn6 k0 rfl rfl rfl rfl rfl rfl
     have f0 := frozen_blk k0 0
     have f1 := frozen_blk k0 1
     have f2 := frozen_blk k0 2
     have f3 := frozen_blk k0 3
     have f4 := frozen_blk k0 4
     have f5 := frozen_blk k0 5
     clear k0
     by_cases hp6 : ((tk s (skAt s i4)).toList == [41]) = true
     ·have HD7 : Hid (DSt s bo m cb B w (Except.map (fun st => (⟨tkE s (skAt s i4), skAt s i4, st.cs⟩ : St)) (Except.map (fun st => (⟨skAt s st.nx, st.la, st.cs⟩ : St)) (datP s g (deep + 1) (skAt s (tkE s (skAt s st.nx))) st.cs))) _ _ _ _ _ _ _) := DSt.two' (b := skAt s i4) hB hte4 HD6.out
      have HO7 : Hid (P3 w (.slice pa ps.length pc) ps ((w6.setCell ⟨w.heap.size, 1, none⟩ (.int .i64 (tkE s (skAt s i4) : Nat))).setCell ⟨w.heap.size, 2, none⟩ (.int .i64 (skAt s i4 : Nat)))) := P3.two HO6.out
      have HE7 := dot_eq1 ps HR5.out hp6
      simp only [tk] at hp6
      go_wp2_with fail
      refine (l2List_any s bo m cb B _ _ _ _ _ _ _ _ _ ps _ (by have := DSt.size HD7.out; omega) HD7.out.2.2.2.2 (by omega) (P3.parts HO7.out)).mono ?_
      intro e w9 hp
      obtain ⟨i9, la9, bd9, ao9, n9, ca9, rfl, k9, kz, hb9, hk9, hr9⟩ := DSt.got HD7.out hp
      have KZ : Hid (w9.heap[w.heap.size + 1]? = some rz) := kz
      have HB9 : Hid (Below B w w9) := hb9
      have HK9 : Hid (Lib.OthersKept 98 none w w9) := hk9
      have HR9 : Hid _ := hr9
      obtain ⟨z0, z1, z2, z3, z4, z5⟩ := zn6 kz rfl rfl rfl rfl rfl rfl
      have y0 := frozen_blk kz 0
      have y1 := frozen_blk kz 1
      have y2 := frozen_blk kz 2
      have y3 := frozen_blk kz 3
      have y4 := frozen_blk kz 4
      have y5 := frozen_blk kz 5
      clear kz hb9 hk9 hr9 hp k9
      go_wp2
      refine bodyPost_ret (ret6 rfl rfl (.string s) (.int .i64 i9) (.int .i64 la9) (.int .i64 bd9) (.slice ao9 n9 ca9) (.slice bo m cb) KZ.out) rfl ?_
      exact end6 (by omega) (by omega) (HE7.trans HE.out) HR9.out KZ.out HB9.out HK9.out
     ·have HE7 := dot_eq2 ps HR5.out hp6
      have hp6' : ((s.extract (skAt s i4) (tkE s (skAt s i4))).toList == [41]) = false := by simpa [tk] using hp6
      clear hp6
      go_wp2_with fail
      refine (l2Fail_any s bo m cb B _ _ _ _ _ _ _ (skAt s i4) _ (by have := DSt.size HD6.out; omega) HD6.out.2.2.2.2).mono ?_
      intro e w9 hp
      obtain ⟨i9, la9, bd9, ao9, n9, ca9, rfl, k9, kz, hb9, hk9, hr9⟩ := DSt.got HD6.out hp
      have KZ : Hid (w9.heap[w.heap.size + 1]? = some rz) := kz
      have HB9 : Hid (Below B w w9) := hb9
      have HK9 : Hid (Lib.OthersKept 98 none w w9) := hk9
      have HR9 : Hid _ := hr9
      obtain ⟨z0, z1, z2, z3, z4, z5⟩ := zn6 kz rfl rfl rfl rfl rfl rfl
      have y0 := frozen_blk kz 0
      have y1 := frozen_blk kz 1
      have y2 := frozen_blk kz 2
      have y3 := frozen_blk kz 3
      have y4 := frozen_blk kz 4
      have y5 := frozen_blk kz 5
      clear kz hb9 hk9 hr9 hp k9
      go_wp2
      refine bodyPost_ret (ret6 rfl rfl (.string s) (.int .i64 i9) (.int .i64 la9) (.int .i64 bd9) (.slice ao9 n9 ca9) (.slice bo m cb) KZ.out) rfl ?_
      exact end6 (by omega) (by omega) (HE7.trans HE.out) HR9.out KZ.out HB9.out HK9.out
    ·by_cases hd46 : ((tk s (skAt s st.nx)).toList == [46]) = true
     ·obtain rfl : ps = [] := Classical.byContradiction fun h => hdot ⟨hd46, h⟩
      simp only [tk] at hd46
      have HE : Hid (((datP s g (deep + 1) (skAt s (skAt s st.nx)) st.cs).bind fun st2 => lstP s g (deep + 1) ([] ++ [st2.top]) st2) = L) := by
       show _ = _
       rw [← HL.out, lstP_succ, if_neg hp, if_neg hdot, skAt_idem]
      have HG : Hid (∀ st', datP s g (deep + 1) (skAt s (skAt s st.nx)) st.cs = .ok st' → st.nx < st'.nx ∧ st'.nx ≤ s.size) := by
       show ∀ st', _ → _
       intro st' e
       have := datP_prog (skAt_le s _ hib) e
       rw [skAt_idem] at this
       omega
      have HM : Hid (LMea s w wr = s.size + 1 - st.nx) := LMea_ok HD.out
      clear HD3 HO3 HD hp hdot
      go_wp2_with fail
      refine (HIH.out g (by omega) (.ok ⟨skAt s st.nx, st.la, st.cs⟩) _ _ _ _ _ _ _ (by have := DSt.size HD2.out; omega) HD2.out.2.2.2.2 ?_).mono ?_
      ·intro st' e
       obtain rfl := Except.ok.inj e
       show 2 * (s.size - skAt s st.nx) + 1 ≤ g
       omega
      clear x0 f0 x1 f1 x2 f2 x3 f3 x4 f4 x5 f5
      intro e v4 hp4
      have HO4 : Hid (P3 w (.slice pa 0 pc) [] v4) := by
       obtain ⟨_, _, _, _, hk⟩ := hp4
       exact P3.ok HO2.out hk
      obtain ⟨i4, l4, b4, a4, n4, c4, rfl, kx, kz, hb4, hk4, hr4⟩ := DSt.got HD2.out hp4
      have hn4 : n4 ≤ 1000 := hr4.2.1
      have HD4 : Hid (DSt s bo m cb B w (datP s g (deep + 1) (skAt s (skAt s st.nx)) st.cs) i4 l4 b4 a4 n4 c4 _) := DSt.lay hB kx kz hb4 hk4 hr4
      have HP4 : Hid (P3 w (.slice pa 0 pc) [] _) := P3.put6 HO4.out (v0 := .string s) (v1 := .int .i64 i4) (v2 := .int .i64 l4) (v3 := .int .i64 b4) (v4 := .slice a4 n4 c4) (v5 := .slice bo m cb)
      obtain ⟨x0, x1, x2, x3, x4, x5⟩ := zn6 kx rfl rfl rfl rfl rfl rfl
      have f0 := frozen_blk kx 0
      have f1 := frozen_blk kx 1
      have f2 := frozen_blk kx 2
      have f3 := frozen_blk kx 3
      have f4 := frozen_blk kx 4
      have f5 := frozen_blk kx 5
      clear kx kz hb4 hk4 hr4 hp4 HD2 HO2 HO4
      obtain ⟨vp, hvp⟩ : ∃ vp, vp = put6 v4 w.heap.size (.string s) (.int .i64 i4) (.int .i64 l4) (.int .i64 b4) (.slice a4 n4 c4) (.slice bo m cb) := ⟨_, rfl⟩
      have hvz : vp.heap.size = v4.heap.size := by rw [hvp]; exact put6_size
      rw [← hvp] at HD4 HP4
      have hbl := (Below.refl _ vp).alloc (Nat.le_refl _) (.cells #[.int .i64 ((n4 : Int) - 1)] 3 (0, 0))
      have HDA : Hid (DSt s bo m cb B w (datP s g (deep + 1) (skAt s (skAt s st.nx)) st.cs) i4 l4 b4 a4 n4 c4 (vp.alloc (.cells #[.int .i64 ((n4 : Int) - 1)] 3 (0, 0)))) := DSt.below hB HD4.out hbl
      have HPA : Hid (P3 w (.slice pa 0 pc) [] (vp.alloc (.cells #[.int .i64 ((n4 : Int) - 1)] 3 (0, 0)))) := P3.below HP4.out hbl
      have hAz : (vp.alloc (.cells #[.int .i64 ((n4 : Int) - 1)] 3 (0, 0))).heap.size = v4.heap.size + 1 := by simp [hvz]
      have kA : (vp.alloc (.cells #[.int .i64 ((n4 : Int) - 1)] 3 (0, 0))).heap[v4.heap.size]? = some (.cells #[.int .i64 ((n4 : Int) - 1)] 3 (0, 0)) := blk_at _ _ _ hvz.symm
      have hwA : w.heap.size + 2 ≤ (vp.alloc (.cells #[.int .i64 ((n4 : Int) - 1)] 3 (0, 0))).heap.size := by have := DSt.size HDA.out; omega
      clear hbl HD4 HP4
      rw [hvp] at hAz kA hwA HDA HPA
      go_wp2_with (at_builtin; refine wpList_append_lies _ rfl _ _ 33 rfl (w.heap.size + 2) 3 i3 _ 1 8 Try.underlying33 hi3 hz30 hz31 hz32 rfl (by omega) (.slice pa 0 pc) 0 [] rfl HPA.out ⟨v4.heap.size, 0, none⟩ 1 1 [.int .i64 ((n4 : Int) - 1)] rfl rfl (World.news_of_block kA) (by intro u hu; simp at hu; subst hu; rfl) (by omega) (by simp [maxLen]) (by omega) hwA (v4.heap.size + 1) hAz ?_)
      intro gg cap' w5 hown hgrow hat hlt
      have HD5 : Hid (DSt s bo m cb B w (datP s g (deep + 1) (skAt s (skAt s st.nx)) st.cs) i4 l4 b4 a4 n4 c4 w5) := DSt.grow hB HDA.out HPA.out hgrow
      have HO5 : Hid (P3 w (.slice (some ⟨gg, 0, none⟩) ([] ++ [(n4 : Int) - 1]).length cap') ([] ++ [(n4 : Int) - 1]) w5) := by
       show World.ownsRow _ _ _ _ _ _ _
       exact hown
      clear hown hgrow hat hlt hAz kA hwA HDA HPA hvp hvz x0 f0 x1 f1 x2 f2 x3 f3 x4 f4 x5 f5
      go_wp2
      go_roundw
      case rel =>
       exact LRel.next HD5.out HO5.out HE.out HG.out (by omega) (by omega) (by omega)
      case measure =>
       exact LMea_lt HD5.out HG.out (by omega) HM.out
     ·have hd46' : ((s.extract (skAt s st.nx) (tkE s (skAt s st.nx))).toList == [46]) = false := by simpa [tk] using hd46
      clear hd46
      have HE : Hid (((datP s g (deep + 1) (skAt s (skAt s st.nx)) st.cs).bind fun st2 => lstP s g (deep + 1) (ps ++ [st2.top]) st2) = L) := by
       show _ = _
       rw [← HL.out, lstP_succ, if_neg hp, if_neg hdot, skAt_idem]
      have HG : Hid (∀ st', datP s g (deep + 1) (skAt s (skAt s st.nx)) st.cs = .ok st' → st.nx < st'.nx ∧ st'.nx ≤ s.size) := by
       show ∀ st', _ → _
       intro st' e
       have := datP_prog (skAt_le s _ hib) e
       rw [skAt_idem] at this
       omega
      have HM : Hid (LMea s w wr = s.size + 1 - st.nx) := LMea_ok HD.out
      clear HD3 HO3 HD hp hdot
      go_wp2_with fail
      refine (HIH.out g (by omega) (.ok ⟨skAt s st.nx, st.la, st.cs⟩) _ _ _ _ _ _ _ (by have := DSt.size HD2.out; omega) HD2.out.2.2.2.2 ?_).mono ?_
      ·intro st' e
       obtain rfl := Except.ok.inj e
       show 2 * (s.size - skAt s st.nx) + 1 ≤ g
       omega
      clear x0 f0 x1 f1 x2 f2 x3 f3 x4 f4 x5 f5
      intro e v4 hp4
      have HO4 : Hid (P3 w (.slice pa ps.length pc) ps v4) := by
       obtain ⟨_, _, _, _, hk⟩ := hp4
       exact P3.ok HO2.out hk
      obtain ⟨i4, l4, b4, a4, n4, c4, rfl, kx, kz, hb4, hk4, hr4⟩ := DSt.got HD2.out hp4
      have hn4 : n4 ≤ 1000 := hr4.2.1
      have HD4 : Hid (DSt s bo m cb B w (datP s g (deep + 1) (skAt s (skAt s st.nx)) st.cs) i4 l4 b4 a4 n4 c4 _) := DSt.lay hB kx kz hb4 hk4 hr4
      have HP4 : Hid (P3 w (.slice pa ps.length pc) ps _) := P3.put6 HO4.out (v0 := .string s) (v1 := .int .i64 i4) (v2 := .int .i64 l4) (v3 := .int .i64 b4) (v4 := .slice a4 n4 c4) (v5 := .slice bo m cb)
      obtain ⟨x0, x1, x2, x3, x4, x5⟩ := zn6 kx rfl rfl rfl rfl rfl rfl
      have f0 := frozen_blk kx 0
      have f1 := frozen_blk kx 1
      have f2 := frozen_blk kx 2
      have f3 := frozen_blk kx 3
      have f4 := frozen_blk kx 4
      have f5 := frozen_blk kx 5
      clear kx kz hb4 hk4 hr4 hp4 HD2 HO2 HO4
      obtain ⟨vp, hvp⟩ : ∃ vp, vp = put6 v4 w.heap.size (.string s) (.int .i64 i4) (.int .i64 l4) (.int .i64 b4) (.slice a4 n4 c4) (.slice bo m cb) := ⟨_, rfl⟩
      have hvz : vp.heap.size = v4.heap.size := by rw [hvp]; exact put6_size
      rw [← hvp] at HD4 HP4
      have hbl := (Below.refl _ vp).alloc (Nat.le_refl _) (.cells #[.int .i64 ((n4 : Int) - 1)] 3 (0, 0))
      have HDA : Hid (DSt s bo m cb B w (datP s g (deep + 1) (skAt s (skAt s st.nx)) st.cs) i4 l4 b4 a4 n4 c4 (vp.alloc (.cells #[.int .i64 ((n4 : Int) - 1)] 3 (0, 0)))) := DSt.below hB HD4.out hbl
      have HPA : Hid (P3 w (.slice pa ps.length pc) ps (vp.alloc (.cells #[.int .i64 ((n4 : Int) - 1)] 3 (0, 0)))) := P3.below HP4.out hbl
      have hAz : (vp.alloc (.cells #[.int .i64 ((n4 : Int) - 1)] 3 (0, 0))).heap.size = v4.heap.size + 1 := by simp [hvz]
      have kA : (vp.alloc (.cells #[.int .i64 ((n4 : Int) - 1)] 3 (0, 0))).heap[v4.heap.size]? = some (.cells #[.int .i64 ((n4 : Int) - 1)] 3 (0, 0)) := blk_at _ _ _ hvz.symm
      have hwA : w.heap.size + 2 ≤ (vp.alloc (.cells #[.int .i64 ((n4 : Int) - 1)] 3 (0, 0))).heap.size := by have := DSt.size HDA.out; omega
      clear hbl HD4 HP4
      rw [hvp] at hAz kA hwA HDA HPA
      go_wp2_with (at_builtin; refine wpList_append_lies _ rfl _ _ 33 rfl (w.heap.size + 2) 3 i3 _ 1 8 Try.underlying33 hi3 hz30 hz31 hz32 rfl (by omega) (.slice pa ps.length pc) ps.length (ps.map (Value.int .i64 ·)) rfl HPA.out ⟨v4.heap.size, 0, none⟩ 1 1 [.int .i64 ((n4 : Int) - 1)] rfl rfl (World.news_of_block kA) (by intro u hu; simp at hu; subst hu; rfl) (by omega) (by simp [maxLen]; omega) (by omega) hwA (v4.heap.size + 1) hAz ?_)
      intro gg cap' w5 hown hgrow hat hlt
      have HD5 : Hid (DSt s bo m cb B w (datP s g (deep + 1) (skAt s (skAt s st.nx)) st.cs) i4 l4 b4 a4 n4 c4 w5) := DSt.grow hB HDA.out HPA.out hgrow
      have HO5 : Hid (P3 w (.slice (some ⟨gg, 0, none⟩) (ps ++ [(n4 : Int) - 1]).length cap') (ps ++ [(n4 : Int) - 1]) w5) := by
       show World.ownsRow _ _ _ _ _ _ _
       rw [List.length_append, List.map_append]
       exact hown
      clear hown hgrow hat hlt hAz kA hwA HDA HPA hvp hvz x0 f0 x1 f1 x2 f2 x3 f3 x4 f4 x5 f5
      go_wp2
      go_roundw
      case rel =>
       exact LRel.next HD5.out HO5.out HE.out HG.out (by omega) (by omega) (by omega)
      case measure =>
       exact LMea_lt HD5.out HG.out (by omega) HM.out
  ·have HD : Hid (DSt s bo m cb B w (.error p) i la p ao n ca wr) := hds
   have HL : Hid (L = .error p) := hL
   clear hL
   have k0 := HD.out.1
   have k1 := HD.out.2.1
   obtain ⟨x0, x1, x2, x3, x4, x5⟩ := zn6 k0 rfl rfl rfl rfl rfl rfl
   obtain ⟨z0, z1, z2, z3, z4, z5⟩ := zn6 k1 rfl rfl rfl rfl rfl rfl
   have y0 := frozen_blk k1 0
   have y1 := frozen_blk k1 1
   have y2 := frozen_blk k1 2
   have y3 := frozen_blk k1 3
   have y4 := frozen_blk k1 4
   have y5 := frozen_blk k1 5
   clear k0 k1 hds
   have q2 : decide ((p : Int) < 0) = false := by simp
   go_wp2
   refine bodyPost_ret (ret6 rfl rfl (.string s) (.int .i64 i) (.int .i64 la) (.int .i64 p) (.slice ao n ca) (.slice bo m cb) HD.out.2.1) rfl ?_
   exact end6 (by omega) (by omega) HL.out.symm HD.out.2.2.2.2 HD.out.2.1 HD.out.2.2.1 HD.out.2.2.2.1
end Go.Proofs.Ytgjeefedcfakdaa.R2
set_option linter.unusedVariables false
namespace Go.Proofs.Ytgjeefedcfakdaa.R2
open Go.ChangeShapes Go.WideShapes Go.ChangeAt Go.RowKit
theorem l2Datum_any (s : ByteArray) (bo : Option Addr) (m cb B : Nat) (hs : s.size ≤ 1048576) (f : Nat) : ∀ deep, deep ≤ 24 → DatC s bo m cb B f deep := by
 induction f using Nat.strongRecOn with
 | ind f ih =>
  intro deep hdeep r i la bd ao n ca w hB h hfu
  cases r with
  | error p =>
   have hb : bd = (p : Int) := h.2.2
   subst hb
   exact l2Datum_bad s bo m cb B p i la ao n ca deep w hs hB h
  | ok st =>
   obtain ⟨rfl, rfl, rfl, rfl, _⟩ := h.2.2
   have hfu := hfu st rfl
   cases f with
   | zero => omega
   | succ f =>
    show Calls _ _ _ _ fun e w' => SpPost s bo m cb B (datP s (f + 1) deep (skAt s st.nx) st.cs) w e w'
    rw [datP_succ]
    by_cases hN : tkE s (skAt s st.nx) = skAt s st.nx
    ·rw [if_pos hN]
     exact l2Datum_none s bo m cb B st ao ca deep w hs hB h hN
    ·rw [if_neg hN]
     by_cases h40 : ((tk s (skAt s st.nx)).toList == [40]) = true
     ·rw [if_pos h40]
      by_cases hd : 24 ≤ deep
      ·rw [if_pos hd]
       exact l2Datum_deep s bo m cb B st ao ca deep w hs hB h hN (.inl h40) hd (by omega)
      ·rw [if_neg hd]
       exact l2Datum_list s bo m cb B st ao ca deep w hs hB h f hN h40 (by omega) hfu fun g hg => ih g (by omega) (deep + 1) (by omega)
     ·rw [if_neg h40]
      have h40' : ((tk s (skAt s st.nx)).toList == [40]) = false := by simpa using h40
      by_cases h39 : ((tk s (skAt s st.nx)).toList == [39]) = true
      ·rw [if_pos h39]
       by_cases hd : 24 ≤ deep
       ·rw [if_pos hd]
        exact l2Datum_deep s bo m cb B st ao ca deep w hs hB h hN (.inr h39) hd (by omega)
       ·rw [if_neg hd]
        exact l2Datum_quote s bo m cb B st ao ca deep w hs hB h f hN h40' h39 (by omega) hfu (ih f (by omega) (deep + 1) (by omega))
      ·rw [if_neg h39]
       exact l2Datum_atom s bo m cb B st ao ca deep w hs hB h hN h40' (by simpa using h39)
end Go.Proofs.Ytgjeefedcfakdaa.R2
