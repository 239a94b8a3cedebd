/- The model's reader: the pairs of a list, laid. The model's reader: failing, a cell, the pairs, at any state. -/
import Derived.Test.YtgjeefedcfakdaaSpc
set_option linter.unusedVariables false
namespace Go.Proofs.Ytgjeefedcfakdaa.R2
open Go.ChangeShapes Go.WideShapes Go.ChangeAt Go.RowKit
theorem prS_top (cs : List Dat) (ps : List Int) : ∀ k, (prS cs ps ((cs.length : Int) - 1) k).2 = ((prS cs ps ((cs.length : Int) - 1) k).1.length : Int) - 1
 | 0 => rfl
 | k + 1 => by simp [prS]
def prC (cs : List Dat) (ps : List Int) (k : Nat) : List Dat := (prS cs ps ((cs.length : Int) - 1) k).1
theorem prC_length (cs : List Dat) (ps : List Int) (k : Nat) : (prC cs ps k).length = cs.length + k := prS_length cs ps _ k
theorem prC_step {cs : List Dat} {ps : List Int} {k i : Nat} {x : Int} (hx : ps[i]? = some x) (hk : i + 1 + k = ps.length) : prC cs ps (k + 1) = prC cs ps k ++ [⟨5, 0, ⟨#[]⟩, x, ((prC cs ps k).length : Int) - 1⟩] := by
 unfold prC
 rw [prS, prS_top]
 have e : ps.getD (ps.length - 1 - k) 0 = x := by
  rw [show ps.length - 1 - k = i by omega, List.getD_eq_getElem?_getD, hx]; rfl
 rw [e]
theorem own_not_r {w : World} {B n g : Nat} {v : Value} {xs : List Value} {x0 x1 x2 x3 x4 x5 v0 v1 v2 v3 v4 v5 : Value} (h : w.ownsRow B 98 5 v n xs) (hr : w.heap[g]? = some (.cells #[x0, x1, x2, x3, x4, x5] 88 (0, 0))) : ∀ b, v.ownBlock = some b → (put6 w g v0 v1 v2 v3 v4 v5).heap[b]? = w.heap[b]? := by
 intro b hb
 obtain ⟨cur, hc⟩ := own_kind h hb
 refine put6_other ?_
 intro e
 subst e
 have := hr.symm.trans hc
 simp at this
set_option maxRecDepth 100000 in
set_option maxHeartbeats 4000000 in
theorem l2List_ok (s : ByteArray) (nx la : Nat) (ao bo pa : Option Addr) (ca m cb pc B : Nat) (cs : List Dat) (ps : List Int) (w : World) (hn : cs.length ≤ 1000) (hnx : nx ≤ s.size) (hps : ps.length ≤ 1048576) (hB : B ≤ w.heap.size) (hown : w.ownsRow B 98 5 (.slice ao cs.length ca) cs.length (flatD cs)) (hpt : PartsAt w w.heap.size pa ps) :
  Calls Try.prog 66 #[.agg #[.string s, .int .i64 nx, .int .i64 la, .int .i64 (-1), .slice ao cs.length ca, .slice bo m cb], .slice pa ps.length pc] w fun e w' => SpPost s bo m cb B (prsP ⟨nx, la, cs⟩ ps) w e w' := by
 have HO : Hid (w.ownsRow B 98 5 (.slice ao cs.length ca) cs.length (flatD cs)) := hown
 have HP : Hid (PartsAt w w.heap.size pa ps) := hpt
 clear hown hpt
 go_enter Try.func66, Try.ntmps66
 go_wp2
 have hb0 : Below w.heap.size w ((w.alloc (rb s nx la (-1) (.slice ao cs.length ca) (.slice bo m cb))).alloc rz) := (bR _ _).alloc (by simp) _
 have k0 : ((w.alloc (rb s nx la (-1) (.slice ao cs.length ca) (.slice bo m cb))).alloc rz).heap[w.heap.size]? = some (rb s nx la (-1) (.slice ao cs.length ca) (.slice bo m cb)) := blk_past (blk_at _ _ _ rfl)
 have k1 : ((w.alloc (rb s nx la (-1) (.slice ao cs.length ca) (.slice bo m cb))).alloc rz).heap[w.heap.size + 1]? = some rz := blk_at _ _ _ (by simp)
 have ho0 : ((w.alloc (rb s nx la (-1) (.slice ao cs.length ca) (.slice bo m cb))).alloc rz).ownsRow B 98 5 (.slice ao cs.length ca) cs.length (flatD cs) := (HO.out.alloc _).alloc _
 go_loopw [5] (fun o wr => ∃ (t : Nat), t ≤ ps.length ∧ o = .int .i64 ((ps.length : Int) - 1 - t) ∧ wr.heap[w.heap.size + 1]? = some rz ∧ Below B w wr ∧ Lib.OthersKept 98 none w wr ∧
   ((cs.length + t ≤ 1000 ∧ ∃ ao' ca', wr.heap[w.heap.size]? = some (rb s nx la (-1) (.slice ao' (cs.length + t) ca') (.slice bo m cb)) ∧ wr.ownsRow B 98 5 (.slice ao' (cs.length + t) ca') (cs.length + t) (flatD (prC cs ps t))) ∨
   (1000 < cs.length + ps.length ∧ ∃ ao' n' ca', n' ≤ 1000 ∧ wr.heap[w.heap.size]? = some (rb s nx la la (.slice ao' n' ca') (.slice bo m cb)))))
  (fun o _ => (intOf o + 1).toNat)
 case atStart => exact ⟨0, by omega, by simp, k1, hb0.mono hB, ok_below hb0, .inl ⟨hn, ao, ca, k0, ho0⟩⟩
 case round =>
  clear k0 k1 ho0 hb0
  obtain ⟨t, ht, rfl, k1, hb, hok, hst⟩ := hrel
  have hws := hb.size
  have h1l := (alt k1)
  obtain ⟨z0, z1, z2, z3, z4, z5⟩ := zn6 k1 rfl rfl rfl rfl rfl rfl
  have y0 := frozen_blk k1 0
  have y1 := frozen_blk k1 1
  have y2 := frozen_blk k1 2
  have y3 := frozen_blk k1 3
  have y4 := frozen_blk k1 4
  have y5 := frozen_blk k1 5
  have K1 : Hid (wr.heap[w.heap.size + 1]? = some rz) := k1
  have HOK : Hid (Lib.OthersKept 98 none w wr) := hok
  clear k1 hok
  rcases hst with ⟨htn, ao', ca', k0, ho⟩ | ⟨hbig, ao', n', ca', hn', k0⟩
  ·have K0 : Hid (wr.heap[w.heap.size]? = some (rb s nx la (-1) (.slice ao' (cs.length + t) ca') (.slice bo m cb))) := k0
   have HO2 : Hid (wr.ownsRow B 98 5 (.slice ao' (cs.length + t) ca') (cs.length + t) (flatD (prC cs ps t))) := ho
   have x3 := zB 3 k0 rfl
   by_cases hlt : t < ps.length
   ·obtain ⟨i, hi⟩ : ∃ i, i + 1 + t = ps.length := ⟨ps.length - 1 - t, by omega⟩
    have ei : (ps.length : Int) - 1 - (t : Int) = (i : Int) := by omega
    rw [ei]
    obtain ⟨x, hx⟩ : ∃ x, ps[i]? = some x := ⟨_, List.getElem?_eq_getElem (by omega)⟩
    obtain ⟨b1, o1, xs, rfl, hbb, hwb, hcx⟩ := HP.out i x hx
    have hkb : wr.heap[b1]? = some (.cells xs 3 (0, 0)) := HOK.out b1 _ hwb (by simp) (fun _ _ e => by injection e with _ e; cases e)
    have cx := cell_blk hkb hcx
    have HX : Hid (ps[i]? = some x) := hx
    have x4 := zB 4 k0 rfl
    have hq0 : decide ((0 : Int) ≤ (i : Int)) = true := by simp
    obtain ⟨x0, x1, x2, x5⟩ := zj4 0 1 2 5 k0 rfl rfl rfl rfl
    have hil : (i : Int) < (ps.length : Int) := by omega
    have EW : Hid (IntKind.i64.wrap ((cs.length : Int) + (t : Int) - 1) = ((cs.length + t : Nat) : Int) - 1) := by show _ = _; rw [IntKind.wrap_i64]; omega
    have hBw : B ≤ wr.drew.heap.size := by show B ≤ wr.heap.size; omega
    clear hx k0 ho
    by_cases hfull : cs.length + t < 1000
    ·have hput := l2Put_ok s nx la ao' bo ca' m cb B (prC cs ps t) ⟨5, 0, ⟨#[]⟩, x, ((cs.length + t : Nat) : Int) - 1⟩ wr.drew (by rw [prC_length]; omega) hBw (by rw [prC_length]; exact HO2.out)
     rw [prC_length] at hput
     have HPUT : Hid (Calls Try.prog 65 #[.agg #[.string s, .int .i64 nx, .int .i64 la, .int .i64 (-1), .slice ao' (cs.length + t) ca', .slice bo m cb], .agg #[.int .i64 5, .int .i64 0, .string ⟨#[]⟩, .int .i64 x, .int .i64 (((cs.length + t : Nat) : Int) - 1)]] wr.drew fun e w' => ∃ g c', e = .returned (.agg #[.string s, .int .i64 nx, .int .i64 la, .int .i64 (-1), .slice (some ⟨g, 0, none⟩) (cs.length + t + 1) c', .slice bo m cb]) ∧ w'.ownsRow B 98 5 (.slice (some ⟨g, 0, none⟩) (cs.length + t + 1) c') (cs.length + t + 1) (flatD (prC cs ps t ++ [⟨5, 0, ⟨#[]⟩, x, ((cs.length + t : Nat) : Int) - 1⟩])) ∧ Below B wr.drew w' ∧ Lib.OthersKept 98 none wr.drew w') := hput
     clear hput
     have hpc := prC_step (cs := cs) HX.out hi
     rw [prC_length] at hpc
     have HPC : Hid (prC cs ps (t + 1) = prC cs ps t ++ [⟨5, 0, ⟨#[]⟩, x, ((cs.length + t : Nat) : Int) - 1⟩]) := hpc
     clear hpc
     go_wp2_with fail
     go_region_with (go_at_call 65; rw [EW.out]; refine HPUT.out.mono ?_; rintro e w2 ⟨g2, c2, rfl, hown2, hb2, hok2⟩; have kr2 := hok2 w.heap.size _ K0.out (by simp) (fun _ _ e => by injection e with _ e; cases e); have KZ3 : Hid _ := hok2 (w.heap.size + 1) _ K1.out (by simp) (fun _ _ e => by injection e with _ e; cases e); have KR2 : Hid _ := kr2; have HB3 : Hid (Below B w w2) := (hb.drew).trans hb2; have HK3 : Hid (Lib.OthersKept 98 none w w2) := fun k o hk hkb ho => hok2 k o (HOK.out k o hk hkb ho) hkb ho; have HW3 : Hid _ := hown2; have q0 := cell_blk (j := 0) kr2 rfl; have f0 := frozen_blk kr2 0; have q1 := cell_blk (j := 1) kr2 rfl; have f1 := frozen_blk kr2 1; have q2 := cell_blk (j := 2) kr2 rfl; have f2 := frozen_blk kr2 2; have q3 := cell_blk (j := 3) kr2 rfl; have f3 := frozen_blk kr2 3; have q4 := cell_blk (j := 4) kr2 rfl; have f4 := frozen_blk kr2 4; have q5 := cell_blk (j := 5) kr2 rfl; have f5 := frozen_blk kr2 5; clear hb2 hok2 hown2 kr2)
     all_goals
      go_wp2
      go_roundw
      case rel => exact ⟨t + 1, by omega, by go_num, (put6_other (by omega)).trans KZ3.out, put6_below HB3.out hB _ _ _ _ _ _, ok_high HK3.out (fun b hb => put6_other (by omega)), .inl ⟨by omega, _, _, put6_blk _ _ _ _ _ _ KR2.out, own_other (by rw [HPC.out]; exact HW3.out) (own_not_r HW3.out KR2.out)⟩⟩
      case measure => simp [intOf]
    ·have HPUT : Hid (Calls Try.prog 65 #[.agg #[.string s, .int .i64 nx, .int .i64 la, .int .i64 (-1), .slice ao' (cs.length + t) ca', .slice bo m cb], .agg #[.int .i64 5, .int .i64 0, .string ⟨#[]⟩, .int .i64 x, .int .i64 (((cs.length + t : Nat) : Int) - 1)]] wr.drew fun e w' => Ans wr.drew (.agg #[.string s, .int .i64 nx, .int .i64 la, .int .i64 la, .slice ao' (cs.length + t) ca', .slice bo m cb]) e w') := l2Put_full s nx la ao' bo (cs.length + t) ca' m cb ⟨5, 0, ⟨#[]⟩, x, ((cs.length + t : Nat) : Int) - 1⟩ wr.drew (by omega)
     go_wp2_with fail
     go_region_with (go_at_call 65; rw [EW.out]; refine HPUT.out.mono ?_; rintro e w2 ⟨rfl, hb2⟩; have kr2 := (hb2.block w.heap.size (alt K0.out)).trans K0.out; have KZ3 : Hid _ := (hb2.block (w.heap.size + 1) h1l).trans K1.out; have KR2 : Hid _ := kr2; have HB3 : Hid (Below B w w2) := (hb.drew).trans (hb2.mono hBw); have HK3 : Hid (Lib.OthersKept 98 none w w2) := fun k o hk hkb ho => (hb2.block k (alt (HOK.out k o hk hkb ho))).trans (HOK.out k o hk hkb ho); have q0 := cell_blk (j := 0) kr2 rfl; have f0 := frozen_blk kr2 0; have q1 := cell_blk (j := 1) kr2 rfl; have f1 := frozen_blk kr2 1; have q2 := cell_blk (j := 2) kr2 rfl; have f2 := frozen_blk kr2 2; have q3 := cell_blk (j := 3) kr2 rfl; have f3 := frozen_blk kr2 3; have q4 := cell_blk (j := 4) kr2 rfl; have f4 := frozen_blk kr2 4; have q5 := cell_blk (j := 5) kr2 rfl; have f5 := frozen_blk kr2 5; clear hb2 kr2)
     all_goals
      go_wp2
      go_roundw
      case rel => exact ⟨t + 1, by omega, by go_num, (put6_other (by omega)).trans KZ3.out, put6_below HB3.out hB _ _ _ _ _ _, ok_high HK3.out (fun b hb => put6_other (by omega)), .inr ⟨by omega, _, _, _, by omega, put6_blk _ _ _ _ _ _ KR2.out⟩⟩
      case measure => simp [intOf]
   ·have q0 : decide ((0 : Int) ≤ (ps.length : Int) - 1 - (t : Int)) = false := by simp; omega
    obtain rfl : t = ps.length := by omega
    obtain ⟨x0, x1, x2, x4, x5⟩ := zj5 0 1 2 4 5 k0 rfl rfl rfl rfl rfl
    clear k0 ho
    go_wp2
    refine bodyPost_ret (ret6 rfl rfl (.string s) (.int .i64 nx) (.int .i64 la) (.int .i64 (-1)) (.slice ao' (cs.length + ps.length) ca') (.slice bo m cb) K1.out) rfl ?_
    refine ⟨_, rfl, ?_, put6_below hb (by omega) _ _ _ _ _ _, ok_high HOK.out (fun b hb => put6_other (by omega))⟩
    have e : prsP ⟨nx, la, cs⟩ ps = .ok ⟨nx, la, prC cs ps ps.length⟩ := if_pos htn
    rw [e]
    have hpl := prC_length cs ps ps.length
    exact ⟨nx, la, -1, ao', _, ca', rfl, hnx, htn, rfl, rfl, rfl, hpl.symm, own_other HO2.out (own_not_r HO2.out K1.out)⟩
  ·have K0 : Hid (wr.heap[w.heap.size]? = some (rb s nx la la (.slice ao' n' ca') (.slice bo m cb))) := k0
   obtain ⟨x0, x1, x2, x3, x4, x5⟩ := zn6 k0 rfl rfl rfl rfl rfl rfl
   have HE : Hid (prsP ⟨nx, la, cs⟩ ps = .error la) := if_neg (by show ¬ cs.length + ps.length ≤ 1000; omega)
   have q3 : decide ((la : Int) < 0) = false := by simp
   clear k0
   by_cases hlt : t < ps.length
   ·have q0 : decide ((0 : Int) ≤ (ps.length : Int) - 1 - (t : Int)) = true := by simp; omega
    go_wp2
    refine bodyPost_ret (ret6 rfl rfl (.string s) (.int .i64 nx) (.int .i64 la) (.int .i64 la) (.slice ao' n' ca') (.slice bo m cb) K1.out) rfl ?_
    refine ⟨_, rfl, ?_, put6_below hb (by omega) _ _ _ _ _ _, ok_high HOK.out (fun b hb => put6_other (by omega))⟩
    rw [HE.out]
    exact ⟨nx, la, la, ao', n', ca', rfl, hnx, hn', rfl⟩
   ·have q0 : decide ((0 : Int) ≤ (ps.length : Int) - 1 - (t : Int)) = false := by simp; omega
    go_wp2
    refine bodyPost_ret (ret6 rfl rfl (.string s) (.int .i64 nx) (.int .i64 la) (.int .i64 la) (.slice ao' n' ca') (.slice bo m cb) K1.out) rfl ?_
    refine ⟨_, rfl, ?_, put6_below hb (by omega) _ _ _ _ _ _, ok_high HOK.out (fun b hb => put6_other (by omega))⟩
    rw [HE.out]
    exact ⟨nx, la, la, ao', n', ca', rfl, hnx, hn', rfl⟩
end Go.Proofs.Ytgjeefedcfakdaa.R2
set_option linter.unusedVariables false
namespace Go.Proofs.Ytgjeefedcfakdaa.R2
open Go.ChangeShapes Go.WideShapes Go.ChangeAt Go.RowKit
theorem spPost_below {s : ByteArray} {bo : Option Addr} {m cb B : Nat} {w : World} {i : Nat} {la bd : Int} {ao : Option Addr} {n ca : Nat} {p : Nat} (hB : B ≤ w.heap.size) (hi : i ≤ s.size) (hn : n ≤ 1000) (hbd : bd = (p : Int)) {e : Ending} {w' : World} (h : Ans w (.agg #[.string s, .int .i64 i, .int .i64 la, .int .i64 bd, .slice ao n ca, .slice bo m cb]) e w') : SpPost s bo m cb B (.error p) w e w' := by
 obtain ⟨rfl, hb⟩ := h
 exact ⟨_, rfl, ⟨i, la, bd, ao, n, ca, rfl, hi, hn, hbd⟩, hb.mono hB, ok_below hb⟩
theorem l2Fail_any (s : ByteArray) (bo : Option Addr) (m cb B : Nat) (r : Except Nat St) (i : Nat) (la bd : Int) (ao : Option Addr) (n ca p : Nat) (w : World) (hB : B ≤ w.heap.size) (h : RepF s B r i la bd ao n ca w) :
  Calls Try.prog 64 #[.agg #[.string s, .int .i64 i, .int .i64 la, .int .i64 bd, .slice ao n ca, .slice bo m cb], .int .i64 p] w fun e w' => SpPost s bo m cb B (r.bind fun _ => .error p) w e w' := by
 obtain ⟨h1, h2, h3⟩ := h
 cases r with
 | error q =>
  refine (l2Fail_pos s i la p bd ao bo n ca m cb w (by rw [h3]; omega)).mono fun e w' he => ?_
  exact spPost_below hB h1 h2 h3 he
 | ok st =>
  obtain ⟨e1, e2, e3, e4, e5⟩ := h3
  rw [e3]
  exact (l2Fail_neg s i la p ao bo n ca m cb w).mono fun e w' he => spPost_below hB h1 h2 rfl he
theorem l2Put_any (s : ByteArray) (bo : Option Addr) (m cb B : Nat) (r : Except Nat St) (i : Nat) (la bd : Int) (ao : Option Addr) (n ca : Nat) (d : Dat) (w : World) (hB : B ≤ w.heap.size) (h : RepF s B r i la bd ao n ca w) :
  Calls Try.prog 65 #[.agg #[.string s, .int .i64 i, .int .i64 la, .int .i64 bd, .slice ao n ca, .slice bo m cb], .agg #[.int .i64 d.k, .int .i64 d.n, .string d.s, .int .i64 d.l, .int .i64 d.r]] w fun e w' => SpPost s bo m cb B (r.bind fun st => putP st d) w e w' := by
 obtain ⟨h1, h2, h3⟩ := h
 cases r with
 | error q =>
  refine (l2Put_bad s i la bd ao bo n ca m cb d w (by rw [h3]; omega)).mono fun e w' he => ?_
  exact spPost_below hB h1 h2 h3 he
 | ok st =>
  obtain ⟨rfl, rfl, rfl, rfl, e5⟩ := h3
  by_cases hf : st.cs.length < 1000
  ·refine (l2Put_ok s st.nx st.la ao bo ca m cb B st.cs d w hf hB e5).mono ?_
   rintro e w' ⟨g, c', rfl, ho, hb, hk⟩
   refine ⟨_, rfl, ?_, hb, hk⟩
   have e : (Except.ok st : Except Nat St).bind (fun st => putP st d) = .ok ⟨st.nx, st.la, st.cs ++ [d]⟩ := if_pos hf
   rw [e]
   exact ⟨st.nx, st.la, -1, some ⟨g, 0, none⟩, st.cs.length + 1, c', rfl, h1, hf, rfl, rfl, rfl, by simp, ho⟩
  ·have e : (Except.ok st : Except Nat St).bind (fun st => putP st d) = .error st.la := if_neg hf
   rw [e]
   exact (l2Put_full s st.nx st.la ao bo st.cs.length ca m cb d w (by omega)).mono fun e w' he => spPost_below hB h1 h2 rfl he
theorem l2List_any (s : ByteArray) (bo : Option Addr) (m cb B : Nat) (r : Except Nat St) (i : Nat) (la bd : Int) (ao pa : Option Addr) (n ca pc : Nat) (ps : List Int) (w : World) (hB : B ≤ w.heap.size) (h : RepF s B r i la bd ao n ca w) (hps : ps.length ≤ 1048576) (hpt : PartsAt w w.heap.size pa ps) :
  Calls Try.prog 66 #[.agg #[.string s, .int .i64 i, .int .i64 la, .int .i64 bd, .slice ao n ca, .slice bo m cb], .slice pa ps.length pc] w fun e w' => SpPost s bo m cb B (r.bind fun st => prsP st ps) w e w' := by
 obtain ⟨h1, h2, h3⟩ := h
 cases r with
 | error q =>
  refine (l2List_bad s i la bd ao bo pa n ca m cb ps.length pc w (by rw [h3]; omega) hps).mono fun e w' he => ?_
  exact spPost_below hB h1 h2 h3 he
 | ok st =>
  obtain ⟨rfl, rfl, rfl, rfl, e5⟩ := h3
  exact l2List_ok s st.nx st.la ao bo pa ca m cb pc B st.cs ps w h2 h1 hps hB e5 hpt
end Go.Proofs.Ytgjeefedcfakdaa.R2
