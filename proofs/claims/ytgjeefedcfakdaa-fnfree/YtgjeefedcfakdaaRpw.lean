/- The model's Read. What is read is right. -/
import Derived.Test.YtgjeefedcfakdaaSpl
set_option linter.unusedVariables false
namespace Go.Proofs.Ytgjeefedcfakdaa.R2
open Go.ChangeShapes Go.WideShapes Go.ChangeAt Go.RowKit
def dz : Obj := .cells #[.slice none 0 0, .slice none 0 0] 66 (0, 0)
def T3 (w : World) (v : Value) (ts : List Int) (W : World) : Prop := W.ownsRow w.heap.size 3 1 v ts.length (ts.map (Value.int .i64 ·))
theorem T3.blk {w W : World} {v : Value} {ps : List Int} {b : Nat} (h : T3 w v ps W) (hb : v.ownBlock = some b) : w.heap.size ≤ b ∧ ∃ cur, W.heap[b]? = some (.cells cur 3 (0, 0)) := by
 obtain ⟨hl, ⟨hv, _⟩ | ⟨g, cap, cur, hv, a1, hblk, a3, a4, a5, a6⟩⟩ := h
 ·rw [hv] at hb; cases hb
 ·rw [hv] at hb
  simp only [Value.ownBlock, Option.some.injEq] at hb
  subst hb
  exact ⟨a1, cur, hblk⟩
theorem T3.keep {w W W' : World} {v : Value} {ps : List Int} (h : T3 w v ps W) (hk : ∀ (b : Nat) (cur : Array Value), W.heap[b]? = some (Obj.cells cur 3 (0, 0)) → W'.heap[b]? = W.heap[b]?) : T3 w v ps W' :=
 own_other h fun b hb => by
  obtain ⟨h1, cur, h2⟩ := T3.blk h hb
  exact hk b cur h2
def TSt (s : ByteArray) (G : Nat) (w : World) (r : Except Nat St) (i : Nat) (la bd : Int) (ao : Option Addr) (n ca : Nat) (tv : Value) (ts : List Int) (W : World) : Prop :=
 W.heap[G]? = some (rb s i la bd (.slice ao n ca) tv) ∧ w.heap.size < G ∧ W.heap[w.heap.size]? = some dz ∧ Below w.heap.size w W ∧ RepF s w.heap.size r i la bd ao n ca W ∧ T3 w tv ts W
section
variable {s : ByteArray} {G : Nat} {w : World} {r r' : Except Nat St} {i i' : Nat} {la bd la' bd' : Int} {ao ao' : Option Addr} {n ca n' ca' : Nat} {W W' : World} {tv tv' : Value} {ts : List Int}
theorem TSt.below (h : TSt s G w r i la bd ao n ca tv ts W) (hb : Below W.heap.size W W') : TSt s G w r i la bd ao n ca tv ts W' := by
 obtain ⟨k0, hG, k1, h3, h5, h6⟩ := h
 have hz := (alt k0)
 exact ⟨(hb.block _ hz).trans k0, hG, (hb.block _ (by omega)).trans k1, h3.trans (hb.mono (by omega)), h5.below hb, h6.keep fun b cur hc => hb.block b (alt hc)⟩
theorem TSt.got {bo : Option Addr} {m cb : Nat} (h : TSt s G w r i la bd ao n ca (.slice bo m cb) ts W) {e : Ending} (hp : SpPost s bo m cb w.heap.size r' W e W') : ∃ (i' : Nat) (la' bd' : Int) (ao' : Option Addr) (n' ca' : Nat), e = .returned (.agg #[.string s, .int .i64 i', .int .i64 la', .int .i64 bd', .slice ao' n' ca', .slice bo m cb]) ∧ W'.heap[G]? = some (rb s i la bd (.slice ao n ca) (.slice bo m cb)) ∧ W'.heap[w.heap.size]? = some dz ∧ Below w.heap.size w W' ∧ RepF s w.heap.size r' i' la' bd' ao' n' ca' W' ∧ T3 w (.slice bo m cb) ts W' := by
 obtain ⟨k0, hG, k1, h3, h5, h6⟩ := h
 obtain ⟨v, rfl, ⟨i', la', bd', ao', n', ca', rfl, hr⟩, hb, hk⟩ := hp
 exact ⟨i', la', bd', ao', n', ca', rfl, hk _ _ k0 (by simp) (fun _ _ e => by injection e with _ e; cases e), hk _ _ k1 (by simp) (fun _ _ e => by injection e with _ e; cases e), h3.trans hb, hr, h6.keep fun b cur hc => (hk b _ hc (by simp) (fun _ _ e => by injection e with _ e; cases e)).trans hc.symm⟩
theorem TSt.lay {x0 x1 x2 x3 x4 x5 : Value} (hG : w.heap.size < G) (k0 : W.heap[G]? = some (.cells #[x0, x1, x2, x3, x4, x5] 88 (0, 0))) (k1 : W.heap[w.heap.size]? = some dz) (h3 : Below w.heap.size w W) (h5 : RepF s w.heap.size r i la bd ao n ca W) (h6 : T3 w tv ts W) : TSt s G w r i la bd ao n ca tv ts (put6 W G (.string s) (.int .i64 i) (.int .i64 la) (.int .i64 bd) (.slice ao n ca) tv) := by
 refine ⟨put6_blk _ _ _ _ _ _ k0, hG, (put6_other (by omega)).trans k1, put6_below h3 (by omega) _ _ _ _ _ _, h5.put6 k0, h6.keep fun b cur hc => put6_other ?_⟩
 rintro rfl
 have := k0.symm.trans hc
 simp at this
theorem TSt.size (h : TSt s G w r i la bd ao n ca tv ts W) : w.heap.size < W.heap.size := by
 have := (alt h.1)
 have := h.2.1
 omega
end
theorem TSt.grow {s : ByteArray} {G : Nat} {w : World} {r : Except Nat St} {i : Nat} {la bd : Int} {ao : Option Addr} {n ca : Nat} {W W' : World} {tv : Value} {ts : List Int} (h : TSt s G w r i la bd ao n ca tv ts W) (hg : W.grownBy W' tv.ownBlock) : W'.heap[G]? = some (rb s i la bd (.slice ao n ca) tv) ∧ W'.heap[w.heap.size]? = some dz ∧ Below w.heap.size w W' ∧ RepF s w.heap.size r i la bd ao n ca W' := by
 obtain ⟨k0, hG, k1, h3, h5, h6⟩ := h
 have hz := (alt k0)
 have ne : ∀ (k : Nat) (cur : Array Value) (T : TypeId), W.heap[k]? = some (.cells cur T (0, 0)) → T ≠ 3 → some k ≠ tv.ownBlock := fun k cur T hk hT e => by
  obtain ⟨_, cur', hc⟩ := T3.blk h6 e.symm
  have := hk.symm.trans hc
  simp at this
  exact hT this.2
 exact ⟨(hg.block _ hz (ne _ _ _ k0 (by decide))).trans k0, (hg.block _ (by omega) (ne _ _ _ k1 (by decide))).trans k1, h3.grown hg (by omega) (fun k hk => (T3.blk h6 hk).1), h5.keep fun b cur hc => hg.block b (alt hc) (ne _ _ _ hc (by decide))⟩
theorem TSt.top {s : ByteArray} {G : Nat} {w : World} {r : Except Nat St} {i : Nat} {la bd : Int} {ao : Option Addr} {n ca : Nat} {W : World} {tv tv' : Value} {ts : List Int} (hG : w.heap.size < G) (k0 : W.heap[G]? = some (rb s i la bd (.slice ao n ca) tv)) (k1 : W.heap[w.heap.size]? = some dz) (h3 : Below w.heap.size w W) (h5 : RepF s w.heap.size r i la bd ao n ca W) (h6 : T3 w tv' ts W) : TSt s G w r i la bd ao n ca tv' ts (W.setCell ⟨G, 5, none⟩ tv') := by
 have ot : ∀ j, j ≠ G → (W.setCell ⟨G, 5, none⟩ tv').heap[j]? = W.heap[j]? := fun j hj => heap_setCell_other _ _ _ _ hj
 refine ⟨heap_setCell_same _ _ 5 _ _ _ k0, hG, (ot _ (by omega)).trans k1, h3.setCell (p := ⟨G, _, none⟩) (by show w.heap.size ≤ G; omega) _, h5.keep fun b cur hc => ot b ?_, h6.keep fun b cur hc => ot b ?_⟩
 ·rintro rfl
  have := k0.symm.trans hc
  simp [rb] at this
 ·rintro rfl
  have := k0.symm.trans hc
  simp [rb] at this
def TRel (s : ByteArray) (F G : Nat) (w : World) (L : Except Nat (St × List Int)) (wr : World) : Prop :=
 (∃ (ts : List Int) (st : St) (ao bo : Option Addr) (ca cb g : Nat), TSt s G w (.ok ⟨skAt s st.nx, st.la, st.cs⟩) (skAt s st.nx) st.la (-1) ao st.cs.length ca (.slice bo ts.length cb) ts wr ∧ topP s F g ts st = L ∧ s.size + 1 ≤ g + skAt s st.nx ∧ ts.length ≤ st.nx ∧ st.nx ≤ s.size) ∨
 (∃ (p i : Nat) (la : Int) (ao bo : Option Addr) (n ca m cb : Nat) (ts : List Int), TSt s G w (.error p) i la p ao n ca (.slice bo m cb) ts wr ∧ L = .error p)
def TMea (s : ByteArray) (G : Nat) (wr : World) : Nat := if intOf ((wr.cell? ⟨G, 3, none⟩).getD undef) < 0 then s.size + 1 - (intOf ((wr.cell? ⟨G, 1, none⟩).getD undef)).toNat else 0
theorem TMea_ok {s : ByteArray} {G : Nat} {w : World} {r : Except Nat St} {i : Nat} {la : Int} {ao : Option Addr} {n ca : Nat} {W : World} {tv : Value} {ts : List Int} (h : TSt s G w r i la (-1) ao n ca tv ts W) : TMea s G W = s.size + 1 - i := by
 unfold TMea
 rw [cell_blk (j := 3) h.1 rfl, cell_blk (j := 1) h.1 rfl]
 simp [intOf]
theorem TMea_err {s : ByteArray} {G : Nat} {w : World} {r : Except Nat St} {i p : Nat} {la : Int} {ao : Option Addr} {n ca : Nat} {W : World} {tv : Value} {ts : List Int} (h : TSt s G w r i la p ao n ca tv ts W) : TMea s G W = 0 := by
 unfold TMea
 rw [cell_blk (j := 3) h.1 rfl, if_neg (by simp [intOf])]
def RdS (w : World) (L : Except Nat (St × List Int)) (e : Ending) (w' : World) : Prop := match L with
 | .ok (st, ts) => ∃ (ao bo : Option Addr) (ca cb : Nat), e = .returned (.tuple #[.agg #[.slice ao st.cs.length ca, .slice bo ts.length cb], .int .i64 (-1)]) ∧ st.cs.length ≤ 1000 ∧ w'.ownsRow w.heap.size 98 5 (.slice ao st.cs.length ca) st.cs.length (flatD st.cs) ∧ T3 w (.slice bo ts.length cb) ts w' ∧ Below w.heap.size w w'
 | .error p => e = .returned (.tuple #[.agg #[.slice none 0 0, .slice none 0 0], .int .i64 (p : Int)]) ∧ Below w.heap.size w w'
theorem Try.info25s : (Try.prog.info? 66).map (·.size) = some 2 := by kernel_rfl
theorem ret25 {fn : Func} {p u : Tmp} {tmps : Array Value} {W : World} {g : Nat} {x0 x1 z : Value} (hf : fn.results = #[.cell p 66, .tmp u]) (hp : tmps.getD p undef = .pointer (some ⟨g, 0, none⟩)) (hu : tmps.getD u undef = z) (v0 v1 : Value) (h : W.heap[g]? = some (.cells #[x0, x1] 66 (0, 0))) :
  (results fn tmps).run Try.prog ((W.setCell ⟨g, 0, none⟩ v0).setCell ⟨g, 1, none⟩ v1) = .ok (.tuple #[.agg #[v0, v1], z]) ((W.setCell ⟨g, 0, none⟩ v0).setCell ⟨g, 1, none⟩ v1) := by
 have hk : ((W.setCell ⟨g, 0, none⟩ v0).setCell ⟨g, 1, none⟩ v1).heap[g]? = some (.cells #[v0, v1] 66 (0, 0)) := heap_setCell_same _ _ 1 _ _ v1 (heap_setCell_same _ _ 0 _ _ v0 h)
 have hp' : tmps[p]?.getD undef = .pointer (some ⟨g, 0, none⟩) := by simpa using hp
 have hu' : tmps[u]?.getD undef = z := by simpa using hu
 simp [results, hf, hp', hu', asAddr, run_loadVar_row _ g 66 66 _ (0, 0) _ hk Try.underlying66 rfl Try.info25s]
theorem ret25d {fn : Func} {p u : Tmp} {tmps : Array Value} {W : World} {g : Nat} {x0 x1 z : Value} (hf : fn.results = #[.cell p 66, .tmp u]) (hp : tmps.getD p undef = .pointer (some ⟨g, 0, none⟩)) (hu : tmps.getD u undef = z) (v0 v1 : Value) (h : W.heap[g]? = some (.cells #[x0, x1] 66 (0, 0))) :
  (results fn tmps).run Try.prog ((W.setCell ⟨g, 0, none⟩ v0).setCell ⟨g, 1, none⟩ v1).drew = .ok (.tuple #[.agg #[v0, v1], z]) ((W.setCell ⟨g, 0, none⟩ v0).setCell ⟨g, 1, none⟩ v1).drew := by
 have hk : ((W.setCell ⟨g, 0, none⟩ v0).setCell ⟨g, 1, none⟩ v1).drew.heap[g]? = some (.cells #[v0, v1] 66 (0, 0)) := heap_setCell_same _ _ 1 _ _ v1 (heap_setCell_same _ _ 0 _ _ v0 h)
 have hp' : tmps[p]?.getD undef = .pointer (some ⟨g, 0, none⟩) := by simpa using hp
 have hu' : tmps[u]?.getD undef = z := by simpa using hu
 simp [results, hf, hp', hu', asAddr, run_loadVar_row _ g 66 66 _ (0, 0) _ hk Try.underlying66 rfl Try.info25s]
theorem read_end {s : ByteArray} {F G g : Nat} {w : World} {L : Except Nat (St × List Int)} {st : St} {ao bo : Option Addr} {ca cb : Nat} {ts : List Int} {wr : World} (he : skAt s st.nx = s.size) (hT : topP s F (g + 1) ts st = L) (h : TSt s G w (.ok ⟨skAt s st.nx, st.la, st.cs⟩) (skAt s st.nx) st.la (-1) ao st.cs.length ca (.slice bo ts.length cb) ts wr) :
  RdS w L (.returned (.tuple #[.agg #[.slice ao st.cs.length ca, .slice bo ts.length cb], .int .i64 (-1)])) ((wr.setCell ⟨w.heap.size, 0, none⟩ (.slice ao st.cs.length ca)).setCell ⟨w.heap.size, 1, none⟩ (.slice bo ts.length cb)) := by
 rw [topP, if_pos he] at hT
 subst hT
 obtain ⟨k0, hG, k1, h3, ⟨g1, g2, _, _, _, _, h5⟩, h6⟩ := h
 have ot : ∀ j, j ≠ w.heap.size → ((wr.setCell ⟨w.heap.size, 0, none⟩ (.slice ao st.cs.length ca)).setCell ⟨w.heap.size, 1, none⟩ (.slice bo ts.length cb)).heap[j]? = wr.heap[j]? := fun j hj => (heap_setCell_other _ _ _ _ hj).trans (heap_setCell_other _ _ _ _ hj)
 refine ⟨ao, bo, ca, cb, rfl, g2, own_other h5 fun b hb => ot b ?_, T3.keep h6 fun b cur hc => ot b ?_, (h3.setCell (p := ⟨w.heap.size, _, none⟩) (Nat.le_refl _) _).setCell (p := ⟨w.heap.size, _, none⟩) (Nat.le_refl _) _⟩
 ·obtain ⟨cur, hc⟩ := own_kind h5 hb
  rintro rfl
  have := k1.symm.trans hc
  simp [dz] at this
 ·rintro rfl
  have := k1.symm.trans hc
  simp [dz] at this
set_option maxRecDepth 100000 in
set_option maxHeartbeats 4000000 in
theorem specRead_any (s : ByteArray) (w : World) (hs : s.size ≤ 1048576) (F : Nat) (hF : 2 * s.size + 2 ≤ F) (f : Nat) (hf : s.size + 1 ≤ f) :
  Calls Try.prog 40 #[.string s] w fun e w' => RdS w (topP s F f [] ⟨0, 0, []⟩) e w' := by
 obtain ⟨i3, hi3, hz30, hz31, hz32⟩ := info_parts bldInfo3
 obtain ⟨L, hL⟩ : ∃ L, L = topP s F f [] ⟨0, 0, []⟩ := ⟨_, rfl⟩
 rw [← hL]
 have HL0 : Hid (topP s F f [] ⟨0, 0, []⟩ = L) := hL.symm
 clear hL
 go_enter Try.func40, Try.ntmps40
 go_wp2_with fail
 refine (l2Skip_any s 0 0 (-1) none none 0 0 0 0 _ hs (by omega)).mono ?_
 rintro e w1 ⟨rfl, hb1⟩
 have kz : w1.heap[w.heap.size]? = some dz := (hb1.block _ (by simp)).trans (blk_at _ _ _ rfl)
 have hz1 : w.heap.size < w1.heap.size := (alt kz)
 have hbw : Below w.heap.size w w1 := (bR _ _).trans (hb1.mono (by simp))
 clear hb1
 go_wp2_with fail
 have hsk := skAt_le s 0 (by omega)
 go_loopw [8] (fun _ wr => TRel s F w1.heap.size w L wr) (fun _ wr => TMea s w1.heap.size wr)
 case atStart =>
  exact .inl ⟨[], ⟨0, 0, []⟩, none, none, 0, 0, f, ⟨blk_at _ _ _ rfl, hz1, blk_past kz, hbw.alloc (by omega) _, ⟨hsk, Nat.zero_le _, rfl, rfl, rfl, rfl, rfl, .inl ⟨rfl, rfl⟩⟩, rfl, .inl ⟨rfl, rfl⟩⟩, HL0.out, by omega, Nat.le_refl _, Nat.zero_le _⟩
 case round =>
  clear kz hbw HL0 hsk
  rcases hrel with ⟨ts, st, ao, bo, ca, cb, g, hts, htop, hgs, htl, hnx⟩ | ⟨p, i, la, ao, bo, n, ca, m, cb, ts, hts, hL⟩
  ·have HT : Hid (TSt s w1.heap.size w (.ok ⟨skAt s st.nx, st.la, st.cs⟩) (skAt s st.nx) st.la (-1) ao st.cs.length ca (.slice bo ts.length cb) ts wr) := hts
   have hib := skAt_le s st.nx hnx
   obtain ⟨g, rfl⟩ : ∃ g', g = g' + 1 := ⟨g - 1, by omega⟩
   have HTOP : Hid (topP s F (g + 1) ts st = L) := htop
   clear hts htop
   have k0 := HT.out.1
   have kd := HT.out.2.2.1
   obtain ⟨x0, x1, x2, x3, x4, x5⟩ := zn6 k0 rfl rfl rfl rfl rfl rfl
   have f0 := frozen_blk k0 0
   have f1 := frozen_blk k0 1
   have f2 := frozen_blk k0 2
   have f3 := frozen_blk k0 3
   have f4 := frozen_blk k0 4
   have f5 := frozen_blk k0 5
   obtain ⟨d0, d1⟩ := zn2 kd rfl rfl
   have e0 := frozen_blk kd 0
   have e1 := frozen_blk kd 1
   clear k0 kd
   by_cases hend : skAt s st.nx < s.size
   ·have qe : decide ((skAt s st.nx : Int) < (s.size : Int)) = true := by simp; omega
    have HG : Hid (∀ st', datP s F 0 (skAt s (skAt s st.nx)) st.cs = .ok st' → st.nx < st'.nx ∧ skAt s st.nx < st'.nx ∧ st'.nx ≤ s.size) := by
     show ∀ st', _ → _
     intro st' e
     have := datP_prog (skAt_le s _ hib) e
     rw [skAt_idem] at this
     have := skAt_ge s st.nx
     omega
    have HE : Hid (((datP s F 0 (skAt s (skAt s st.nx)) st.cs).bind fun st2 => topP s F g (ts ++ [st2.top]) st2) = L) := by
     show _ = _
     rw [← HTOP.out, topP, if_neg (by omega), skAt_idem]
    go_wp2_with fail
    refine (l2Datum_any s bo ts.length cb w.heap.size hs F 0 (by omega) (.ok ⟨skAt s st.nx, st.la, st.cs⟩) _ _ _ _ _ _ _ (by have := TSt.size HT.out; omega) HT.out.2.2.2.2.1 ?_).mono ?_
    ·intro st' e
     obtain rfl := Except.ok.inj e
     show 2 * (s.size - skAt s st.nx) + 1 ≤ F
     omega
    clear x0 f0 x1 f1 x2 f2 x3 f3 x4 f4 x5 f5 d0 d1 e0 e1
    intro e v4 hp4
    obtain ⟨i4, l4, b4, a4, n4, c4, rfl, kx, kz, hb4, hr4, ht4⟩ := TSt.got HT.out hp4
    change RepF s w.heap.size (datP s F 0 (skAt s (skAt s st.nx)) st.cs) i4 l4 b4 a4 n4 c4 v4 at hr4
    have HM : Hid (TMea s w1.heap.size wr = s.size + 1 - skAt s st.nx) := TMea_ok HT.out
    have hn4 : n4 ≤ 1000 := hr4.2.1
    have HT4 : Hid (TSt s w1.heap.size w (datP s F 0 (skAt s (skAt s st.nx)) st.cs) i4 l4 b4 a4 n4 c4 (.slice bo ts.length cb) ts _) := TSt.lay hz1 kx kz hb4 hr4 ht4
    cases hr : datP s F 0 (skAt s (skAt s st.nx)) st.cs with
    | error p =>
     rw [hr] at hr4 HT4 HE
     have hbp : b4 = (p : Int) := hr4.2.2
     subst hbp
     obtain ⟨x0, x1, x2, x3, x4, x5⟩ := zn6 kx rfl rfl rfl rfl rfl rfl
     have f0 := frozen_blk kx 0
     have f1 := frozen_blk kx 1
     have f2 := frozen_blk kx 2
     have f3 := frozen_blk kx 3
     have f4 := frozen_blk kx 4
     have f5 := frozen_blk kx 5
     clear kx kz hb4 hr4 ht4 hp4 HT hr
     have qp : decide ((p : Int) < 0) = false := by simp
     go_wp2
     go_roundw
     case rel => exact .inr ⟨p, i4, l4, a4, bo, n4, c4, ts.length, cb, ts, HT4.out, HE.out.symm⟩
     case measure =>
      have h1 := TMea_err HT4.out
      have h2 := HM.out
      show TMea s w1.heap.size (put6 v4 w1.heap.size (.string s) (.int .i64 i4) (.int .i64 l4) (.int .i64 p) (.slice a4 n4 c4) (.slice bo ts.length cb)) < TMea s w1.heap.size wr
      omega
    | ok st2 =>
     rw [hr] at hr4 HT4 HE
     obtain ⟨hg1, hg2, hg3⟩ := HG.out st2 hr
     obtain ⟨rfl, rfl, rfl, rfl, _⟩ := hr4.2.2
     obtain ⟨x0, x1, x2, x3, x4, x5⟩ := zn6 kx rfl rfl rfl rfl rfl rfl
     have f0 := frozen_blk kx 0
     have f1 := frozen_blk kx 1
     have f2 := frozen_blk kx 2
     have f3 := frozen_blk kx 3
     have f4 := frozen_blk kx 4
     have f5 := frozen_blk kx 5
     clear kx kz hb4 hr4 ht4 hp4 HT hr HG
     obtain ⟨vp, hvp⟩ : ∃ vp, vp = put6 v4 w1.heap.size (.string s) (.int .i64 st2.nx) (.int .i64 st2.la) (.int .i64 (-1)) (.slice a4 st2.cs.length c4) (.slice bo ts.length cb) := ⟨_, rfl⟩
     have hvz : vp.heap.size = v4.heap.size := by rw [hvp]; exact put6_size
     rw [← hvp] at HT4
     have hbl := (Below.refl _ vp).alloc (Nat.le_refl _) (.cells #[.int .i64 ((st2.cs.length : Int) - 1)] 3 (0, 0))
     have HTA : Hid (TSt s w1.heap.size w (.ok st2) st2.nx st2.la (-1) a4 st2.cs.length c4 (.slice bo ts.length cb) ts (vp.alloc (.cells #[.int .i64 ((st2.cs.length : Int) - 1)] 3 (0, 0)))) := TSt.below HT4.out hbl
     have hAz : (vp.alloc (.cells #[.int .i64 ((st2.cs.length : Int) - 1)] 3 (0, 0))).heap.size = v4.heap.size + 1 := by simp [hvz]
     have kA : (vp.alloc (.cells #[.int .i64 ((st2.cs.length : Int) - 1)] 3 (0, 0))).heap[v4.heap.size]? = some (.cells #[.int .i64 ((st2.cs.length : Int) - 1)] 3 (0, 0)) := blk_at _ _ _ hvz.symm
     have hwA : w.heap.size ≤ (vp.alloc (.cells #[.int .i64 ((st2.cs.length : Int) - 1)] 3 (0, 0))).heap.size := by have := TSt.size HTA.out; omega
     clear hbl HT4
     rw [hvp] at hAz kA hwA HTA
     go_wp2_with (at_builtin; refine wpList_append_lies _ rfl _ _ 33 rfl w.heap.size 3 i3 _ 1 8 Try.underlying33 hi3 hz30 hz31 hz32 rfl (by omega) (.slice bo ts.length cb) ts.length (ts.map (Value.int .i64 ·)) rfl HTA.out.2.2.2.2.2 ⟨v4.heap.size, 0, none⟩ 1 1 [.int .i64 ((st2.cs.length : Int) - 1)] rfl rfl (World.news_of_block kA) (by intro u hu; simp at hu; subst hu; rfl) (by omega) (by simp [maxLen]; omega) (by omega) hwA (v4.heap.size + 1) hAz ?_)
     intro gg cap' w5 hown hgrow hat hlt
     have HO5 : Hid (T3 w (.slice (some ⟨gg, 0, none⟩) (ts ++ [st2.top]).length cap') (ts ++ [st2.top]) w5) := by
      show World.ownsRow _ _ _ _ _ _ _
      rw [List.length_append, List.map_append]
      exact hown
     obtain ⟨kx, kz, hb5, hr5⟩ := TSt.grow HTA.out hgrow
     have HT5 : Hid _ := TSt.top hz1 kx kz hb5 hr5 HO5.out
     have hln : (ts ++ [st2.top]).length = ts.length + 1 := by simp
     rw [hln] at HT5
     obtain ⟨x0, x1, x2, x3, x4, x5⟩ := zn6 kx rfl rfl rfl rfl rfl rfl
     have f0 := frozen_blk kx 0
     have f1 := frozen_blk kx 1
     have f2 := frozen_blk kx 2
     have f3 := frozen_blk kx 3
     have f4 := frozen_blk kx 4
     have f5 := frozen_blk kx 5
     clear kx kz hb5 hr5 hown hgrow hat hlt hAz kA hwA HTA hvp hvz HO5
     go_wp2_with fail
     refine (l2Skip_any s st2.nx st2.la (-1) a4 (some ⟨gg, 0, none⟩) st2.cs.length c4 (ts.length + 1) cap' _ hs hg3).mono ?_
     rintro e w6 ⟨rfl, hb6⟩
     have HT6 : Hid (TSt s w1.heap.size w (.ok st2) st2.nx st2.la (-1) a4 st2.cs.length c4 (.slice (some ⟨gg, 0, none⟩) (ts.length + 1) cap') (ts ++ [st2.top]) w6) := TSt.below HT5.out hb6
     clear hb6 HT5 x0 f0 x1 f1 x2 f2 x3 f3 x4 f4 x5 f5
     have k6 := HT6.out.1
     obtain ⟨x0, x1, x2, x3, x4, x5⟩ := zn6 k6 rfl rfl rfl rfl rfl rfl
     have f0 := frozen_blk k6 0
     have f1 := frozen_blk k6 1
     have f2 := frozen_blk k6 2
     have f3 := frozen_blk k6 3
     have f4 := frozen_blk k6 4
     have f5 := frozen_blk k6 5
     have HT7 : Hid _ := TSt.lay hz1 HT6.out.1 HT6.out.2.2.1 HT6.out.2.2.2.1 (RepF.skip HT6.out.2.2.2.2.1) HT6.out.2.2.2.2.2
     have hsg := skAt_ge s st2.nx
     clear k6 HT6
     go_wp2
     go_roundw
     case rel => exact .inl ⟨ts ++ [st2.top], st2, a4, some ⟨gg, 0, none⟩, c4, cap', g, (by rw [hln]; exact HT7.out), HE.out, by omega, by rw [hln]; omega, hg3⟩
     case measure =>
      have h1 := TMea_ok HT7.out
      have h2 := HM.out
      show TMea s w1.heap.size (put6 w6 w1.heap.size (.string s) (.int .i64 (skAt s st2.nx : Nat)) (.int .i64 st2.la) (.int .i64 (-1)) (.slice a4 st2.cs.length c4) (.slice (some ⟨gg, 0, none⟩) (ts.length + 1) cap')) < TMea s w1.heap.size wr
      omega
   ·have qe : decide ((skAt s st.nx : Int) < (s.size : Int)) = false := by simp; omega
    go_wp2
    have he : skAt s st.nx = s.size := by omega
    refine bodyPost_ret (ret25 rfl rfl rfl (.slice ao st.cs.length ca) (.slice bo ts.length cb) HT.out.2.2.1) rfl ?_
    exact read_end he HTOP.out HT.out
  ·have HT : Hid (TSt s w1.heap.size w (.error p) i la p ao n ca (.slice bo m cb) ts wr) := hts
   have k0 := HT.out.1
   have kd := HT.out.2.2.1
   obtain ⟨x0, x1, x2, x3, x4, x5⟩ := zn6 k0 rfl rfl rfl rfl rfl rfl
   have f0 := frozen_blk k0 0
   have f1 := frozen_blk k0 1
   have f2 := frozen_blk k0 2
   have f3 := frozen_blk k0 3
   have f4 := frozen_blk k0 4
   have f5 := frozen_blk k0 5
   obtain ⟨d0, d1⟩ := zn2 kd rfl rfl
   have e0 := frozen_blk kd 0
   have e1 := frozen_blk kd 1
   clear k0 kd hts
   have qp : decide ((p : Int) < 0) = false := by simp
   have qp2 : decide ((0 : Int) ≤ (p : Int)) = true := by simp
   go_wp2
   go_region
   go_wp2
   refine bodyPost_ret (ret25d rfl rfl rfl (.slice none 0 0) (.slice none 0 0) HT.out.2.2.1) rfl ?_
   rw [hL]
   exact ⟨rfl, ((HT.out.2.2.2.1.setCell (p := ⟨w.heap.size, _, none⟩) (Nat.le_refl _) _).setCell (p := ⟨w.heap.size, _, none⟩) (Nat.le_refl _) _).drew⟩
end Go.Proofs.Ytgjeefedcfakdaa.R2
set_option linter.unusedVariables false
namespace Go.Proofs.Ytgjeefedcfakdaa.R2
def okD (i : Nat) (d : Dat) : Prop :=
 (d.k = 1 ∧ d.s = ⟨#[]⟩ ∧ -1000000 ≤ d.n ∧ d.n ≤ 1000000 ∧ d.l = 0 ∧ d.r = 0) ∨ (d.k = 2 ∧ d.s = ⟨#[]⟩ ∧ (d.n = 0 ∨ d.n = 1) ∧ d.l = 0 ∧ d.r = 0) ∨ (d.k = 3 ∧ syL d.s.data.toList = true ∧ d.n = 0 ∧ d.l = 0 ∧ d.r = 0) ∨ (d.k = 4 ∧ d.s = ⟨#[]⟩ ∧ d.n = 0 ∧ d.l = 0 ∧ d.r = 0) ∨ (d.k = 5 ∧ d.s = ⟨#[]⟩ ∧ d.n = 0 ∧ 0 ≤ d.l ∧ d.l < i ∧ 0 ≤ d.r ∧ d.r < i)
def okC (cs : List Dat) : Prop := ∀ (i : Nat) (d : Dat), cs[i]? = some d → okD i d
theorem okC.snoc {cs : List Dat} {d : Dat} (h : okC cs) (hd : okD cs.length d) : okC (cs ++ [d]) := by
 intro i x hx
 rcases Nat.lt_trichotomy i cs.length with hlt | heq | hgt
 ·rw [List.getElem?_append_left hlt] at hx
  exact h i x hx
 ·subst heq
  rw [List.getElem?_append_right (Nat.le_refl _)] at hx
  simp at hx
  subst hx
  exact hd
 ·rw [List.getElem?_eq_none (by simp; omega)] at hx
  cases hx
theorem atom_ok {t : ByteArray} {d : Dat} (h : atomD t = some d) (i : Nat) : okD i d := by
 unfold atomD at h
 split at h
 ·rename_i hc
  obtain rfl := Option.some.inj h
  exact .inl ⟨rfl, rfl, hc.2.1, hc.2.2, rfl, rfl⟩
 ·split at h
  ·obtain rfl := Option.some.inj h
   exact .inr (.inl ⟨rfl, rfl, .inr rfl, rfl, rfl⟩)
  ·split at h
   ·obtain rfl := Option.some.inj h
    exact .inr (.inl ⟨rfl, rfl, .inl rfl, rfl, rfl⟩)
   ·split at h
    ·rename_i hc
     obtain rfl := Option.some.inj h
     exact .inr (.inr (.inl ⟨rfl, hc, rfl, rfl, rfl⟩))
    ·cases h
theorem quo_ok (i : Nat) : okD i quoD := .inr (.inr (.inl ⟨rfl, by decide +kernel, rfl, rfl, rfl⟩))
theorem nil_ok (i : Nat) : okD i nilD := .inr (.inr (.inr (.inl ⟨rfl, rfl, rfl, rfl, rfl⟩)))
theorem put_ok {st st' : St} {d : Dat} (h : putP st d = .ok st') (hc : okC st.cs) (hd : okD st.cs.length d) : okC st'.cs ∧ st'.cs.length = st.cs.length + 1 := by
 unfold putP at h
 split at h
 ·obtain rfl := Except.ok.inj h
  exact ⟨hc.snoc hd, by simp⟩
 ·cases h
theorem prS_ok {cs : List Dat} {ps : List Int} {e : Int} (hc : okC cs) (hp : ∀ p ∈ ps, 0 ≤ p ∧ p < cs.length) (he : 0 ≤ e ∧ e < cs.length) : ∀ k, k ≤ ps.length → okC (prS cs ps e k).1 ∧ 0 ≤ (prS cs ps e k).2 ∧ (prS cs ps e k).2 < (prS cs ps e k).1.length
 | 0, _ => ⟨hc, he⟩
 | k + 1, hk => by
  obtain ⟨h1, h2, h3⟩ := prS_ok hc hp he k (by omega)
  have hl := prS_length cs ps e k
  have hm : ps.getD (ps.length - 1 - k) 0 ∈ ps := by
   rw [List.getD_eq_getElem?_getD, List.getElem?_eq_getElem (by omega)]
   exact List.getElem_mem _
  obtain ⟨g1, g2⟩ := hp _ hm
  simp only [prS]
  refine ⟨h1.snoc (.inr (.inr (.inr (.inr ⟨rfl, rfl, rfl, g1, ?_, h2, h3⟩)))), ?_, ?_⟩
  ·show ps.getD (ps.length - 1 - k) 0 < (((prS cs ps e k).1.length : Nat) : Int)
   rw [hl]
   omega
  ·omega
  ·simp
   omega
theorem prs_ok {st st' : St} {ps : List Int} (h : prsP st ps = .ok st') (hc : okC st.cs) (h1 : 1 ≤ st.cs.length) (hp : ∀ p ∈ ps, 0 ≤ p ∧ p < st.cs.length) : okC st'.cs ∧ st.cs.length ≤ st'.cs.length := by
 unfold prsP at h
 split at h
 ·obtain rfl := Except.ok.inj h
  exact ⟨(prS_ok hc hp ⟨by omega, by omega⟩ _ (Nat.le_refl _)).1, by simp only [prS_length]; omega⟩
 ·cases h
theorem rd_ok (s : ByteArray) : ∀ (f : Nat),
  (∀ deep b cs st', okC cs → datP s f deep b cs = .ok st' → okC st'.cs ∧ cs.length < st'.cs.length) ∧
  (∀ deep ps st st', okC st.cs → (∀ p ∈ ps, 0 ≤ p ∧ p < st.cs.length) → lstP s f deep ps st = .ok st' → okC st'.cs ∧ st.cs.length < st'.cs.length)
 | 0 => ⟨fun _ _ _ _ _ h => (by cases h), fun _ _ _ _ _ _ h => (by cases h)⟩
 | f + 1 => by
  obtain ⟨ihd, ihl⟩ := rd_ok s f
  constructor
  ·intro deep b cs st' hc h
   rw [datP_succ] at h
   split at h
   ·cases h
   ·split at h
    ·split at h
     ·cases h
     ·exact ihl _ _ _ _ hc (fun p hp => by cases hp) h
    ·split at h
     ·split at h
      ·cases h
      ·obtain ⟨y1, h1, h⟩ := bind_ok h
       obtain ⟨y2, h2, h⟩ := bind_ok h
       obtain ⟨y3, h3, h⟩ := bind_ok h
       obtain ⟨c1, l1⟩ := put_ok h1 hc (quo_ok _)
       obtain ⟨c2, l2⟩ := ihd _ _ _ _ c1 h2
       obtain ⟨c3, l3⟩ := put_ok h3 c2 (nil_ok _)
       have l1' : y1.cs.length = cs.length + 1 := l1
       obtain ⟨c4, l4⟩ := prs_ok h c3 (by omega) (by
        intro p hp
        simp only [List.mem_cons, List.not_mem_nil, or_false, St.top] at hp
        rcases hp with rfl | rfl
        ·omega
        ·omega)
       exact ⟨c4, by omega⟩
     ·unfold atomP at h
      split at h
      ·rename_i d hd
       obtain ⟨c1, l1⟩ := put_ok h hc (atom_ok hd _)
       have l1' : st'.cs.length = cs.length + 1 := l1
       exact ⟨c1, by omega⟩
      ·cases h
  ·intro deep ps st st' hc hp h
   rw [lstP_succ] at h
   split at h
   ·obtain ⟨y1, h1, h⟩ := bind_ok h
    obtain ⟨c1, l1⟩ := put_ok h1 hc (nil_ok _)
    have l1' : y1.cs.length = st.cs.length + 1 := l1
    obtain ⟨c2, l2⟩ := prs_ok h c1 (by omega) (fun p hq => by have := hp p hq; omega)
    exact ⟨c2, by omega⟩
   ·split at h
    ·obtain ⟨y1, h1, h⟩ := bind_ok h
     obtain ⟨c1, l1⟩ := ihd _ _ _ _ hc h1
     split at h
     ·obtain ⟨c2, l2⟩ := prs_ok h c1 (show 1 ≤ y1.cs.length by omega) (fun p hq => by have := hp p hq; show 0 ≤ p ∧ p < (y1.cs.length : Int); omega)
      exact ⟨c2, Nat.lt_of_lt_of_le l1 l2⟩
     ·cases h
    ·obtain ⟨y1, h1, h⟩ := bind_ok h
     obtain ⟨c1, l1⟩ := ihd _ _ _ _ hc h1
     obtain ⟨c2, l2⟩ := ihl _ _ _ _ c1 (by
      intro p hq
      rcases List.mem_append.1 hq with hq | hq
      ·have := hp p hq; omega
      ·simp only [List.mem_cons, List.not_mem_nil, or_false, St.top] at hq
       subst hq
       omega) h
     exact ⟨c2, by omega⟩
theorem top_ok (s : ByteArray) (F : Nat) : ∀ (f : Nat) (ts : List Int) (st st' : St) (ts' : List Int), okC st.cs → (∀ t ∈ ts, 0 ≤ t ∧ t < st.cs.length) → topP s F f ts st = .ok (st', ts') → okC st'.cs ∧ ∀ t ∈ ts', 0 ≤ t ∧ t < st'.cs.length
 | 0, _, _, _, _, _, _, h => by cases h
 | f + 1, ts, st, st', ts', hc, ht, h => by
  rw [topP] at h
  split at h
  ·have := Except.ok.inj h
   injection this with h1 h2
   subst h1; subst h2
   exact ⟨hc, ht⟩
  ·obtain ⟨y, h1, h2⟩ := bind_ok h
   obtain ⟨c1, l1⟩ := (rd_ok s F).1 _ _ _ _ hc h1
   refine top_ok s F f _ _ _ _ c1 (fun p hq => ?_) h2
   rcases List.mem_append.1 hq with hq | hq
   ·have := ht p hq; omega
   ·simp only [List.mem_cons, List.not_mem_nil, or_false, St.top] at hq
    subst hq
    omega
end Go.Proofs.Ytgjeefedcfakdaa.R2
