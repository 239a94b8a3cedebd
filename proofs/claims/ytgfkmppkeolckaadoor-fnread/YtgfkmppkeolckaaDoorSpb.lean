/- The model's reader: failing, one cell more. -/
import Derived.Test.YtgfkmppkeolckaaDoorSpa
set_option linter.unusedVariables false
namespace Go.Proofs.YtgfkmppkeolckaaDoor
open Go.ChangeShapes Go.WideShapes Go.ChangeAt Go.RowKit
theorem own_other {w w' : World} {B t k n : Nat} {v : Value} {xs : List Value} (h : w.ownsRow B t k v n xs) (hk : ∀ b, v.ownBlock = some b → w'.heap[b]? = w.heap[b]?) : w'.ownsRow B t k v n xs := by
  obtain ⟨hl, h0 | ⟨g, cap, cur, hv, a1, hblk, a3, a4, a5, a6⟩⟩ := h
  · exact ⟨hl, .inl h0⟩
  · exact ⟨hl, .inr ⟨g, cap, cur, hv, a1, (hk g (by rw [hv]; rfl)).trans hblk, a3, a4, a5, a6⟩⟩
/-- A row of cells of its own lies in no block of another kind. -/
theorem own_kind {w : World} {B n b : Nat} {v : Value} {xs : List Value} (h : w.ownsRow B 67 5 v n xs) (hb : v.ownBlock = some b) : ∃ cur, w.heap[b]? = some (.cells cur 67 (0, 0)) := by
  obtain ⟨hl, ⟨hv, _⟩ | ⟨g, cap, cur, hv, a1, hblk, a3, a4, a5, a6⟩⟩ := h
  · rw [hv] at hb; cases hb
  · rw [hv] at hb
    simp only [Value.ownBlock, Option.some.injEq] at hb
    subst hb
    exact ⟨cur, hblk⟩
/-- What a region of new blocks and one row's growth leaves of all else. -/
theorem ok_grow {w wA w1 : World} {v : Value} {B n : Nat} {xs : List Value} (hb : Below w.heap.size w wA) (hg : wA.grownBy w1 v.ownBlock) (ho : w.ownsRow B 67 5 v n xs) : Lib.OthersKept 67 none w w1 := by
  intro k o hk _ hne
  have hkw := (Array.getElem?_eq_some_iff.1 hk).1
  have hn : some k ≠ v.ownBlock := by
    intro e
    obtain ⟨cur, hc⟩ := own_kind ho e.symm
    exact hne _ _ (Option.some.inj (hk.symm.trans hc))
  exact ((hg.block k (Nat.lt_of_lt_of_le hkw hb.size) hn).trans (hb.block k hkw)).trans hk
theorem ok_high {w w1 w2 : World} (h : Lib.OthersKept 67 none w w1) (hk : ∀ b, b < w.heap.size → w2.heap[b]? = w1.heap[b]?) : Lib.OthersKept 67 none w w2 :=
  fun k o hk0 hkb ho => (hk k (Array.getElem?_eq_some_iff.1 hk0).1).trans (h k o hk0 hkb ho)
theorem ok_below {w w1 : World} (h : Below w.heap.size w w1) : Lib.OthersKept 67 none w w1 :=
  fun k o hk _ _ => (h.block k (Array.getElem?_eq_some_iff.1 hk).1).trans hk
set_option maxRecDepth 100000 in
set_option maxHeartbeats 1000000 in
theorem l2Fail_neg (s : ByteArray) (i la p : Int) (ao bo : Option Addr) (n ca m cb : Nat) (w : World) :
    Calls Tryd.prog 59 #[.agg #[.string s, .int .i64 i, .int .i64 la, .int .i64 (-1), .slice ao n ca, .slice bo m cb], .int .i64 p] w fun e w' => Ans w (.agg #[.string s, .int .i64 i, .int .i64 la, .int .i64 p, .slice ao n ca, .slice bo m cb]) e w' := by
  go_enter Tryd.func59, Tryd.ntmps59
  go_wp2
  refine bodyPost_ret (results_cell_row rfl _ _ (w.heap.size + 1) 54 #[.string s, .int .i64 i, .int .i64 la, .int .i64 p, .slice ao n ca, .slice bo m cb] (0, 0) _ rfl (blk_at _ _ _ (by simp)) Tryd.underlying54 rfl Tryd.info32s) rfl ?_
  exact ⟨rfl, ((Below.refl _ _).alloc (Nat.le_refl _) _).alloc (by simp) _⟩
set_option maxRecDepth 100000 in
set_option maxHeartbeats 1000000 in
theorem l2Fail_pos (s : ByteArray) (i la p bd : Int) (ao bo : Option Addr) (n ca m cb : Nat) (w : World) (hbd : 0 ≤ bd) :
    Calls Tryd.prog 59 #[.agg #[.string s, .int .i64 i, .int .i64 la, .int .i64 bd, .slice ao n ca, .slice bo m cb], .int .i64 p] w fun e w' => Ans w (.agg #[.string s, .int .i64 i, .int .i64 la, .int .i64 bd, .slice ao n ca, .slice bo m cb]) e w' := by
  have q : decide (bd < 0) = false := by simp; omega
  go_enter Tryd.func59, Tryd.ntmps59
  go_wp2
  refine bodyPost_ret (results_cell_row rfl _ _ (w.heap.size + 1) 54 #[.string s, .int .i64 i, .int .i64 la, .int .i64 bd, .slice ao n ca, .slice bo m cb] (0, 0) _ rfl (blk_at _ _ _ (by simp)) Tryd.underlying54 rfl Tryd.info32s) rfl ?_
  exact ⟨rfl, ((Below.refl _ _).alloc (Nat.le_refl _) _).alloc (by simp) _⟩
set_option maxRecDepth 100000 in
set_option maxHeartbeats 1000000 in
theorem l2Put_bad (s : ByteArray) (i la bd : Int) (ao bo : Option Addr) (n ca m cb : Nat) (d : Dat) (w : World) (hbd : 0 ≤ bd) :
    Calls Tryd.prog 60 #[.agg #[.string s, .int .i64 i, .int .i64 la, .int .i64 bd, .slice ao n ca, .slice bo m cb], .agg #[.int .i64 d.k, .int .i64 d.n, .string d.s, .int .i64 d.l, .int .i64 d.r]] w fun e w' => Ans w (.agg #[.string s, .int .i64 i, .int .i64 la, .int .i64 bd, .slice ao n ca, .slice bo m cb]) e w' := by
  have q : decide (0 ≤ bd) = true := by simp [hbd]
  go_enter Tryd.func60, Tryd.ntmps60
  go_wp2
  refine bodyPost_ret (results_cell_row rfl _ _ (w.heap.size + 1 + 1) 54 #[.string s, .int .i64 i, .int .i64 la, .int .i64 bd, .slice ao n ca, .slice bo m cb] (0, 0) _ rfl (blk_at _ _ _ (by simp)) Tryd.underlying54 rfl Tryd.info32s) rfl ?_
  exact ⟨rfl, (((Below.refl _ _).alloc (Nat.le_refl _) _).alloc (by simp) _).alloc (by simp; omega) _⟩
set_option maxRecDepth 100000 in
set_option maxHeartbeats 1000000 in
theorem l2Put_full (s : ByteArray) (i la : Int) (ao bo : Option Addr) (n ca m cb : Nat) (d : Dat) (w : World) (hn : n = 1000) :
    Calls Tryd.prog 60 #[.agg #[.string s, .int .i64 i, .int .i64 la, .int .i64 (-1), .slice ao n ca, .slice bo m cb], .agg #[.int .i64 d.k, .int .i64 d.n, .string d.s, .int .i64 d.l, .int .i64 d.r]] w fun e w' => Ans w (.agg #[.string s, .int .i64 i, .int .i64 la, .int .i64 la, .slice ao n ca, .slice bo m cb]) e w' := by
  subst hn
  go_enter Tryd.func60, Tryd.ntmps60
  have hbA : Below w.heap.size w (((w.alloc (rb s i la (-1) (.slice ao 1000 ca) (.slice bo m cb))).alloc (Obj.cells #[.int .i64 d.k, .int .i64 d.n, .string d.s, .int .i64 d.l, .int .i64 d.r] 67)).alloc rz) := (((Below.refl _ _).alloc (Nat.le_refl _) _).alloc (by simp) _).alloc (by simp; omega) _
  have k2 : (((w.alloc (rb s i la (-1) (.slice ao 1000 ca) (.slice bo m cb))).alloc (Obj.cells #[.int .i64 d.k, .int .i64 d.n, .string d.s, .int .i64 d.l, .int .i64 d.r] 67)).alloc rz).heap[w.heap.size + 1 + 1]? = some rz := blk_at _ _ _ (by simp)
  go_wp2_with (go_at_call 59; refine (l2Fail_neg s i la la ao bo 1000 ca m cb _).mono ?_; rintro e w1 ⟨rfl, hb1⟩; have kz := blk_keep k2 hb1 (by simp); have z0 := cell_blk (j := 0) kz rfl; have y0 := frozen_blk kz 0; have z1 := cell_blk (j := 1) kz rfl; have y1 := frozen_blk kz 1; have z2 := cell_blk (j := 2) kz rfl; have y2 := frozen_blk kz 2; have z3 := cell_blk (j := 3) kz rfl; have y3 := frozen_blk kz 3; have z4 := cell_blk (j := 4) kz rfl; have y4 := frozen_blk kz 4; have z5 := cell_blk (j := 5) kz rfl; have y5 := frozen_blk kz 5)
  refine bodyPost_ret (ret6 rfl rfl (.string s) (.int .i64 i) (.int .i64 la) (.int .i64 la) (.slice ao 1000 ca) (.slice bo m cb) kz) rfl ?_
  exact ⟨rfl, put6_below (hbA.trans (hb1.mono hbA.size)) (by omega) _ _ _ _ _ _⟩
set_option maxRecDepth 100000 in
set_option maxHeartbeats 1000000 in
theorem l2Put_ok (s : ByteArray) (i la : Int) (ao bo : Option Addr) (ca m cb B : Nat) (cs : List Dat) (d : Dat) (w : World) (hn : cs.length < 1000) (hB : B ≤ w.heap.size) (hown : w.ownsRow B 67 5 (.slice ao cs.length ca) cs.length (flatD cs)) :
    Calls Tryd.prog 60 #[.agg #[.string s, .int .i64 i, .int .i64 la, .int .i64 (-1), .slice ao cs.length ca, .slice bo m cb], .agg #[.int .i64 d.k, .int .i64 d.n, .string d.s, .int .i64 d.l, .int .i64 d.r]] w fun e w' => ∃ g c', e = .returned (.agg #[.string s, .int .i64 i, .int .i64 la, .int .i64 (-1), .slice (some ⟨g, 0, none⟩) (cs.length + 1) c', .slice bo m cb]) ∧ w'.ownsRow B 67 5 (.slice (some ⟨g, 0, none⟩) (cs.length + 1) c') (cs.length + 1) (flatD (cs ++ [d])) ∧ Below B w w' ∧ Lib.OthersKept 67 none w w' := by
  obtain ⟨i0, hi, hz0, hz1, hz2⟩ := info_parts bldInfo49
  have HO : Hid (w.ownsRow B 67 5 (.slice ao cs.length ca) cs.length (flatD cs)) := hown
  have q : decide ((1000 : Int) ≤ (cs.length : Int)) = false := by simp; omega
  clear hown
  have hbA : Below w.heap.size w ((((w.alloc (rb s i la (-1) (.slice ao cs.length ca) (.slice bo m cb))).alloc (Obj.cells #[.int .i64 d.k, .int .i64 d.n, .string d.s, .int .i64 d.l, .int .i64 d.r] 67)).alloc rz).alloc (Obj.cells #[.int .i64 d.k, .int .i64 d.n, .string d.s, .int .i64 d.l, .int .i64 d.r] 67)) := ((((Below.refl _ _).alloc (Nat.le_refl _) _).alloc (by simp) _).alloc (by simp; omega) _).alloc (by simp; omega) _
  have kA0 : ((((w.alloc (rb s i la (-1) (.slice ao cs.length ca) (.slice bo m cb))).alloc (Obj.cells #[.int .i64 d.k, .int .i64 d.n, .string d.s, .int .i64 d.l, .int .i64 d.r] 67)).alloc rz).alloc (Obj.cells #[.int .i64 d.k, .int .i64 d.n, .string d.s, .int .i64 d.l, .int .i64 d.r] 67)).heap[w.heap.size]? = some (rb s i la (-1) (.slice ao cs.length ca) (.slice bo m cb)) := blk_past (blk_past (blk_past (blk_at _ _ _ rfl)))
  have kA2 : ((((w.alloc (rb s i la (-1) (.slice ao cs.length ca) (.slice bo m cb))).alloc (Obj.cells #[.int .i64 d.k, .int .i64 d.n, .string d.s, .int .i64 d.l, .int .i64 d.r] 67)).alloc rz).alloc (Obj.cells #[.int .i64 d.k, .int .i64 d.n, .string d.s, .int .i64 d.l, .int .i64 d.r] 67)).heap[w.heap.size + 1 + 1]? = some rz := blk_past (blk_at _ _ _ (by simp))
  have kA3 : ((((w.alloc (rb s i la (-1) (.slice ao cs.length ca) (.slice bo m cb))).alloc (Obj.cells #[.int .i64 d.k, .int .i64 d.n, .string d.s, .int .i64 d.l, .int .i64 d.r] 67)).alloc rz).alloc (Obj.cells #[.int .i64 d.k, .int .i64 d.n, .string d.s, .int .i64 d.l, .int .i64 d.r] 67)).heap[w.heap.size + 1 + 1 + 1]? = some (Obj.cells #[.int .i64 d.k, .int .i64 d.n, .string d.s, .int .i64 d.l, .int .i64 d.r] 67) := blk_at _ _ _ (by simp)
  have hsA : ((((w.alloc (rb s i la (-1) (.slice ao cs.length ca) (.slice bo m cb))).alloc (Obj.cells #[.int .i64 d.k, .int .i64 d.n, .string d.s, .int .i64 d.l, .int .i64 d.r] 67)).alloc rz).alloc (Obj.cells #[.int .i64 d.k, .int .i64 d.n, .string d.s, .int .i64 d.l, .int .i64 d.r] 67)).heap.size = w.heap.size + 1 + 1 + 1 + 1 := by simp
  have hoA : ((((w.alloc (rb s i la (-1) (.slice ao cs.length ca) (.slice bo m cb))).alloc (Obj.cells #[.int .i64 d.k, .int .i64 d.n, .string d.s, .int .i64 d.l, .int .i64 d.r] 67)).alloc rz).alloc (Obj.cells #[.int .i64 d.k, .int .i64 d.n, .string d.s, .int .i64 d.l, .int .i64 d.r] 67)).ownsRow B 67 5 (.slice ao cs.length ca) cs.length (flatD cs) := (((HO.out.alloc _).alloc _).alloc _).alloc _
  have hol : ∀ k, (Value.slice ao cs.length ca).ownBlock = some k → B ≤ k ∧ k < w.heap.size := fun k hk => HO.out.lt k hk
  go_enter Tryd.func60, Tryd.ntmps60
  go_wp2_with (at_builtin; refine wpList_append_lies _ rfl _ _ 25 rfl B 67 i0 _ 5 48 Tryd.underlying25 hi hz0 hz1 hz2 rfl (by omega) (.slice ao cs.length ca) cs.length (flatD cs) rfl hoA ⟨w.heap.size + 1 + 1 + 1, 0, none⟩ 1 1 [.int .i64 d.k, .int .i64 d.n, .string d.s, .int .i64 d.l, .int .i64 d.r] rfl rfl (World.news_of_block kA3) (by intro u hu; simp at hu; rcases hu with rfl | rfl | rfl | rfl | rfl <;> rfl) (by omega) (by simp [maxLen]; omega) (by omega) (by simp; omega) (w.heap.size + 1 + 1 + 1 + 1) hsA ?_)
  intro g cap' w1 hown1 hgrow hat hlt
  have kr := (hgrow.block w.heap.size (by simp; try omega) (fun e => by have := (hol _ e.symm).2; omega)).trans kA0
  have kz := (hgrow.block (w.heap.size + 1 + 1) (by simp) (fun e => by have := (hol _ e.symm).2; omega)).trans kA2
  have x0 := cell_blk (j := 0) kr rfl
  have x1 := cell_blk (j := 1) kr rfl
  have x2 := cell_blk (j := 2) kr rfl
  have x3 := cell_blk (j := 3) kr rfl
  have x4 := cell_blk (j := 4) kr rfl
  have x5 := cell_blk (j := 5) kr rfl
  have fx := frozen_blk kr 4
  have z0 := cell_blk (j := 0) kz rfl
  have y0 := frozen_blk kz 0
  have z1 := cell_blk (j := 1) kz rfl
  have y1 := frozen_blk kz 1
  have z2 := cell_blk (j := 2) kz rfl
  have y2 := frozen_blk kz 2
  have z3 := cell_blk (j := 3) kz rfl
  have y3 := frozen_blk kz 3
  have z4 := cell_blk (j := 4) kz rfl
  have y4 := frozen_blk kz 4
  have z5 := cell_blk (j := 5) kz rfl
  have y5 := frozen_blk kz 5
  have HOK : Hid (Lib.OthersKept 67 none w w1) := ok_grow hbA hgrow HO.out
  have HBW : Hid (Below B w w1) := (hbA.mono hB).grown hgrow (by simp; omega) fun k hk => (hol k hk).1
  have KZ : Hid (w1.heap[w.heap.size + 1 + 1]? = some rz) := kz
  have HOWN : Hid (w1.ownsRow B 67 5 (.slice (some ⟨g, 0, none⟩) (cs.length + 1) cap') (cs.length + 1) (flatD (cs ++ [d]))) := by show World.ownsRow _ _ _ _ _ _ _; rw [flatD_snoc]; exact hown1
  have hgn : g ≠ w.heap.size ∧ g ≠ w.heap.size + 1 + 1 := by
    rcases hat with h | h
    · have := (hol g h).2; omega
    · omega
  clear hoA kA0 kA2 kA3 hbA hown1 hgrow kr kz
  go_wp2
  have kz' : (w1.setCell ⟨w.heap.size, 4, none⟩ (.slice (some ⟨g, 0, none⟩) (cs.length + 1) cap')).heap[w.heap.size + 1 + 1]? = some rz := (heap_setCell_other _ _ _ _ (by simp; omega)).trans KZ.out
  refine bodyPost_ret (ret6 rfl rfl (.string s) (.int .i64 i) (.int .i64 la) (.int .i64 (-1)) (.slice (some ⟨g, 0, none⟩) (cs.length + 1) cap') (.slice bo m cb) kz') rfl ?_
  have ot : ∀ b, b ≠ w.heap.size → b ≠ w.heap.size + 1 + 1 → (put6 (w1.setCell ⟨w.heap.size, 4, none⟩ (.slice (some ⟨g, 0, none⟩) (cs.length + 1) cap')) (w.heap.size + 1 + 1) (.string s) (.int .i64 i) (.int .i64 la) (.int .i64 (-1)) (.slice (some ⟨g, 0, none⟩) (cs.length + 1) cap') (.slice bo m cb)).heap[b]? = w1.heap[b]? := fun b h1 h2 => (put6_other h2).trans (heap_setCell_other _ _ _ _ h1)
  refine ⟨g, cap', rfl, own_other HOWN.out fun b hb => ?_, put6_below (HBW.out.setCell (p := ⟨_, _, none⟩) hB _) (by omega) _ _ _ _ _ _, ok_high HOK.out fun b hb => ot b (by omega) (by omega)⟩
  simp only [Value.ownBlock, Option.some.injEq] at hb
  subst hb
  exact ot _ hgn.1 hgn.2
end Go.Proofs.YtgfkmppkeolckaaDoor
