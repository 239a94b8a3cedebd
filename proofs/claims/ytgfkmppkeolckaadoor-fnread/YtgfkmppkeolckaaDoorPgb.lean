/- The program's reader: where it stands, one cell more, one level deeper. -/
import Derived.Test.YtgfkmppkeolckaaDoorPgm
import Derived.Test.YtgfkmppkeolckaaDoorSpb
set_option linter.unusedVariables false
namespace Go.Proofs.YtgfkmppkeolckaaDoor
open Go.ChangeShapes Go.WideShapes Go.ChangeAt Go.RowKit
/-- Where the program's reader stands. -/
def RS (R B : Nat) (t : ByteArray) (deep : Nat) (st : St) (W : World) : Prop :=
  st.nx ≤ t.size ∧ st.cs.length ≤ 1000 ∧ ∃ v, W.heap[R]? = some (RdB t st.la st.nx deep v) ∧ W.ownsRow B 67 5 v st.cs.length (flatD st.cs)
/-- What it did, or the panic. -/
def PgPost (R B : Nat) (t : ByteArray) (deep : Nat) (r : Except Nat St) (w : World) (e : Ending) (w' : World) : Prop :=
  (∃ st, r = .ok st ∧ e = .returned (.int .i64 st.top) ∧ RS R B t deep st w' ∧ Below B w w' ∧ Lib.OthersKept 67 (some R) w w') ∨ (∃ p, r = .error p ∧ e = bad p ∧ Below B w w')
section
variable {R B : Nat} {t : ByteArray} {deep : Nat} {st : St} {w W W' : World}
theorem ok_grown (h : W.grownBy W' (some R)) : Lib.OthersKept 67 (some R) W W' :=
  fun k o hk hkR _ => (h.block k (Array.getElem?_eq_some_iff.1 hk).1 hkR).trans hk
theorem below_grown (h : W.grownBy W' (some R)) (hB : B ≤ R) (hR : R < W.heap.size) : Below B W W' :=
  ⟨h.os, h.tape, h.output, h.size, fun k hk => h.block k (by omega) (fun e => by have := Option.some.inj e; omega)⟩
theorem RS.lt (h : RS R B t deep st W) : R < W.heap.size := by
  obtain ⟨_, _, v, h, _⟩ := h
  exact (Array.getElem?_eq_some_iff.1 h).1
/-- Blocks that the reader does not have: it stands as it stood. -/
theorem RS.below (h : RS R B t deep st W) (hb : Below W.heap.size W W') : RS R B t deep st W' := by
  obtain ⟨h1, h2, v, h3, h4⟩ := h
  exact ⟨h1, h2, v, (hb.block _ (Array.getElem?_eq_some_iff.1 h3).1).trans h3, own_other h4 fun b hb2 => hb.block b (h4.lt _ hb2).2⟩
end
/-- The row of the cells is not the reader's block. -/
theorem own_ne {W : World} {R B n : Nat} {t : ByteArray} {beg nxt deep : Nat} {v v' : Value} {xs : List Value} (h : W.ownsRow B 67 5 v n xs) (hR : W.heap[R]? = some (RdB t beg nxt deep v')) : v.ownBlock ≠ some R := by
  intro e
  obtain ⟨cur, hc⟩ := own_kind h e
  have := hc.symm.trans hR
  simp [RdB] at this
/-- A token read: where the reader stands behind it. -/
theorem RS.token {R B : Nat} {t : ByteArray} {deep deep0 : Nat} {st : St} {W W' : World} {v : Value} {b e : Nat} (h2 : st.cs.length ≤ 1000) (h3 : W.heap[R]? = some (RdB t st.la st.nx deep0 v)) (h4 : W.ownsRow B 67 5 v st.cs.length (flatD st.cs)) (hk : W'.heap[R]? = some (RdB t b e deep v)) (hg : W.grownBy W' (some R)) (he : e ≤ t.size) : RS R B t deep ⟨e, b, st.cs⟩ W' :=
  ⟨he, h2, v, hk, own_other h4 fun k hk2 => hg.block k (h4.lt _ hk2).2 (fun e => own_ne h4 h3 (by rw [hk2, e]))⟩
/-- What a token tells, the reader standing. -/
def TkS (R B : Nat) (t : ByteArray) (deep b : Nat) (cs : List Dat) (w : World) (e : Ending) (w' : World) : Prop :=
  (tkE t b = b ∧ b < t.size ∧ e = bad b ∧ Below B w w') ∨ ((b = t.size ∨ tkE t b ≠ b) ∧ e = .returned (.string (tk t b)) ∧ RS R B t deep ⟨tkE t b, b, cs⟩ w' ∧ Below B w w' ∧ Lib.OthersKept 67 (some R) w w')
theorem token_rs (R B : Nat) (t : ByteArray) (deep : Nat) (st : St) (w : World) (hs : t.size ≤ 33554432) (hB : B ≤ R) (h : RS R B t deep st w) :
    Calls Tryd.prog 25 #[.pointer (some ⟨R, 0, none⟩)] w fun e w' => TkS R B t deep (skAt t st.nx) st.cs w e w' := by
  have hRl := h.lt
  obtain ⟨h1, h2, v, h3, h4⟩ := h
  refine (token_any R t st.la st.nx deep v w hs h1 h3).mono ?_
  rintro e w' (⟨a1, a2, a3, a4⟩ | ⟨a1, a2, a3, a4⟩)
  · exact .inl ⟨a1, a2, a3, below_grown a4 hB hRl⟩
  · exact .inr ⟨a1, a2, RS.token h2 h3 h4 a3 a4 (tkE_le _ _ (skAt_le _ _ h1)), below_grown a4 hB hRl, ok_grown a4⟩
theorem add_any (R B : Nat) (t : ByteArray) (deep : Nat) (st : St) (d : Dat) (w : World) (hB : B ≤ R) (h : RS R B t deep st w) :
    Calls Tryd.prog 75 #[.pointer (some ⟨R, 0, none⟩), .agg #[.int .i64 d.k, .int .i64 d.n, .string d.s, .int .i64 d.l, .int .i64 d.r]] w fun e w' => PgPost R B t deep (putP st d) w e w' := by
  have hRl := h.lt
  obtain ⟨h1, h2, v, h3, h4⟩ := h
  unfold putP
  by_cases hc : st.cs.length < 1000
  · rw [if_pos hc]
    refine (add_ok R B t st.la st.nx deep v st.cs d w h3 h4 hc hB).mono ?_
    rintro e w' ⟨rfl, v', a1, a2, a3, a4⟩
    refine .inl ⟨_, rfl, ?_, ⟨h1, by simp; omega, v', a1, a2⟩, a3, a4⟩
    simp [St.top]
  · rw [if_neg hc]
    refine (add_full R B t st.la st.nx deep v st.cs d w h3 h4 (by omega)).mono ?_
    rintro e w' ⟨rfl, a1⟩
    exact .inr ⟨_, rfl, rfl, a1.mono (by omega)⟩
theorem fail_rs (R B : Nat) (t : ByteArray) (deep : Nat) (st : St) (w : World) (h : RS R B t deep st w) :
    Calls Tryd.prog 53 #[.pointer (some ⟨R, 0, none⟩)] w fun e w' => e = bad st.la ∧ w' = w := by
  obtain ⟨h1, h2, v, h3, h4⟩ := h
  exact fail_any R t st.la st.nx deep v w h3
set_option maxRecDepth 100000 in
set_option maxHeartbeats 1000000 in
theorem open_full (R B : Nat) (t : ByteArray) (st : St) (w : World) (h : RS R B t 24 st w) :
    Calls Tryd.prog 74 #[.pointer (some ⟨R, 0, none⟩)] w fun e w' => e = bad st.la ∧ w' = w := by
  have HF : Hid (Calls Tryd.prog 53 #[.pointer (some ⟨R, 0, none⟩)] w fun e w' => e = bad st.la ∧ w' = w) := fail_rs R B t 24 st w h
  obtain ⟨h1, h2, v, h3, h4⟩ := h
  have c3 := cell_blk (j := 3) h3 rfl
  clear h1 h2 h3 h4
  go_enter Tryd.func74, Tryd.ntmps74
  go_wp2_with (go_at_call 53; refine HF.out.mono ?_; rintro e w2 ⟨rfl, rfl⟩; simp only [bad])
  exact ⟨rfl, rfl, rfl⟩
set_option maxRecDepth 100000 in
set_option maxHeartbeats 1000000 in
theorem open_ok (R B : Nat) (t : ByteArray) (deep : Nat) (st : St) (w : World) (hB : B ≤ R) (hd : deep < 24) (h : RS R B t deep st w) :
    Calls Tryd.prog 74 #[.pointer (some ⟨R, 0, none⟩)] w fun e w' => e = .returned (.tuple #[]) ∧ RS R B t (deep + 1) st w' ∧ Below B w w' ∧ Lib.OthersKept 67 (some R) w w' := by
  have hRl := h.lt
  obtain ⟨h1, h2, v, h3, h4⟩ := h
  have c3 := cell_blk (j := 3) h3 rfl
  have f3 := frozen_blk h3 3
  have H3 : Hid (w.heap[R]? = some (RdB t st.la st.nx deep v)) := h3
  have H4 : Hid (w.ownsRow B 67 5 v st.cs.length (flatD st.cs)) := h4
  have q : ((deep : Int) == 24) = false := by rw [beq_eq_false_iff_ne]; omega
  clear h3 h4
  go_enter Tryd.func74, Tryd.ntmps74
  go_wp2
  go_end0
  have hg : w.grownBy (w.setCell ⟨R, 3, none⟩ (.int .i64 ((deep : Int) + 1))) (some R) := grownBy_set (grownBy_refl' w _)
  exact ⟨rfl, RS.token (st := st) h2 H3.out H4.out (heap_setCell_same _ _ _ _ _ _ H3.out) hg h1, below_grown hg hB hRl, ok_grown hg⟩
end Go.Proofs.YtgfkmppkeolckaaDoor
