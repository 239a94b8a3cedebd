/- What the two Reads tell, as rows. -/
import Derived.Test.YtgfkmppkeolckaaDoorPgx
set_option linter.unusedVariables false
namespace Go.Proofs.YtgfkmppkeolckaaDoor
open Go.ChangeShapes Go.WideShapes Go.ChangeAt Go.RowKit
theorem flatD_get : ∀ (cs : List Dat) (i : Nat) (d : Dat), cs[i]? = some d → (flatD cs)[i * 5]? = some (.int .i64 d.k) ∧ (flatD cs)[i * 5 + 1]? = some (.int .i64 d.n) ∧ (flatD cs)[i * 5 + 2]? = some (.string d.s) ∧ (flatD cs)[i * 5 + 3]? = some (.int .i64 d.l) ∧ (flatD cs)[i * 5 + 4]? = some (.int .i64 d.r)
  | [], i, d, h => by simp at h
  | c :: cs, 0, d, h => by
    obtain rfl : c = d := by simpa using h
    exact ⟨rfl, rfl, rfl, rfl, rfl⟩
  | c :: cs, i + 1, d, h => by
    have ih := flatD_get cs i d (by simpa using h)
    have e : flatD (c :: cs) = [Value.int .i64 c.k, .int .i64 c.n, .string c.s, .int .i64 c.l, .int .i64 c.r] ++ flatD cs := by simp [flatD]
    have sh : ∀ j, (flatD (c :: cs))[(i + 1) * 5 + j]? = (flatD cs)[i * 5 + j]? := fun j => by
      rw [e, List.getElem?_append_right (by simp; omega)]
      congr 1
      simp
      omega
    exact ⟨(sh 0).trans ih.1, (sh 1).trans ih.2.1, (sh 2).trans ih.2.2.1, (sh 3).trans ih.2.2.2.1, (sh 4).trans ih.2.2.2.2⟩
theorem take_get {cur : Array Value} {xs : List Value} {m i : Nat} {v : Value} (h : List.take m cur.toList = xs) (hx : xs[i]? = some v) : cur[i]? = some v := by
  subst h
  have hi : i < m := by
    have := (List.getElem?_eq_some_iff.1 hx).1
    simp at this
    omega
  rw [List.getElem?_take_of_lt hi] at hx
  simpa using hx
/-- The rows that a call made, as rows. -/
theorem own_rowD {B cap : Nat} {a : Option Addr} {w : World} {cs : List Dat} (h : w.ownsRow B 67 5 (.slice a cs.length cap) cs.length (flatD cs)) : RowD w w.heap.size a cs := by
  intro i d hd
  obtain ⟨hl, ⟨hv, h0⟩ | ⟨g, cap', cur, hv, a1, hblk, a3, a4, a5, a6⟩⟩ := h
  · rw [List.eq_nil_of_length_eq_zero h0] at hd
    simp at hd
  · injection hv with h1 h2 h3
    obtain ⟨f0, f1, f2, f3, f4⟩ := flatD_get cs i d hd
    refine ⟨g, 0, h1, (Array.getElem?_eq_some_iff.1 hblk).1, ?_⟩
    rw [Nat.zero_add]
    exact ⟨cell_blk hblk (take_get a6 f0), cell_blk hblk (take_get a6 f1), cell_blk hblk (take_get a6 f2), cell_blk hblk (take_get a6 f3), cell_blk hblk (take_get a6 f4)⟩
theorem own_rowI {B cap : Nat} {a : Option Addr} {w : World} {ts : List Int} (h : w.ownsRow B 3 1 (.slice a ts.length cap) ts.length (ts.map (Value.int .i64 ·))) : RowI w w.heap.size a ts := by
  intro i x hx
  obtain ⟨hl, ⟨hv, h0⟩ | ⟨g, cap', cur, hv, a1, hblk, a3, a4, a5, a6⟩⟩ := h
  · rw [List.eq_nil_of_length_eq_zero h0] at hx
    simp at hx
  · injection hv with h1 h2 h3
    refine ⟨g, 0, h1, (Array.getElem?_eq_some_iff.1 hblk).1, ?_⟩
    rw [Nat.zero_add]
    exact cell_blk hblk (take_get a6 (by rw [List.getElem?_map, hx]; rfl))
/-- The cells, the tops and the place that are told. -/
def oC : Except Nat (St × List Int) → List Dat
  | .ok (st, _) => st.cs
  | .error _ => []
def oT : Except Nat (St × List Int) → List Int
  | .ok (_, ts) => ts
  | .error _ => []
def oP : Except Nat (St × List Int) → Int
  | .ok _ => -1
  | .error p => p
theorem oP_sign (L : Except Nat (St × List Int)) : oP L = -1 ∨ 0 ≤ oP L := by
  match L with
  | .ok x => exact .inl rfl
  | .error p => exact .inr (by simp [oP])
theorem RdS.out {w w' : World} {L : Except Nat (St × List Int)} {e : Ending} (h : RdS w L e w') : ∃ (ao bo : Option Addr) (ca cb : Nat), e = .returned (.tuple #[.agg #[.slice ao (oC L).length ca, .slice bo (oT L).length cb], .int .i64 (oP L)]) ∧ (oC L).length ≤ 1000 ∧ w'.ownsRow w.heap.size 67 5 (.slice ao (oC L).length ca) (oC L).length (flatD (oC L)) ∧ w'.ownsRow w.heap.size 3 1 (.slice bo (oT L).length cb) (oT L).length ((oT L).map (Value.int .i64 ·)) ∧ Below w.heap.size w w' := by
  match L, h with
  | .ok (st, ts), h =>
    obtain ⟨ao, bo, ca, cb, h1, h2, h3, h4, h5⟩ := h
    exact ⟨ao, bo, ca, cb, h1, h2, h3, h4, h5⟩
  | .error p, h =>
    obtain ⟨h1, h2⟩ := h
    exact ⟨none, none, 0, 0, h1, by simp [oC], ⟨rfl, .inl ⟨rfl, rfl⟩⟩, ⟨rfl, .inl ⟨rfl, rfl⟩⟩, h2⟩
theorem top_len (s : ByteArray) (F : Nat) : ∀ (f : Nat) (ts : List Int) (st st' : St) (ts' : List Int), st.nx ≤ s.size → topP s F f ts st = .ok (st', ts') → ts'.length ≤ ts.length + (s.size - st.nx)
  | 0, ts, st, st', ts', _, h => by cases h
  | f + 1, ts, st, st', ts', hn, h => by
    rw [topP] at h
    split at h
    · have := Except.ok.inj h
      injection this with _ h2
      subst h2
      omega
    · obtain ⟨y, h1, h2⟩ := bind_ok h
      obtain ⟨n1, n2⟩ := datP_prog (skAt_le s st.nx hn) h1
      have := top_len s F f _ _ _ _ n2 h2
      have := skAt_ge s st.nx
      simp at *
      omega
theorem oT_len (s : ByteArray) (F f : Nat) : (oT (topP s F f [] ⟨0, 0, []⟩)).length ≤ s.size := by
  cases h : topP s F f [] ⟨0, 0, []⟩ with
  | error p => simp [oT]
  | ok x =>
    obtain ⟨st', ts'⟩ := x
    have := top_len s F f _ _ _ _ (Nat.zero_le _) h
    simpa [oT] using this
/-- What a Read answers: these cells, tops and place, in rows of its own. -/
def RdO (cs : List Dat) (ts : List Int) (p : Int) (w : World) (e : Ending) (w' : World) : Prop :=
  ∃ (ao bo : Option Addr) (ca cb : Nat), e = .returned (.tuple #[.agg #[.slice ao cs.length ca, .slice bo ts.length cb], .int .i64 p]) ∧ w'.ownsRow w.heap.size 67 5 (.slice ao cs.length ca) cs.length (flatD cs) ∧ w'.ownsRow w.heap.size 3 1 (.slice bo ts.length cb) ts.length (ts.map (Value.int .i64 ·)) ∧ Below w.heap.size w w' ∧ cs.length ≤ 1000
/-- The program's Read and the model's answer alike. -/
theorem reads (s : ByteArray) (hs : s.size ≤ 33554432) : ∃ (cs : List Dat) (ts : List Int) (p : Int), (p = -1 ∨ 0 ≤ p) ∧ ts.length ≤ 33554432 ∧ (∀ w, Calls Tryd.prog 9 #[.string s] w fun e w' => RdO cs ts p w e w') ∧ (∀ w, Calls Tryd.prog 8 #[.string s] w fun e w' => RdO cs ts p w e w') := by
  obtain ⟨L, hL⟩ : ∃ L, L = topP s (2 * s.size + 2) (s.size + 1) [] ⟨0, 0, []⟩ := ⟨_, rfl⟩
  have hT : (oT L).length ≤ s.size := by rw [hL]; exact oT_len s _ _
  refine ⟨oC L, oT L, oP L, oP_sign L, by omega, fun w => ?_, fun w => ?_⟩
  · have := specRead_any s w hs (2 * s.size + 2) (by omega) (s.size + 1) (by omega)
    rw [← hL] at this
    refine this.mono fun e w' h => ?_
    obtain ⟨ao, bo, ca, cb, h1, h2, h3, h4, h5⟩ := RdS.out h
    exact ⟨ao, bo, ca, cb, h1, h3, h4, h5, h2⟩
  · have := implRead_any s (2 * s.size + 2) (s.size + 1) w hs (by omega) (by omega)
    rw [← hL] at this
    refine this.mono fun e w' h => ?_
    obtain ⟨ao, bo, ca, cb, h1, h2, h3, h4, h5⟩ := RdS.out h
    exact ⟨ao, bo, ca, cb, h1, h3, h4, h5, h2⟩
end Go.Proofs.YtgfkmppkeolckaaDoor
