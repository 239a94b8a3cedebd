/- The model's reader: failing, a cell, the pairs, at any state. -/
import Derived.Test.YtgfkmppkeolckaaDoorSpd
set_option linter.unusedVariables false
namespace Go.Proofs.YtgfkmppkeolckaaDoor
open Go.ChangeShapes Go.WideShapes Go.ChangeAt Go.RowKit
/-- The six cells as a value. -/
theorem spPost_below {s : ByteArray} {bo : Option Addr} {m cb B : Nat} {w : World} {i : Nat} {la bd : Int} {ao : Option Addr} {n ca : Nat} {p : Nat} (hB : B ≤ w.heap.size) (hi : i ≤ s.size) (hn : n ≤ 1000) (hbd : bd = (p : Int)) {e : Ending} {w' : World} (h : Ans w (.agg #[.string s, .int .i64 i, .int .i64 la, .int .i64 bd, .slice ao n ca, .slice bo m cb]) e w') : SpPost s bo m cb B (.error p) w e w' := by
  obtain ⟨rfl, hb⟩ := h
  exact ⟨_, rfl, ⟨i, la, bd, ao, n, ca, rfl, hi, hn, hbd⟩, hb.mono hB, ok_below hb⟩
theorem l2Fail_any (s : ByteArray) (bo : Option Addr) (m cb B : Nat) (r : Except Nat St) (i : Nat) (la bd : Int) (ao : Option Addr) (n ca p : Nat) (w : World) (hB : B ≤ w.heap.size) (h : RepF s B r i la bd ao n ca w) :
    Calls Tryd.prog 59 #[.agg #[.string s, .int .i64 i, .int .i64 la, .int .i64 bd, .slice ao n ca, .slice bo m cb], .int .i64 p] w fun e w' => SpPost s bo m cb B (r.bind fun _ => .error p) w e w' := by
  obtain ⟨h1, h2, h3⟩ := h
  cases r with
  | error q =>
    refine (l2Fail_pos s i la p bd ao bo n ca m cb w (by rw [h3]; omega)).mono fun e w' he => ?_
    exact spPost_below hB h1 h2 h3 he
  | ok st =>
    obtain ⟨e1, e2, e3, e4, e5⟩ := h3
    rw [e3]
    exact (l2Fail_neg s i la p ao bo n ca m cb w).mono fun e w' he => spPost_below hB h1 h2 rfl he
theorem l2Put_any (s : ByteArray) (bo : Option Addr) (m cb B : Nat) (r : Except Nat St) (i : Nat) (la bd : Int) (ao : Option Addr) (n ca : Nat) (d : Dat) (w : World) (hB : B ≤ w.heap.size) (h : RepF s B r i la bd ao n ca w) :
    Calls Tryd.prog 60 #[.agg #[.string s, .int .i64 i, .int .i64 la, .int .i64 bd, .slice ao n ca, .slice bo m cb], .agg #[.int .i64 d.k, .int .i64 d.n, .string d.s, .int .i64 d.l, .int .i64 d.r]] w fun e w' => SpPost s bo m cb B (r.bind fun st => putP st d) w e w' := by
  obtain ⟨h1, h2, h3⟩ := h
  cases r with
  | error q =>
    refine (l2Put_bad s i la bd ao bo n ca m cb d w (by rw [h3]; omega)).mono fun e w' he => ?_
    exact spPost_below hB h1 h2 h3 he
  | ok st =>
    obtain ⟨rfl, rfl, rfl, rfl, e5⟩ := h3
    by_cases hf : st.cs.length < 1000
    · refine (l2Put_ok s st.nx st.la ao bo ca m cb B st.cs d w hf hB e5).mono ?_
      rintro e w' ⟨g, c', rfl, ho, hb, hk⟩
      refine ⟨_, rfl, ?_, hb, hk⟩
      have e : (Except.ok st : Except Nat St).bind (fun st => putP st d) = .ok ⟨st.nx, st.la, st.cs ++ [d]⟩ := if_pos hf
      rw [e]
      exact ⟨st.nx, st.la, -1, some ⟨g, 0, none⟩, st.cs.length + 1, c', rfl, h1, hf, rfl, rfl, rfl, by simp, ho⟩
    · have e : (Except.ok st : Except Nat St).bind (fun st => putP st d) = .error st.la := if_neg hf
      rw [e]
      exact (l2Put_full s st.nx st.la ao bo st.cs.length ca m cb d w (by omega)).mono fun e w' he => spPost_below hB h1 h2 rfl he
theorem l2List_any (s : ByteArray) (bo : Option Addr) (m cb B : Nat) (r : Except Nat St) (i : Nat) (la bd : Int) (ao pa : Option Addr) (n ca pc : Nat) (ps : List Int) (w : World) (hB : B ≤ w.heap.size) (h : RepF s B r i la bd ao n ca w) (hps : ps.length ≤ 33554432) (hpt : PartsAt w w.heap.size pa ps) :
    Calls Tryd.prog 61 #[.agg #[.string s, .int .i64 i, .int .i64 la, .int .i64 bd, .slice ao n ca, .slice bo m cb], .slice pa ps.length pc] w fun e w' => SpPost s bo m cb B (r.bind fun st => prsP st ps) w e w' := by
  obtain ⟨h1, h2, h3⟩ := h
  cases r with
  | error q =>
    refine (l2List_bad s i la bd ao bo pa n ca m cb ps.length pc w (by rw [h3]; omega) hps).mono fun e w' he => ?_
    exact spPost_below hB h1 h2 h3 he
  | ok st =>
    obtain ⟨rfl, rfl, rfl, rfl, e5⟩ := h3
    exact l2List_ok s st.nx st.la ao bo pa ca m cb pc B st.cs ps w h2 h1 hps hB e5 hpt
end Go.Proofs.YtgfkmppkeolckaaDoor
