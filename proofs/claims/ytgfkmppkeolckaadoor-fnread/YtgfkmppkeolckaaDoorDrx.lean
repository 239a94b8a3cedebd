/- Draws of chapter 2: the text of a form. -/
import Derived.Test.YtgfkmppkeolckaaDoorCux
set_option linter.unusedVariables false
namespace Go.Proofs.YtgfkmppkeolckaaDoor.Cu
open Go.ChangeShapes Go.WideShapes Go.ChangeAt Go.RowKit
/-- The cursor stands somewhere; but for it nothing has turned. -/
def Cw (w : World) (c : Nat) (d : Code1) (W : World) : Prop := (∃ s, CurS W c d s) ∧ w.grownBy W (some c) ∧ c < w.heap.size
theorem Cw.alloc {w W : World} {c : Nat} {d : Code1} (h : Cw w c d W) (o : Obj) : Cw w c d (W.alloc o) := by
  obtain ⟨⟨s, hs⟩, hg, hl⟩ := h
  exact ⟨⟨s, cur_alloc hs o⟩, ⟨hg.os, hg.tape, hg.output, Nat.le_trans hg.size (by simp), fun i hi hn => (Below.heap_alloc W o i (Nat.lt_of_lt_of_le hi hg.size)).trans (hg.block i hi hn)⟩, hl⟩
theorem Cw.drew {w W : World} {c : Nat} {d : Code1} (h : Cw w c d W) (q : Nat) : Cw w c d (W.drewN q) := by
  obtain ⟨⟨s, hs⟩, hg, hl⟩ := h
  exact ⟨⟨s, hs⟩, ⟨hg.os, hg.tape, hg.output, hg.size, hg.block⟩, hl⟩
theorem Cw.lt {w W : World} {c : Nat} {d : Code1} (h : Cw w c d W) : c < W.heap.size := Nat.lt_of_lt_of_le h.2.2 h.2.1.size
/-- A number below a bound. -/
theorem below_cw (w : World) (c : Nat) (d : Code1) (n : Nat) (W : World) (h : Cw w c d W) (h0 : 0 < n) (h2 : n ≤ 1000000000) : Calls Tryd.prog 46 #[.pointer (some ⟨c, 0, none⟩), .int .i64 (n : Int)] W fun e W' => ∃ k : Nat, e = .returned (.int .i64 (k : Int)) ∧ k < n ∧ Cw w c d W' := by
  obtain ⟨⟨s, hs⟩, hg, hl⟩ := h
  refine (below_st c d n s (by omega) (by omega) W hs).mono ?_
  rintro e W' ⟨rfl, h1, h3⟩
  obtain ⟨b1, b2⟩ := belX_bd d n s (by omega)
  exact ⟨(belX d n s).toNat, by rw [Int.toNat_of_nonneg b1], by omega, ⟨_, h1⟩, grownBy_trans hg h3, hl⟩
/-- One of some texts, laid just now. -/
theorem pick_cw (L : List ByteArray) (w : World) (c : Nat) (d : Code1) (g cap : Nat) (W : World) (h : Cw w c d W) (hg : g = W.heap.size) (hL : 0 < L.length) (hL2 : L.length ≤ 256) (arr : Array Value) (harr : arr = (L.map Value.string).toArray) (hsz : ∀ x ∈ L, x.size ≤ 40) : Calls Tryd.prog 48 #[.pointer (some ⟨c, 0, none⟩), .slice (some ⟨g, 0, none⟩) L.length cap] (W.alloc (.cells arr 9)) fun e W' => ∃ t, e = .returned (.string t) ∧ t.size ≤ 40 ∧ Cw w c d W' := by
  have h' := h.alloc (.cells arr 9)
  have hlt := h.lt
  obtain ⟨⟨s, hs⟩, hg2, hl⟩ := h'
  refine (pickS_st c g cap d s L _ hs (by omega) hL hL2 ?_).mono ?_
  · intro j x hx
    subst hg
    rw [World.cell?_alloc_mark, harr]
    simp [hx]
  · rintro e W' ⟨t, s', rfl, ht, h1, h2⟩
    exact ⟨t, rfl, hsz t ht, ⟨s', h1⟩, grownBy_trans hg2 h2, hl⟩
theorem lit_size (l : List UInt8) : (⟨l.toArray⟩ : ByteArray).size = l.length := by simp [ByteArray.size]
def frN : Nat → Nat
  | 0 => 40
  | n + 1 => 3 * frN n + 120
def L5 : List ByteArray := [⟨#[120]⟩, ⟨#[121]⟩, ⟨#[102]⟩, ⟨#[103]⟩, ⟨#[107]⟩]
def L10 : List ByteArray := [⟨#[49]⟩, ⟨#[55]⟩, ⟨#[45, 51]⟩, ⟨#[35, 116]⟩, ⟨#[35, 102]⟩, ⟨#[120]⟩, ⟨#[121]⟩, ⟨#[39, 97]⟩, ⟨#[39, 40, 41]⟩, ⟨#[52, 48]⟩]
def L7 : List ByteArray := [⟨#[43]⟩, ⟨#[45]⟩, ⟨#[42]⟩, ⟨#[60]⟩, ⟨#[61]⟩, ⟨#[99, 111, 110, 115]⟩, ⟨#[101, 113, 63]⟩]
def L7b : List ByteArray := [⟨#[99, 97, 114]⟩, ⟨#[99, 100, 114]⟩, ⟨#[110, 117, 108, 108, 63]⟩, ⟨#[112, 97, 105, 114, 63]⟩, ⟨#[110, 111, 116]⟩, ⟨#[112, 114, 105, 110, 116]⟩, ⟨#[101, 114, 114, 111, 114]⟩]
def L3 : List ByteArray := [⟨#[48]⟩, ⟨#[49]⟩, ⟨#[50]⟩]
set_option maxRecDepth 100000 in
set_option maxHeartbeats 4000000 in
theorem form_zero (w : World) (c : Nat) (d : Code1) (W : World) (h : Cw w c d W) : Calls Tryd.prog 47 #[.pointer (some ⟨c, 0, none⟩), .int .i64 0] W fun e W' => ∃ t, e = .returned (.string t) ∧ t.size ≤ frN 0 ∧ Cw w c d W' := by
  go_enter Tryd.func47, Tryd.ntmps47
  go_wp2_with fail
  refine (pick_cw L5 w c d _ 5 W h rfl (by decide) (by decide) _ rfl (by decide)).mono ?_
  rintro e W1 ⟨x, rfl, hx, h1⟩
  go_wp2_with fail
  refine (pick_cw L10 w c d _ 10 W1 h1 rfl (by decide) (by decide) _ rfl (by decide)).mono ?_
  rintro e W2 ⟨t, rfl, ht, h2⟩
  go_wp2
  go_ret
  exact ⟨t, rfl, ht, h2⟩
set_option maxRecDepth 100000 in
set_option maxHeartbeats 4000000 in
theorem form_more (w : World) (c : Nat) (d : Code1) (n : Nat) (hn : n ≤ 3) (IH : ∀ W, Cw w c d W → Calls Tryd.prog 47 #[.pointer (some ⟨c, 0, none⟩), .int .i64 (n : Int)] W fun e W' => ∃ t, e = .returned (.string t) ∧ t.size ≤ frN n ∧ Cw w c d W') (W : World) (h : Cw w c d W) : Calls Tryd.prog 47 #[.pointer (some ⟨c, 0, none⟩), .int .i64 ((n : Int) + 1)] W fun e W' => ∃ t, e = .returned (.string t) ∧ t.size ≤ frN (n + 1) ∧ Cw w c d W' := by
  obtain ⟨M, hM⟩ : ∃ M, M = frN n := ⟨_, rfl⟩
  have hMb : M ≤ 4000 := by
    rw [hM]
    match n, hn with
    | 0, _ => decide
    | 1, _ => decide
    | 2, _ => decide
    | 3, _ => decide
  have hR : frN (n + 1) = 3 * M + 120 := by rw [hM]; rfl
  rw [hR]
  rw [← hM] at IH
  have HF : Hid (∀ W, Cw w c d W → Calls Tryd.prog 47 #[.pointer (some ⟨c, 0, none⟩), .int .i64 (n : Int)] W fun e W' => ∃ t, e = .returned (.string t) ∧ t.size ≤ M ∧ Cw w c d W') := IH
  clear IH hM hR
  have hdn : decide ((n : Int) + 1 ≤ 0) = false := by
    simp only [decide_eq_false_iff_not]
    omega
  go_enter Tryd.func47, Tryd.ntmps47
  go_wp2_with fail
  refine (pick_cw L5 w c d _ 5 W h rfl (by decide) (by decide) _ rfl (by decide)).mono ?_
  rintro e W1 ⟨x, rfl, hx, h1⟩
  clear h
  go_wp2_with fail
  refine (HF.out _ h1).mono ?_
  rintro e W2 ⟨t, rfl, ht, h2⟩
  clear h1
  go_wp2_with fail
  refine (below_cw w c d 20 W2 h2 (by decide) (by decide)).mono ?_
  rintro e W3 ⟨k, rfl, hk, h3⟩
  clear h2
  have hks : k = 0 ∨ k = 1 ∨ k = 2 ∨ k = 3 ∨ k = 4 ∨ k = 5 ∨ k = 6 ∨ k = 7 ∨ k = 8 ∨ k = 9 ∨ k = 10 ∨ k = 11 ∨ k = 12 ∨ k = 13 ∨ k = 14 ∨ k = 15 ∨ k = 16 ∨ k = 17 ∨ k = 18 ∨ k = 19 := by omega
  clear hk
  rcases hks with rfl | rfl | rfl | rfl | rfl | rfl | rfl | rfl | rfl | rfl | rfl | rfl | rfl | rfl | rfl | rfl | rfl | rfl | rfl | rfl
  · go_wp2_with fail
    refine (HF.out _ h3).mono ?_
    rintro e W4 ⟨t4, rfl, ht4, h4⟩
    clear h3
    go_wp2_with fail
    refine (HF.out _ h4).mono ?_
    rintro e W5 ⟨t5, rfl, ht5, h5⟩
    clear h4
    go_wp2
    go_ret
    exact ⟨_, rfl, by simp only [ByteArray.size_append, lit_size, List.length_cons, List.length_nil]; omega, h5⟩
  · go_wp2
    go_ret
    exact ⟨_, rfl, by simp only [ByteArray.size_append, lit_size, List.length_cons, List.length_nil]; omega, h3⟩
  · go_wp2_with fail
    refine (HF.out _ h3).mono ?_
    rintro e W4 ⟨t4, rfl, ht4, h4⟩
    clear h3
    go_wp2
    go_ret
    exact ⟨_, rfl, by simp only [ByteArray.size_append, lit_size, List.length_cons, List.length_nil]; omega, h4⟩
  · go_wp2_with fail
    refine (HF.out _ h3).mono ?_
    rintro e W4 ⟨t4, rfl, ht4, h4⟩
    clear h3
    go_wp2
    go_ret
    exact ⟨_, rfl, by simp only [ByteArray.size_append, lit_size, List.length_cons, List.length_nil]; omega, h4⟩
  · go_wp2_with fail
    refine (pick_cw L7 w c d _ 7 W3 h3 rfl (by decide) (by decide) _ rfl (by decide)).mono ?_
    rintro e W4 ⟨t4, rfl, ht4, h4⟩
    clear h3
    go_wp2_with fail
    refine (HF.out _ h4).mono ?_
    rintro e W5 ⟨t5, rfl, ht5, h5⟩
    clear h4
    go_wp2
    go_ret
    exact ⟨_, rfl, by simp only [ByteArray.size_append, lit_size, List.length_cons, List.length_nil]; omega, h5⟩
  · go_wp2_with fail
    refine (pick_cw L7 w c d _ 7 W3 h3 rfl (by decide) (by decide) _ rfl (by decide)).mono ?_
    rintro e W4 ⟨t4, rfl, ht4, h4⟩
    clear h3
    go_wp2_with fail
    refine (HF.out _ h4).mono ?_
    rintro e W5 ⟨t5, rfl, ht5, h5⟩
    clear h4
    go_wp2
    go_ret
    exact ⟨_, rfl, by simp only [ByteArray.size_append, lit_size, List.length_cons, List.length_nil]; omega, h5⟩
  · go_wp2_with fail
    refine (pick_cw L7 w c d _ 7 W3 h3 rfl (by decide) (by decide) _ rfl (by decide)).mono ?_
    rintro e W4 ⟨t4, rfl, ht4, h4⟩
    clear h3
    go_wp2_with fail
    refine (HF.out _ h4).mono ?_
    rintro e W5 ⟨t5, rfl, ht5, h5⟩
    clear h4
    go_wp2
    go_ret
    exact ⟨_, rfl, by simp only [ByteArray.size_append, lit_size, List.length_cons, List.length_nil]; omega, h5⟩
  · go_wp2_with fail
    refine (pick_cw L7b w c d _ 7 W3 h3 rfl (by decide) (by decide) _ rfl (by decide)).mono ?_
    rintro e W4 ⟨t4, rfl, ht4, h4⟩
    clear h3
    go_wp2
    go_ret
    exact ⟨_, rfl, by simp only [ByteArray.size_append, lit_size, List.length_cons, List.length_nil]; omega, h4⟩
  · go_wp2_with fail
    refine (pick_cw L7b w c d _ 7 W3 h3 rfl (by decide) (by decide) _ rfl (by decide)).mono ?_
    rintro e W4 ⟨t4, rfl, ht4, h4⟩
    clear h3
    go_wp2
    go_ret
    exact ⟨_, rfl, by simp only [ByteArray.size_append, lit_size, List.length_cons, List.length_nil]; omega, h4⟩
  · go_wp2_with fail
    refine (HF.out _ h3).mono ?_
    rintro e W4 ⟨t4, rfl, ht4, h4⟩
    clear h3
    go_wp2
    go_ret
    exact ⟨_, rfl, by simp only [ByteArray.size_append, lit_size, List.length_cons, List.length_nil]; omega, h4⟩
  · go_wp2_with fail
    refine (HF.out _ h3).mono ?_
    rintro e W4 ⟨t4, rfl, ht4, h4⟩
    clear h3
    go_wp2
    go_ret
    exact ⟨_, rfl, by simp only [ByteArray.size_append, lit_size, List.length_cons, List.length_nil]; omega, h4⟩
  · go_wp2_with fail
    refine (HF.out _ h3).mono ?_
    rintro e W4 ⟨t4, rfl, ht4, h4⟩
    clear h3
    go_wp2
    go_ret
    exact ⟨_, rfl, by simp only [ByteArray.size_append, lit_size, List.length_cons, List.length_nil]; omega, h4⟩
  · go_wp2_with fail
    refine (HF.out _ h3).mono ?_
    rintro e W4 ⟨t4, rfl, ht4, h4⟩
    clear h3
    go_wp2
    go_ret
    exact ⟨_, rfl, by simp only [ByteArray.size_append, lit_size, List.length_cons, List.length_nil]; omega, h4⟩
  · go_wp2
    go_ret
    exact ⟨_, rfl, by simp only [ByteArray.size_append, lit_size, List.length_cons, List.length_nil]; omega, h3⟩
  · go_wp2_with fail
    refine (HF.out _ h3).mono ?_
    rintro e W4 ⟨t4, rfl, ht4, h4⟩
    clear h3
    go_wp2
    go_ret
    exact ⟨_, rfl, by simp only [ByteArray.size_append, lit_size, List.length_cons, List.length_nil]; omega, h4⟩
  · go_wp2
    go_ret
    exact ⟨_, rfl, by simp only [ByteArray.size_append, lit_size, List.length_cons, List.length_nil]; omega, h3⟩
  · go_wp2_with fail
    refine (pick_cw L3 w c d _ 3 W3 h3 rfl (by decide) (by decide) _ rfl (by decide)).mono ?_
    rintro e W4 ⟨t4, rfl, ht4, h4⟩
    clear h3
    go_wp2
    go_ret
    exact ⟨_, rfl, by simp only [ByteArray.size_append, lit_size, List.length_cons, List.length_nil]; omega, h4⟩
  · go_wp2
    go_ret
    exact ⟨_, rfl, by simp only [ByteArray.size_append, lit_size, List.length_cons, List.length_nil]; omega, h3⟩
  · go_wp2
    go_ret
    exact ⟨_, rfl, by simp only [ByteArray.size_append, lit_size, List.length_cons, List.length_nil]; omega, h3⟩
  · go_wp2_with fail
    refine (HF.out _ h3).mono ?_
    rintro e W4 ⟨t4, rfl, ht4, h4⟩
    clear h3
    go_wp2
    go_ret
    exact ⟨_, rfl, by simp only [ByteArray.size_append, lit_size, List.length_cons, List.length_nil]; omega, h4⟩
/-- The text of a form, of at most so many levels. -/
theorem form_cw (w : World) (c : Nat) (d : Code1) : ∀ (n : Nat), n ≤ 4 → ∀ W, Cw w c d W → Calls Tryd.prog 47 #[.pointer (some ⟨c, 0, none⟩), .int .i64 (n : Int)] W fun e W' => ∃ t, e = .returned (.string t) ∧ t.size ≤ frN n ∧ Cw w c d W'
  | 0, _, W, h => form_zero w c d W h
  | n + 1, hn, W, h => by
    have := form_more w c d n (by omega) (form_cw w c d n (by omega)) W h
    rw [show ((n + 1 : Nat) : Int) = (n : Int) + 1 by omega]
    exact this
end Go.Proofs.YtgfkmppkeolckaaDoor.Cu
