/- Draws of chapter 2: a text. Draws of chapter 2: a text that may be spoilt. -/
import Derived.Test.YtgfkmppkeolckaaDoorDrx
set_option linter.unusedVariables false
namespace Go.Proofs.YtgfkmppkeolckaaDoor.Cu
open Go.ChangeShapes Go.WideShapes Go.ChangeAt Go.RowKit
def Lw : List ByteArray := [⟨#[10]⟩, ⟨#[32]⟩, ⟨#[10, 59, 32, 99, 10]⟩]
def L18 : List ByteArray := [⟨#[40]⟩, ⟨#[41]⟩, ⟨#[39]⟩, ⟨#[46]⟩, ⟨#[40, 49, 32, 46, 32, 41]⟩, ⟨#[40, 49, 32, 46, 32, 50, 32, 51, 41]⟩, ⟨#[40, 32, 46, 32, 49, 41]⟩, ⟨#[35, 120]⟩, ⟨#[49, 97]⟩, ⟨#[49, 48, 48, 48, 48, 48, 49]⟩, ⟨#[97, 46, 98]⟩, ⟨#[97, 98, 99, 100, 101, 102, 103, 104, 105, 106, 107, 108, 109, 110, 111, 112, 113]⟩, ⟨#[40, 41]⟩, ⟨#[40, 49, 32, 46, 50, 41]⟩, ⟨#[40, 97, 32, 46, 32, 98, 41]⟩, ⟨#[39, 39, 97]⟩, ⟨#[45]⟩, ⟨#[37]⟩]
theorem once_cw (w : World) (c : Nat) (d : Code1) (n : Nat) (W : World) (h : Cw w c d W) (h0 : 0 < n) (h2 : n ≤ 1000000000) : Calls Tryd.prog 22 #[.pointer (some ⟨c, 0, none⟩), .int .i64 (n : Int)] W fun e W' => ∃ b : Bool, e = .returned (.bool b) ∧ Cw w c d W' := by
  obtain ⟨⟨s, hs⟩, hg, hl⟩ := h
  refine (once_st c d n s (by omega) (by omega) W hs).mono ?_
  rintro e W' ⟨rfl, h1, h3⟩
  exact ⟨_, rfl, ⟨_, h1⟩, grownBy_trans hg h3, hl⟩
set_option maxRecDepth 100000 in
set_option maxHeartbeats 2000000 in
theorem text_cw (w : World) (c : Nat) (d : Code1) (m : Nat) (hm : m ≤ 5) (W : World) (h : Cw w c d W) : Calls Tryd.prog 20 #[.pointer (some ⟨c, 0, none⟩), .int .i64 (m : Int)] W fun e W' => ∃ t, e = .returned (.string t) ∧ t.size ≤ 20000 ∧ Cw w c d W' := by
  have HB : Hid (Calls Tryd.prog 46 #[.pointer (some ⟨c, 0, none⟩), .int .i64 ((m : Int) + 1)] W fun e W' => ∃ k : Nat, e = .returned (.int .i64 (k : Int)) ∧ k < m + 1 ∧ Cw w c d W') := by
    have := below_cw w c d (m + 1) W h (by omega) (by omega)
    rw [show ((m + 1 : Nat) : Int) = (m : Int) + 1 by omega] at this
    exact this
  clear h
  go_enter Tryd.func20, Tryd.ntmps20
  go_wp2_with fail
  refine HB.out.mono ?_
  rintro e W1 ⟨k, rfl, hk, h1⟩
  clear HB
  have hk5 : k ≤ 5 := by omega
  go_wp2
  go_loopw [5, 6] (fun sv nv wr => ∃ (t : ByteArray) (n : Nat), sv = .string t ∧ nv = .int .i64 n ∧ n ≤ 5 ∧ t.size + n * 2700 ≤ 13500 ∧ Cw w c d wr) (fun _ nv _ => (intOf nv).toNat)
  case atStart => exact ⟨⟨#[]⟩, k, rfl, rfl, hk5, by rw [show (⟨#[]⟩ : ByteArray).size = 0 from rfl]; omega, h1⟩
  case round =>
    clear h1 hk hk5
    obtain ⟨t, n, rfl, rfl, hn, ht, h1⟩ := hrel
    by_cases hn0 : 0 < n
    · have hd : (0 : Int) < (n : Int) := by omega
      go_wp2_with fail
      refine (below_cw w c d 4 wr h1 (by decide) (by decide)).mono ?_
      rintro e W2 ⟨q, rfl, hq, h2⟩
      have HF : Hid (Calls Tryd.prog 47 #[.pointer (some ⟨c, 0, none⟩), .int .i64 (q : Int)] W2 fun e W' => ∃ t, e = .returned (.string t) ∧ t.size ≤ 2640 ∧ Cw w c d W') := by
        refine (form_cw w c d q (by omega) W2 h2).mono ?_
        rintro e W' ⟨t, rfl, ht, h3⟩
        refine ⟨t, rfl, ?_, h3⟩
        have : frN q ≤ 2640 := by
          match q, hq with
          | 0, _ => decide
          | 1, _ => decide
          | 2, _ => decide
          | 3, _ => decide
        omega
      clear hq h1 h2
      go_wp2_with fail
      refine HF.out.mono ?_
      rintro e W3 ⟨u, rfl, hu, h3⟩
      clear HF
      go_wp2_with fail
      refine (pick_cw Lw w c d _ 3 W3 h3 rfl (by decide) (by decide) _ rfl (by decide)).mono ?_
      rintro e W4 ⟨v, rfl, hv, h4⟩
      clear h3
      go_wp2
      go_roundw
      case rel => exact ⟨_, n - 1, rfl, by rw [show ((n - 1 : Nat) : Int) = (n : Int) - 1 by omega], by omega, by simp only [ByteArray.size_append]; omega, h4⟩
      case measure => simp [intOf]; omega
    · obtain rfl : n = 0 := by omega
      clear hn hn0
      have ht' : t.size ≤ 13500 := by omega
      clear ht
      go_wp2_with fail
      refine (once_cw w c d 8 wr h1 (by decide) (by decide)).mono ?_
      rintro e W2 ⟨b, rfl, h2⟩
      clear h1
      cases b with
      | true =>
        go_wp2_with fail
        refine (pick_cw L18 w c d _ 18 W2 h2 rfl (by decide) (by decide) _ rfl (by decide)).mono ?_
        rintro e W3 ⟨v, rfl, hv, h3⟩
        clear h2
        go_wp2
        go_ret
        exact ⟨_, rfl, by simp only [ByteArray.size_append]; omega, h3⟩
      | false =>
        go_wp2_with fail
        refine (once_cw w c d 40 W2 h2 (by decide) (by decide)).mono ?_
        rintro e W3 ⟨b, rfl, h3⟩
        clear h2
        cases b with
        | true =>
          go_wp2
          go_loopw [5, 7] (fun sv iv wr => ∃ (t : ByteArray) (i : Nat), sv = .string t ∧ iv = .int .i64 i ∧ i ≤ 25 ∧ t.size ≤ 13500 + 2 * i ∧ Cw w c d wr) (fun _ iv _ => 25 - (intOf iv).toNat)
          case atStart => exact ⟨t, 0, rfl, rfl, by omega, by omega, h3⟩
          case round =>
            clear h3 ht'
            obtain ⟨u, i, rfl, rfl, hi, hu, h4⟩ := hrel
            by_cases hi2 : i < 25
            · have hd : (i : Int) < 25 := by omega
              go_wp2
              go_roundw
              case rel => exact ⟨_, i + 1, rfl, by go_num, by omega, by simp only [ByteArray.size_append, lit_size, List.length_cons, List.length_nil]; omega, h4⟩
              case measure => simp [intOf]; omega
            · have hd : decide ((i : Int) < 25) = false := by simp; omega
              go_wp2
              go_ret
              exact ⟨_, rfl, by omega, h4⟩
        | false =>
          go_wp2
          go_ret
          exact ⟨_, rfl, by omega, h3⟩
end Go.Proofs.YtgfkmppkeolckaaDoor.Cu
set_option linter.unusedVariables false
namespace Go.Proofs.YtgfkmppkeolckaaDoor.Cu
open Go.ChangeShapes Go.WideShapes Go.ChangeAt Go.RowKit
theorem ext_le (t : ByteArray) (a b : Nat) : (t.extract a b).size ≤ t.size := by
  rw [ByteArray.size_extract]
  omega
theorem ext_two (t : ByteArray) (k j : Nat) (h : k ≤ j) : (t.extract 0 k).size + (t.extract j t.size).size ≤ t.size := by
  rw [ByteArray.size_extract, ByteArray.size_extract]
  omega
theorem spX_size (d : Code1) (t : ByteArray) (s : St) : (spX d t s).size ≤ t.size + 1 := by
  have h1 : ∀ x, (oneB x).size = 1 := fun x => rfl
  have e1 := ext_two t (belX d t.size s).toNat ((belX d t.size s).toNat + 1) (by omega)
  have e2 := ext_two t (belX d t.size s).toNat (belX d t.size s).toNat (by omega)
  have e3 := ext_le t 0 (belX d t.size s).toNat
  unfold spX
  simp only
  split
  · rw [ByteArray.size_append]; omega
  · split
    · rw [ByteArray.size_append, ByteArray.size_append, h1]; omega
    · split
      · omega
      · rw [ByteArray.size_append, ByteArray.size_append, h1]; omega
set_option maxRecDepth 100000 in
set_option maxHeartbeats 1000000 in
theorem spoil_cw (w : World) (c : Nat) (d : Code1) (t : ByteArray) (ht : t.size ≤ 20000) (W : World) (h : Cw w c d W) : Calls Tryd.prog 23 #[.pointer (some ⟨c, 0, none⟩), .string t] W fun e W' => ∃ u, e = .returned (.string u) ∧ u.size ≤ 20010 ∧ Cw w c d W' := by
  obtain ⟨⟨s, hs⟩, hg, hl⟩ := h
  by_cases h0 : 0 < t.size
  · refine (spoil_st c d t s h0 (by omega) W hs).mono ?_
    rintro e W' ⟨rfl, h1, h3⟩
    have := spX_size d t s
    exact ⟨_, rfl, by omega, ⟨_, h1⟩, grownBy_trans hg h3, hl⟩
  · have hz : t.size = 0 := by omega
    have hz2 : ((t.size : Int) == 0) = true := by rw [hz]; rfl
    have HT : Hid (Calls Tryd.prog 49 #[.pointer (some ⟨c, 0, none⟩), .int .i64 3] W fun e w' => DrewS W c d (.string ⟨(textL d 3 s).toArray⟩) (textS d 3 s) e w') := text_st c d 3 s (by omega) (by omega) W hs
    have hlen := textL_length d 3 s (by omega)
    obtain ⟨u, hu⟩ : ∃ u, u = textL d 3 s := ⟨_, rfl⟩
    rw [← hu] at HT hlen
    clear hs hu
    go_enter Tryd.func23, Tryd.ntmps23
    go_wp2_with fail
    refine HT.out.mono ?_
    rintro e W2 ⟨rfl, h1, h3⟩
    have HC : Hid (Cw w c d W2) := ⟨⟨_, h1⟩, grownBy_trans hg h3, hl⟩
    clear h1 h3
    go_wp2
    go_ret
    exact ⟨_, rfl, by rw [lit_size]; omega, HC.out⟩
theorem cw_below {w w1 W : World} {d : Code1} (hb : Below w.heap.size w w1) (h : Cw w1 w.heap.size d W) : Below w.heap.size w W :=
  ⟨h.2.1.os.trans hb.os, h.2.1.tape.trans hb.tape, h.2.1.output.trans hb.output, Nat.le_trans hb.size h.2.1.size, fun k hk => (h.2.1.block k (Nat.lt_of_lt_of_le hk hb.size) (fun e => by have := Option.some.inj e; omega)).trans (hb.block k hk)⟩
set_option maxRecDepth 100000 in
set_option maxHeartbeats 1000000 in
theorem drawRead_any (d : Code1) (w : World) (hc : CodeAt w w.heap.size d) : Calls Tryd.prog 7 #[.slice d.a d.len d.cap] w fun e w' => ∃ t, e = .returned (.string t) ∧ t.size ≤ 20010 ∧ Below w.heap.size w w' := by
  have hl : d.len ≤ 1048576 := hc.1
  have HN : Hid (Calls Tryd.prog 19 #[.slice d.a d.len d.cap] w fun e w' => e = .returned (.pointer (some ⟨w.heap.size, 0, none⟩)) ∧ CurS w' w.heap.size d (newS d) ∧ Below w.heap.size w w') := new_st d w hc
  clear hc
  go_enter Tryd.func7, Tryd.ntmps7
  go_wp2_with fail
  refine HN.out.mono ?_
  rintro e w1 ⟨rfl, hcur, hb1⟩
  have HB1 : Hid (Below w.heap.size w w1) := hb1
  have h1 : Cw w1 w.heap.size d w1 := ⟨⟨_, hcur⟩, grownBy_refl _ _, cur_lt hcur⟩
  clear HN hcur hb1
  have HS : Hid (∀ W, Calls Tryd.prog 21 #[.slice d.a d.len d.cap, .int .i64 5] W fun e w' => ∃ k : Nat, e = .returned (.int .i64 (k : Int)) ∧ k ≤ 5 ∧ w' = W) := fun W => size_any d.a d.len d.cap 5 W hl (by decide) (by decide)
  go_wp2_with fail
  refine (HS.out w1).mono ?_
  rintro e W2 ⟨k, rfl, hk, rfl⟩
  go_wp2_with fail
  refine (text_cw W2 w.heap.size d k hk W2 h1).mono ?_
  rintro e W3 ⟨t, rfl, ht, h3⟩
  clear h1
  go_wp2_with fail
  refine (once_cw W2 w.heap.size d 5 W3 h3 (by decide) (by decide)).mono ?_
  rintro e W4 ⟨b, rfl, h4⟩
  clear h3
  cases b with
  | true =>
    go_wp2_with fail
    refine (spoil_cw W2 w.heap.size d t ht W4 h4).mono ?_
    rintro e W5 ⟨u, rfl, hu, h5⟩
    have HF : Hid (Below w.heap.size w W5) := cw_below HB1.out h5
    clear h4 h5
    go_wp2
    go_ret
    exact ⟨u, rfl, hu, HF.out⟩
  | false =>
    have HF : Hid (Below w.heap.size w W4) := cw_below HB1.out h4
    clear h4
    go_wp2
    go_ret
    exact ⟨t, rfl, by omega, HF.out⟩
end Go.Proofs.YtgfkmppkeolckaaDoor.Cu
