/- Rows of data and of numbers held against each other. -/
import Derived.Test.YtgfkmppkeolckaaDoorDat
import Derived.Deep.QuietTactic
import Derived.BigQuiet
set_option linter.unusedVariables false
namespace Go.Proofs.YtgfkmppkeolckaaDoor
open Go.ChangeShapes Go.WideShapes Go.ChangeAt Go.RowKit
noncomputable instance decDat : DecidableEq Dat := fun a b => Classical.propDecidable (a = b)
theorem dat_ne {a b : Dat} (h : a ≠ b) : (a.k == b.k) = false ∨ ((a.k == b.k) = true ∧ (a.n == b.n) = false) ∨ ((a.k == b.k) = true ∧ (a.n == b.n) = true ∧ (a.s.toList == b.s.toList) = false) ∨ ((a.k == b.k) = true ∧ (a.n == b.n) = true ∧ (a.s.toList == b.s.toList) = true ∧ (a.l == b.l) = false) ∨ ((a.k == b.k) = true ∧ (a.n == b.n) = true ∧ (a.s.toList == b.s.toList) = true ∧ (a.l == b.l) = true ∧ (a.r == b.r) = false) := by
  cases h1 : (a.k == b.k) with
  | false => exact .inl rfl
  | true =>
    cases h2 : (a.n == b.n) with
    | false => exact .inr (.inl ⟨rfl, rfl⟩)
    | true =>
      cases h3 : (a.s.toList == b.s.toList) with
      | false => exact .inr (.inr (.inl ⟨rfl, rfl, rfl⟩))
      | true =>
        cases h4 : (a.l == b.l) with
        | false => exact .inr (.inr (.inr (.inl ⟨rfl, rfl, rfl, rfl⟩)))
        | true =>
          cases h5 : (a.r == b.r) with
          | false => exact .inr (.inr (.inr (.inr ⟨rfl, rfl, rfl, rfl, rfl⟩)))
          | true =>
            refine absurd ?_ h
            rw [beq_iff_eq] at h1 h2 h3 h4 h5
            rw [ByteArray.toList_eq, ByteArray.toList_eq] at h3
            have hs : a.s = b.s := by
              have : a.s.data = b.s.data := Array.toList_inj.1 h3
              cases ha : a.s
              cases hb : b.s
              rw [ha, hb] at this
              exact congrArg ByteArray.mk this
            cases a; cases b
            simp_all
theorem list_ne {α : Type} {xs ys : List α} {i : Nat} {x y : α} (hx : xs[i]? = some x) (hy : ys[i]? = some y) (h : x ≠ y) : xs ≠ ys := by
  rintro rfl
  exact h (Option.some.inj (hx.symm.trans hy))
theorem list_eq {α : Type} {xs ys : List α} {i : Nat} (h : xs.take i = ys.take i) (h1 : xs.length ≤ i) (h2 : ys.length ≤ i) : xs = ys := by
  rw [List.take_of_length_le h1, List.take_of_length_le h2] at h
  exact h
set_option maxRecDepth 100000 in
set_option maxHeartbeats 1000000 in
theorem equalD_len (a b : Option Addr) (n m c d : Nat) (w : World) (h : n ≠ m) : Calls Tryd.prog 34 #[.slice a n c, .slice b m d] w fun e w' => e = .returned (.bool false) ∧ Below w.heap.size w w' := by
  have q : ((n : Int) != (m : Int)) = true := by rw [bne_iff_ne]; omega
  go_enter Tryd.func34, Tryd.ntmps34
  go_wp2
  go_ret
  exact ⟨rfl, Below.refl _ _⟩
set_option maxRecDepth 100000 in
set_option maxHeartbeats 1000000 in
theorem equalD_same (a b : Option Addr) (xs ys : List Dat) (c d : Nat) (w : World) (hl : xs.length = ys.length) (hn : xs.length ≤ 9223372036854775807) (hx : RowD w w.heap.size a xs) (hy : RowD w w.heap.size b ys) : Calls Tryd.prog 34 #[.slice a xs.length c, .slice b ys.length d] w fun e w' => e = .returned (.bool (decide (xs = ys))) ∧ Below w.heap.size w w' := by
  have HX : Hid (RowD w w.heap.size a xs) := hx
  have HY : Hid (RowD w w.heap.size b ys) := hy
  have HL : Hid (xs.length = ys.length) := hl
  obtain ⟨r, hr⟩ : ∃ r, r = decide (xs = ys) := ⟨_, rfl⟩
  have HR : Hid (r = decide (xs = ys)) := hr
  rw [← hl, ← hr]
  clear hx hy hl hr
  go_enter Tryd.func34, Tryd.ntmps34
  go_wp2
  go_loopw [13] (fun o wr => ∃ (i : Nat), i ≤ xs.length ∧ o = .int .i64 i ∧ Below w.heap.size w wr ∧ xs.take i = ys.take i)
    (fun o _ => xs.length - (intOf o).toNat)
  case atStart => exact ⟨0, by omega, rfl, Below.refl _ _, rfl⟩
  case round =>
    obtain ⟨i, hi, rfl, hb, hpre⟩ := hrel
    have HPRE : Hid (xs.take i = ys.take i) := hpre
    clear hpre
    by_cases hlt : i < xs.length
    · obtain ⟨d1, hd1⟩ : ∃ d, xs[i]? = some d := ⟨_, List.getElem?_eq_getElem hlt⟩
      obtain ⟨d2, hd2⟩ : ∃ d, ys[i]? = some d := ⟨_, List.getElem?_eq_getElem (by have := HL.out; omega)⟩
      obtain ⟨b1, o1, rfl, hbb, c0, c1, c2, c3, c4⟩ := (HX.out.below hb) i d1 hd1
      obtain ⟨b2, o2, rfl, hbb', c5, c6, c7, c8, c9⟩ := (HY.out.below hb) i d2 hd2
      have HD1 : Hid (xs[i]? = some d1) := hd1
      have HD2 : Hid (ys[i]? = some d2) := hd2
      clear hd1 hd2
      have hli : (i : Int) < (xs.length : Int) := by omega
      by_cases hd : d1 = d2
      · subst hd
        have HN : Hid (xs.take (i + 1) = ys.take (i + 1)) := by
          show _ = _
          rw [List.take_add_one, List.take_add_one, HPRE.out, HD1.out, HD2.out]
        clear HPRE
        go_wp2
        go_quiet (fail)
        go_wp2
        go_roundw
        case rel => exact ⟨i + 1, by omega, by go_num, below_drewN hb _, HN.out⟩
        case measure => simp [intOf]; omega
      · have HF : Hid (r = false) := by
          show r = false
          rw [HR.out]
          simp only [decide_eq_false_iff_not]
          exact list_ne HD1.out HD2.out hd
        have hdn := dat_ne hd
        clear hd HPRE
        rcases hdn with q1 | ⟨q1, q2⟩ | ⟨q1, q2, q3⟩ | ⟨q1, q2, q3, q4⟩ | ⟨q1, q2, q3, q4, q5⟩
        all_goals
          go_wp2
          go_quiet (fail)
          go_wp2
          go_ret
          exact ⟨by rw [HF.out]; rfl, below_drewN hb _⟩
    · have hlt' : decide ((i : Int) < (xs.length : Int)) = false := by simp; omega
      have HF : Hid (r = true) := by
        show r = true
        rw [HR.out]
        simp only [decide_eq_true_eq]
        exact list_eq HPRE.out (by omega) (by have := HL.out; omega)
      clear HPRE
      go_wp2
      go_ret
      exact ⟨by rw [HF.out]; rfl, hb⟩
set_option maxRecDepth 100000 in
set_option maxHeartbeats 1000000 in
theorem equalI_len (a b : Option Addr) (n m c d : Nat) (w : World) (h : n ≠ m) : Calls Tryd.prog 35 #[.slice a n c, .slice b m d] w fun e w' => e = .returned (.bool false) ∧ Below w.heap.size w w' := by
  have q : ((n : Int) != (m : Int)) = true := by rw [bne_iff_ne]; omega
  go_enter Tryd.func35, Tryd.ntmps35
  go_wp2
  go_ret
  exact ⟨rfl, Below.refl _ _⟩
set_option maxRecDepth 100000 in
set_option maxHeartbeats 1000000 in
theorem equalI_same (a b : Option Addr) (xs ys : List Int) (c d : Nat) (w : World) (hl : xs.length = ys.length) (hn : xs.length ≤ 9223372036854775807) (hx : RowI w w.heap.size a xs) (hy : RowI w w.heap.size b ys) : Calls Tryd.prog 35 #[.slice a xs.length c, .slice b ys.length d] w fun e w' => e = .returned (.bool (decide (xs = ys))) ∧ Below w.heap.size w w' := by
  have HX : Hid (RowI w w.heap.size a xs) := hx
  have HY : Hid (RowI w w.heap.size b ys) := hy
  have HL : Hid (xs.length = ys.length) := hl
  obtain ⟨r, hr⟩ : ∃ r, r = decide (xs = ys) := ⟨_, rfl⟩
  have HR : Hid (r = decide (xs = ys)) := hr
  rw [← hl, ← hr]
  clear hx hy hl hr
  go_enter Tryd.func35, Tryd.ntmps35
  go_wp2
  go_loopw [13] (fun o wr => ∃ (i : Nat), i ≤ xs.length ∧ o = .int .i64 i ∧ Below w.heap.size w wr ∧ xs.take i = ys.take i)
    (fun o _ => xs.length - (intOf o).toNat)
  case atStart => exact ⟨0, by omega, rfl, Below.refl _ _, rfl⟩
  case round =>
    obtain ⟨i, hi, rfl, hb, hpre⟩ := hrel
    have HPRE : Hid (xs.take i = ys.take i) := hpre
    clear hpre
    by_cases hlt : i < xs.length
    · obtain ⟨d1, hd1⟩ : ∃ d, xs[i]? = some d := ⟨_, List.getElem?_eq_getElem hlt⟩
      obtain ⟨d2, hd2⟩ : ∃ d, ys[i]? = some d := ⟨_, List.getElem?_eq_getElem (by have := HL.out; omega)⟩
      obtain ⟨b1, o1, rfl, hbb, c0⟩ := (HX.out.below hb) i d1 hd1
      obtain ⟨b2, o2, rfl, hbb', c5⟩ := (HY.out.below hb) i d2 hd2
      have HD1 : Hid (xs[i]? = some d1) := hd1
      have HD2 : Hid (ys[i]? = some d2) := hd2
      clear hd1 hd2
      have hli : (i : Int) < (xs.length : Int) := by omega
      by_cases hd : d1 = d2
      · subst hd
        have q2 : (d1 != d1) = false := by simp
        have HN : Hid (xs.take (i + 1) = ys.take (i + 1)) := by
          show _ = _
          rw [List.take_add_one, List.take_add_one, HPRE.out, HD1.out, HD2.out]
        clear HPRE
        go_wp2
        go_quiet (fail)
        go_wp2
        go_roundw
        case rel => exact ⟨i + 1, by omega, by go_num, below_drewN hb _, HN.out⟩
        case measure => simp [intOf]; omega
      · have HF : Hid (r = false) := by
          show r = false
          rw [HR.out]
          simp only [decide_eq_false_iff_not]
          exact list_ne HD1.out HD2.out hd
        have q1 : (d1 == d2) = false := by rw [beq_eq_false_iff_ne]; exact hd
        have q2 : (d1 != d2) = true := by rw [bne_iff_ne]; exact hd
        clear hd HPRE
        go_wp2
        go_quiet (fail)
        go_wp2
        go_ret
        exact ⟨by rw [HF.out]; rfl, below_drewN hb _⟩
    · have hlt' : decide ((i : Int) < (xs.length : Int)) = false := by simp; omega
      have HF : Hid (r = true) := by
        show r = true
        rw [HR.out]
        simp only [decide_eq_true_eq]
        exact list_eq HPRE.out (by omega) (by have := HL.out; omega)
      clear HPRE
      go_wp2
      go_ret
      exact ⟨by rw [HF.out]; rfl, hb⟩
/-- slices.Equal over two rows of data. -/
theorem equalD_any (a b : Option Addr) (xs ys : List Dat) (c d : Nat) (w : World) (hn : xs.length ≤ 9223372036854775807) (hx : RowD w w.heap.size a xs) (hy : RowD w w.heap.size b ys) : Calls Tryd.prog 34 #[.slice a xs.length c, .slice b ys.length d] w fun e w' => Ans w (.bool (decide (xs = ys))) e w' := by
  by_cases hl : xs.length = ys.length
  · exact equalD_same a b xs ys c d w hl hn hx hy
  · have e : decide (xs = ys) = false := by
      simp only [decide_eq_false_iff_not]
      rintro rfl
      exact hl rfl
    rw [e]
    exact equalD_len a b _ _ c d w hl
theorem equalI_any (a b : Option Addr) (xs ys : List Int) (c d : Nat) (w : World) (hn : xs.length ≤ 9223372036854775807) (hx : RowI w w.heap.size a xs) (hy : RowI w w.heap.size b ys) : Calls Tryd.prog 35 #[.slice a xs.length c, .slice b ys.length d] w fun e w' => Ans w (.bool (decide (xs = ys))) e w' := by
  by_cases hl : xs.length = ys.length
  · exact equalI_same a b xs ys c d w hl hn hx hy
  · have e : decide (xs = ys) = false := by
      simp only [decide_eq_false_iff_not]
      rintro rfl
      exact hl rfl
    rw [e]
    exact equalI_len a b _ _ c d w hl
end Go.Proofs.YtgfkmppkeolckaaDoor
