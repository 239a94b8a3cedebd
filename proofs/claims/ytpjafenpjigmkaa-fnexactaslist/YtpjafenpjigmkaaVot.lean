/- Is it a value in a heap? The model's way. -/
import Derived.Test.YtpjafenpjigmkaaVos
set_option linter.unusedVariables false
namespace Go.Proofs.Ytpjafenpjigmkaa
open Go.ChangeShapes Go.WideShapes Go.ChangeAt Go.RowKit
theorem str_ne {s : ByteArray} (h : s.size ≠ 0) : (s.toList == []) = false := by
  have : s.toList.length ≠ 0 := by rw [ByteArray.toList_eq]; simpa using h
  cases hq : s.toList with
  | nil => rw [hq] at this; exact absurd rfl this
  | cons x r => rfl
set_option maxRecDepth 100000 in
set_option maxHeartbeats 2000000 in
theorem specVal_any (d : Val) (a : Option Addr) (h : List Cel) (ca : Nat) (w : World) (hl : h.length ≤ 1048576) (hs : d.s.size ≤ 1048576) (hr : RowC w w.heap.size a h) :
    Calls Try.prog 17 #[.slice a h.length ca, .agg #[.int .i64 d.k, .int .i64 d.n, .string d.s]] w fun e w' => Ans w (.bool (d.ok h)) e w' := by
  have hbB : Below w.heap.size w (w.alloc (Obj.cells #[.int .i64 d.k, .int .i64 d.n, .string d.s] 32)) := (Below.refl _ _).alloc (Nat.le_refl _) _
  have HIN : Hid (∀ (x lo hi : Int) w, Calls Try.prog 30 #[.int .i64 x, .int .i64 lo, .int .i64 hi] w fun e w' => e = .returned (.bool (decide (lo ≤ x) && decide (x ≤ hi))) ∧ w' = w) := l1In_any
  have HSY : Hid (∀ w, Calls Try.prog 31 #[.string d.s] w fun e w' => Ans w (.bool (syL d.s.data.toList)) e w') := fun w => l2Sym_any d.s w hs
  have HCE : Hid (∀ (n k : Int) w1, Below w.heap.size w w1 → Calls Try.prog 32 #[.slice a h.length ca, .int .i64 n, .int .i64 k] w1 fun e w' => e = .returned (.bool (cellB h n k)) ∧ w' = w1) := fun n k w1 hb => l6Cell_any a h ca n k w1 hl ((hr.below hb).mono hb.size)
  clear hr
  obtain ⟨k, n, s⟩ := d
  simp only at *
  by_cases h4 : k = 4
  · subst h4
    have HQ : Hid (Val.ok h ⟨4, n, s⟩ = (decide (n = 0) && syL s.data.toList)) := vok4 rfl
    rw [HQ.out]
    clear HQ
    by_cases h0 : n = 0
    · subst h0
      rw [decide_eq_true rfl, Bool.true_and]
      go_enter Try.func17, Try.ntmps17
      go_wp2_with (go_at_call 31; refine (HSY.out _).mono ?_; rintro e w' ⟨rfl, hb1⟩)
      go_ret
      exact ⟨rfl, hbB.trans (hb1.mono hbB.size)⟩
    · rw [decide_eq_false h0, Bool.false_and]
      go_enter Try.func17, Try.ntmps17
      go_wp2
      go_ret
      exact ⟨by simp, hbB⟩
  by_cases h0 : s.size = 0
  · obtain rfl := size_zero h0
    by_cases h1 : k = 1
    · subst h1
      have HQ : Hid (Val.ok h ⟨1, n, ⟨#[]⟩⟩ = (decide (-1000000 ≤ n) && decide (n ≤ 1000000))) := vok1 rfl rfl
      rw [HQ.out]
      clear HQ h4 h0
      go_enter Try.func17, Try.ntmps17
      go_wp2_with (go_at_call 30; refine (HIN.out _ _ _ _).mono ?_; rintro e w' ⟨rfl, rfl⟩)
      go_ret
      exact ⟨rfl, hbB⟩
    by_cases h2 : k = 2
    · subst h2
      have HQ : Hid (Val.ok h ⟨2, n, ⟨#[]⟩⟩ = (decide (0 ≤ n) && decide (n ≤ 1))) := by
        show _ = _
        rw [vok2 rfl rfl]
        by_cases e0 : n = 0
        · simp [e0]
        by_cases e1 : n = 1
        · simp [e1]
        by_cases e2 : 0 ≤ n
        · have : ¬ n ≤ 1 := by omega
          simp [e0, e1, this]
        · simp [e0, e1, e2]
      rw [HQ.out]
      clear HQ h4 h0 h1
      go_enter Try.func17, Try.ntmps17
      go_wp2_with (go_at_call 30; refine (HIN.out _ _ _ _).mono ?_; rintro e w' ⟨rfl, rfl⟩)
      go_ret
      exact ⟨rfl, hbB⟩
    by_cases h3 : k = 3
    · subst h3
      have HQ : Hid (Val.ok h ⟨3, n, ⟨#[]⟩⟩ = decide (n = 0)) := vok3 rfl rfl
      rw [HQ.out]
      clear HQ h4 h0 h1 h2
      by_cases h0 : n = 0
      · subst h0
        go_enter Try.func17, Try.ntmps17
        go_wp2
        go_ret
        exact ⟨rfl, hbB⟩
      · rw [decide_eq_false h0]
        go_enter Try.func17, Try.ntmps17
        go_wp2
        go_ret
        exact ⟨by simp [h0], hbB⟩
    by_cases h5 : k = 5
    · subst h5
      have HQ : Hid (Val.ok h ⟨5, n, ⟨#[]⟩⟩ = cellB h n 1) := vok5 rfl rfl
      rw [HQ.out]
      clear HQ h4 h0 h1 h2 h3
      go_enter Try.func17, Try.ntmps17
      go_wp2_with (go_at_call 32; refine (HCE.out _ _ _ hbB).mono ?_; rintro e w' ⟨rfl, rfl⟩)
      go_ret
      exact ⟨rfl, hbB⟩
    by_cases h6 : k = 6
    · subst h6
      have HQ : Hid (Val.ok h ⟨6, n, ⟨#[]⟩⟩ = cellB h n 2) := vok6 rfl rfl
      rw [HQ.out]
      clear HQ h4 h0 h1 h2 h3 h5
      go_enter Try.func17, Try.ntmps17
      go_wp2_with (go_at_call 32; refine (HCE.out _ _ _ hbB).mono ?_; rintro e w' ⟨rfl, rfl⟩)
      go_ret
      exact ⟨rfl, hbB⟩
    by_cases h7 : k = 7
    · subst h7
      have HQ : Hid (Val.ok h ⟨7, n, ⟨#[]⟩⟩ = cellB h n 3) := vok7 rfl rfl
      rw [HQ.out]
      clear HQ h4 h0 h1 h2 h3 h5 h6
      go_enter Try.func17, Try.ntmps17
      go_wp2_with (go_at_call 32; refine (HCE.out _ _ _ hbB).mono ?_; rintro e w' ⟨rfl, rfl⟩)
      go_ret
      exact ⟨rfl, hbB⟩
    have HQ : Hid (Val.ok h ⟨k, n, ⟨#[]⟩⟩ = false) := vok0 h1 h2 h3 h4 h5 h6 h7
    rw [HQ.out]
    clear HQ h0
    go_enter Try.func17, Try.ntmps17
    go_wp2
    go_ret
    exact ⟨rfl, hbB⟩
  · have HQ : Hid (Val.ok h ⟨k, n, s⟩ = false) := vokS h4 h0
    rw [HQ.out]
    have g0 := str_ne h0
    clear HQ h0
    go_enter Try.func17, Try.ntmps17
    go_wp2
    go_ret
    exact ⟨rfl, hbB⟩
end Go.Proofs.Ytpjafenpjigmkaa
