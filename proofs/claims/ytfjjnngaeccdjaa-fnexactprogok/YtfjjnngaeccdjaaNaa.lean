/- Which bytes stand in a symbol: the model's and the program's way. -/
import Derived.Test.YtfjjnngaeccdjaaNap
import Derived.Test.YtfjjnngaeccdjaaMem
namespace Go.Proofs.Ytfjjnngaeccdjaa
open Go.ChangeShapes Go.WideShapes Go.ChangeAt Go.RowKit
set_option maxRecDepth 100000 in
theorem l2In_any (c : UInt8) (s : ByteArray) (w : World) (hs : s.size ≤ 1048576) :
    Calls Try.prog 50 #[.int .u8 c.toNat, .string s] w fun e w' => e = .returned (.bool (hasB s.data.toList c)) ∧ w' = w := by
  have HL : Hid (s.data.toList.length = s.size) := by show _ = _; simp
  have hc : (c.toNat : Int) < 256 := by have := c.toNat_lt; omega
  go_enter Try.func50, Try.ntmps50
  go_wp2
  go_loop [5] (fun i => ∃ k : Nat, k ≤ s.size ∧ i = .int .i64 k ∧ hasB (s.data.toList.take k) c = false) (fun i => s.size - (intOf i).toNat)
  case atStart => exact ⟨0, by omega, rfl, by simp [hasB]⟩
  case round =>
    obtain ⟨k, hk, rfl, hno⟩ := hrel
    by_cases hlt : k < s.size
    · have hb : (s[k].toNat : Int) < 256 := by have := s[k].toNat_lt; omega
      have HT := take_snoc s k hlt
      by_cases he : s[k] = c
      · have HQ : Hid (hasB s.data.toList c = true) := by
          show List.contains _ _ = _
          rw [List.contains_iff_mem, ← he]
          exact List.mem_of_mem_take (i := k + 1) (by rw [HT]; simp)
        have e1 : ((s[k].toNat : Int) == (c.toNat : Int)) = true := by rw [he]; simp
        clear hno HT he
        go_wp2
        go_ret
        exact ⟨by rw [HQ.out]; rfl, rfl⟩
      · have HQ : Hid (hasB (s.data.toList.take (k + 1)) c = false) := by
          show _ = _
          have he' : ¬ c = s[k] := fun h => he h.symm
          unfold hasB at hno ⊢
          rw [HT, List.contains_append, hno]
          simp [he']
        have e1 : ((s[k].toNat : Int) == (c.toNat : Int)) = false := by
          rw [beq_eq_false_iff_ne]
          intro h
          exact he (UInt8.toNat_inj.1 (by omega))
        clear hno HT he
        go_wp2
        go_round
        case rel => exact ⟨k + 1, by omega, by go_num, HQ.out⟩
        case measure => simp [intOf]; omega
    · obtain rfl : k = s.size := by omega
      rw [List.take_of_length_le (by rw [HL.out]; exact Nat.le_refl _)] at hno
      have HQ : Hid (hasB s.data.toList c = false) := hno
      clear hno
      go_wp2
      go_ret
      exact ⟨by rw [HQ.out]; rfl, rfl⟩
set_option maxRecDepth 100000 in
theorem l2Digit_any (c : UInt8) (w : World) :
    Calls Try.prog 34 #[.int .u8 c.toNat] w fun e w' => e = .returned (.bool (isDigB c)) ∧ w' = w := by
  have hc : (c.toNat : Int) < 256 := by have := c.toNat_lt; omega
  by_cases h1 : 48 ≤ c.toNat
  · by_cases h2 : c.toNat ≤ 57
    · go_enter Try.func34, Try.ntmps34
      go_wp2
      go_ret
      exact ⟨by simp [isDigB, h1, h2]; omega, rfl⟩
    · have e2 : decide ((c.toNat : Int) ≤ 57) = false := by simp; omega
      go_enter Try.func34, Try.ntmps34
      go_wp2
      go_ret
      exact ⟨by simp [isDigB, h2], rfl⟩
  · have e1 : decide ((48 : Int) ≤ (c.toNat : Int)) = false := by simp; omega
    go_enter Try.func34, Try.ntmps34
    go_wp2
    go_ret
    exact ⟨by simp [isDigB, h1], rfl⟩
set_option maxRecDepth 100000 in
theorem l2Sign_any (c : UInt8) (w : World) :
    Calls Try.prog 35 #[.int .u8 c.toNat] w fun e w' => e = .returned (.bool (sgB c)) ∧ w' = w := by
  have HD : Hid (∀ w, Calls Try.prog 34 #[.int .u8 c.toNat] w fun e w' => e = .returned (.bool (isDigB c)) ∧ w' = w) := fun w => l2Digit_any c w
  have HI : Hid (∀ w, Calls Try.prog 50 #[.int .u8 c.toNat, .string ⟨#[33, 63, 42, 47, 60, 61, 62, 43, 45, 95]⟩] w fun e w' => e = .returned (.bool (hasB [33, 63, 42, 47, 60, 61, 62, 43, 45, 95] c)) ∧ w' = w) := fun w => l2In_any c _ w (by decide)
  have hc : (c.toNat : Int) < 256 := by have := c.toNat_lt; omega
  have HS : Hid (sgB c = ((decide (97 ≤ c.toNat) && decide (c.toNat ≤ 122)) || (isDigB c || hasB [33, 63, 42, 47, 60, 61, 62, 43, 45, 95] c))) := rfl
  by_cases hz : 97 ≤ c.toNat ∧ c.toNat ≤ 122
  · obtain ⟨h1, h2⟩ := hz
    have HQ : Hid (sgB c = true) := by show _ = _; rw [HS.out]; simp [h1, h2]
    clear HS
    go_enter Try.func35, Try.ntmps35
    go_wp2_with fail
    go_ret
    exact ⟨by rw [HQ.out]; rfl, rfl⟩
  · have HZ : Hid (sgB c = (isDigB c || hasB [33, 63, 42, 47, 60, 61, 62, 43, 45, 95] c)) := by
      have h := HS.out
      have : (decide (97 ≤ c.toNat) && decide (c.toNat ≤ 122)) = false := by simp; omega
      rw [this] at h
      rw [Bool.false_or] at h
      exact h
    clear HS
    generalize hasB [33, 63, 42, 47, 60, 61, 62, 43, 45, 95] c = q at *
    cases hd : isDigB c
    · rw [hd] at HD HZ
      have HQ : Hid (sgB c = q) := by show _ = _; rw [HZ.out]; simp
      clear HZ hd
      by_cases h1 : 97 ≤ c.toNat
      · have e2 : decide ((c.toNat : Int) ≤ 122) = false := by simp; omega
        clear hz
        go_enter Try.func35, Try.ntmps35
        go_wp2_with (first | (go_at_call 34; refine (HD.out _).mono ?_; rintro e w' ⟨rfl, rfl⟩) | (go_at_call 50; refine (HI.out _).mono ?_; rintro e w' ⟨rfl, rfl⟩))
        go_ret
        exact ⟨by rw [HQ.out]; rfl, rfl⟩
      · have e2 : decide ((97 : Int) ≤ (c.toNat : Int)) = false := by simp; omega
        clear hz
        go_enter Try.func35, Try.ntmps35
        go_wp2_with (first | (go_at_call 34; refine (HD.out _).mono ?_; rintro e w' ⟨rfl, rfl⟩) | (go_at_call 50; refine (HI.out _).mono ?_; rintro e w' ⟨rfl, rfl⟩))
        go_ret
        exact ⟨by rw [HQ.out]; rfl, rfl⟩
    · rw [hd] at HD HZ
      have HQ : Hid (sgB c = true) := by show _ = _; rw [HZ.out]; simp
      clear HZ hd
      by_cases h1 : 97 ≤ c.toNat
      · have e2 : decide ((c.toNat : Int) ≤ 122) = false := by simp; omega
        clear hz
        go_enter Try.func35, Try.ntmps35
        go_wp2_with (first | (go_at_call 34; refine (HD.out _).mono ?_; rintro e w' ⟨rfl, rfl⟩) | (go_at_call 50; refine (HI.out _).mono ?_; rintro e w' ⟨rfl, rfl⟩))
        go_ret
        exact ⟨by rw [HQ.out]; rfl, rfl⟩
      · have e2 : decide ((97 : Int) ≤ (c.toNat : Int)) = false := by simp; omega
        clear hz
        go_enter Try.func35, Try.ntmps35
        go_wp2_with (first | (go_at_call 34; refine (HD.out _).mono ?_; rintro e w' ⟨rfl, rfl⟩) | (go_at_call 50; refine (HI.out _).mono ?_; rintro e w' ⟨rfl, rfl⟩))
        go_ret
        exact ⟨by rw [HQ.out]; rfl, rfl⟩
end Go.Proofs.Ytfjjnngaeccdjaa
