/- The contract of the program's ReadFixed, and the law. -/
import Derived.Test.YtdbfifgblcmckajRfa
import Derived.Test.YtdbfifgblcmckajBits
namespace Go.Proofs.Ytdbfifgblcmckaj
open Go.ChangeShapes Go.WideShapes Go.ChangeAt Go.RowKit
set_option maxHeartbeats 400000 in
theorem implRf_yes (s : ByteArray) (width : Nat) (w : World) (hs : s.size ≤ maxLen) (h1 : 1 ≤ width) (h7 : width ≤ 7) (hl : width ≤ s.size) :
    Calls Try.prog 11 #[.string s, .int .i64 width] w fun e w' => e = .returned (.tuple #[.int .i64 (rfN s width), .bool true]) ∧ w' = w := by
  unfold maxLen at hs
  have hd : decide (s.size < width) = false := by simp; omega
  have hd2 : decide ((7 : Int) < (width : Int)) = false := by simp; omega
  have hd1 : decide ((width : Int) < 1) = false := by simp; omega
  go_enter Try.func11, Try.ntmps11
  go_wp2
  go_loop [6, 21] (fun n i => ∃ k : Nat, k ≤ width ∧ i = .int .i64 k ∧ n = .int .i64 (rfN s k)) (fun _ i => width - (intOf i).toNat)
  case atStart => exact ⟨0, Nat.zero_le _, rfl, rfl⟩
  case round =>
    obtain ⟨k, hk, rfl, rfl⟩ := hrel
    by_cases hlt : k < width
    · obtain ⟨b1, b2⟩ := rfN_six s k (by omega)
      have hkb : k < s.size := by omega
      have hb : (s[k].toNat : Int) < 256 := by have := s[k].toNat_lt; omega
      have HS : Hid (rfN s (k + 1) = rfN s k * 256 + (s[k].toNat : Int)) := by
        show rfN s k * 256 + ((s.data.toList.getD k 0).toNat : Int) = _
        rw [at_getD s k hkb]
      go_wp2
      go_round
      case rel => exact ⟨k + 1, by omega, by go_num, by rw [HS.out, or_low_int _ _ b1 (by omega) (by omega) hb]⟩
      case measure => simp [intOf]; omega
    · obtain rfl : k = width := by omega
      go_wp2
      go_ret2
      exact ⟨rfl, rfl⟩
theorem specRf_low (s : ByteArray) (x : Int) (w : World) (h : x < 1) :
    Calls Try.prog 10 #[.string s, .int .i64 x] w fun e w' => e = .returned (.tuple #[.int .i64 0, .bool false]) ∧ w' = w := by
  go_enter Try.func10, Try.ntmps10
  go_wp2_with (go_at_call 18; refine (l1In_low _ _ _ _ (by omega)).mono ?_; rintro e w' ⟨rfl, rfl⟩)
  go_ret2
  exact ⟨rfl, rfl⟩
theorem specRf_high (s : ByteArray) (x : Int) (w : World) (h : 7 < x) :
    Calls Try.prog 10 #[.string s, .int .i64 x] w fun e w' => e = .returned (.tuple #[.int .i64 0, .bool false]) ∧ w' = w := by
  go_enter Try.func10, Try.ntmps10
  go_wp2_with (go_at_call 18; refine (l1In_high _ _ _ _ (by omega) (by omega)).mono ?_; rintro e w' ⟨rfl, rfl⟩)
  go_ret2
  exact ⟨rfl, rfl⟩
theorem specRf_short (s : ByteArray) (x : Nat) (w : World) (h1 : 1 ≤ x) (h7 : x ≤ 7) (h : s.size < x) :
    Calls Try.prog 10 #[.string s, .int .i64 x] w fun e w' => e = .returned (.tuple #[.int .i64 0, .bool false]) ∧ w' = w := by
  go_enter Try.func10, Try.ntmps10
  go_wp2_with (go_at_call 18; refine (l1In_yes _ _ _ _ (by omega) (by omega)).mono ?_; rintro e w' ⟨rfl, rfl⟩)
  go_ret2
  exact ⟨rfl, rfl⟩
theorem implRf_low (s : ByteArray) (x : Int) (w : World) (h : x < 1) :
    Calls Try.prog 11 #[.string s, .int .i64 x] w fun e w' => e = .returned (.tuple #[.int .i64 0, .bool false]) ∧ w' = w := by
  go_enter Try.func11, Try.ntmps11
  go_wp2
  go_ret2
  exact ⟨rfl, rfl⟩
theorem implRf_high (s : ByteArray) (x : Int) (w : World) (h : 7 < x) :
    Calls Try.prog 11 #[.string s, .int .i64 x] w fun e w' => e = .returned (.tuple #[.int .i64 0, .bool false]) ∧ w' = w := by
  have hd1 : decide (x < 1) = false := by simp; omega
  go_enter Try.func11, Try.ntmps11
  go_wp2
  go_ret2
  exact ⟨rfl, rfl⟩
theorem implRf_short (s : ByteArray) (x : Nat) (w : World) (h1 : 1 ≤ x) (h7 : x ≤ 7) (h : s.size < x) :
    Calls Try.prog 11 #[.string s, .int .i64 x] w fun e w' => e = .returned (.tuple #[.int .i64 0, .bool false]) ∧ w' = w := by
  have hd2 : decide ((7 : Int) < (x : Int)) = false := by simp; omega
  have hd1 : decide ((x : Int) < 1) = false := by simp; omega
  go_enter Try.func11, Try.ntmps11
  go_wp2
  go_ret2
  exact ⟨rfl, rfl⟩
/-- One answer for both, whatever the argument. -/
theorem rf_both (s : ByteArray) (x : Int) (hs : s.size ≤ maxLen) : ∃ (n : Int) (b : Bool),
    (∀ w, Calls Try.prog 10 #[.string s, .int .i64 x] w fun e w' => e = .returned (.tuple #[.int .i64 n, .bool b]) ∧ w' = w) ∧
    (∀ w, Calls Try.prog 11 #[.string s, .int .i64 x] w fun e w' => e = .returned (.tuple #[.int .i64 n, .bool b]) ∧ w' = w) := by
  by_cases h1 : x < 1
  · exact ⟨0, false, fun w => specRf_low s x w h1, fun w => implRf_low s x w h1⟩
  · by_cases h7 : 7 < x
    · exact ⟨0, false, fun w => specRf_high s x w h7, fun w => implRf_high s x w h7⟩
    · obtain ⟨k, rfl⟩ := Int.eq_ofNat_of_zero_le (show 0 ≤ x by omega)
      by_cases hl : s.size < k
      · exact ⟨0, false, fun w => specRf_short s k w (by omega) (by omega) hl, fun w => implRf_short s k w (by omega) (by omega) hl⟩
      · exact ⟨_, true, fun w => specRf_yes s k w hs (by omega) (by omega) (by omega), fun w => implRf_yes s k w hs (by omega) (by omega) (by omega)⟩
namespace fnExactReadFixed
theorem walk (a0 : ByteArray) (a1 : Int) (w0 : a0.size ≤ maxLen) (_w1 : (Lit.int .i64 a1).wf = true) (w : World) :
    Calls Try.prog 4 #[.string a0, .int .i64 a1] w fun e w' => e = .returned (.bool true) ∧ Grown w w' := by
  obtain ⟨n, b, hS, hI⟩ := rf_both a0 a1 w0
  have HS : Hid _ := hS
  have HI : Hid _ := hI
  clear hS hI
  unfold maxLen at w0
  by_cases hl : a0.size ≤ 1048576
  · go_enter Try.func4, Try.ntmps4
    go_wp2_with (first | (go_at_call 10; refine (HS.out _).mono ?_; rintro e w' ⟨rfl, rfl⟩) | (go_at_call 11; refine (HI.out _).mono ?_; rintro e w' ⟨rfl, rfl⟩))
    go_ret
    exact ⟨rfl, Grown.refl _⟩
  · go_enter Try.func4, Try.ntmps4
    go_wp2
    go_ret
    exact ⟨rfl, Grown.refl _⟩
end fnExactReadFixed
end Go.Proofs.Ytdbfifgblcmckaj
