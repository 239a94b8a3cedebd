/- The contracts of ReadFixed, of the program and of the model: each tells the number in the first bytes. -/
import Derived.Test.YtdbfifgblcmckajRows
import Derived.WalkKit
import Derived.ProofKit
import Derived.Below
import Derived.Outline
import Derived.WalkSpells
import Derived.WalkLawsBesides
namespace Go.Proofs.Ytdbfifgblcmckaj
open Go.ChangeShapes Go.WideShapes Go.ChangeAt Go.RowKit
theorem l1In_yes (x lo hi : Int) (w : World) (h1 : lo ≤ x) (h2 : x ≤ hi) :
    Calls Try.prog 18 #[.int .i64 x, .int .i64 lo, .int .i64 hi] w fun e w' => e = .returned (.bool true) ∧ w' = w := by
  go_enter Try.func18, Try.ntmps18
  go_wp2
  go_ret
  exact ⟨rfl, rfl⟩
theorem l1In_low (x lo hi : Int) (w : World) (h1 : x < lo) :
    Calls Try.prog 18 #[.int .i64 x, .int .i64 lo, .int .i64 hi] w fun e w' => e = .returned (.bool false) ∧ w' = w := by
  go_enter Try.func18, Try.ntmps18
  go_wp2
  go_ret
  exact ⟨rfl, rfl⟩
theorem l1In_high (x lo hi : Int) (w : World) (h1 : lo ≤ x) (h2 : hi < x) :
    Calls Try.prog 18 #[.int .i64 x, .int .i64 lo, .int .i64 hi] w fun e w' => e = .returned (.bool false) ∧ w' = w := by
  have h3 : decide (x ≤ hi) = false := by simp; omega
  go_enter Try.func18, Try.ntmps18
  go_wp2
  go_ret
  exact ⟨rfl, rfl⟩

/-- The number in the first k bytes, the highest first. -/
def rfN (s : ByteArray) : Nat → Int
  | 0 => 0
  | k + 1 => rfN s k * 256 + ((s.data.toList.getD k 0).toNat : Int)
theorem rfN_bd (s : ByteArray) : ∀ k, 0 ≤ rfN s k ∧ rfN s k < 256 ^ k
  | 0 => by simp [rfN]
  | k + 1 => by
    have h := rfN_bd s k
    have hb : ((s.data.toList.getD k 0).toNat : Int) < 256 := by have := (s.data.toList.getD k 0).toNat_lt; omega
    have e : (256 : Int) ^ (k + 1) = 256 ^ k * 256 := Int.pow_succ _ _
    simp only [rfN]
    omega
theorem pow7 (k : Nat) (h : k ≤ 6) : (256 : Int) ^ k ≤ 281474976710656 := by
  match k, h with
  | 0, _ | 1, _ | 2, _ | 3, _ | 4, _ | 5, _ | 6, _ => decide
theorem rfN_six (s : ByteArray) (k : Nat) (h : k ≤ 6) : 0 ≤ rfN s k ∧ rfN s k < 281474976710656 := by
  have h1 := rfN_bd s k
  have h2 := pow7 k h
  omega
theorem at_getD (s : ByteArray) (k : Nat) (h : k < s.size) : s.data.toList.getD k 0 = s[k] := by
  rw [List.getD_eq_getElem?_getD, List.getElem?_eq_getElem (by simpa using h)]; rfl
set_option maxHeartbeats 400000 in
theorem specRf_yes (s : ByteArray) (width : Nat) (w : World) (hs : s.size ≤ maxLen) (h1 : 1 ≤ width) (h7 : width ≤ 7) (hl : width ≤ s.size) :
    Calls Try.prog 10 #[.string s, .int .i64 width] w fun e w' => e = .returned (.tuple #[.int .i64 (rfN s width), .bool true]) ∧ w' = w := by
  unfold maxLen at hs
  have hd : decide (s.size < width) = false := by simp; omega
  go_enter Try.func10, Try.ntmps10
  go_wp2_with (go_at_call 18; refine (l1In_yes _ _ _ _ (by omega) (by omega)).mono ?_; rintro e w' ⟨rfl, rfl⟩)
  go_loop [6, 7] (fun n i => ∃ k : Nat, k ≤ width ∧ i = .int .i64 k ∧ n = .int .i64 (rfN s k)) (fun _ i => width - (intOf i).toNat)
  case atStart => exact ⟨0, Nat.zero_le _, rfl, rfl⟩
  case round =>
    obtain ⟨k, hk, rfl, rfl⟩ := hrel
    by_cases hlt : k < width
    · obtain ⟨b1, b2⟩ := rfN_six s k (by omega)
      have hkb : k < s.size := by omega
      have hb : (s[k].toNat : Int) < 256 := by have := s[k].toNat_lt; omega
      have HS : Hid (rfN s (k + 1) = rfN s k * 256 + (s[k].toNat : Int)) := by
        show rfN s k * 256 + ((s.data.toList.getD k 0).toNat : Int) = _
        rw [at_getD s k hkb]
      go_wp2
      go_round
      case rel => exact ⟨k + 1, by omega, by go_num, by rw [HS.out]⟩
      case measure => simp [intOf]; omega
    · obtain rfl : k = width := by omega
      go_wp2
      go_ret2
      exact ⟨rfl, rfl⟩
end Go.Proofs.Ytdbfifgblcmckaj
