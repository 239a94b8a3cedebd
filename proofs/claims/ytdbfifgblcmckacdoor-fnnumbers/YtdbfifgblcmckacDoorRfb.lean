/- The contract of the program's ReadFixed, and the law. -/
import Derived.Test.YtdbfifgblcmckacDoorRfa
import Derived.Test.YtdbfifgblcmckacDoorBits
namespace Go.Proofs.YtdbfifgblcmckacDoor
open Go.ChangeShapes Go.WideShapes Go.ChangeAt Go.RowKit
set_option maxHeartbeats 400000 in
theorem implRf_yes (s : ByteArray) (width : Nat) (w : World) (hs : s.size ≤ maxLen) (h1 : 1 ≤ width) (h7 : width ≤ 7) (hl : width ≤ s.size) :
    Calls Tryd.prog 10 #[.string s, .int .i64 width] w fun e w' => e = .returned (.tuple #[.int .i64 (rfN s width), .bool true]) ∧ w' = w := by
  unfold maxLen at hs
  have hd : decide (s.size < width) = false := by simp; omega
  have hd2 : decide ((7 : Int) < (width : Int)) = false := by simp; omega
  have hd1 : decide ((width : Int) < 1) = false := by simp; omega
  go_enter Tryd.func10, Tryd.ntmps10
  go_wp2
  go_loop [6, 21] (fun n i => ∃ k : Nat, k ≤ width ∧ i = .int .i64 k ∧ n = .int .i64 (rfN s k)) (fun _ i => width - (intOf i).toNat)
  case atStart => exact ⟨0, Nat.zero_le _, rfl, rfl⟩
  case round =>
    obtain ⟨k, hk, rfl, rfl⟩ := hrel
    by_cases hlt : k < width
    · obtain ⟨b1, b2⟩ := rfN_six s k (by omega)
      have hkb : k < s.size := by omega
      have hb : (s[k].toNat : Int) < 256 := by have := s[k].toNat_lt; omega
      have HS : Hid (rfN s (k + 1) = rfN s k * 256 + (s[k].toNat : Int)) := by
        show rfN s k * 256 + ((s.data.toList.getD k 0).toNat : Int) = _
        rw [at_getD s k hkb]
      go_wp2
      go_round
      case rel => exact ⟨k + 1, by omega, by go_num, by rw [HS.out, or_low_int _ _ b1 (by omega) (by omega) hb]⟩
      case measure => simp [intOf]; omega
    · obtain rfl : k = width := by omega
      go_wp2
      go_ret2
      exact ⟨rfl, rfl⟩
theorem implRf_low (s : ByteArray) (x : Int) (w : World) (h : x < 1) :
    Calls Tryd.prog 10 #[.string s, .int .i64 x] w fun e w' => e = .returned (.tuple #[.int .i64 0, .bool false]) ∧ w' = w := by
  go_enter Tryd.func10, Tryd.ntmps10
  go_wp2
  go_ret2
  exact ⟨rfl, rfl⟩
theorem implRf_high (s : ByteArray) (x : Int) (w : World) (h : 7 < x) :
    Calls Tryd.prog 10 #[.string s, .int .i64 x] w fun e w' => e = .returned (.tuple #[.int .i64 0, .bool false]) ∧ w' = w := by
  have hd1 : decide (x < 1) = false := by simp; omega
  go_enter Tryd.func10, Tryd.ntmps10
  go_wp2
  go_ret2
  exact ⟨rfl, rfl⟩
theorem implRf_short (s : ByteArray) (x : Nat) (w : World) (h1 : 1 ≤ x) (h7 : x ≤ 7) (h : s.size < x) :
    Calls Tryd.prog 10 #[.string s, .int .i64 x] w fun e w' => e = .returned (.tuple #[.int .i64 0, .bool false]) ∧ w' = w := by
  have hd2 : decide ((7 : Int) < (x : Int)) = false := by simp; omega
  have hd1 : decide ((x : Int) < 1) = false := by simp; omega
  go_enter Tryd.func10, Tryd.ntmps10
  go_wp2
  go_ret2
  exact ⟨rfl, rfl⟩
end Go.Proofs.YtdbfifgblcmckacDoor
