/- The contract of the model's Fixed: so many bytes, the highest first. -/
import Derived.Test.YtdbfifgblcmckajRfa
import Derived.Test.YtdbfifgblcmckajOwn
import Derived.Test.YtdbfifgblcmckajBits
namespace Go.Proofs.Ytdbfifgblcmckaj
open Go.ChangeShapes Go.WideShapes Go.ChangeAt Go.RowKit
/-- The k lowest bytes of n, the highest first. -/
def fixL (n : Nat) : Nat → List UInt8
  | 0 => []
  | k + 1 => UInt8.ofNat (n / 256 ^ k % 256) :: fixL n k
theorem fixL_length (n : Nat) : ∀ k, (fixL n k).length = k
  | 0 => rfl
  | k + 1 => by simp [fixL, fixL_length n k]
/-- The answer of Fixed. -/
def fixR (n width : Nat) : List UInt8 := if n / 256 ^ width = 0 then fixL n width else []
theorem conv_one (w : World) (c : UInt8) : (convert 34 9 (.slice (some ⟨w.heap.size, 0, none⟩) 1 1)).run Try.prog (w.alloc (.cells #[.int .u8 (c.toNat : Int)] 5)) = .ok (.string ⟨#[c]⟩) (w.alloc (.cells #[.int .u8 (c.toNat : Int)] 5)) := by
  refine run_convert_bytes_back _ 34 9 5 ⟨w.heap.size, 0, none⟩ 1 [c] Try.underlying34 Try.underlying5 Try.underlying9 fun j hj => ?_
  match j, hj with
  | 0, _ => simp [Addr.add]
set_option maxRecDepth 100000 in
set_option maxHeartbeats 400000 in
theorem specFix_yes (n width : Nat) (w : World) (hn : n < 9223372036854775808) (h1 : 1 ≤ width) (h7 : width ≤ 7) :
    Calls Try.prog 8 #[.int .i64 n, .int .i64 width] w fun e w' => e = .returned (.string ⟨(fixR n width).toArray⟩) ∧ Below w.heap.size w w' := by
  have hd : decide ((n : Int) < 0) = false := by simp
  go_enter Try.func8, Try.ntmps8
  go_wp2_with (go_at_call 18; refine (l1In_yes _ _ _ _ (by omega) (by omega)).mono ?_; rintro e w' ⟨rfl, rfl⟩)
  go_loopw [0, 5, 6] (fun t o i wr => ∃ (k : Nat), k ≤ width ∧ i = .int .i64 k ∧ t = .int .i64 (n / 256 ^ k : Nat) ∧ o = .string ⟨(fixL n k).toArray⟩ ∧ Below w'.heap.size w' wr)
    (fun _ _ i _ => width - (intOf i).toNat)
  case atStart => exact ⟨0, Nat.zero_le _, rfl, by simp, rfl, Below.refl _ _⟩
  case round =>
    obtain ⟨k, hk, rfl, rfl, rfl, hnx⟩ := hrel
    have hsz := hnx.size
    by_cases hlt : k < width
    · obtain ⟨c, hc⟩ : ∃ c, c = UInt8.ofNat (n / 256 ^ k % 256) := ⟨_, rfl⟩
      obtain ⟨m, hm⟩ : ∃ m, m = n / 256 ^ k := ⟨_, rfl⟩
      have hmn : m < 9223372036854775808 := by rw [hm]; exact Nat.lt_of_le_of_lt (Nat.div_le_self _ _) hn
      have HM : Hid (m / 256 = n / 256 ^ (k + 1)) := by show _ = _; rw [hm, Nat.pow_succ, Nat.div_div_eq_div_mul]
      have HF : Hid (fixL n (k + 1) = c :: fixL n k) := by show _ = _; rw [hc]; rfl
      have HC : Hid ((m : Int) % 256 = (c.toNat : Int)) := by
        have hb : (UInt8.ofNat (n / 256 ^ k % 256)).toNat = n / 256 ^ k % 256 := by simp
        show _ = _; rw [hc, hm]; omega
      have hcv := conv_one wr c
      rw [← HC.out] at hcv
      rw [← hm]
      clear hc hm
      have hll : (fixL n k).length ≤ 7 := by rw [fixL_length]; omega
      generalize fixL n k = l at *
      go_wp2
      go_roundw
      case rel => exact ⟨k + 1, by omega, by go_num, by rw [← HM.out]; go_num, by rw [HF.out]; exact congrArg Value.string (ByteArray.mk_append_mk [c] l), hnx.alloc hsz _⟩
      case measure => simp [intOf]; omega
    · obtain rfl : k = width := by omega
      by_cases hz : n / 256 ^ k = 0
      · have HR : Hid (fixR n k = fixL n k) := if_pos hz
        rw [hz]
        clear hz
        generalize fixL n k = l at *
        go_wp2
        go_ret
        exact ⟨by rw [HR.out]; rfl, hnx⟩
      · have HR : Hid (fixR n k = []) := if_neg hz
        obtain ⟨m, hm⟩ : ∃ m, m = n / 256 ^ k := ⟨_, rfl⟩
        have hg : 0 < m := by omega
        rw [← hm]
        clear hz hm
        go_wp2
        go_ret
        exact ⟨by rw [HR.out]; rfl, hnx⟩
end Go.Proofs.Ytdbfifgblcmckaj
