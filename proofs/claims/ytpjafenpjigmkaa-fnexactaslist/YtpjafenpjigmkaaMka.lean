/- The law's marks: a text of a number. -/
import Derived.Test.YtpjafenpjigmkaaDeca
import Derived.Test.YtpjafenpjigmkaaMem
set_option linter.unusedVariables false
namespace Go.Proofs.Ytpjafenpjigmkaa
open Go.ChangeShapes Go.WideShapes Go.ChangeAt Go.RowKit
/-- The mark of a number. -/
def mtx (n : Nat) : ByteArray := ⟨(109 :: digs 20 n).toArray⟩
set_option maxRecDepth 100000 in
set_option maxHeartbeats 1000000 in
theorem markText_any (n : Nat) (w : World) (h0 : 0 < n) (hn : n ≤ 9223372036854775807) :
    Calls Try.prog 25 #[.int .i64 n] w fun e w' => Ans w (.string (mtx n)) e w' := by
  have hz : decide ((n : Int) ≤ 0) = false := by simp; omega
  go_enter Try.func25, Try.ntmps25
  go_wp2
  go_loopw [0, 3] (fun t o wr => ∃ (f m : Nat) (out : List UInt8), f + out.length = 20 ∧ m < 10 ^ f ∧ m ≤ 9223372036854775807 ∧ digs f m ++ out = digs 20 n ∧ t = .int .i64 m ∧ o = .string ⟨out.toArray⟩ ∧ Below w.heap.size w wr)
    (fun t _ _ => (intOf t).toNat)
  case atStart => exact ⟨20, n, [], rfl, by omega, hn, by simp, rfl, rfl, Below.refl _ _⟩
  case round =>
    clear hz
    obtain ⟨f, m, out, hf, hm, hmn, hpre, rfl, rfl, hnx⟩ := hrel
    have hsz := hnx.size
    by_cases hm0 : m = 0
    · subst hm0
      rw [digs_zero, List.nil_append] at hpre
      have HP : Hid (out = digs 20 n) := hpre
      have hll : out.length ≤ 20 := by omega
      clear hpre hm
      go_wp2
      go_ret
      exact ⟨by rw [mtx, ← HP.out]; exact congrArg (fun b => Ending.returned (Value.string b)) (ByteArray.mk_append_mk [109] out), hnx⟩
    · match f, hf, hm, hpre with
      | 0, hf, hm, hpre => exact absurd hm (by simp; omega)
      | f + 1, hf, hm, hpre =>
        rw [digs_pos f m hm0] at hpre
        rw [Nat.pow_succ] at hm
        obtain ⟨c, hc⟩ : ∃ c, c = UInt8.ofNat (48 + m % 10) := ⟨_, rfl⟩
        have HP : Hid (digs f (m / 10) ++ (c :: out) = digs 20 n) := by
          show _ = _; rw [← hpre, hc]; simp
        have HM : Hid (m / 10 < 10 ^ f) := by show _ < _; omega
        have HC : Hid ((48 : Int) + (m : Int) % 10 = (c.toNat : Int)) := by
          have := ofNat48 (m % 10) (by omega)
          show _ = _; rw [hc, this]; omega
        have hll : out.length ≤ 20 := by omega
        have hz2 : decide ((0 : Int) < (m : Int)) = true := by simp; omega
        have hz3 : (0 : Int) < (m : Int) := by omega
        have hcv := conv_one wr c
        rw [← HC.out] at hcv
        clear hpre hm hc
        go_wp2
        go_roundw
        case rel => exact ⟨f, m / 10, c :: out, by simp; omega, HM.out, by omega, HP.out, by go_num, congrArg Value.string (ByteArray.mk_append_mk [c] out), hnx.alloc hsz _⟩
        case measure => simp [intOf]; omega
end Go.Proofs.Ytpjafenpjigmkaa
