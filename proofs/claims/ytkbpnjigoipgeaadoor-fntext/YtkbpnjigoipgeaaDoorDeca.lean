/- The contract of the model's Dec. -/
import Derived.Test.YtkbpnjigoipgeaaDoorOwn
import Derived.Test.YtkbpnjigoipgeaaDoorDecp
namespace Go.Proofs.YtkbpnjigoipgeaaDoor
open Go.ChangeShapes Go.WideShapes Go.ChangeAt Go.RowKit
theorem conv_one (w : World) (c : UInt8) : (convert 22 9 (.slice (some ⟨w.heap.size, 0, none⟩) 1 1)).run Tryd.prog (w.alloc (.cells #[.int .u8 (c.toNat : Int)] 5)) = .ok (.string ⟨#[c]⟩) (w.alloc (.cells #[.int .u8 (c.toNat : Int)] 5)) := by
  refine run_convert_bytes_back _ 22 9 5 ⟨w.heap.size, 0, none⟩ 1 [c] Tryd.underlying22 Tryd.underlying5 Tryd.underlying9 fun j hj => ?_
  match j, hj with
  | 0, _ => simp [Addr.add]
theorem specDec_zero (w : World) :
    Calls Tryd.prog 49 #[.int .i64 0] w fun e w' => e = .returned (.string ⟨(decL 0).toArray⟩) ∧ Below w.heap.size w w' := by
  go_enter Tryd.func49, Tryd.ntmps49
  go_wp2
  go_ret
  exact ⟨rfl, Below.refl _ _⟩
set_option maxRecDepth 100000 in
set_option maxHeartbeats 1000000 in
theorem specDec_pos (n : Nat) (w : World) (h0 : 0 < n) (hn : n ≤ 9223372036854775807) :
    Calls Tryd.prog 49 #[.int .i64 n] w fun e w' => e = .returned (.string ⟨(decL n).toArray⟩) ∧ Below w.heap.size w w' := by
  rw [decL_pos n (by omega), Int.toNat_natCast]
  have hz : ((n : Int) == 0) = false := by rw [beq_eq_false_iff_ne]; omega
  have hd : decide ((n : Int) < 0) = false := by simp
  go_enter Tryd.func49, Tryd.ntmps49
  go_wp2
  go_loopw [0, 3] (fun t o wr => ∃ (f m : Nat) (out : List UInt8), f + out.length = 20 ∧ m < 10 ^ f ∧ m ≤ 9223372036854775807 ∧ digs f m ++ out = digs 20 n ∧ t = .int .i64 m ∧ o = .string ⟨out.toArray⟩ ∧ Below w.heap.size w wr)
    (fun t _ _ => (intOf t).toNat)
  case atStart => exact ⟨20, n, [], rfl, by omega, hn, by simp, rfl, rfl, Below.refl _ _⟩
  case round =>
    obtain ⟨f, m, out, hf, hm, hmn, hpre, rfl, rfl, hnx⟩ := hrel
    have hsz := hnx.size
    by_cases hm0 : m = 0
    · subst hm0
      rw [digs_zero, List.nil_append] at hpre
      have HP : Hid (out = digs 20 n) := hpre
      clear hpre hm
      go_wp2
      go_ret
      exact ⟨by rw [← HP.out]; rfl, hnx⟩
    · match f, hf, hm, hpre with
      | 0, hf, hm, hpre => exact absurd hm (by simp; omega)
      | f + 1, hf, hm, hpre =>
        rw [digs_pos f m hm0] at hpre
        rw [Nat.pow_succ] at hm
        obtain ⟨c, hc⟩ : ∃ c, c = UInt8.ofNat (48 + m % 10) := ⟨_, rfl⟩
        have HP : Hid (digs f (m / 10) ++ (c :: out) = digs 20 n) := by
          show _ = _; rw [← hpre, hc]; simp
        have HM : Hid (m / 10 < 10 ^ f) := by show _ < _; omega
        have HC : Hid ((48 : Int) + (m : Int) % 10 = (c.toNat : Int)) := by
          have := ofNat48 (m % 10) (by omega)
          show _ = _; rw [hc, this]; omega
        have hll : out.length ≤ 20 := by omega
        have hz2 : ((m : Int) != 0) = true := by rw [bne_iff_ne]; omega
        have hd2 : decide ((m : Int) % 10 < 0) = false := by simp; omega
        have hcv := conv_one wr c
        rw [← HC.out] at hcv
        clear hpre hm hc
        go_wp2
        go_roundw
        case rel => exact ⟨f, m / 10, c :: out, by simp; omega, HM.out, by omega, HP.out, by go_num, congrArg Value.string (ByteArray.mk_append_mk [c] out), hnx.alloc hsz _⟩
        case measure => simp [intOf]; omega
set_option maxRecDepth 100000 in
set_option maxHeartbeats 1000000 in
theorem specDec_neg (n : Nat) (w : World) (h0 : 0 < n) (hn : n ≤ 9223372036854775808) :
    Calls Tryd.prog 49 #[.int .i64 (-(n : Int))] w fun e w' => e = .returned (.string ⟨(decL (-(n : Int))).toArray⟩) ∧ Below w.heap.size w w' := by
  rw [decL_neg (-(n : Int)) (by omega), Int.neg_neg, Int.toNat_natCast]
  have hz : (-(n : Int) == 0) = false := by rw [beq_eq_false_iff_ne]; omega
  have hd : decide (-(n : Int) < 0) = true := by simp; omega
  go_enter Tryd.func49, Tryd.ntmps49
  go_wp2
  go_loopw [0, 3] (fun t o wr => ∃ (f m : Nat) (out : List UInt8), f + out.length = 20 ∧ m < 10 ^ f ∧ m ≤ 9223372036854775808 ∧ digs f m ++ out = digs 20 n ∧ t = .int .i64 (-(m : Int)) ∧ o = .string ⟨out.toArray⟩ ∧ Below w.heap.size w wr)
    (fun t _ _ => (-intOf t).toNat)
  case atStart => exact ⟨20, n, [], rfl, by omega, hn, by simp, rfl, rfl, Below.refl _ _⟩
  case round =>
    obtain ⟨f, m, out, hf, hm, hmn, hpre, rfl, rfl, hnx⟩ := hrel
    have hsz := hnx.size
    by_cases hm0 : m = 0
    · subst hm0
      rw [digs_zero, List.nil_append] at hpre
      have HP : Hid (out = digs 20 n) := hpre
      have hll : out.length ≤ 20 := by omega
      clear hpre hm
      rw [show (-((0 : Nat) : Int)) = 0 by omega]
      go_wp2
      go_ret
      exact ⟨by rw [← HP.out]; exact congrArg (fun b => Ending.returned (Value.string b)) (ByteArray.mk_append_mk [45] out), hnx⟩
    · match f, hf, hm, hpre with
      | 0, hf, hm, hpre => exact absurd hm (by simp; omega)
      | f + 1, hf, hm, hpre =>
        rw [digs_pos f m hm0] at hpre
        rw [Nat.pow_succ] at hm
        obtain ⟨c, hc⟩ : ∃ c, c = UInt8.ofNat (48 + m % 10) := ⟨_, rfl⟩
        have HP : Hid (digs f (m / 10) ++ (c :: out) = digs 20 n) := by
          show _ = _; rw [← hpre, hc]; simp
        have HM : Hid (m / 10 < 10 ^ f) := by show _ < _; omega
        have HC : Hid ((48 : Int) + (m : Int) % 10 = (c.toNat : Int)) := by
          have := ofNat48 (m % 10) (by omega)
          show _ = _; rw [hc, this]; omega
        have hll : out.length ≤ 20 := by omega
        have hz2 : (-(m : Int) != 0) = true := by rw [bne_iff_ne]; omega
        have htm : (-(m : Int)).tmod 10 = -((m : Int) % 10) := by rw [Int.neg_tmod, Int.tmod_eq_emod_of_nonneg (by omega)]
        have htd : (-(m : Int)).tdiv 10 = -((m : Int) / 10) := by rw [Int.neg_tdiv, Int.tdiv_eq_ediv_of_nonneg (by omega)]
        have hcv := conv_one wr c
        rw [← HC.out] at hcv
        clear hpre hm hc
        by_cases hq : (m : Int) % 10 = 0
        · have hd2 : decide (-((m : Int) % 10) < 0) = false := by simp; omega
          rw [hq, Int.add_zero] at hcv
          go_wp2
          go_roundw
          case rel => exact ⟨f, m / 10, c :: out, by simp; omega, HM.out, by omega, HP.out, by go_num, congrArg Value.string (ByteArray.mk_append_mk [c] out), hnx.alloc hsz _⟩
          case measure => simp [intOf]; omega
        · have hd2 : decide (-((m : Int) % 10) < 0) = true := by simp; omega
          go_wp2
          go_roundw
          case rel => exact ⟨f, m / 10, c :: out, by simp; omega, HM.out, by omega, HP.out, by go_num, congrArg Value.string (ByteArray.mk_append_mk [c] out), hnx.alloc hsz _⟩
          case measure => simp [intOf]; omega
/-- Whatever int it is. -/
theorem specDec_any (x : Int) (w : World) (h1 : -9223372036854775808 ≤ x) (h2 : x ≤ 9223372036854775807) :
    Calls Tryd.prog 49 #[.int .i64 x] w fun e w' => e = .returned (.string ⟨(decL x).toArray⟩) ∧ Below w.heap.size w w' := by
  rcases Int.lt_trichotomy x 0 with h | rfl | h
  · obtain ⟨n, hn⟩ := Int.eq_ofNat_of_zero_le (show 0 ≤ -x by omega)
    obtain rfl : x = -(n : Int) := by omega
    exact specDec_neg n w (by omega) (by omega)
  · exact specDec_zero w
  · obtain ⟨n, rfl⟩ := Int.eq_ofNat_of_zero_le (show 0 ≤ x by omega)
    exact specDec_pos n w (by omega) (by omega)
end Go.Proofs.YtkbpnjigoipgeaaDoor
