/- The contract of the program's ReadVar, and the law. -/
import Derived.Test.YtdbfifgblcmckacDoorRva
import Derived.Test.YtdbfifgblcmckacDoorVarb
namespace Go.Proofs.YtdbfifgblcmckacDoor
open Go.ChangeShapes Go.WideShapes Go.ChangeAt Go.RowKit
theorem take_snocR (s : ByteArray) (k : Nat) (h : k < s.size) : s.data.toList.take (k + 1) = s.data.toList.take k ++ [s[k]] := by
  rw [List.take_succ_eq_append_getElem (by simpa using h)]; rfl
theorem pow7k (k : Nat) : (2 : Nat) ^ (7 * k) = 128 ^ k := by rw [Nat.pow_mul]
theorem wrap64_small (x : Nat) (h : x < 9223372036854775808) : wrap64 (x : Int) = (x : Int) := by unfold wrap64; omega
theorem rvStep (b : UInt8) (l : List UInt8) (k : Nat) (hl : l.length = k) (h : k ≤ 6) :
    bits .or .i64 ((rvL l : Nat) : Int) (wrap64 (bits .and .i64 (b.toNat : Int) 127 * 2 ^ (7 * k))) = ((rvL (l ++ [b]) : Nat) : Int) := by
  have hb := b.toNat_lt
  have h1 := rvL_lt (l ++ [b])
  have h0 := rvL_lt l
  have h2 : 128 ^ (l ++ [b]).length ≤ 128 ^ 7 := Nat.pow_le_pow_right (by omega) (by simp; omega)
  have hs := rvL_snoc l b
  rw [hl] at h0 hs
  rw [and127 b.toNat (by omega)]
  have hm : ((b.toNat % 128 : Nat) : Int) * 2 ^ (7 * k) = ((b.toNat % 128 * 2 ^ (7 * k) : Nat) : Int) := by
    rw [Int.natCast_mul, Int.natCast_pow]; rfl
  have hle : b.toNat % 128 * 2 ^ (7 * k) = 128 ^ k * (b.toNat % 128) := by rw [pow7k, Nat.mul_comm]
  rw [hm, show wrap64 ((b.toNat % 128 * 2 ^ (7 * k) : Nat) : Int) = ((b.toNat % 128 * 2 ^ (7 * k) : Nat) : Int) from wrap64_small _ (by omega), i64_or_nat _ _ (by omega) (by omega), Nat.or_comm, or_low _ _ _ (by rw [pow7k]; exact h0)]
  omega
set_option maxRecDepth 100000 in
set_option maxHeartbeats 1000000 in
theorem implRv_any (s : ByteArray) (w : World) (hs : s.size ≤ 1048576) :
    Calls Tryd.prog 8 #[.string s] w fun e w' => ∃ n k : Nat, e = .returned (.tuple #[.int .i64 n, .int .i64 k]) ∧ RvRes s.data.toList n k ∧ w' = w := by
  have hsl : s.data.toList.length = s.size := by simp
  have HL : Hid (s.data.toList.length = s.size) := hsl
  clear hsl
  go_enter Tryd.func8, Tryd.ntmps8
  go_wp2
  all_goals
    go_loop [4, 10] (fun n i => ∃ k : Nat, k ≤ 7 ∧ k ≤ s.size ∧ i = .int .i64 k ∧ (∀ b ∈ s.data.toList.take k, 128 ≤ b.toNat) ∧ n = .int .i64 (rvL (s.data.toList.take k) : Nat)) (fun _ i => 8 - (intOf i).toNat)
    case atStart => exact ⟨0, by omega, by omega, rfl, by simp, rfl⟩
    case round =>
      obtain ⟨k, hk7, hks, rfl, hbig, rfl⟩ := hrel
      have HB : Hid _ := hbig
      clear hbig
      have hr7 : rvL (s.data.toList.take k) ≤ 562949953421311 := rvL_seven _ (by rw [List.length_take]; omega)
      by_cases hlt : k < 7 ∧ k < s.size
      · obtain ⟨hlt7, hlts⟩ := hlt
        have hb : (s[k].toNat : Int) < 256 := by have := s[k].toNat_lt; omega
        obtain ⟨r, hr⟩ : ∃ r, r = rvL (s.data.toList.take k) := ⟨_, rfl⟩
        have HR0 : Hid (r = rvL (s.data.toList.take k)) := hr
        rw [← hr] at hr7 ⊢
        clear hr
        have HT : Hid (s.data.toList.take (k + 1) = s.data.toList.take k ++ [s[k]]) := take_snocR s k hlts
        have HQ : Hid (bits .or .i64 ((r : Nat) : Int) (wrap64 (bits .and .i64 (s[k].toNat : Int) 127 * 2 ^ (7 * k))) = ((rvL (s.data.toList.take (k + 1)) : Nat) : Int)) := by
          show _ = _
          rw [HR0.out, HT.out]
          exact rvStep s[k] (s.data.toList.take k) k (by rw [List.length_take, HL.out]; omega) (by omega)
        by_cases hc : 128 ≤ s[k].toNat
        · have HB2 : Hid (∀ b ∈ s.data.toList.take (k + 1), 128 ≤ b.toNat) := by
            intro b hb
            rw [HT.out] at hb
            rcases List.mem_append.1 hb with h | h
            · exact HB.out b h
            · rw [List.mem_singleton.1 h]; exact hc
          clear HB HR0 HT
          go_wp2
          go_round
          case rel => exact ⟨k + 1, by omega, by omega, by go_num, HB2.out, by rw [HQ.out]⟩
          case measure => simp [intOf]; omega
        · by_cases hz : s[k].toNat = 0
          · by_cases hk0 : 0 < k
            · have HR : Hid (RvRes s.data.toList 0 0) := by
                refine .inr ⟨rfl, rfl, fun j j1 j7 jl => ?_⟩
                by_cases hj : j ≤ k
                · refine can_all_big _ fun b hb => HB.out b ?_
                  have : s.data.toList.take j = (s.data.toList.take k).take j := by rw [List.take_take, Nat.min_eq_left hj]
                  rw [this] at hb
                  exact List.mem_of_mem_take hb
                · have e : s.data.toList.take j = s.data.toList.take k ++ s[k] :: ((s.data.toList.drop (k + 1)).take (j - (k + 1))) := by
                    rw [show j = (k + 1) + (j - (k + 1)) by omega, List.take_add, HT.out]; simp
                  rw [e]
                  refine can_zero _ _ _ ?_ hz
                  intro h0
                  have := congrArg List.length h0
                  rw [List.length_take, HL.out, List.length_nil] at this
                  omega
              have hce : ((s[k].toNat : Int) == 0) = true := by rw [beq_iff_eq]; omega
              clear HB HR0 HT HQ hz
              go_wp2
              go_ret2
              exact ⟨0, 0, rfl, HR.out, rfl⟩
            · have HR : Hid (RvRes s.data.toList (rvL (s.data.toList.take (k + 1))) (k + 1)) := by
                refine .inl ⟨by omega, by omega, by rw [HL.out]; omega, ?_, rfl⟩
                rw [HT.out]
                refine can_last _ _ HB.out (by omega) (.inl ?_)
                rw [show k = 0 by omega]; rfl
              have hce : ((s[k].toNat : Int) == 0) = true := by rw [beq_iff_eq]; omega
              have hd : decide (0 < k) = false := by simp; omega
              clear HB HR0 HT hz hk0
              go_wp2
              rw [HQ.out]
              go_ret2
              exact ⟨_, _, rfl, HR.out, rfl⟩
          · have HR : Hid (RvRes s.data.toList (rvL (s.data.toList.take (k + 1))) (k + 1)) := by
              refine .inl ⟨by omega, by omega, by rw [HL.out]; omega, ?_, rfl⟩
              rw [HT.out]
              exact can_last _ _ HB.out (by omega) (.inr (by omega))
            have hce : ((s[k].toNat : Int) == 0) = false := by rw [beq_eq_false_iff_ne]; omega
            clear HB HR0 HT hz
            go_wp2
            rw [HQ.out]
            go_ret2
            exact ⟨_, _, rfl, HR.out, rfl⟩
      · have HR : Hid (RvRes s.data.toList 0 0) := by
          refine .inr ⟨rfl, rfl, fun j j1 j7 jl => ?_⟩
          refine can_all_big _ fun b hb => HB.out b ?_
          have hj : j ≤ k := by have := HL.out; omega
          have : s.data.toList.take j = (s.data.toList.take k).take j := by rw [List.take_take, Nat.min_eq_left hj]
          rw [this] at hb
          exact List.mem_of_mem_take hb
        clear HB
        go_wp2
        go_ret2
        exact ⟨0, 0, rfl, HR.out, rfl⟩
end Go.Proofs.YtdbfifgblcmckacDoor
