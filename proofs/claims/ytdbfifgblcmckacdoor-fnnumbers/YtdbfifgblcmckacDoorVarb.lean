/- The contract of the program's Var: the same bytes. -/
import Derived.Test.YtdbfifgblcmckacDoorVara
namespace Go.Proofs.YtdbfifgblcmckacDoor
open Go.ChangeShapes Go.WideShapes Go.ChangeAt Go.RowKit
theorem and127 (m : Nat) (h : m ≤ 562949953421311) : bits .and .i64 (m : Int) 127 = ((m % 128 : Nat) : Int) := by
  have h1 := i64_and_nat m 127 (by omega) (by omega)
  have h2 : m &&& 127 = m % 128 := Nat.and_two_pow_sub_one_eq_mod m 7
  rw [h2] at h1
  exact h1
theorem or128 (x : Nat) (h : x < 128) : bits .or .i64 (x : Int) 128 = ((128 + x : Nat) : Int) := by
  have h1 := i64_or_nat x 128 (by omega) (by omega)
  have h2 : 128 ||| x = 128 + x := or_low 1 x 7 (by omega)
  rw [Nat.or_comm, h2] at h1
  exact h1
theorem specVar_low (x : Int) (w : World) (h : x < 0) :
    Calls Tryd.prog 22 #[.int .i64 x] w fun e w' => e = .returned (.string ⟨#[]⟩) ∧ w' = w := by
  go_enter Tryd.func22, Tryd.ntmps22
  go_wp2_with (go_at_call 31; refine (l1In_low _ _ _ _ (by omega)).mono ?_; rintro e w' ⟨rfl, rfl⟩)
  go_ret
  exact ⟨rfl, rfl⟩
theorem specVar_high (x : Int) (w : World) (h : 562949953421311 < x) :
    Calls Tryd.prog 22 #[.int .i64 x] w fun e w' => e = .returned (.string ⟨#[]⟩) ∧ w' = w := by
  go_enter Tryd.func22, Tryd.ntmps22
  go_wp2_with (go_at_call 31; refine (l1In_high _ _ _ _ (by omega) (by omega)).mono ?_; rintro e w' ⟨rfl, rfl⟩)
  go_ret
  exact ⟨rfl, rfl⟩
theorem implVar_low (x : Int) (w : World) (h : x < 0) :
    Calls Tryd.prog 7 #[.int .i64 x] w fun e w' => e = .returned (.string ⟨#[]⟩) ∧ w' = w := by
  go_enter Tryd.func7, Tryd.ntmps7
  go_wp2
  go_ret
  exact ⟨rfl, rfl⟩
theorem implVar_high (x : Int) (w : World) (h : 562949953421311 < x) :
    Calls Tryd.prog 7 #[.int .i64 x] w fun e w' => e = .returned (.string ⟨#[]⟩) ∧ w' = w := by
  have hd1 : decide (x < 0) = false := by simp; omega
  go_enter Tryd.func7, Tryd.ntmps7
  go_wp2
  go_ret
  exact ⟨rfl, rfl⟩
set_option maxRecDepth 100000 in
set_option maxHeartbeats 400000 in
theorem implVar_yes (n : Nat) (w : World) (h : n ≤ 562949953421311) :
    Calls Tryd.prog 7 #[.int .i64 n] w fun e w' => e = .returned (.string ⟨(varL 7 n).toArray⟩) ∧ Below w.heap.size w w' := by
  obtain ⟨i0, hi, hz0, hz1, hz2⟩ := info_parts Tryd.info5
  have hd1 : decide ((n : Int) < 0) = false := by simp
  have hd2 : decide ((562949953421311 : Int) < (n : Int)) = false := by simp; omega
  have hmk : ∀ w, (Instr.makeSlice 22 (.int .i64 0) (.int .i64 7)).run Tryd.prog w = .ok (.slice (some ⟨w.heap.size, 0, none⟩) 0 7) (w.alloc (.cells #[.int .u8 0, .int .u8 0, .int .u8 0, .int .u8 0, .int .u8 0, .int .u8 0, .int .u8 0] 5)) := fun _ => by kernel_rfl
  go_enter Tryd.func7, Tryd.ntmps7
  go_wp2
  go_loopw [0, 3] (fun t v wr => ∃ (pre : List UInt8) (f m : Nat), pre.length + f = 7 ∧ m ≤ 562949953421311 ∧ m < 128 ^ f ∧ pre ++ varL f m = varL 7 n ∧ t = .int .i64 m ∧ wr.ownsRow w.heap.size 5 1 v pre.length (bcs pre) ∧ Below w.heap.size w wr)
    (fun t _ _ => (intOf t).toNat)
  case atStart => exact ⟨[], 7, n, rfl, h, by omega, rfl, rfl, World.ownsRow_made _ _ 7 (Nat.le_refl _) (by decide) rfl, (Below.refl _ _).alloc (Nat.le_refl _) _⟩
  case round =>
    obtain ⟨pre, f, m, hf, hm, hmf, hpre, rfl, hown, hnx⟩ := hrel
    have hsz := hnx.size
    have HP : Hid (pre ++ varL f m = varL 7 n) := hpre
    have HM : Hid (m < 128 ^ f) := hmf
    clear hpre hmf
    by_cases hlt : 128 ≤ m
    · match f, hf with
      | 0, hf => exact absurd HM.out (by simp; omega)
      | f + 1, hf =>
      have hm2 : m / 128 < 128 ^ f := by have := HM.out; rw [Nat.pow_succ] at this; omega
      have HM2 : Hid (m / 128 < 128 ^ f) := hm2
      obtain ⟨c, hc⟩ : ∃ c, c = UInt8.ofNat (128 + m % 128) := ⟨_, rfl⟩
      have HP2 : Hid ((pre ++ [c]) ++ varL f (m / 128) = varL 7 n) := by
        have := HP.out
        rw [varL_big f m hlt] at this
        show _ = _
        rw [← this, hc]; simp
      have HB : Hid (bits .or .i64 ((m : Int) % 128) 128 % 256 = ((c.toNat : Nat) : Int)) := by
        have hb : (UInt8.ofNat (128 + m % 128)).toNat = 128 + m % 128 := by simp; omega
        have ho := or128 (m % 128) (by omega)
        rw [show ((m % 128 : Nat) : Int) = (m : Int) % 128 by omega] at ho
        show _ = _; rw [ho, hc]; omega
      have ha := and127 m hm
      clear HP HM hm2 hc
      go_wp2_with (at_builtin; refine wpList_append_own _ rfl _ _ 22 rfl w.heap.size 5 i0 (.int .u8 0) 1 1 Tryd.underlying22 hi hz0 hz1 hz2 rfl (by decide) _ _ _ rfl (hown.alloc _) ⟨wr.heap.size, 0, none⟩ 1 1 [.int .u8 (c.toNat : Int)] rfl rfl (one_new _ _ _ HB.out) (one_cell _) ?c3 ?c4 ?c5 ?_)
      case c3 => unfold maxLen; omega
      case c4 => omega
      case c5 => simp; omega
      intro v' w1 hown' hgrow _
      have hb1 := below_app hsz hown hnx hgrow
      rw [← bcs_snoc] at hown'
      clear hown hgrow
      go_wp2
      go_roundw
      case rel => exact ⟨_, f, m / 128, by simp; omega, by omega, HM2.out, HP2.out, by go_num, by simpa using hown', hb1⟩
      case measure => simp [intOf]; omega
    · obtain ⟨c, hc⟩ : ∃ c, c = UInt8.ofNat m := ⟨_, rfl⟩
      have HB : Hid ((m : Int) = ((c.toNat : Nat) : Int)) := by
        have hb : (UInt8.ofNat m).toNat = m := by simp; omega
        show _ = _; rw [hc]; omega
      have HP2 : Hid (pre ++ [c] = varL 7 n) := by
        have := HP.out
        rw [varL_small f m (by omega)] at this
        show _ = _
        rw [hc]; exact this
      clear HP HM hc
      go_wp2_with (at_builtin; refine wpList_append_own _ rfl _ _ 22 rfl w.heap.size 5 i0 (.int .u8 0) 1 1 Tryd.underlying22 hi hz0 hz1 hz2 rfl (by decide) _ _ _ rfl (hown.alloc _) ⟨wr.heap.size, 0, none⟩ 1 1 [.int .u8 (c.toNat : Int)] rfl rfl (one_new _ _ _ HB.out) (one_cell _) ?c3 ?c4 ?c5 ?_)
      case c3 => unfold maxLen; omega
      case c4 => omega
      case c5 => simp; omega
      intro v' w1 hown' hgrow _
      have hb1 := below_app hsz hown hnx hgrow
      rw [← bcs_snoc] at hown'
      have hcv := conv_own (B := w.heap.size) (w := w1) (v := v') (l := pre ++ [c]) (by simpa using hown')
      rw [HP2.out] at hcv
      clear hown hown' hgrow
      go_wp2
      go_ret
      exact ⟨rfl, hb1⟩
/-- One answer for both, whatever the argument. -/
theorem var_both (x : Int) : ∃ (l : List UInt8),
    (∀ w, Calls Tryd.prog 22 #[.int .i64 x] w fun e w' => e = .returned (.string ⟨l.toArray⟩) ∧ Below w.heap.size w w') ∧
    (∀ w, Calls Tryd.prog 7 #[.int .i64 x] w fun e w' => e = .returned (.string ⟨l.toArray⟩) ∧ Below w.heap.size w w') := by
  by_cases h1 : x < 0
  · exact ⟨[], fun w => (specVar_low x w h1).mono fun e w' ⟨he, hw⟩ => ⟨he, hw ▸ Below.refl _ _⟩, fun w => (implVar_low x w h1).mono fun e w' ⟨he, hw⟩ => ⟨he, hw ▸ Below.refl _ _⟩⟩
  · by_cases h2 : 562949953421311 < x
    · exact ⟨[], fun w => (specVar_high x w h2).mono fun e w' ⟨he, hw⟩ => ⟨he, hw ▸ Below.refl _ _⟩, fun w => (implVar_high x w h2).mono fun e w' ⟨he, hw⟩ => ⟨he, hw ▸ Below.refl _ _⟩⟩
    · obtain ⟨k, rfl⟩ := Int.eq_ofNat_of_zero_le (show 0 ≤ x by omega)
      exact ⟨_, fun w => specVar_yes k w (by omega), fun w => implVar_yes k w (by omega)⟩
end Go.Proofs.YtdbfifgblcmckacDoor
