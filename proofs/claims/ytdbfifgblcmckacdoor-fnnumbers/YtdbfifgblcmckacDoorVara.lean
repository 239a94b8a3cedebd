/- The contract of the model's Var: the bytes, seven bits each, the lowest first. -/
import Derived.Test.YtdbfifgblcmckacDoorRfa
import Derived.Test.YtdbfifgblcmckacDoorOwn
import Derived.Test.YtdbfifgblcmckacDoorBits
namespace Go.Proofs.YtdbfifgblcmckacDoor
open Go.ChangeShapes Go.WideShapes Go.ChangeAt Go.RowKit
/-- The bytes of n, by so many at most. -/
def varL : Nat → Nat → List UInt8
  | 0, n => [UInt8.ofNat n]
  | f + 1, n => if n < 128 then [UInt8.ofNat n] else UInt8.ofNat (128 + n % 128) :: varL f (n / 128)
theorem varL_small (f n : Nat) (h : n < 128) : varL f n = [UInt8.ofNat n] := by
  cases f <;> simp [varL, h]
theorem varL_big (f n : Nat) (h : 128 ≤ n) : varL (f + 1) n = UInt8.ofNat (128 + n % 128) :: varL f (n / 128) := by
  simp [varL]; omega
set_option maxRecDepth 100000 in
set_option maxHeartbeats 400000 in
theorem specVar_yes (n : Nat) (w : World) (h : n ≤ 562949953421311) :
    Calls Tryd.prog 22 #[.int .i64 n] w fun e w' => e = .returned (.string ⟨(varL 7 n).toArray⟩) ∧ Below w.heap.size w w' := by
  obtain ⟨i0, hi, hz0, hz1, hz2⟩ := info_parts Tryd.info5
  go_enter Tryd.func22, Tryd.ntmps22
  go_wp2_with (go_at_call 31; refine (l1In_yes _ _ _ _ (by omega) (by omega)).mono ?_; rintro e w' ⟨rfl, rfl⟩)
  go_loopw [0, 3] (fun t v wr => ∃ (pre : List UInt8) (f m : Nat), pre.length + f = 7 ∧ m ≤ 562949953421311 ∧ m < 128 ^ f ∧ pre ++ varL f m = varL 7 n ∧ t = .int .i64 m ∧ wr.ownsRow w'.heap.size 5 1 v pre.length (bcs pre) ∧ Below w'.heap.size w' wr)
    (fun t _ _ => (intOf t).toNat)
  case atStart => exact ⟨[], 7, n, rfl, h, by omega, rfl, rfl, World.ownsRow_lit _ _ _ (Nat.le_refl _) (by decide) rfl, (Below.refl _ _).alloc (Nat.le_refl _) _⟩
  case round =>
    obtain ⟨pre, f, m, hf, hm, hmf, hpre, rfl, hown, hnx⟩ := hrel
    have hsz := hnx.size
    have HP : Hid (pre ++ varL f m = varL 7 n) := hpre
    have HM : Hid (m < 128 ^ f) := hmf
    clear hpre hmf
    by_cases hlt : 128 ≤ m
    · match f, hf with
      | 0, hf => exact absurd HM.out (by simp; omega)
      | f + 1, hf =>
      have hm2 : m / 128 < 128 ^ f := by have := HM.out; rw [Nat.pow_succ] at this; omega
      have HM2 : Hid (m / 128 < 128 ^ f) := hm2
      obtain ⟨c, hc⟩ : ∃ c, c = UInt8.ofNat (128 + m % 128) := ⟨_, rfl⟩
      have HP2 : Hid ((pre ++ [c]) ++ varL f (m / 128) = varL 7 n) := by
        have := HP.out
        rw [varL_big f m hlt] at this
        show _ = _
        rw [← this, hc]; simp
      have HB : Hid ((128 : Int) + (m : Int) % 128 = ((c.toNat : Nat) : Int)) := by
        have hb : (UInt8.ofNat (128 + m % 128)).toNat = 128 + m % 128 := by simp; omega
        show _ = _; rw [hc]; omega
      clear HP HM hm2 hc
      go_wp2_with (at_builtin; refine wpList_append_own _ rfl _ _ 22 rfl w'.heap.size 5 i0 (.int .u8 0) 1 1 Tryd.underlying22 hi hz0 hz1 hz2 rfl (by decide) _ _ _ rfl (hown.alloc _) ⟨wr.heap.size, 0, none⟩ 1 1 [.int .u8 (c.toNat : Int)] rfl rfl (one_new _ _ _ HB.out) (one_cell _) ?c3 ?c4 ?c5 ?_)
      case c3 => unfold maxLen; omega
      case c4 => omega
      case c5 => simp; omega
      intro v' w1 hown' hgrow _
      have hb1 := below_app hsz hown hnx hgrow
      rw [← bcs_snoc] at hown'
      clear hown hgrow
      go_wp2
      go_roundw
      case rel => exact ⟨_, f, m / 128, by simp; omega, by omega, HM2.out, HP2.out, by go_num, by simpa using hown', hb1⟩
      case measure => simp [intOf]; omega
    · obtain ⟨c, hc⟩ : ∃ c, c = UInt8.ofNat m := ⟨_, rfl⟩
      have HB : Hid ((m : Int) = ((c.toNat : Nat) : Int)) := by
        have hb : (UInt8.ofNat m).toNat = m := by simp; omega
        show _ = _; rw [hc]; omega
      have HP2 : Hid (pre ++ [c] = varL 7 n) := by
        have := HP.out
        rw [varL_small f m (by omega)] at this
        show _ = _
        rw [hc]; exact this
      clear HP HM hc
      go_wp2_with (at_builtin; refine wpList_append_own _ rfl _ _ 22 rfl w'.heap.size 5 i0 (.int .u8 0) 1 1 Tryd.underlying22 hi hz0 hz1 hz2 rfl (by decide) _ _ _ rfl (hown.alloc _) ⟨wr.heap.size, 0, none⟩ 1 1 [.int .u8 (c.toNat : Int)] rfl rfl (one_new _ _ _ HB.out) (one_cell _) ?c3 ?c4 ?c5 ?_)
      case c3 => unfold maxLen; omega
      case c4 => omega
      case c5 => simp; omega
      intro v' w1 hown' hgrow _
      have hb1 := below_app hsz hown hnx hgrow
      rw [← bcs_snoc] at hown'
      have hcv := conv_own (B := w'.heap.size) (w := w1) (v := v') (l := pre ++ [c]) (by simpa using hown')
      rw [HP2.out] at hcv
      clear hown hown' hgrow
      go_wp2
      go_ret
      exact ⟨rfl, hb1⟩
end Go.Proofs.YtdbfifgblcmckacDoor
