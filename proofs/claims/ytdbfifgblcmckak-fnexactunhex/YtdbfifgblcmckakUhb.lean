/- The contract of the model's Unhex. -/
import Derived.Test.YtdbfifgblcmckakUha
namespace Go.Proofs.Ytdbfifgblcmckak
open Go.ChangeShapes Go.WideShapes Go.ChangeAt Go.RowKit
/-- Byte i of a text. -/
def bAt (s : ByteArray) (i : Nat) : UInt8 := s.data.toList.getD i 0
theorem bAt_eq (s : ByteArray) (k : Nat) (h : k < s.size) : s[k] = bAt s k := by
  unfold bAt
  rw [List.getD_eq_getElem?_getD, List.getElem?_eq_getElem (by simpa using h)]; rfl
/-- Is pair i of digits one? -/
def pairOk (s : ByteArray) (i : Nat) : Prop := 0 ≤ hexV (bAt s (2 * i)) ∧ 0 ≤ hexV (bAt s (2 * i + 1))
/-- The byte of pair i. -/
def pairB (s : ByteArray) (i : Nat) : UInt8 := UInt8.ofNat (16 * hexV (bAt s (2 * i)) + hexV (bAt s (2 * i + 1))).toNat
/-- The bytes of the first k pairs. -/
def uhL (s : ByteArray) : Nat → List UInt8
  | 0 => []
  | k + 1 => uhL s k ++ [pairB s k]
theorem uhL_length (s : ByteArray) : ∀ k, (uhL s k).length = k
  | 0 => rfl
  | k + 1 => by simp [uhL, uhL_length s k]
theorem pairB_nat (s : ByteArray) (i : Nat) (h : pairOk s i) : (((pairB s i).toNat : Nat) : Int) = 16 * hexV (bAt s (2 * i)) + hexV (bAt s (2 * i + 1)) := by
  have h1 := hexV_bd (bAt s (2 * i))
  have h2 := hexV_bd (bAt s (2 * i + 1))
  obtain ⟨h3, h4⟩ := h
  have hb : (UInt8.ofNat (16 * hexV (bAt s (2 * i)) + hexV (bAt s (2 * i + 1))).toNat).toNat = (16 * hexV (bAt s (2 * i)) + hexV (bAt s (2 * i + 1))).toNat := by simp; omega
  unfold pairB
  rw [hb]
  omega
/-- What Unhex answers. -/
def UhRes (s : ByteArray) (l : List UInt8) (b : Bool) : Prop :=
  (s.size % 2 = 0 ∧ (∀ i, i < s.size / 2 → pairOk s i) ∧ b = true ∧ l = uhL s (s.size / 2)) ∨
  ((s.size % 2 ≠ 0 ∨ ∃ i, i < s.size / 2 ∧ ¬ pairOk s i) ∧ b = false ∧ l = [])
theorem UhRes.unique {s : ByteArray} {l l' : List UInt8} {b b' : Bool} (h : UhRes s l b) (h' : UhRes s l' b') : l = l' ∧ b = b' := by
  rcases h with ⟨a1, a2, rfl, rfl⟩ | ⟨a1, rfl, rfl⟩ <;> rcases h' with ⟨b1, b2, rfl, rfl⟩ | ⟨b1, rfl, rfl⟩
  · exact ⟨rfl, rfl⟩
  · rcases b1 with b1 | ⟨i, b1, b2⟩
    · omega
    · exact absurd (a2 i b1) b2
  · rcases a1 with a1 | ⟨i, a1, a2⟩
    · omega
    · exact absurd (b2 i a1) a2
  · exact ⟨rfl, rfl⟩
set_option maxRecDepth 100000 in
set_option maxHeartbeats 1000000 in
theorem specUh_any (s : ByteArray) (w : World) (hs : s.size ≤ 1048576) :
    Calls Try.prog 5 #[.string s] w fun e w' => ∃ (l : List UInt8) (b : Bool), e = .returned (.tuple #[.string ⟨l.toArray⟩, .bool b]) ∧ UhRes s l b ∧ Below w.heap.size w w' := by
  obtain ⟨i0, hi, hz0, hz1, hz2⟩ := info_parts Try.info5
  by_cases hodd : s.size % 2 = 0
  · have ho : ((s.size : Int) % 2 == 1) = false := by rw [beq_eq_false_iff_ne]; omega
    go_enter Try.func5, Try.ntmps5
    go_wp2
    go_loopw [4, 5] (fun v i wr => ∃ k : Nat, k ≤ s.size / 2 ∧ i = .int .i64 (2 * (k : Int)) ∧ (∀ i, i < k → pairOk s i) ∧ wr.ownsRow w.heap.size 5 1 v k (bcs (uhL s k)) ∧ Below w.heap.size w wr)
      (fun _ i _ => s.size - (intOf i).toNat)
    case atStart => exact ⟨0, Nat.zero_le _, rfl, fun i h => by omega, World.ownsRow_lit _ _ _ (Nat.le_refl _) (by decide) rfl, (Below.refl _ _).alloc (Nat.le_refl _) _⟩
    case round =>
      obtain ⟨k, hk, rfl, hall, hown, hnx⟩ := hrel
      have HA : Hid _ := hall
      clear hall
      have hsz := hnx.size
      by_cases hlt : k < s.size / 2
      · have h1 : 2 * k < s.size := by omega
        have h2 : 2 * k + 1 < s.size := by omega
        obtain ⟨c1, e1⟩ : ∃ c, c = bAt s (2 * k) := ⟨_, rfl⟩
        obtain ⟨c2, e2⟩ : ∃ c, c = bAt s (2 * k + 1) := ⟨_, rfl⟩
        have b1 := hexV_bd c1
        have b2 := hexV_bd c2
        have g1 : s[2 * k] = c1 := by rw [bAt_eq s _ h1, e1]
        have g2 : s[2 * k + 1] = c2 := by rw [bAt_eq s _ h2, e2]
        have HE1 : Hid (c1 = bAt s (2 * k)) := e1
        have HE2 : Hid (c2 = bAt s (2 * k + 1)) := e2
        clear e1 e2
        by_cases p1 : 0 ≤ hexV c1
        · by_cases p2 : 0 ≤ hexV c2
          · have hok : pairOk s k := ⟨by rw [← HE1.out]; exact p1, by rw [← HE2.out]; exact p2⟩
            have HB : Hid (16 * hexV c1 + hexV c2 = ((pairB s k).toNat : Int)) := by
              show _ = _; rw [pairB_nat s k hok, HE1.out, HE2.out]
            have HA2 : Hid (∀ i, i < k + 1 → pairOk s i) := by
              intro i hi
              by_cases e : i = k
              · rw [e]; exact hok
              · exact HA.out i (by omega)
            have d1 : decide (hexV c1 < 0) = false := by simp; omega
            have d2 : decide (hexV c2 < 0) = false := by simp; omega
            have HU : Hid (uhL s (k + 1) = uhL s k ++ [pairB s k]) := rfl
            clear hok HA HE1 HE2
            generalize pairB s k = c at *
            generalize uhL s k = l at *
            obtain ⟨x1, hx1⟩ : ∃ x, x = hexV c1 := ⟨_, rfl⟩
            obtain ⟨x2, hx2⟩ : ∃ x, x = hexV c2 := ⟨_, rfl⟩
            have q1 := fun w => fromHex_any c1 w
            have q2 := fun w => fromHex_any c2 w
            rw [← hx1] at q1 p1 d1 b1 HB
            rw [← hx2] at q2 p2 d2 b2 HB
            have Q1 : Hid _ := q1
            have Q2 : Hid _ := q2
            clear hx1 hx2 q1 q2
            go_wp2_with fail
            refine (Q1.out _).mono ?_
            rintro e w' ⟨rfl, rfl⟩
            go_wp2_with fail
            refine (Q2.out _).mono ?_
            rintro e w' ⟨rfl, rfl⟩
            go_wp2_with (at_builtin; refine wpList_append_own _ rfl _ _ 27 rfl w.heap.size 5 i0 (.int .u8 0) 1 1 Try.underlying27 hi hz0 hz1 hz2 rfl (by decide) _ _ _ rfl (hown.alloc _) ⟨_, 0, none⟩ 1 1 [.int .u8 (c.toNat : Int)] rfl rfl (one_new _ _ _ HB.out) (one_cell _) ?c3 ?c4 ?c5 ?_)
            case c3 => unfold maxLen; omega
            case c4 => omega
            case c5 => simp; omega
            intro v' w1 hown' hgrow _
            have hb1 := below_app hsz hown hnx hgrow
            rw [← bcs_snoc, ← HU.out] at hown'
            have HO : Hid _ := hown'
            clear hown hown' hgrow
            go_wp2
            go_roundw
            case rel => exact ⟨k + 1, by omega, by go_num, HA2.out, HO.out, hb1⟩
            case measure => simp [intOf]; omega
          · have HR : Hid (UhRes s [] false) := .inr ⟨.inr ⟨k, hlt, fun h => p2 (by rw [HE2.out]; exact h.2)⟩, rfl, rfl⟩
            have d1 : decide (hexV c1 < 0) = false := by simp; omega
            have d2 : hexV c2 < 0 := by omega
            clear HA HE1 HE2 p2
            go_wp2_with fail
            refine (fromHex_any c1 _).mono ?_
            rintro e w' ⟨rfl, rfl⟩
            go_wp2_with fail
            refine (fromHex_any c2 _).mono ?_
            rintro e w' ⟨rfl, rfl⟩
            go_wp2
            go_ret2
            exact ⟨_, _, rfl, HR.out, hnx⟩
        · have HR : Hid (UhRes s [] false) := .inr ⟨.inr ⟨k, hlt, fun h => p1 (by rw [HE1.out]; exact h.1)⟩, rfl, rfl⟩
          have d1 : hexV c1 < 0 := by omega
          clear HA HE1 HE2 p1
          go_wp2_with fail
          refine (fromHex_any c1 _).mono ?_
          rintro e w' ⟨rfl, rfl⟩
          go_wp2_with fail
          refine (fromHex_any c2 _).mono ?_
          rintro e w' ⟨rfl, rfl⟩
          go_wp2
          go_ret2
          exact ⟨_, _, rfl, HR.out, hnx⟩
      · obtain rfl : k = s.size / 2 := by omega
        have HR : Hid (UhRes s (uhL s (s.size / 2)) true) := .inl ⟨hodd, HA.out, rfl, rfl⟩
        have hcv := conv_own (B := w.heap.size) (w := wr) (v := u4) (l := uhL s (s.size / 2)) (by rw [uhL_length]; exact hown)
        have hge : ¬ (2 * ((s.size / 2 : Nat) : Int)) < (s.size : Int) := by omega
        clear hown HA
        generalize uhL s (s.size / 2) = l at *
        generalize s.size / 2 = k at *
        go_wp2
        go_ret2
        exact ⟨_, .inr ⟨rfl, HR.out, hnx⟩⟩
  · have ho : ((s.size : Int) % 2 == 1) = true := by rw [beq_iff_eq]; omega
    have HR : Hid (UhRes s [] false) := .inr ⟨.inl hodd, rfl, rfl⟩
    clear hodd
    go_enter Try.func5, Try.ntmps5
    go_wp2
    go_ret2
    exact ⟨_, _, rfl, HR.out, (Below.refl _ _).alloc (Nat.le_refl _) _⟩
end Go.Proofs.Ytdbfifgblcmckak
