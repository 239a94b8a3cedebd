/- The contract of the program's Fixed: the same bytes. -/
import Derived.Test.YtdbfifgblcmckacDoorFixa
namespace Go.Proofs.YtdbfifgblcmckacDoor
open Go.ChangeShapes Go.WideShapes Go.ChangeAt Go.RowKit
theorem pad_set (j : Nat) (l : List UInt8) (c : UInt8) : (List.replicate (j + 1) 0 ++ l).set j c = List.replicate j 0 ++ c :: l := by
  rw [List.replicate_succ', List.append_assoc, List.set_append_right j c (by simp)]
  simp
theorem bcs_set (l : List UInt8) (j : Nat) (c : UInt8) : (bcs l).set j (.int .u8 (c.toNat : Int)) = bcs (l.set j c) := by
  simp [bcs, List.map_set]
theorem bcs_zero (k : Nat) : bcs (List.replicate k 0) = (madeCells #[Value.int .u8 0] k).toList := by
  rw [toList_madeCells_one]; simp [bcs]
set_option maxRecDepth 100000 in
set_option maxHeartbeats 400000 in
theorem implFix_yes (n width : Nat) (w : World) (_hn : n < 9223372036854775808) (h1 : 1 ≤ width) (h7 : width ≤ 7) (hz : n / 256 ^ width = 0) :
    Calls Tryd.prog 9 #[.int .i64 n, .int .i64 width] w fun e w' => e = .returned (.string ⟨(fixL n width).toArray⟩) ∧ Below w.heap.size w w' := by
  obtain ⟨i0, hi, hz0, hz1, hz2⟩ := info_parts Tryd.info5
  have hd1 : decide ((width : Int) < 1) = false := by simp; omega
  have hd2 : decide ((7 : Int) < (width : Int)) = false := by simp; omega
  have hd3 : decide ((n : Int) < 0) = false := by simp
  have hsh : ((n : Int) / 2 ^ (8 * width) != 0) = false := by
    have e : (2 : Int) ^ (8 * width) = ((256 ^ width : Nat) : Int) := by rw [Int.pow_mul]; simp
    rw [e, ← Int.natCast_ediv, hz]; rfl
  clear hz
  go_enter Tryd.func9, Tryd.ntmps9
  go_wp2_with (at_make; refine wpList_make_full _ rfl _ _ 22 rfl w.heap.size 5 i0 (.int .u8 0) 1 Tryd.underlying22 hi hz0 hz1 .i64 .i64 _ _ width rfl rfl rfl rfl ?c1 ?c2 ?c3 ?_)
  case c1 => rw [hz2]; omega
  case c2 => unfold maxLen; omega
  case c3 => exact Nat.le_refl _
  intro w1 hown hgrow
  go_wp2
  rw [← bcs_zero] at hown
  have hb1 : Below w.heap.size w w1 := (Below.refl _ _).grown hgrow (Nat.le_refl _) (fun _ h => by cases h)
  go_loopw [27] (fun i wr => ∃ k : Nat, k ≤ width ∧ i = .int .i64 k ∧ wr.ownsRow w.heap.size 5 1 (.slice (some ⟨w.heap.size, 0, none⟩) width width) width (bcs (List.replicate (width - k) 0 ++ fixL n k)) ∧ Below w.heap.size w wr)
    (fun i _ => width - (intOf i).toNat)
  case atStart => exact ⟨0, Nat.zero_le _, rfl, by simpa [fixL] using hown, hb1⟩
  case round =>
    clear hown hgrow hb1
    obtain ⟨k, hk, rfl, hown, hnx⟩ := hrel
    have hsz := hnx.size
    by_cases hlt : k < width
    · obtain ⟨j, hj⟩ : ∃ j, width - k = j + 1 := ⟨width - k - 1, by omega⟩
      have hjk : (width : Int) - 1 - (k : Int) = (j : Int) := by omega
      have hjw : j < width := by omega
      have HJ : Hid (width - (k + 1) = j) := by show _ = _; omega
      obtain ⟨c, hc⟩ : ∃ c, c = UInt8.ofNat (n / 256 ^ k % 256) := ⟨_, rfl⟩
      have HF : Hid (fixL n (k + 1) = c :: fixL n k) := by show _ = _; rw [hc]; rfl
      have HC : Hid ((n : Int) / 2 ^ (8 * k) % 256 = (c.toNat : Int)) := by
        have e : (2 : Int) ^ (8 * k) = ((256 ^ k : Nat) : Int) := by rw [Int.pow_mul]; simp
        have hb : (UInt8.ofNat (n / 256 ^ k % 256)).toNat = n / 256 ^ k % 256 := by simp
        show _ = _; rw [e, ← Int.natCast_ediv, hc]; omega
      rw [hj] at hown
      have hfz := hown.frozenAt j
      obtain ⟨v0, hcell⟩ : ∃ v0, wr.cell? ⟨w.heap.size, j, none⟩ = some v0 := by
        rw [hown.cellAt j (by omega)]
        exact ⟨_, List.getElem?_eq_getElem (by rw [hown.1]; omega)⟩
      have HO : Hid _ := hown.stored j (.int .u8 (c.toNat : Int))
      clear hown hj hc
      go_wp2
      rw [HC.out]
      go_roundw
      case rel =>
        refine ⟨k + 1, by omega, by go_num, ?_, hnx.setCell (Nat.le_refl _) _⟩
        have := HO.out.1
        rw [bcs_set, pad_set] at this
        rw [HJ.out, HF.out]
        exact this
      case measure => simp [intOf]; omega
    · obtain rfl : k = width := by omega
      have hcv := conv_own (B := w.heap.size) (w := wr) (v := .slice (some ⟨w.heap.size, 0, none⟩) k k) (l := fixL n k) (by simpa [fixL_length] using hown)
      clear hown
      go_wp2
      go_ret
      exact ⟨rfl, hnx⟩
theorem implFix_low (x : Int) (y : Int) (w : World) (h : y < 1) :
    Calls Tryd.prog 9 #[.int .i64 x, .int .i64 y] w fun e w' => e = .returned (.string ⟨#[]⟩) ∧ w' = w := by
  go_enter Tryd.func9, Tryd.ntmps9
  go_wp2
  go_ret
  exact ⟨rfl, rfl⟩
theorem implFix_high (x : Int) (y : Int) (w : World) (h : 7 < y) :
    Calls Tryd.prog 9 #[.int .i64 x, .int .i64 y] w fun e w' => e = .returned (.string ⟨#[]⟩) ∧ w' = w := by
  have hd1 : decide (y < 1) = false := by simp; omega
  go_enter Tryd.func9, Tryd.ntmps9
  go_wp2
  go_ret
  exact ⟨rfl, rfl⟩
theorem implFix_neg (x : Int) (y : Int) (w : World) (h1 : 1 ≤ y) (h7 : y ≤ 7) (h : x < 0) :
    Calls Tryd.prog 9 #[.int .i64 x, .int .i64 y] w fun e w' => e = .returned (.string ⟨#[]⟩) ∧ w' = w := by
  have hd1 : decide (y < 1) = false := by simp; omega
  have hd2 : decide (7 < y) = false := by simp; omega
  go_enter Tryd.func9, Tryd.ntmps9
  go_wp2
  go_ret
  exact ⟨rfl, rfl⟩
theorem implFix_big (n width : Nat) (w : World) (_hn : n < 9223372036854775808) (h1 : 1 ≤ width) (h7 : width ≤ 7) (hz : ¬ n / 256 ^ width = 0) :
    Calls Tryd.prog 9 #[.int .i64 n, .int .i64 width] w fun e w' => e = .returned (.string ⟨#[]⟩) ∧ w' = w := by
  have hd1 : decide ((width : Int) < 1) = false := by simp; omega
  have hd2 : decide ((7 : Int) < (width : Int)) = false := by simp; omega
  have hd3 : decide ((n : Int) < 0) = false := by simp
  have hsh : ((n : Int) / 2 ^ (8 * width) != 0) = true := by
    have e : (2 : Int) ^ (8 * width) = ((256 ^ width : Nat) : Int) := by rw [Int.pow_mul]; simp
    rw [e, ← Int.natCast_ediv, bne_iff_ne]; omega
  clear hz
  go_enter Tryd.func9, Tryd.ntmps9
  go_wp2
  go_ret
  exact ⟨rfl, rfl⟩
end Go.Proofs.YtdbfifgblcmckacDoor
