/- The contract of the program's Hex: the same digits. -/
import Derived.Test.YtdbfifgblcmckacDoorHexa
namespace Go.Proofs.YtdbfifgblcmckacDoor
open Go.ChangeShapes Go.WideShapes Go.ChangeAt Go.RowKit
theorem bcs_setH (l : List UInt8) (j : Nat) (c : UInt8) : (bcs l).set j (.int .u8 (c.toNat : Int)) = bcs (l.set j c) := by
  simp [bcs, List.map_set]
theorem bcs_zerosH (k : Nat) : bcs (List.replicate k 0) = (madeCells #[Value.int .u8 0] k).toList := by
  rw [toList_madeCells_one]; simp [bcs]
theorem pad_two (l : List UInt8) (m : Nat) (a b : UInt8) : ((l ++ List.replicate (m + 2) 0).set l.length a).set (l.length + 1) b = (l ++ [a, b]) ++ List.replicate m 0 := by
  rw [List.set_append_right _ _ (Nat.le_refl _), List.set_append_right _ _ (by omega)]
  simp [List.replicate_succ]
theorem hexAt (n : Nat) (h : n < (ByteArray.mk #[48, 49, 50, 51, 52, 53, 54, 55, 56, 57, 97, 98, 99, 100, 101, 102]).size) : (ByteArray.mk #[48, 49, 50, 51, 52, 53, 54, 55, 56, 57, 97, 98, 99, 100, 101, 102])[n] = hexD n := by
  have h16 : n < 16 := h
  rcases (by omega : n = 0 ∨ n = 1 ∨ n = 2 ∨ n = 3 ∨ n = 4 ∨ n = 5 ∨ n = 6 ∨ n = 7 ∨ n = 8 ∨ n = 9 ∨ n = 10 ∨ n = 11 ∨ n = 12 ∨ n = 13 ∨ n = 14 ∨ n = 15) with rfl | rfl | rfl | rfl | rfl | rfl | rfl | rfl | rfl | rfl | rfl | rfl | rfl | rfl | rfl | rfl
  all_goals rfl
set_option maxRecDepth 100000 in
set_option maxHeartbeats 1000000 in
theorem implHex_any (s : ByteArray) (w : World) (hs : s.size ≤ 1048576) :
    Calls Tryd.prog 14 #[.string s] w fun e w' => e = .returned (.string ⟨(hexL s.data.toList).toArray⟩) ∧ Below w.heap.size w w' := by
  obtain ⟨i0, hi, hz0, hz1, hz2⟩ := info_parts Tryd.info5
  go_enter Tryd.func14, Tryd.ntmps14
  go_wp2_with (at_make; refine wpList_make_full _ rfl _ _ 22 rfl w.heap.size 5 i0 (.int .u8 0) 1 Tryd.underlying22 hi hz0 hz1 .i64 .i64 _ _ (2 * s.size) rfl rfl ?c0 ?c00 ?c1 ?c2 ?c3 ?_)
  case c0 => omega
  case c00 => omega
  case c1 => rw [hz2]; omega
  case c2 => unfold maxLen; omega
  case c3 => exact Nat.le_refl _
  intro w1 hown hgrow
  go_wp2
  have hown2 : w1.ownsRow w.heap.size 5 1 (.slice (some ⟨w.heap.size, 0, none⟩) (2 * s.size) (2 * s.size)) (2 * s.size) (bcs (List.replicate (2 * s.size) 0)) := by rw [bcs_zerosH]; exact hown
  have hb1 : Below w.heap.size w w1 := (Below.refl _ _).grown hgrow (Nat.le_refl _) (fun _ h => by cases h)
  go_loopw [11] (fun i wr => ∃ k : Nat, k ≤ s.size ∧ i = .int .i64 k ∧ wr.ownsRow w.heap.size 5 1 (.slice (some ⟨w.heap.size, 0, none⟩) (2 * s.size) (2 * s.size)) (2 * s.size) (bcs (hexL (s.data.toList.take k) ++ List.replicate (2 * (s.size - k)) 0)) ∧ Below w.heap.size w wr)
    (fun i _ => s.size - (intOf i).toNat)
  case atStart => exact ⟨0, Nat.zero_le _, rfl, by simpa [hexL] using hown2, hb1⟩
  case round =>
    clear hown hown2 hgrow hb1
    obtain ⟨k, hk, rfl, hown, hnx⟩ := hrel
    have hsz := hnx.size
    by_cases hlt : k < s.size
    · have hb : (s[k].toNat : Int) < 256 := by have := s[k].toNat_lt; omega
      have hk0 : (0 : Int) ≤ (k : Int) := Int.natCast_nonneg _
      have hk1 : (k : Int) < (s.size : Int) := by omega
      have hlen : (hexL (s.data.toList.take k)).length = 2 * k := by
        rw [hexL_length, List.length_take]
        have : s.data.toList.length = s.size := by simp
        omega
      have HS : Hid (hexL (s.data.toList.take (k + 1)) = hexL (s.data.toList.take k) ++ [hexD (s[k].toNat / 16), hexD (s[k].toNat % 16)]) := by
        show _ = _; rw [take_snocH s k hlt, hexL_snoc]
      have HL : Hid ((hexL (s.data.toList.take k)).length = 2 * k) := hlen
      clear hlen
      generalize hexL (s.data.toList.take k) = l at *
      have hf1 := hown.frozenAt (2 * k)
      have hf2 := hown.frozenAt (2 * k + 1)
      obtain ⟨v0, hc1⟩ : ∃ v0, wr.cell? ⟨w.heap.size, 2 * k, none⟩ = some v0 := by
        rw [hown.cellAt (2 * k) (by omega)]
        exact ⟨_, List.getElem?_eq_getElem (by rw [hown.1]; omega)⟩
      obtain ⟨v1, hc2⟩ : ∃ v1, wr.cell? ⟨w.heap.size, 2 * k + 1, none⟩ = some v1 := by
        rw [hown.cellAt (2 * k + 1) (by omega)]
        exact ⟨_, List.getElem?_eq_getElem (by rw [hown.1]; omega)⟩
      have HO1 := hown.stored (2 * k) (.int .u8 ((hexD (s[k].toNat / 16)).toNat : Int))
      have HO : Hid _ := (HO1.1.stored (2 * k + 1) (.int .u8 ((hexD (s[k].toNat % 16)).toNat : Int))).1
      clear hown HO1
      go_wp2
      simp only [hexAt]
      go_roundw
      case rel =>
        refine ⟨k + 1, by omega, by go_num, ?_, (hnx.setCell (Nat.le_refl _) _).setCell (Nat.le_refl _) _⟩
        have h := HO.out
        rw [bcs_setH, bcs_setH, ← HL.out, show 2 * (s.size - k) = 2 * (s.size - (k + 1)) + 2 by omega, pad_two] at h
        rw [HS.out]
        rw [HL.out] at h
        exact h
      case measure => simp [intOf]; omega
    · obtain rfl : k = s.size := by omega
      have e : s.data.toList.take s.size = s.data.toList := List.take_of_length_le (by simp)
      have hcv := conv_own (B := w.heap.size) (w := wr) (v := .slice (some ⟨w.heap.size, 0, none⟩) (2 * s.size) (2 * s.size)) (l := hexL s.data.toList) (by
        have hl : (hexL s.data.toList).length = 2 * s.size := by rw [hexL_length]; simp
        rw [hl]
        simpa [e] using hown)
      clear hown e
      go_wp2
      go_ret
      exact ⟨rfl, hnx⟩
end Go.Proofs.YtdbfifgblcmckacDoor
