/- The contract of the program's Unhex, and the law. -/
import Derived.Test.YtdbfifgblcmckacDoorUhb
namespace Go.Proofs.YtdbfifgblcmckacDoor
open Go.ChangeShapes Go.WideShapes Go.ChangeAt Go.RowKit
theorem bcs_setL (l : List UInt8) (j : Nat) (c : UInt8) : (bcs l).set j (.int .u8 (c.toNat : Int)) = bcs (l.set j c) := by
  simp [bcs, List.map_set]
theorem bcs_zeros (k : Nat) : bcs (List.replicate k 0) = (madeCells #[Value.int .u8 0] k).toList := by
  rw [toList_madeCells_one]; simp [bcs]
theorem pad_one (l : List UInt8) (m : Nat) (a : UInt8) : (l ++ List.replicate (m + 1) 0).set l.length a = (l ++ [a]) ++ List.replicate m 0 := by
  rw [List.set_append_right _ _ (Nat.le_refl _)]
  simp [List.replicate_succ]
theorem or_low16 (x y : Int) (hx : 0 ≤ x) (hx2 : x ≤ 15) (hy : 0 ≤ y) (hy2 : y ≤ 15) : bits .or .i64 (x * 16) y = 16 * x + y := by
  obtain ⟨a, rfl⟩ := Int.eq_ofNat_of_zero_le hx
  obtain ⟨b, rfl⟩ := Int.eq_ofNat_of_zero_le hy
  have h := i64_or_nat (a * 16) b (by omega) (by omega)
  have h2 : a * 16 ||| b = a * 16 + b := or_low a b 4 (by omega)
  rw [show (a : Int) * 16 = ((a * 16 : Nat) : Int) by omega, h]
  omega
set_option maxRecDepth 100000 in
set_option maxHeartbeats 1000000 in
theorem implUh_any (s : ByteArray) (w : World) (hs : s.size ≤ 1048576) :
    Calls Tryd.prog 13 #[.string s] w fun e w' => ∃ (l : List UInt8) (b : Bool), e = .returned (.tuple #[.string ⟨l.toArray⟩, .bool b]) ∧ UhRes s l b ∧ Below w.heap.size w w' := by
  obtain ⟨i0, hi, hz0, hz1, hz2⟩ := info_parts Tryd.info5
  by_cases hodd : s.size % 2 = 0
  · have ho : ((s.size : Int) % 2 != 0) = false := by rw [bne_eq_false_iff_eq]; omega
    obtain ⟨h, hh⟩ : ∃ h, s.size / 2 = h := ⟨_, rfl⟩
    have hdiv : (s.size : Int) / 2 = (h : Int) := by omega
    have hsh : 2 * h = s.size := by omega
    have HH : Hid (s.size / 2 = h) := hh
    have HSH : Hid (2 * h = s.size) := hsh
    clear hh hsh
    go_enter Tryd.func13, Tryd.ntmps13
    go_wp2_with (at_make; refine wpList_make_full _ rfl _ _ 22 rfl w.heap.size 5 i0 (.int .u8 0) 1 Tryd.underlying22 hi hz0 hz1 .i64 .i64 _ _ h rfl rfl ?c0 ?c00 ?c1 ?c2 ?c3 ?_)
    case c0 => rfl
    case c00 => rfl
    case c1 => rw [hz2]; omega
    case c2 => unfold maxLen; omega
    case c3 => exact Nat.le_refl _
    intro w1 hown hgrow
    go_wp2
    have hown2 : w1.ownsRow w.heap.size 5 1 (.slice (some ⟨w.heap.size, 0, none⟩) h h) h (bcs (List.replicate h 0)) := by rw [bcs_zeros]; exact hown
    have hb1 : Below w.heap.size w w1 := (Below.refl _ _).grown hgrow (Nat.le_refl _) (fun _ h => by cases h)
    go_loopw [19] (fun i wr => ∃ k : Nat, k ≤ h ∧ i = .int .i64 k ∧ (∀ i, i < k → pairOk s i) ∧ wr.ownsRow w.heap.size 5 1 (.slice (some ⟨w.heap.size, 0, none⟩) h h) h (bcs (uhL s k ++ List.replicate (h - k) 0)) ∧ Below w.heap.size w wr)
      (fun i _ => h - (intOf i).toNat)
    case atStart => exact ⟨0, Nat.zero_le _, rfl, fun i h => by omega, by simpa [uhL] using hown2, hb1⟩
    case round =>
      clear hown hown2 hgrow hb1
      obtain ⟨k, hk, rfl, hall, hown, hnx⟩ := hrel
      have HA : Hid _ := hall
      clear hall
      have hsz := hnx.size
      have hsh := HSH.out
      by_cases hlt : k < h
      · have h1 : 2 * k < s.size := by omega
        have h2 : 2 * k + 1 < s.size := by omega
        clear hsh
        obtain ⟨c1, e1⟩ : ∃ c, c = bAt s (2 * k) := ⟨_, rfl⟩
        obtain ⟨c2, e2⟩ : ∃ c, c = bAt s (2 * k + 1) := ⟨_, rfl⟩
        have b1 := hexV_bd c1
        have b2 := hexV_bd c2
        have g1 : s[2 * k] = c1 := by rw [bAt_eq s _ h1, e1]
        have g2 : s[2 * k + 1] = c2 := by rw [bAt_eq s _ h2, e2]
        have HE1 : Hid (c1 = bAt s (2 * k)) := e1
        have HE2 : Hid (c2 = bAt s (2 * k + 1)) := e2
        clear e1 e2
        by_cases p1 : 0 ≤ hexV c1
        · by_cases p2 : 0 ≤ hexV c2
          · have hok : pairOk s k := ⟨by rw [← HE1.out]; exact p1, by rw [← HE2.out]; exact p2⟩
            have HB : Hid (bits .or .i64 (hexV c1 * 16) (hexV c2) % 256 = ((pairB s k).toNat : Int)) := by
              show _ = _; rw [or_low16 _ _ p1 b1.2 p2 b2.2, pairB_nat s k hok, ← HE1.out, ← HE2.out]; omega
            have HA2 : Hid (∀ i, i < k + 1 → pairOk s i) := by
              intro i hi
              by_cases e : i = k
              · rw [e]; exact hok
              · exact HA.out i (by omega)
            have d1 : decide (hexV c1 < 0) = false := by simp; omega
            have d2 : decide (hexV c2 < 0) = false := by simp; omega
            have hf1 := hown.frozenAt k
            obtain ⟨v0, hc1⟩ : ∃ v0, wr.cell? ⟨w.heap.size, k, none⟩ = some v0 := by
              rw [hown.cellAt k (by omega)]
              exact ⟨_, List.getElem?_eq_getElem (by rw [hown.1]; omega)⟩
            have HO : Hid ((wr.setCell ⟨w.heap.size, k, none⟩ (.int .u8 ((pairB s k).toNat : Int))).ownsRow w.heap.size 5 1 (.slice (some ⟨w.heap.size, 0, none⟩) h h) h (bcs (uhL s (k + 1) ++ List.replicate (h - (k + 1)) 0))) := by
              have hst := (hown.stored k (.int .u8 ((pairB s k).toNat : Int))).1
              have hp := pad_one (uhL s k) (h - (k + 1)) (pairB s k)
              rw [uhL_length, show h - (k + 1) + 1 = h - k by omega] at hp
              rw [bcs_setL, hp] at hst
              exact hst
            clear hok HA HE1 HE2 hown
            obtain ⟨x1, hx1⟩ : ∃ x, x = hexV c1 := ⟨_, rfl⟩
            obtain ⟨x2, hx2⟩ : ∃ x, x = hexV c2 := ⟨_, rfl⟩
            have q1 := fun w => ib_any c1 w
            have q2 := fun w => ib_any c2 w
            rw [← hx1] at q1 p1 d1 b1 HB
            rw [← hx2] at q2 p2 d2 b2 HB
            have Q1 : Hid _ := q1
            have Q2 : Hid _ := q2
            clear hx1 hx2 q1 q2
            go_wp2_with fail
            refine (Q1.out _).mono ?_
            rintro e w' ⟨rfl, rfl⟩
            go_wp2_with fail
            refine (Q2.out _).mono ?_
            rintro e w' ⟨rfl, rfl⟩
            go_wp2
            rw [HB.out]
            go_roundw
            case rel => exact ⟨k + 1, by omega, by go_num, HA2.out, HO.out, hnx.setCell (Nat.le_refl _) _⟩
            case measure => simp [intOf]; omega
          · have HR : Hid (UhRes s [] false) := .inr ⟨.inr ⟨k, by rw [HH.out]; exact hlt, fun h => p2 (by rw [HE2.out]; exact h.2)⟩, rfl, rfl⟩
            have d1 : decide (hexV c1 < 0) = false := by simp; omega
            have d2 : hexV c2 < 0 := by omega
            clear HA HE1 HE2 p2 hown
            go_wp2_with fail
            refine (ib_any c1 _).mono ?_
            rintro e w' ⟨rfl, rfl⟩
            go_wp2_with fail
            refine (ib_any c2 _).mono ?_
            rintro e w' ⟨rfl, rfl⟩
            go_wp2
            go_ret2
            exact ⟨_, _, rfl, HR.out, hnx⟩
        · have HR : Hid (UhRes s [] false) := .inr ⟨.inr ⟨k, by rw [HH.out]; exact hlt, fun h => p1 (by rw [HE1.out]; exact h.1)⟩, rfl, rfl⟩
          have d1 : hexV c1 < 0 := by omega
          clear HA HE1 HE2 p1 hown
          go_wp2_with fail
          refine (ib_any c1 _).mono ?_
          rintro e w' ⟨rfl, rfl⟩
          go_wp2_with fail
          refine (ib_any c2 _).mono ?_
          rintro e w' ⟨rfl, rfl⟩
          go_wp2
          go_ret2
          exact ⟨_, _, rfl, HR.out, hnx⟩
      · obtain rfl : k = h := by omega
        have HR : Hid (UhRes s (uhL s k) true) := .inl ⟨hodd, by rw [HH.out]; exact HA.out, rfl, by rw [HH.out]⟩
        have hcv := conv_own (B := w.heap.size) (w := wr) (v := .slice (some ⟨w.heap.size, 0, none⟩) k k) (l := uhL s k) (by rw [uhL_length]; simpa using hown)
        clear hown HA hsh
        generalize uhL s k = l at *
        go_wp2
        go_ret2
        exact ⟨_, _, rfl, HR.out, hnx⟩
  · have ho : ((s.size : Int) % 2 != 0) = true := by rw [bne_iff_ne]; omega
    have HR : Hid (UhRes s [] false) := .inr ⟨.inl hodd, rfl, rfl⟩
    clear hodd
    go_enter Tryd.func13, Tryd.ntmps13
    go_wp2
    go_ret2
    exact ⟨_, _, rfl, HR.out, Below.refl _ _⟩
end Go.Proofs.YtdbfifgblcmckacDoor
