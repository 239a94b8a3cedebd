/- The contract of the model's ReadVar. -/
import Derived.Test.YtdbfifgblcmckajRvp
import Derived.Deep.RegionHeld3
namespace Go.Proofs.Ytdbfifgblcmckaj
open Go.ChangeShapes Go.WideShapes Go.ChangeAt Go.RowKit
theorem rvL_seven (l : List UInt8) (h : l.length ≤ 7) : rvL l ≤ 562949953421311 := by
  have h1 := rvL_lt l
  have h2 : 128 ^ l.length ≤ 128 ^ 7 := Nat.pow_le_pow_right (by omega) h
  omega
theorem drop_take_cons (s : ByteArray) (k m : Nat) (hm : m < k) (hk : k ≤ s.size) : (s.data.toList.take k).drop m = (s[m]'(by omega)) :: (s.data.toList.take k).drop (m + 1) := by
  have hl : m < (s.data.toList.take k).length := by rw [List.length_take]; have : s.data.toList.length = s.size := by simp
                                                    omega
  rw [List.drop_eq_getElem_cons hl]
  congr 1
  simp
  rfl
theorem extract_front (s : ByteArray) (k : Nat) : (s.extract 0 k).toList = s.data.toList.take k := by
  rw [ByteArray.toList_eq]
  simp
set_option maxRecDepth 100000 in
set_option maxHeartbeats 1000000 in
theorem specRv_any (s : ByteArray) (w : World) (hs : s.size ≤ 1048576) :
    Calls Try.prog 14 #[.string s] w fun e w' => ∃ n k : Nat, e = .returned (.tuple #[.int .i64 n, .int .i64 k]) ∧ RvRes s.data.toList n k ∧ Below w.heap.size w w' := by
  have hsl : s.data.toList.length = s.size := by simp
  have HL : Hid (s.data.toList.length = s.size) := hsl
  clear hsl
  go_enter Try.func14, Try.ntmps14
  go_wp2
  go_loopw [4] (fun i wr => ∃ k : Nat, 1 ≤ k ∧ k ≤ 8 ∧ k ≤ s.size + 1 ∧ i = .int .i64 k ∧ (∀ j, 1 ≤ j → j < k → can (s.data.toList.take j) = false) ∧ Below w.heap.size w wr)
    (fun i _ => 8 - (intOf i).toNat)
  case atStart => exact ⟨1, by omega, by omega, by omega, rfl, fun j h1 h2 => by omega, Below.refl _ _⟩
  case round =>
    obtain ⟨k, hk1, hk8, hks, rfl, hno, hnx⟩ := hrel
    have HN : Hid _ := hno
    clear hno
    have hsz := hnx.size
    by_cases h7 : k ≤ 7
    · by_cases hlen : k ≤ s.size
      · have hd1 : decide ((k : Int) ≤ 7) = true := by simp; omega
        have hd2 : decide (k ≤ s.size) = true := by simp; omega
        go_wp2
        go_loopw [5, 6] (fun n i wx => ∃ m : Nat, m ≤ k ∧ i = .int .i64 ((m : Int) - 1) ∧ n = .int .i64 (rvL ((s.data.toList.take k).drop m) : Nat) ∧ wx = wr)
          (fun _ i _ => (intOf i + 1).toNat)
        case atStart => exact ⟨k, Nat.le_refl _, rfl, by rw [List.drop_eq_nil_of_le (by rw [List.length_take]; omega)]; rfl, rfl⟩
        case round =>
          obtain ⟨m, hm, rfl, rfl, rfl⟩ := hrel
          match m, hm with
          | p + 1, hm =>
            have hpk : p < s.size := by omega
            have HD : Hid (rvL ((s.data.toList.take k).drop p) = s[p].toNat % 128 + 128 * rvL ((s.data.toList.take k).drop (p + 1))) := by
              show _ = _; rw [drop_take_cons s k p (by omega) hlen]; rfl
            have hb7 : rvL ((s.data.toList.take k).drop p) ≤ 562949953421311 := rvL_seven _ (by rw [List.length_drop, List.length_take]; omega)
            have hle : 128 * rvL ((s.data.toList.take k).drop (p + 1)) ≤ 562949953421311 := by have := HD.out; omega
            clear hb7
            have hb : (s[p].toNat : Int) < 256 := by have := s[p].toNat_lt; omega
            generalize rvL ((s.data.toList.take k).drop (p + 1)) = r at *
            rw [show (((p + 1 : Nat) : Int) - 1) = (p : Int) by omega]
            go_wp2
            go_roundw
            case rel => exact ⟨p, by omega, by go_num, by rw [HD.out]; go_num, trivial⟩
            case measure => simp [intOf]
          | 0, hm =>
            rw [show (((0 : Nat) : Int) - 1) = -1 by omega, List.drop_zero]
            have hr7 : rvL (s.data.toList.take k) ≤ 562949953421311 := rvL_seven _ (by rw [List.length_take]; omega)
            obtain ⟨r, hr⟩ : ∃ r, r = rvL (s.data.toList.take k) := ⟨_, rfl⟩
            have HR0 : Hid (r = rvL (s.data.toList.take k)) := hr
            rw [← hr] at hr7 ⊢
            clear hr
            go_wp2_with fail
            have hk0 : (0 : Int) ≤ (k : Int) := Int.natCast_nonneg _
            have hks1 : (k : Int) ≤ (s.size : Int) := by omega
            go_region_held3 (fun _ => True) (trivial)
              (first
                | (go_at_call 12; refine (specVar_yes r _ hr7).mono ?_; rintro e w2 ⟨rfl, hb2⟩))
            have hb3 : Below w.heap.size w w2 := hnx.trans ((Below.refl _ _).drew.trans (hb2.mono hsz))
            have he : (varL 7 r == (s.extract 0 k).toList) = can (s.data.toList.take k) := by
              have hc := canon (s.data.toList.take k) 7 (by rw [List.length_take]; omega) (by
                intro h0
                have := congrArg List.length h0
                rw [List.length_take, HL.out, List.length_nil] at this
                omega)
              rw [extract_front, HR0.out]
              cases hcc : can (s.data.toList.take k) with
              | true => simpa using hc.2 hcc
              | false =>
                rw [beq_eq_false_iff_ne]
                intro h
                rw [hc.1 h] at hcc
                exact absurd hcc (by simp)
            rw [he]
            clear he hb2
            cases hcc : can (s.data.toList.take k) with
            | true =>
              have HR : Hid (RvRes s.data.toList r k) := .inl ⟨hk1, h7, by rw [HL.out]; exact hlen, hcc, HR0.out⟩
              clear hcc HN HR0
              go_wp2
              go_ret2
              exact ⟨r, k, rfl, HR.out, hb3⟩
            | false =>
              have HN2 : Hid (∀ j, 1 ≤ j → j < k + 1 → can (s.data.toList.take j) = false) := by
                intro j j1 j2
                by_cases hj : j = k
                · rw [hj]; exact hcc
                · exact HN.out j j1 (by omega)
              clear hcc HN HR0
              go_wp2
              go_roundw
              case rel => exact ⟨k + 1, by omega, by omega, by omega, by go_num, HN2.out, hb3⟩
              case measure => simp [intOf]; omega
      · have hd1 : decide ((k : Int) ≤ 7) = true := by simp; omega
        have hd2 : decide (k ≤ s.size) = false := by simp; omega
        have HR : Hid (RvRes s.data.toList 0 0) := .inr ⟨rfl, rfl, fun j j1 j7 jl => HN.out j j1 (by have := HL.out; omega)⟩
        clear HN
        go_wp2
        go_ret2
        exact ⟨0, 0, rfl, HR.out, hnx⟩
    · have hd1 : decide ((k : Int) ≤ 7) = false := by simp; omega
      have HR : Hid (RvRes s.data.toList 0 0) := .inr ⟨rfl, rfl, fun j j1 j7 jl => HN.out j j1 (by omega)⟩
      clear HN
      go_wp2
      go_ret2
      exact ⟨0, 0, rfl, HR.out, hnx⟩
end Go.Proofs.Ytdbfifgblcmckaj
