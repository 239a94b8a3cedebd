/- The contract of the program's ReadDec. -/
import Derived.Test.YtfjjnngaeccdjaaRdb
import Derived.WalkMore
namespace Go.Proofs.Ytfjjnngaeccdjaa
open Go.ChangeShapes Go.WideShapes Go.ChangeAt Go.RowKit
set_option maxRecDepth 100000 in
set_option maxHeartbeats 1000000 in
theorem implRd_any (s : ByteArray) (w : World) (hs : s.size ≤ 1048576) :
    Calls Try.prog 39 #[.string s] w fun e w' => RdPost s w e w' := by
  obtain ⟨t, neg, hts, hpart, hcut⟩ := cut_any s hs
  have HC : Hid _ := hcut
  have HP : Hid _ := hpart
  have HL : Hid (t.data.toList.length = t.size) := by show _ = _; simp
  have HSL : Hid (s.toList = s.data.toList) := by show _ = _; rw [ByteArray.toList_eq]
  clear hcut hpart
  by_cases hn9 : 0 < t.size ∧ t.size ≤ 9
  · obtain ⟨hn0, hn9⟩ := hn9
    have he : (t.toList.isEmpty) = false := by
      rw [ByteArray.toList_eq, List.isEmpty_eq_false_iff]
      intro h
      have := congrArg List.length h
      rw [HL.out, List.length_nil] at this
      omega
    have hd : decide ((9 : Int) < (t.size : Int)) = false := by simp; omega
    go_enter Try.func39, Try.ntmps39
    go_wp2
    go_step3
    go_wp2_with (go_at_call 52; refine (HC.out _).mono ?_; rintro e w' ⟨rfl, rfl⟩)
    go_step3
    go_wp2
    go_loop [6, 7, 24] (fun n o i => ∃ k : Nat, k ≤ t.size ∧ i = .int .i64 k ∧ o = .bool true ∧ n = .int .i64 (val (t.data.toList.take k) : Nat) ∧ (∀ c ∈ t.data.toList.take k, isDig c) ∧ (0 < k → t.data.toList.head? = some 48 → s.data.toList = [48])) (fun _ _ i => t.size - (intOf i).toNat)
    case atStart => exact ⟨0, by omega, rfl, rfl, rfl, by simp, fun h => by omega⟩
    case round =>
      obtain ⟨k, hk, rfl, rfl, rfl, hdig, hhead⟩ := hrel
      have HD : Hid _ := hdig
      have HH : Hid _ := hhead
      have hv : val (t.data.toList.take k) < 10 ^ (t.data.toList.take k).length := val_lt _ hdig
      have hv2 : 10 ^ (t.data.toList.take k).length ≤ 10 ^ 9 := Nat.pow_le_pow_right (by omega) (by rw [List.length_take]; omega)
      have hv9 : val (t.data.toList.take k) < 1000000000 := by omega
      clear hdig hhead hv hv2
      by_cases hlt : k < t.size
      · have hb : (t[k].toNat : Int) < 256 := by have := t[k].toNat_lt; omega
        have HT : Hid (t.data.toList.take (k + 1) = t.data.toList.take k ++ [t[k]]) := take_snoc t k hlt
        have HV : Hid (val (t.data.toList.take (k + 1)) = val (t.data.toList.take k) * 10 + (t[k].toNat - 48)) := by show _ = _; rw [HT.out, val_snoc]
        have HM : Hid (t[k] ∈ t.data.toList) := by
          show _ ∈ _
          have : t[k] ∈ t.data.toList.take (k + 1) := by rw [HT.out]; simp
          exact List.mem_of_mem_take this
        generalize val (t.data.toList.take k) = v at *
        by_cases hd1 : t[k].toNat < 48
        · have HR : Hid (RdRes s.data.toList 0 false) := reject _ _ _ HP.out (fun h => by have := h.2.2.1 _ HM.out; unfold isDig at this; omega)
          clear HP HD HH HT HV HM
          go_wp2
          go_ret2
          exact ⟨0, false, rfl, HR.out, Below.refl _ _⟩
        · have e1 : decide ((t[k].toNat : Int) < 48) = false := by simp; omega
          by_cases hd2 : 57 < t[k].toNat
          · have HR : Hid (RdRes s.data.toList 0 false) := reject _ _ _ HP.out (fun h => by have := h.2.2.1 _ HM.out; unfold isDig at this; omega)
            clear HP HD HH HT HV HM
            go_wp2
            go_ret2
            exact ⟨0, false, rfl, HR.out, Below.refl _ _⟩
          · have e2 : decide ((57 : Int) < (t[k].toNat : Int)) = false := by simp; omega
            have HD2 : Hid (∀ c ∈ t.data.toList.take (k + 1), isDig c) := by
              intro c hc
              rw [HT.out] at hc
              rcases List.mem_append.1 hc with h | h
              · exact HD.out c h
              · rw [List.mem_singleton.1 h]; exact ⟨by omega, by omega⟩
            by_cases h48 : t[k].toNat = 48
            · have e3 : ((t[k].toNat : Int) == 48) = true := by rw [beq_iff_eq]; omega
              by_cases hk0 : k = 0
              · subst hk0
                have hhd : t.data.toList.head? = some 48 := by
                  have hl : 0 < t.data.toList.length := by rw [HL.out]; exact hlt
                  rw [List.head?_eq_getElem?, List.getElem?_eq_getElem hl]
                  exact congrArg some (UInt8.toNat_inj.1 h48)
                by_cases hone : s.data.toList = [48]
                · have e4 : (s.toList == [48]) = true := by rw [HSL.out, hone]; rfl
                  have HH2 : Hid (0 < 0 + 1 → t.data.toList.head? = some 48 → s.data.toList = [48]) := fun _ _ => hone
                  clear HP HD HH HT HM hhd hone h48
                  go_wp2
                  go_round
                  case rel => exact ⟨0 + 1, by omega, by go_num, rfl, by rw [HV.out]; go_num, HD2.out, HH2.out⟩
                  case measure => simp [intOf]; omega
                · have e4 : (s.toList == [48]) = false := by rw [HSL.out]; simpa using hone
                  have HR : Hid (RdRes s.data.toList 0 false) := reject _ _ _ HP.out (fun h => hone (h.2.2.2 hhd))
                  clear HP HD HH HT HV HM HD2 hhd hone h48
                  go_wp2
                  go_ret2
                  exact ⟨0, false, rfl, HR.out, Below.refl _ _⟩
              · have e4 : ((k : Int) == 0) = false := by rw [beq_eq_false_iff_ne]; omega
                have HH2 : Hid (0 < k + 1 → t.data.toList.head? = some 48 → s.data.toList = [48]) := fun _ => HH.out (by omega)
                clear HP HD HH HT HM h48 hk0
                go_wp2
                go_round
                case rel => exact ⟨k + 1, by omega, by go_num, rfl, by rw [HV.out]; go_num, HD2.out, HH2.out⟩
                case measure => simp [intOf]; omega
            · have e3 : ((t[k].toNat : Int) == 48) = false := by rw [beq_eq_false_iff_ne]; omega
              have HH2 : Hid (0 < k + 1 → t.data.toList.head? = some 48 → s.data.toList = [48]) := by
                intro _ h
                by_cases hk0 : k = 0
                · subst hk0
                  have hl : 0 < t.data.toList.length := by rw [HL.out]; exact hlt
                  rw [List.head?_eq_getElem?, List.getElem?_eq_getElem hl] at h
                  exact absurd (show t[0].toNat = 48 by rw [show t[0] = 48 from Option.some.inj h]; rfl) h48
                · exact HH.out (by omega) h
              clear HP HD HH HT HM h48
              go_wp2
              go_round
              case rel => exact ⟨k + 1, by omega, by go_num, rfl, by rw [HV.out]; go_num, HD2.out, HH2.out⟩
              case measure => simp [intOf]; omega
      · obtain rfl : k = t.size := by omega
        have htk : t.data.toList.take t.size = t.data.toList := List.take_of_length_le (by rw [HL.out]; exact Nat.le_refl _)
        have HR : Hid (RdRes s.data.toList (signed neg (val t.data.toList)) true) := by
          refine accept _ _ _ HP.out ⟨?_, by rw [HL.out]; exact hn9, by have := HD.out; rwa [htk] at this, HH.out hn0⟩
          intro h
          have := congrArg List.length h
          rw [HL.out, List.length_nil] at this
          omega
        rw [htk] at hv9 ⊢
        clear HP HD HH htk
        generalize val t.data.toList = v at *
        cases neg with
        | true =>
          go_wp2
          go_ret2
          exact ⟨-(v : Int), true, rfl, HR.out, Below.refl _ _⟩
        | false =>
          go_wp2
          go_ret2
          exact ⟨(v : Int), true, rfl, HR.out, Below.refl _ _⟩
  · have HR : Hid (RdRes s.data.toList 0 false) := reject _ _ _ HP.out (fun h => hn9 ⟨by
      have h1 := h.1
      have := HL.out
      rcases Nat.eq_zero_or_pos t.size with h0 | h0
      · rw [h0] at this; exact absurd (List.eq_nil_of_length_eq_zero this) h1
      · exact h0, by have := h.2.1; rw [HL.out] at this; exact this⟩)
    by_cases h0 : t.size = 0
    · have he : (t.toList.isEmpty) = true := by
        rw [ByteArray.toList_eq, List.isEmpty_iff]
        exact List.eq_nil_of_length_eq_zero (by rw [HL.out]; exact h0)
      clear HP hn9
      go_enter Try.func39, Try.ntmps39
      go_wp2
      go_step3
      go_wp2_with (go_at_call 52; refine (HC.out _).mono ?_; rintro e w' ⟨rfl, rfl⟩)
      rw [Exit.noGoto_ret]
      go_ret2
      exact ⟨0, false, rfl, HR.out, Below.refl _ _⟩
    · have he : (t.toList.isEmpty) = false := by
        rw [ByteArray.toList_eq, List.isEmpty_eq_false_iff]
        intro h
        have := congrArg List.length h
        rw [HL.out, List.length_nil] at this
        omega
      have hd : 9 < t.size := by omega
      clear HP hn9
      go_enter Try.func39, Try.ntmps39
      go_wp2
      go_step3
      go_wp2_with (go_at_call 52; refine (HC.out _).mono ?_; rintro e w' ⟨rfl, rfl⟩)
      rw [Exit.noGoto_ret]
      go_ret2
      exact ⟨0, false, rfl, HR.out, Below.refl _ _⟩
end Go.Proofs.Ytfjjnngaeccdjaa
