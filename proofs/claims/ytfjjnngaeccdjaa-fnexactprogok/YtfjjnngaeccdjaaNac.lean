/- Which texts are symbols: the model's and the program's way. -/
import Derived.Test.YtfjjnngaeccdjaaNab
namespace Go.Proofs.Ytfjjnngaeccdjaa
open Go.ChangeShapes Go.WideShapes Go.ChangeAt Go.RowKit
theorem sy_len (s : ByteArray) (h : ¬ (1 ≤ s.size ∧ s.size ≤ 16)) : syL s.data.toList = false := by
  have hl : s.data.toList.length = s.size := by simp
  unfold syL
  rw [hl]
  by_cases h1 : 1 ≤ s.size
  · have : ¬ s.size ≤ 16 := fun h2 => h ⟨h1, h2⟩
    simp [this]
  · simp [h1]
theorem head_of (s : ByteArray) (h : 0 < s.size) : s.data.toList.head? = some s[0] := by
  have hl : 0 < s.data.toList.length := by simpa using h
  rw [List.head?_eq_getElem?, List.getElem?_eq_getElem hl]
  rfl
theorem sy_dig (s : ByteArray) (h : 0 < s.size) (hd : isDigB s[0] = true) : syL s.data.toList = false := by
  unfold syL
  rw [head_of s h]
  simp [hd]
theorem sy_bad (s : ByteArray) (k : Nat) (h : k < s.size) (hd : sgB s[k] = false) : syL s.data.toList = false := by
  have hm : s[k] ∈ s.data.toList := List.mem_of_mem_take (i := k + 1) (by rw [take_snoc s k h]; simp)
  have : s.data.toList.all sgB = false := by
    rw [Bool.eq_false_iff]
    intro ha
    have := List.all_eq_true.1 ha _ hm
    rw [hd] at this
    cases this
  unfold syL
  rw [this]
  simp
theorem sy_dec (s : ByteArray) (h1 : 1 ≤ s.size) (h2 : s.size ≤ 16) (hd : isDigB s[0] = false) (ha : s.data.toList.all sgB = true) : syL s.data.toList = !deB s.data.toList := by
  have hl : s.data.toList.length = s.size := by simp
  unfold syL
  rw [head_of s h1, hl, ha]
  simp [hd, h1, h2]
set_option maxRecDepth 100000 in
theorem l1In_any (x lo hi : Int) (w : World) :
    Calls Try.prog 16 #[.int .i64 x, .int .i64 lo, .int .i64 hi] w fun e w' => e = .returned (.bool (decide (lo ≤ x) && decide (x ≤ hi))) ∧ w' = w := by
  by_cases h1 : lo ≤ x
  · by_cases h2 : x ≤ hi
    · have e1 : decide (lo ≤ x) = true := by simp [h1]
      have e2 : decide (x ≤ hi) = true := by simp [h2]
      rw [e1, e2]
      go_enter Try.func16, Try.ntmps16
      go_wp2
      go_ret
      exact ⟨by simp, rfl⟩
    · have e1 : decide (lo ≤ x) = true := by simp [h1]
      have e2 : decide (x ≤ hi) = false := by simp [h2]
      rw [e1, e2]
      go_enter Try.func16, Try.ntmps16
      go_wp2
      go_ret
      exact ⟨by simp, rfl⟩
  · have e1 : decide (lo ≤ x) = false := by simp [h1]
    rw [e1]
    go_enter Try.func16, Try.ntmps16
    go_wp2
    go_ret
    exact ⟨rfl, rfl⟩
set_option maxRecDepth 100000 in
set_option maxHeartbeats 1000000 in
theorem l2Sym_any (s : ByteArray) (w : World) (hs : s.size ≤ 1048576) :
    Calls Try.prog 22 #[.string s] w fun e w' => Ans w (.bool (syL s.data.toList)) e w' := by
  have HL : Hid (s.data.toList.length = s.size) := by show _ = _; simp
  by_cases hz : 1 ≤ s.size ∧ s.size ≤ 16
  · obtain ⟨hz1, hz2⟩ := hz
    have HI : Hid (∀ w, Calls Try.prog 16 #[.int .i64 s.size, .int .i64 1, .int .i64 16] w fun e w' => e = .returned (.bool true) ∧ w' = w) := fun w => by
      have := l1In_any s.size 1 16 w
      rwa [show (decide ((1 : Int) ≤ s.size) && decide ((s.size : Int) ≤ 16)) = true by simp; omega] at this
    have HD : Hid (∀ w, Calls Try.prog 34 #[.int .u8 s[0].toNat] w fun e w' => e = .returned (.bool (isDigB s[0])) ∧ w' = w) := fun w => l2Digit_any s[0] w
    cases hd : isDigB s[0]
    · rw [hd] at HD
      have HDG : Hid (isDigB s[0] = false) := hd
      clear hd
      go_enter Try.func22, Try.ntmps22
      go_wp2_with (first | (go_at_call 16; refine (HI.out _).mono ?_; rintro e w' ⟨rfl, rfl⟩) | (go_at_call 34; refine (HD.out _).mono ?_; rintro e w' ⟨rfl, rfl⟩))
      go_loop [3] (fun i => ∃ k : Nat, k ≤ s.size ∧ i = .int .i64 k ∧ (s.data.toList.take k).all sgB = true) (fun i => s.size - (intOf i).toNat)
      case atStart => exact ⟨0, by omega, rfl, by simp⟩
      case round =>
        obtain ⟨k, hk, rfl, hall⟩ := hrel
        by_cases hlt : k < s.size
        · have HT := take_snoc s k hlt
          have HG : Hid (∀ w, Calls Try.prog 35 #[.int .u8 s[k].toNat] w fun e w' => e = .returned (.bool (sgB s[k])) ∧ w' = w) := fun w => l2Sign_any s[k] w
          cases hg : sgB s[k]
          · rw [hg] at HG
            have HQ : Hid (syL s.data.toList = false) := sy_bad s k hlt hg
            clear hall HT hg
            go_wp2_with (go_at_call 35; refine (HG.out _).mono ?_; rintro e w' ⟨rfl, rfl⟩)
            go_ret
            exact ⟨by rw [HQ.out]; rfl, Below.refl _ _⟩
          · rw [hg] at HG
            have HQ : Hid ((s.data.toList.take (k + 1)).all sgB = true) := by show _ = _; rw [HT, List.all_append, hall]; simp [hg]
            clear hall HT hg
            go_wp2_with (go_at_call 35; refine (HG.out _).mono ?_; rintro e w' ⟨rfl, rfl⟩)
            go_round
            case rel => exact ⟨k + 1, by omega, by go_num, HQ.out⟩
            case measure => simp [intOf]; omega
        · obtain rfl : k = s.size := by omega
          rw [List.take_of_length_le (by rw [HL.out]; exact Nat.le_refl _)] at hall
          have HQ : Hid (syL s.data.toList = !deB s.data.toList) := sy_dec s hz1 hz2 HDG.out hall
          have HR : Hid (∀ w, Calls Try.prog 36 #[.string s] w fun e w' => RdPost s w e w') := fun w => specRd_any s w hs
          clear hall HL
          go_wp2_with fail
          refine (HR.out _).mono ?_
          rintro e w1 ⟨n, k, rfl, hr1, hb1⟩
          obtain rfl := hr1.deB
          clear hr1
          go_wp2
          go_ret
          exact ⟨by rw [HQ.out]; rfl, hb1⟩
    · rw [hd] at HD
      have HQ : Hid (syL s.data.toList = false) := sy_dig s hz1 hd
      clear hd
      go_enter Try.func22, Try.ntmps22
      go_wp2_with (first | (go_at_call 16; refine (HI.out _).mono ?_; rintro e w' ⟨rfl, rfl⟩) | (go_at_call 34; refine (HD.out _).mono ?_; rintro e w' ⟨rfl, rfl⟩))
      go_ret
      exact ⟨by rw [HQ.out]; rfl, Below.refl _ _⟩
  · have HQ : Hid (syL s.data.toList = false) := sy_len s hz
    have HI : Hid (∀ w, Calls Try.prog 16 #[.int .i64 s.size, .int .i64 1, .int .i64 16] w fun e w' => e = .returned (.bool false) ∧ w' = w) := fun w => by
      have := l1In_any s.size 1 16 w
      rwa [show (decide ((1 : Int) ≤ s.size) && decide ((s.size : Int) ≤ 16)) = false by simp; omega] at this
    clear hz
    go_enter Try.func22, Try.ntmps22
    go_wp2_with (go_at_call 16; refine (HI.out _).mono ?_; rintro e w' ⟨rfl, rfl⟩)
    go_ret
    exact ⟨by rw [HQ.out]; rfl, Below.refl _ _⟩
set_option maxRecDepth 100000 in
set_option maxHeartbeats 1000000 in
theorem isSymbol_any (s : ByteArray) (w : World) (hs : s.size ≤ 1048576) :
    Calls Try.prog 24 #[.string s] w fun e w' => Ans w (.bool (syL s.data.toList)) e w' := by
  have HL : Hid (s.data.toList.length = s.size) := by show _ = _; simp
  by_cases h0 : s.size = 0
  · have HQ : Hid (syL s.data.toList = false) := sy_len s (by omega)
    have he : (s.toList == []) = true := by
      rw [ByteArray.toList_eq, beq_iff_eq]
      exact List.eq_nil_of_length_eq_zero (by rw [HL.out]; exact h0)
    have he' : s.toList.isEmpty = true := by
      rw [ByteArray.toList_eq, List.isEmpty_iff]
      exact List.eq_nil_of_length_eq_zero (by rw [HL.out]; exact h0)
    go_enter Try.func24, Try.ntmps24
    go_wp2
    go_ret
    exact ⟨by rw [HQ.out]; rfl, Below.refl _ _⟩
  · have hp : 0 < s.size := by omega
    have he : s.toList.isEmpty = false := by
      rw [ByteArray.toList_eq, List.isEmpty_eq_false_iff]
      intro h
      have := congrArg List.length h
      rw [HL.out, List.length_nil] at this
      omega
    by_cases hz2 : s.size ≤ 16
    · have e16 : decide ((16 : Int) < (s.size : Int)) = false := by simp; omega
      have hb0 : (s[0].toNat : Int) < 256 := by have := s[0].toNat_lt; omega
      by_cases hd : 48 ≤ s[0].toNat ∧ s[0].toNat ≤ 57
      · have HQ : Hid (syL s.data.toList = false) := sy_dig s (by omega) (by simp [isDigB]; omega)
        obtain ⟨hd1, hd2⟩ := hd
        go_enter Try.func24, Try.ntmps24
        go_wp2
        go_ret
        exact ⟨by rw [HQ.out]; rfl, Below.refl _ _⟩
      · have HDG : Hid (isDigB s[0] = false) := by show _ = _; simp [isDigB]; omega
        have HW : Hid (∀ Q, (48 ≤ s[0].toNat → decide ((s[0].toNat : Int) ≤ 57) = false → Q) → (decide ((48 : Int) ≤ (s[0].toNat : Int)) = false → Q) → Q) := by
          intro Q q1 q2
          by_cases h : 48 ≤ s[0].toNat
          · exact q1 h (by simp; omega)
          · exact q2 (by simp; omega)
        clear hd
        refine HW.out _ ?_ ?_
        all_goals
          intros
          go_enter Try.func24, Try.ntmps24
          go_wp2
          go_loop [25] (fun i => ∃ k : Nat, k ≤ s.size ∧ i = .int .i64 k ∧ (s.data.toList.take k).all sgB = true) (fun i => s.size - (intOf i).toNat)
          case atStart => exact ⟨0, by omega, rfl, by simp⟩
          case round =>
            obtain ⟨k, hk, rfl, hall⟩ := hrel
            by_cases hlt : k < s.size
            · have HT := take_snoc s k hlt
              have HG : Hid (∀ w, Calls Try.prog 38 #[.int .u8 s[k].toNat] w fun e w' => e = .returned (.bool (sgB s[k])) ∧ w' = w) := fun w => inSymbol_any s[k] w
              cases hg : sgB s[k]
              · rw [hg] at HG
                have HQ : Hid (syL s.data.toList = false) := sy_bad s k hlt hg
                clear hall HT hg
                go_wp2_with (go_at_call 38; refine (HG.out _).mono ?_; rintro e w' ⟨rfl, rfl⟩)
                go_ret
                exact ⟨by rw [HQ.out]; rfl, Below.refl _ _⟩
              · rw [hg] at HG
                have HQ : Hid ((s.data.toList.take (k + 1)).all sgB = true) := by show _ = _; rw [HT, List.all_append, hall]; simp [hg]
                clear hall HT hg
                go_wp2_with (go_at_call 38; refine (HG.out _).mono ?_; rintro e w' ⟨rfl, rfl⟩)
                go_round
                case rel => exact ⟨k + 1, by omega, by go_num, HQ.out⟩
                case measure => simp [intOf]; omega
            · obtain rfl : k = s.size := by omega
              rw [List.take_of_length_le (by rw [HL.out]; exact Nat.le_refl _)] at hall
              have HQ : Hid (syL s.data.toList = !deB s.data.toList) := sy_dec s (by omega) hz2 HDG.out hall
              have HR : Hid (∀ w, Calls Try.prog 39 #[.string s] w fun e w' => RdPost s w e w') := fun w => implRd_any s w hs
              clear hall HL
              go_wp2_with fail
              refine (HR.out _).mono ?_
              rintro e w1 ⟨n, k, rfl, hr1, hb1⟩
              obtain rfl := hr1.deB
              clear hr1
              go_wp2
              go_ret
              exact ⟨by rw [HQ.out]; rfl, hb1⟩
    · have HQ : Hid (syL s.data.toList = false) := sy_len s (by omega)
      have e16 : decide ((16 : Int) < (s.size : Int)) = true := by simp; omega
      go_enter Try.func24, Try.ntmps24
      go_wp2
      go_ret
      exact ⟨by rw [HQ.out]; rfl, Below.refl _ _⟩
end Go.Proofs.Ytfjjnngaeccdjaa
