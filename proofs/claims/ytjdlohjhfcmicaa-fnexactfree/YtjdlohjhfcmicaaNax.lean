/- Which bytes stand in a symbol: the model's and the program's way. The program's way to tell the bytes of a symbol. Which texts are symbols: the model's and the program's way. -/
import Derived.Test.YtjdlohjhfcmicaaNap
import Derived.Test.YtjdlohjhfcmicaaMem
namespace Go.Proofs.Ytjdlohjhfcmicaa
open Go.ChangeShapes Go.WideShapes Go.ChangeAt Go.RowKit
set_option maxRecDepth 100000 in
theorem l2In_any (c : UInt8) (s : ByteArray) (w : World) (hs : s.size ≤ 1048576) :
    Calls Try.prog 65 #[.int .u8 c.toNat, .string s] w fun e w' => e = .returned (.bool (hasB s.data.toList c)) ∧ w' = w := by
  have HL : Hid (s.data.toList.length = s.size) := by show _ = _; simp
  have hc : (c.toNat : Int) < 256 := by have := c.toNat_lt; omega
  go_enter Try.func65, Try.ntmps65
  go_wp2
  go_loop [5] (fun i => ∃ k : Nat, k ≤ s.size ∧ i = .int .i64 k ∧ hasB (s.data.toList.take k) c = false) (fun i => s.size - (intOf i).toNat)
  case atStart => exact ⟨0, by omega, rfl, by simp [hasB]⟩
  case round =>
    obtain ⟨k, hk, rfl, hno⟩ := hrel
    by_cases hlt : k < s.size
    · have hb : (s[k].toNat : Int) < 256 := by have := s[k].toNat_lt; omega
      have HT := take_snoc s k hlt
      by_cases he : s[k] = c
      · have HQ : Hid (hasB s.data.toList c = true) := by
          show List.contains _ _ = _
          rw [List.contains_iff_mem, ← he]
          exact List.mem_of_mem_take (i := k + 1) (by rw [HT]; simp)
        have e1 : ((s[k].toNat : Int) == (c.toNat : Int)) = true := by rw [he]; simp
        clear hno HT he
        go_wp2
        go_ret
        exact ⟨by rw [HQ.out]; rfl, rfl⟩
      · have HQ : Hid (hasB (s.data.toList.take (k + 1)) c = false) := by
          show _ = _
          have he' : ¬ c = s[k] := fun h => he h.symm
          unfold hasB at hno ⊢
          rw [HT, List.contains_append, hno]
          simp [he']
        have e1 : ((s[k].toNat : Int) == (c.toNat : Int)) = false := by
          rw [beq_eq_false_iff_ne]
          intro h
          exact he (UInt8.toNat_inj.1 (by omega))
        clear hno HT he
        go_wp2
        go_round
        case rel => exact ⟨k + 1, by omega, by go_num, HQ.out⟩
        case measure => simp [intOf]; omega
    · obtain rfl : k = s.size := by omega
      rw [List.take_of_length_le (by rw [HL.out]; exact Nat.le_refl _)] at hno
      have HQ : Hid (hasB s.data.toList c = false) := hno
      clear hno
      go_wp2
      go_ret
      exact ⟨by rw [HQ.out]; rfl, rfl⟩
set_option maxRecDepth 100000 in
theorem l2Digit_any (c : UInt8) (w : World) :
    Calls Try.prog 56 #[.int .u8 c.toNat] w fun e w' => e = .returned (.bool (isDigB c)) ∧ w' = w := by
  have hc : (c.toNat : Int) < 256 := by have := c.toNat_lt; omega
  by_cases h1 : 48 ≤ c.toNat
  · by_cases h2 : c.toNat ≤ 57
    · go_enter Try.func56, Try.ntmps56
      go_wp2
      go_ret
      exact ⟨by simp [isDigB, h1, h2]; omega, rfl⟩
    · have e2 : decide ((c.toNat : Int) ≤ 57) = false := by simp; omega
      go_enter Try.func56, Try.ntmps56
      go_wp2
      go_ret
      exact ⟨by simp [isDigB, h2], rfl⟩
  · have e1 : decide ((48 : Int) ≤ (c.toNat : Int)) = false := by simp; omega
    go_enter Try.func56, Try.ntmps56
    go_wp2
    go_ret
    exact ⟨by simp [isDigB, h1], rfl⟩
set_option maxRecDepth 100000 in
theorem l2Sign_any (c : UInt8) (w : World) :
    Calls Try.prog 57 #[.int .u8 c.toNat] w fun e w' => e = .returned (.bool (sgB c)) ∧ w' = w := by
  have HD : Hid (∀ w, Calls Try.prog 56 #[.int .u8 c.toNat] w fun e w' => e = .returned (.bool (isDigB c)) ∧ w' = w) := fun w => l2Digit_any c w
  have HI : Hid (∀ w, Calls Try.prog 65 #[.int .u8 c.toNat, .string ⟨#[33, 63, 42, 47, 60, 61, 62, 43, 45, 95]⟩] w fun e w' => e = .returned (.bool (hasB [33, 63, 42, 47, 60, 61, 62, 43, 45, 95] c)) ∧ w' = w) := fun w => l2In_any c _ w (by decide)
  have hc : (c.toNat : Int) < 256 := by have := c.toNat_lt; omega
  have HS : Hid (sgB c = ((decide (97 ≤ c.toNat) && decide (c.toNat ≤ 122)) || (isDigB c || hasB [33, 63, 42, 47, 60, 61, 62, 43, 45, 95] c))) := rfl
  by_cases hz : 97 ≤ c.toNat ∧ c.toNat ≤ 122
  · obtain ⟨h1, h2⟩ := hz
    have HQ : Hid (sgB c = true) := by show _ = _; rw [HS.out]; simp [h1, h2]
    clear HS
    go_enter Try.func57, Try.ntmps57
    go_wp2_with fail
    go_ret
    exact ⟨by rw [HQ.out]; rfl, rfl⟩
  · have HZ : Hid (sgB c = (isDigB c || hasB [33, 63, 42, 47, 60, 61, 62, 43, 45, 95] c)) := by
      have h := HS.out
      have : (decide (97 ≤ c.toNat) && decide (c.toNat ≤ 122)) = false := by simp; omega
      rw [this] at h
      rw [Bool.false_or] at h
      exact h
    clear HS
    generalize hasB [33, 63, 42, 47, 60, 61, 62, 43, 45, 95] c = q at *
    cases hd : isDigB c
    · rw [hd] at HD HZ
      have HQ : Hid (sgB c = q) := by show _ = _; rw [HZ.out]; simp
      clear HZ hd
      by_cases h1 : 97 ≤ c.toNat
      · have e2 : decide ((c.toNat : Int) ≤ 122) = false := by simp; omega
        clear hz
        go_enter Try.func57, Try.ntmps57
        go_wp2_with (first | (go_at_call 56; refine (HD.out _).mono ?_; rintro e w' ⟨rfl, rfl⟩) | (go_at_call 65; refine (HI.out _).mono ?_; rintro e w' ⟨rfl, rfl⟩))
        go_ret
        exact ⟨by rw [HQ.out]; rfl, rfl⟩
      · have e2 : decide ((97 : Int) ≤ (c.toNat : Int)) = false := by simp; omega
        clear hz
        go_enter Try.func57, Try.ntmps57
        go_wp2_with (first | (go_at_call 56; refine (HD.out _).mono ?_; rintro e w' ⟨rfl, rfl⟩) | (go_at_call 65; refine (HI.out _).mono ?_; rintro e w' ⟨rfl, rfl⟩))
        go_ret
        exact ⟨by rw [HQ.out]; rfl, rfl⟩
    · rw [hd] at HD HZ
      have HQ : Hid (sgB c = true) := by show _ = _; rw [HZ.out]; simp
      clear HZ hd
      by_cases h1 : 97 ≤ c.toNat
      · have e2 : decide ((c.toNat : Int) ≤ 122) = false := by simp; omega
        clear hz
        go_enter Try.func57, Try.ntmps57
        go_wp2_with (first | (go_at_call 56; refine (HD.out _).mono ?_; rintro e w' ⟨rfl, rfl⟩) | (go_at_call 65; refine (HI.out _).mono ?_; rintro e w' ⟨rfl, rfl⟩))
        go_ret
        exact ⟨by rw [HQ.out]; rfl, rfl⟩
      · have e2 : decide ((97 : Int) ≤ (c.toNat : Int)) = false := by simp; omega
        clear hz
        go_enter Try.func57, Try.ntmps57
        go_wp2_with (first | (go_at_call 56; refine (HD.out _).mono ?_; rintro e w' ⟨rfl, rfl⟩) | (go_at_call 65; refine (HI.out _).mono ?_; rintro e w' ⟨rfl, rfl⟩))
        go_ret
        exact ⟨by rw [HQ.out]; rfl, rfl⟩
end Go.Proofs.Ytjdlohjhfcmicaa
namespace Go.Proofs.Ytjdlohjhfcmicaa
open Go.ChangeShapes Go.WideShapes Go.ChangeAt Go.RowKit
theorem sg_low : ∀ n : Nat, n < 64 → sgB (UInt8.ofNat n) = (bits .and .u64 (17581960594867617792 / 2 ^ n) 1 == 1) := by decide +kernel
theorem sg_high : ∀ n : Nat, n < 64 → sgB (UInt8.ofNat (n + 64)) = (bits .and .u64 (576460745860972544 / 2 ^ n) 1 == 1) := by decide +kernel
theorem sg_far : ∀ n : Nat, n < 128 → sgB (UInt8.ofNat (n + 128)) = false := by decide +kernel
theorem ofNat_of {c : UInt8} {n : Nat} (h : c.toNat = n) : c = UInt8.ofNat n := by rw [← h]; simp
theorem shift_far (y : Int) (h : 64 ≤ y) : Op.shift .shr .u64 576460745860972544 .u8 y = pure (.int .u64 0) := by
  have hm : min y.toNat 64 = 64 := by omega
  have hb : IntKind.u64.bits = 64 := rfl
  simp [Op.shift, hb, hm]
  omega
set_option maxRecDepth 100000 in
theorem inSymbol_any (c : UInt8) (w : World) :
    Calls Try.prog 67 #[.int .u8 c.toNat] w fun e w' => e = .returned (.bool (sgB c)) ∧ w' = w := by
  have hc : c.toNat < 256 := c.toNat_lt
  obtain ⟨n, hn⟩ : ∃ n, c.toNat = n := ⟨_, rfl⟩
  have HN : Hid (c = UInt8.ofNat n) := ofNat_of hn
  rw [hn]
  rw [hn] at hc
  clear hn
  by_cases h1 : n < 64
  · have HQ : Hid (sgB c = (bits .and .u64 (17581960594867617792 / 2 ^ n) 1 == 1)) := by show _ = _; rw [HN.out]; exact sg_low n h1
    clear HN
    go_enter Try.func67, Try.ntmps67
    go_wp2
    go_ret
    exact ⟨by rw [HQ.out]; rfl, rfl⟩
  · have e1 : decide ((n : Int) < 64) = false := by simp; omega
    by_cases h2 : n < 128
    · obtain ⟨d, rfl⟩ : ∃ d, n = d + 64 := ⟨n - 64, by omega⟩
      have HQ : Hid (sgB c = (bits .and .u64 (576460745860972544 / 2 ^ d) 1 == 1)) := by show _ = _; rw [HN.out]; exact sg_high d (by omega)
      clear HN
      go_enter Try.func67, Try.ntmps67
      go_wp2
      go_ret
      refine ⟨?_, rfl⟩
      rw [HQ.out]
      simp
    · have HQ : Hid (sgB c = false) := by
        show _ = _
        obtain ⟨d, rfl⟩ : ∃ d, n = d + 128 := ⟨n - 128, by omega⟩
        rw [HN.out]; exact sg_far d (by omega)
      clear HN
      have hsh := shift_far ((n : Int) - 64) (by omega)
      go_enter Try.func67, Try.ntmps67
      go_wp2
      go_ret
      exact ⟨by rw [HQ.out]; rfl, rfl⟩
end Go.Proofs.Ytjdlohjhfcmicaa
namespace Go.Proofs.Ytjdlohjhfcmicaa
open Go.ChangeShapes Go.WideShapes Go.ChangeAt Go.RowKit
theorem sy_len (s : ByteArray) (h : ¬ (1 ≤ s.size ∧ s.size ≤ 16)) : syL s.data.toList = false := by
  have hl : s.data.toList.length = s.size := by simp
  unfold syL
  rw [hl]
  by_cases h1 : 1 ≤ s.size
  · have : ¬ s.size ≤ 16 := fun h2 => h ⟨h1, h2⟩
    simp [this]
  · simp [h1]
theorem head_of (s : ByteArray) (h : 0 < s.size) : s.data.toList.head? = some s[0] := by
  have hl : 0 < s.data.toList.length := by simpa using h
  rw [List.head?_eq_getElem?, List.getElem?_eq_getElem hl]
  rfl
theorem sy_dig (s : ByteArray) (h : 0 < s.size) (hd : isDigB s[0] = true) : syL s.data.toList = false := by
  unfold syL
  rw [head_of s h]
  simp [hd]
theorem sy_bad (s : ByteArray) (k : Nat) (h : k < s.size) (hd : sgB s[k] = false) : syL s.data.toList = false := by
  have hm : s[k] ∈ s.data.toList := List.mem_of_mem_take (i := k + 1) (by rw [take_snoc s k h]; simp)
  have : s.data.toList.all sgB = false := by
    rw [Bool.eq_false_iff]
    intro ha
    have := List.all_eq_true.1 ha _ hm
    rw [hd] at this
    cases this
  unfold syL
  rw [this]
  simp
theorem sy_dec (s : ByteArray) (h1 : 1 ≤ s.size) (h2 : s.size ≤ 16) (hd : isDigB s[0] = false) (ha : s.data.toList.all sgB = true) : syL s.data.toList = !deB s.data.toList := by
  have hl : s.data.toList.length = s.size := by simp
  unfold syL
  rw [head_of s h1, hl, ha]
  simp [hd, h1, h2]
set_option maxRecDepth 100000 in
theorem l1In_any (x lo hi : Int) (w : World) :
    Calls Try.prog 33 #[.int .i64 x, .int .i64 lo, .int .i64 hi] w fun e w' => e = .returned (.bool (decide (lo ≤ x) && decide (x ≤ hi))) ∧ w' = w := by
  by_cases h1 : lo ≤ x
  · by_cases h2 : x ≤ hi
    · have e1 : decide (lo ≤ x) = true := by simp [h1]
      have e2 : decide (x ≤ hi) = true := by simp [h2]
      rw [e1, e2]
      go_enter Try.func33, Try.ntmps33
      go_wp2
      go_ret
      exact ⟨by simp, rfl⟩
    · have e1 : decide (lo ≤ x) = true := by simp [h1]
      have e2 : decide (x ≤ hi) = false := by simp [h2]
      rw [e1, e2]
      go_enter Try.func33, Try.ntmps33
      go_wp2
      go_ret
      exact ⟨by simp, rfl⟩
  · have e1 : decide (lo ≤ x) = false := by simp [h1]
    rw [e1]
    go_enter Try.func33, Try.ntmps33
    go_wp2
    go_ret
    exact ⟨rfl, rfl⟩
set_option maxRecDepth 100000 in
set_option maxHeartbeats 1000000 in
theorem l2Sym_any (s : ByteArray) (w : World) (hs : s.size ≤ 1048576) :
    Calls Try.prog 45 #[.string s] w fun e w' => Ans w (.bool (syL s.data.toList)) e w' := by
  have HL : Hid (s.data.toList.length = s.size) := by show _ = _; simp
  by_cases hz : 1 ≤ s.size ∧ s.size ≤ 16
  · obtain ⟨hz1, hz2⟩ := hz
    have HI : Hid (∀ w, Calls Try.prog 33 #[.int .i64 s.size, .int .i64 1, .int .i64 16] w fun e w' => e = .returned (.bool true) ∧ w' = w) := fun w => by
      have := l1In_any s.size 1 16 w
      rwa [show (decide ((1 : Int) ≤ s.size) && decide ((s.size : Int) ≤ 16)) = true by simp; omega] at this
    have HD : Hid (∀ w, Calls Try.prog 56 #[.int .u8 s[0].toNat] w fun e w' => e = .returned (.bool (isDigB s[0])) ∧ w' = w) := fun w => l2Digit_any s[0] w
    cases hd : isDigB s[0]
    · rw [hd] at HD
      have HDG : Hid (isDigB s[0] = false) := hd
      clear hd
      go_enter Try.func45, Try.ntmps45
      go_wp2_with (first | (go_at_call 33; refine (HI.out _).mono ?_; rintro e w' ⟨rfl, rfl⟩) | (go_at_call 56; refine (HD.out _).mono ?_; rintro e w' ⟨rfl, rfl⟩))
      go_loop [3] (fun i => ∃ k : Nat, k ≤ s.size ∧ i = .int .i64 k ∧ (s.data.toList.take k).all sgB = true) (fun i => s.size - (intOf i).toNat)
      case atStart => exact ⟨0, by omega, rfl, by simp⟩
      case round =>
        obtain ⟨k, hk, rfl, hall⟩ := hrel
        by_cases hlt : k < s.size
        · have HT := take_snoc s k hlt
          have HG : Hid (∀ w, Calls Try.prog 57 #[.int .u8 s[k].toNat] w fun e w' => e = .returned (.bool (sgB s[k])) ∧ w' = w) := fun w => l2Sign_any s[k] w
          cases hg : sgB s[k]
          · rw [hg] at HG
            have HQ : Hid (syL s.data.toList = false) := sy_bad s k hlt hg
            clear hall HT hg
            go_wp2_with (go_at_call 57; refine (HG.out _).mono ?_; rintro e w' ⟨rfl, rfl⟩)
            go_ret
            exact ⟨by rw [HQ.out]; rfl, Below.refl _ _⟩
          · rw [hg] at HG
            have HQ : Hid ((s.data.toList.take (k + 1)).all sgB = true) := by show _ = _; rw [HT, List.all_append, hall]; simp [hg]
            clear hall HT hg
            go_wp2_with (go_at_call 57; refine (HG.out _).mono ?_; rintro e w' ⟨rfl, rfl⟩)
            go_round
            case rel => exact ⟨k + 1, by omega, by go_num, HQ.out⟩
            case measure => simp [intOf]; omega
        · obtain rfl : k = s.size := by omega
          rw [List.take_of_length_le (by rw [HL.out]; exact Nat.le_refl _)] at hall
          have HQ : Hid (syL s.data.toList = !deB s.data.toList) := sy_dec s hz1 hz2 HDG.out hall
          have HR : Hid (∀ w, Calls Try.prog 58 #[.string s] w fun e w' => RdPost s w e w') := fun w => specRd_any s w hs
          clear hall HL
          go_wp2_with fail
          refine (HR.out _).mono ?_
          rintro e w1 ⟨n, k, rfl, hr1, hb1⟩
          obtain rfl := hr1.deB
          clear hr1
          go_wp2
          go_ret
          exact ⟨by rw [HQ.out]; rfl, hb1⟩
    · rw [hd] at HD
      have HQ : Hid (syL s.data.toList = false) := sy_dig s hz1 hd
      clear hd
      go_enter Try.func45, Try.ntmps45
      go_wp2_with (first | (go_at_call 33; refine (HI.out _).mono ?_; rintro e w' ⟨rfl, rfl⟩) | (go_at_call 56; refine (HD.out _).mono ?_; rintro e w' ⟨rfl, rfl⟩))
      go_ret
      exact ⟨by rw [HQ.out]; rfl, Below.refl _ _⟩
  · have HQ : Hid (syL s.data.toList = false) := sy_len s hz
    have HI : Hid (∀ w, Calls Try.prog 33 #[.int .i64 s.size, .int .i64 1, .int .i64 16] w fun e w' => e = .returned (.bool false) ∧ w' = w) := fun w => by
      have := l1In_any s.size 1 16 w
      rwa [show (decide ((1 : Int) ≤ s.size) && decide ((s.size : Int) ≤ 16)) = false by simp; omega] at this
    clear hz
    go_enter Try.func45, Try.ntmps45
    go_wp2_with (go_at_call 33; refine (HI.out _).mono ?_; rintro e w' ⟨rfl, rfl⟩)
    go_ret
    exact ⟨by rw [HQ.out]; rfl, Below.refl _ _⟩
set_option maxRecDepth 100000 in
set_option maxHeartbeats 1000000 in
theorem isSymbol_any (s : ByteArray) (w : World) (hs : s.size ≤ 1048576) :
    Calls Try.prog 63 #[.string s] w fun e w' => Ans w (.bool (syL s.data.toList)) e w' := by
  have HL : Hid (s.data.toList.length = s.size) := by show _ = _; simp
  by_cases h0 : s.size = 0
  · have HQ : Hid (syL s.data.toList = false) := sy_len s (by omega)
    have he : (s.toList == []) = true := by
      rw [ByteArray.toList_eq, beq_iff_eq]
      exact List.eq_nil_of_length_eq_zero (by rw [HL.out]; exact h0)
    have he' : s.toList.isEmpty = true := by
      rw [ByteArray.toList_eq, List.isEmpty_iff]
      exact List.eq_nil_of_length_eq_zero (by rw [HL.out]; exact h0)
    go_enter Try.func63, Try.ntmps63
    go_wp2
    go_ret
    exact ⟨by rw [HQ.out]; rfl, Below.refl _ _⟩
  · have hp : 0 < s.size := by omega
    have he : s.toList.isEmpty = false := by
      rw [ByteArray.toList_eq, List.isEmpty_eq_false_iff]
      intro h
      have := congrArg List.length h
      rw [HL.out, List.length_nil] at this
      omega
    by_cases hz2 : s.size ≤ 16
    · have e16 : decide ((16 : Int) < (s.size : Int)) = false := by simp; omega
      have hb0 : (s[0].toNat : Int) < 256 := by have := s[0].toNat_lt; omega
      by_cases hd : 48 ≤ s[0].toNat ∧ s[0].toNat ≤ 57
      · have HQ : Hid (syL s.data.toList = false) := sy_dig s (by omega) (by simp [isDigB]; omega)
        obtain ⟨hd1, hd2⟩ := hd
        go_enter Try.func63, Try.ntmps63
        go_wp2
        go_ret
        exact ⟨by rw [HQ.out]; rfl, Below.refl _ _⟩
      · have HDG : Hid (isDigB s[0] = false) := by show _ = _; simp [isDigB]; omega
        have HW : Hid (∀ Q, (48 ≤ s[0].toNat → decide ((s[0].toNat : Int) ≤ 57) = false → Q) → (decide ((48 : Int) ≤ (s[0].toNat : Int)) = false → Q) → Q) := by
          intro Q q1 q2
          by_cases h : 48 ≤ s[0].toNat
          · exact q1 h (by simp; omega)
          · exact q2 (by simp; omega)
        clear hd
        refine HW.out _ ?_ ?_
        all_goals
          intros
          go_enter Try.func63, Try.ntmps63
          go_wp2
          go_loop [25] (fun i => ∃ k : Nat, k ≤ s.size ∧ i = .int .i64 k ∧ (s.data.toList.take k).all sgB = true) (fun i => s.size - (intOf i).toNat)
          case atStart => exact ⟨0, by omega, rfl, by simp⟩
          case round =>
            obtain ⟨k, hk, rfl, hall⟩ := hrel
            by_cases hlt : k < s.size
            · have HT := take_snoc s k hlt
              have HG : Hid (∀ w, Calls Try.prog 67 #[.int .u8 s[k].toNat] w fun e w' => e = .returned (.bool (sgB s[k])) ∧ w' = w) := fun w => inSymbol_any s[k] w
              cases hg : sgB s[k]
              · rw [hg] at HG
                have HQ : Hid (syL s.data.toList = false) := sy_bad s k hlt hg
                clear hall HT hg
                go_wp2_with (go_at_call 67; refine (HG.out _).mono ?_; rintro e w' ⟨rfl, rfl⟩)
                go_ret
                exact ⟨by rw [HQ.out]; rfl, Below.refl _ _⟩
              · rw [hg] at HG
                have HQ : Hid ((s.data.toList.take (k + 1)).all sgB = true) := by show _ = _; rw [HT, List.all_append, hall]; simp [hg]
                clear hall HT hg
                go_wp2_with (go_at_call 67; refine (HG.out _).mono ?_; rintro e w' ⟨rfl, rfl⟩)
                go_round
                case rel => exact ⟨k + 1, by omega, by go_num, HQ.out⟩
                case measure => simp [intOf]; omega
            · obtain rfl : k = s.size := by omega
              rw [List.take_of_length_le (by rw [HL.out]; exact Nat.le_refl _)] at hall
              have HQ : Hid (syL s.data.toList = !deB s.data.toList) := sy_dec s (by omega) hz2 HDG.out hall
              have HR : Hid (∀ w, Calls Try.prog 68 #[.string s] w fun e w' => RdPost s w e w') := fun w => implRd_any s w hs
              clear hall HL
              go_wp2_with fail
              refine (HR.out _).mono ?_
              rintro e w1 ⟨n, k, rfl, hr1, hb1⟩
              obtain rfl := hr1.deB
              clear hr1
              go_wp2
              go_ret
              exact ⟨by rw [HQ.out]; rfl, hb1⟩
    · have HQ : Hid (syL s.data.toList = false) := sy_len s (by omega)
      have e16 : decide ((16 : Int) < (s.size : Int)) = true := by simp; omega
      go_enter Try.func63, Try.ntmps63
      go_wp2
      go_ret
      exact ⟨by rw [HQ.out]; rfl, Below.refl _ _⟩
end Go.Proofs.Ytjdlohjhfcmicaa
