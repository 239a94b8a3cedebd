/- The contract of the model's ReadDec. -/
import Derived.Test.YtfjjnngaeccdjaaDeca
import Derived.Test.YtfjjnngaeccdjaaRdp
namespace Go.Proofs.Ytfjjnngaeccdjaa
open Go.ChangeShapes Go.WideShapes Go.ChangeAt Go.RowKit
theorem take_snoc (s : ByteArray) (k : Nat) (h : k < s.size) : s.data.toList.take (k + 1) = s.data.toList.take k ++ [s[k]] := by
  rw [List.take_succ_eq_append_getElem (by simpa using h)]; rfl
theorem fd_bd (s : ByteArray) (k : Nat) (h : k ≤ 11) : (fdL (s.data.toList.take k)).length ≤ k ∧ val (fdL (s.data.toList.take k)) < 100000000000 := by
  have h1 := fdL_len (s.data.toList.take k)
  have h2 := fdL_val (s.data.toList.take k)
  have h3 : (s.data.toList.take k).length ≤ k := List.length_take_le _ _
  have h4 : 10 ^ (fdL (s.data.toList.take k)).length ≤ 10 ^ 11 := Nat.pow_le_pow_right (by omega) (by omega)
  omega
/-- What a call of ReadDec leaves. -/
def RdPost (s : ByteArray) (w : World) (e : Ending) (w' : World) : Prop := ∃ (n : Int) (b : Bool), e = .returned (.tuple #[.int .i64 n, .bool b]) ∧ RdRes s.data.toList n b ∧ Below w.heap.size w w'
set_option maxRecDepth 100000 in
set_option maxHeartbeats 1000000 in
theorem specRd_any (s : ByteArray) (w : World) (hs : s.size ≤ 1048576) :
    Calls Try.prog 36 #[.string s] w fun e w' => RdPost s w e w' := by
  have HL : Hid (s.data.toList.length = s.size) := by show _ = _; simp
  go_enter Try.func36, Try.ntmps36
  go_wp2
  go_loop [4, 5, 6] (fun n k i => ∃ j : Nat, j ≤ 11 ∧ j ≤ s.size ∧ i = .int .i64 j ∧ k = .int .i64 ((fdL (s.data.toList.take j)).length : Nat) ∧ n = .int .i64 (val (fdL (s.data.toList.take j)) : Nat)) (fun _ _ i => 12 - (intOf i).toNat)
  case atStart => exact ⟨0, by omega, by omega, rfl, rfl, rfl⟩
  case round =>
    obtain ⟨j, hj, hjs, rfl, rfl, rfl⟩ := hrel
    obtain ⟨bd1, bd2⟩ := fd_bd s j hj
    by_cases hlt : j < s.size ∧ j < 11
    · obtain ⟨hlt, hlt2⟩ := hlt
      have hb : (s[j].toNat : Int) < 256 := by have := s[j].toNat_lt; omega
      have HT : Hid (fdL (s.data.toList.take (j + 1)) = if isDigB s[j] then fdL (s.data.toList.take j) ++ [s[j]] else fdL (s.data.toList.take j)) := by
        show _ = _; rw [take_snoc s j hlt, fdL_snoc]
      have HV : Hid (val (fdL (s.data.toList.take j) ++ [s[j]]) = val (fdL (s.data.toList.take j)) * 10 + (s[j].toNat - 48)) := val_snoc _ _
      generalize fdL (s.data.toList.take j) = l at *
      by_cases hd : 48 ≤ s[j].toNat ∧ s[j].toNat ≤ 57
      · obtain ⟨hd1, hd2⟩ := hd
        have HT2 : Hid (fdL (s.data.toList.take (j + 1)) = l ++ [s[j]]) := by
          have : isDigB s[j] = true := by simp [isDigB]; omega
          have h := HT.out
          rw [this] at h
          exact h
        clear HT
        generalize val l = v at *
        go_wp2
        go_round
        case rel => exact ⟨j + 1, by omega, by omega, by go_num, by rw [HT2.out]; simp, by rw [HT2.out, HV.out]; go_num⟩
        case measure => simp [intOf]; omega
      · have HT2 : Hid (fdL (s.data.toList.take (j + 1)) = l) := by
          have : isDigB s[j] = false := by simp [isDigB]; omega
          have h := HT.out
          rw [this] at h
          exact h
        clear HT HV
        by_cases hd1 : 48 ≤ s[j].toNat
        · have hd2 : decide ((s[j].toNat : Int) ≤ 57) = false := by simp; omega
          clear hd
          go_wp2
          go_round
          case rel => exact ⟨j + 1, by omega, by omega, by go_num, by rw [HT2.out], by rw [HT2.out]⟩
          case measure => simp [intOf]; omega
        · clear hd
          go_wp2
          go_round
          case rel => exact ⟨j + 1, by omega, by omega, by go_num, by rw [HT2.out], by rw [HT2.out]⟩
          case measure => simp [intOf]; omega
    · obtain ⟨l, hl⟩ : ∃ l, l = s.data.toList := ⟨_, rfl⟩
      have HLL : Hid (l = s.data.toList) := hl
      have hlen : l.length = s.size := by rw [hl]; exact HL.out
      rw [← hl] at bd1 bd2 ⊢
      clear hl
      by_cases h10 : s.size ≤ 10
      · obtain rfl : j = s.size := by omega
        have htk : l.take s.size = l := List.take_of_length_le (by omega)
        rw [htk] at bd1 bd2 ⊢
        clear htk
        by_cases hk9 : (fdL l).length ≤ 9
        · have hk9' : decide (9 < (fdL l).length) = false := by simp; omega
          have h10' : decide ((10 : Int) < (s.size : Int)) = false := by simp; omega
          have xbd := rdX_bd l hk9
          by_cases hp : 0 < s.size
          · by_cases hm : s[0].toNat = 45
            · have hx : rdX l = -((val (fdL l) : Nat) : Int) := if_pos (by
                rw [HLL.out, List.head?_eq_getElem?, List.getElem?_eq_getElem (by rw [HL.out]; exact hp)]
                have h45 : s[0] = 45 := UInt8.toNat_inj.1 hm
                exact congrArg some h45)
              have HI : Hid (∀ w, Calls Try.prog 51 #[.int .i64 (-((val (fdL l) : Nat) : Int))] w fun e w' => e = .returned (.string ⟨(decL (rdX l)).toArray⟩) ∧ Below w.heap.size w w') := fun w => by rw [← hx]; exact specDec_any _ w (by omega) (by omega)
              have hm' : ((s[0].toNat : Int) == 45) = true := by rw [beq_iff_eq]; omega
              have hB := rdB l hk9
              have hC := rdC l
              rw [hx] at hB hC xbd HI
              have HB : Hid _ := hB
              have HC : Hid _ := hC
              clear hx hm hB hC hlen
              generalize decL (-((val (fdL l) : Nat) : Int)) = d at *
              generalize val (fdL l) = v at *
              generalize (fdL l).length = kk at *
              have hts : s.toList = l := by rw [HLL.out, ByteArray.toList_eq]
              by_cases he : d = l
              · have HR : Hid (RdRes s.data.toList (-(v : Int)) true) := by have := HB.out he; rwa [HLL.out] at this
                have hq : (d == s.toList) = true := by rw [hts, he]; simp
                clear HB HC HLL hts he
                go_wp2_with (go_at_call 51; refine (HI.out _).mono ?_; rintro e w' ⟨rfl, hb1⟩)
                go_ret2
                exact ⟨_, _, rfl, HR.out, hb1⟩
              · have HR : Hid (RdRes s.data.toList 0 false) := by have := HC.out he; rwa [HLL.out] at this
                have hq : (d == s.toList) = false := by rw [hts]; simpa using he
                clear HB HC HLL hts he
                go_wp2_with (go_at_call 51; refine (HI.out _).mono ?_; rintro e w' ⟨rfl, hb1⟩)
                go_ret2
                exact ⟨_, _, rfl, HR.out, hb1⟩
            · have hx : rdX l = ((val (fdL l) : Nat) : Int) := if_neg (by
                rw [HLL.out, List.head?_eq_getElem?, List.getElem?_eq_getElem (by rw [HL.out]; exact hp)]
                intro h45
                have h46 : s[0] = 45 := Option.some.inj h45
                exact hm (by rw [h46]; rfl))
              have HI : Hid (∀ w, Calls Try.prog 51 #[.int .i64 ((val (fdL l) : Nat) : Int)] w fun e w' => e = .returned (.string ⟨(decL (rdX l)).toArray⟩) ∧ Below w.heap.size w w') := fun w => by rw [← hx]; exact specDec_any _ w (by omega) (by omega)
              have hm' : ((s[0].toNat : Int) == 45) = false := by rw [beq_eq_false_iff_ne]; omega
              have hB := rdB l hk9
              have hC := rdC l
              rw [hx] at hB hC xbd HI
              have HB : Hid _ := hB
              have HC : Hid _ := hC
              clear hx hm hB hC hlen
              generalize decL (((val (fdL l) : Nat) : Int)) = d at *
              generalize val (fdL l) = v at *
              generalize (fdL l).length = kk at *
              have hts : s.toList = l := by rw [HLL.out, ByteArray.toList_eq]
              by_cases he : d = l
              · have HR : Hid (RdRes s.data.toList ((v : Int)) true) := by have := HB.out he; rwa [HLL.out] at this
                have hq : (d == s.toList) = true := by rw [hts, he]; simp
                clear HB HC HLL hts he
                go_wp2_with (go_at_call 51; refine (HI.out _).mono ?_; rintro e w' ⟨rfl, hb1⟩)
                go_ret2
                exact ⟨_, _, rfl, HR.out, hb1⟩
              · have HR : Hid (RdRes s.data.toList 0 false) := by have := HC.out he; rwa [HLL.out] at this
                have hq : (d == s.toList) = false := by rw [hts]; simpa using he
                clear HB HC HLL hts he
                go_wp2_with (go_at_call 51; refine (HI.out _).mono ?_; rintro e w' ⟨rfl, hb1⟩)
                go_ret2
                exact ⟨_, _, rfl, HR.out, hb1⟩
          · have HI : Hid (∀ w, Calls Try.prog 51 #[.int .i64 0] w fun e w' => e = .returned (.string ⟨(decL 0).toArray⟩) ∧ Below w.heap.size w w') := fun w => specDec_zero w
            obtain rfl : l = [] := List.eq_nil_of_length_eq_zero (by omega)
            have HR : Hid (RdRes s.data.toList 0 false) := by have := rdC [] (by decide); rwa [HLL.out] at this
            have hts : s.toList = [] := by rw [ByteArray.toList_eq, ← HLL.out]
            have hv : val (fdL []) = 0 := rfl
            have hll : (fdL []).length = 0 := rfl
            have hq : (decL 0 == s.toList) = false := by rw [hts]; rfl
            have hps : s.size = 0 := by omega
            rw [hv, hll]
            clear HLL hts hk9 xbd hk9' bd1 bd2 hv hll
            generalize decL 0 = d at *
            go_wp2_with (go_at_call 51; refine (HI.out _).mono ?_; rintro e w' ⟨rfl, hb1⟩)
            go_ret2
            exact ⟨_, _, rfl, HR.out, hb1⟩
        · have HR : Hid (RdRes s.data.toList 0 false) := by
            have := rdA l (.inl (by rw [List.take_of_length_le (by omega)]; omega))
            rwa [HLL.out] at this
          have hk9' : 9 < (fdL l).length := by omega
          clear hlen HLL
          generalize val (fdL l) = v at *
          generalize (fdL l).length = kk at *
          by_cases hp : 0 < s.size
          · go_wp2
            all_goals
              go_ret2
              exact ⟨0, false, rfl, HR.out, Below.refl _ _⟩
          · go_wp2
            all_goals
              go_ret2
              exact ⟨0, false, rfl, HR.out, Below.refl _ _⟩
      · obtain rfl : j = 11 := by omega
        have HR : Hid (RdRes l 0 false) := rdA l (.inr (by omega))
        generalize fdL (l.take 11) = m at *
        generalize val m = v at *
        generalize m.length = kk at *
        have g1 : decide ((10 : Int) < (s.size : Int)) = true := by simp; omega
        clear hlen
        have HR2 : Hid (RdRes s.data.toList 0 false) := by have := HR.out; rwa [HLL.out] at this
        clear HR HLL
        by_cases hlt3 : (11 : Int) < s.size
        · go_wp2
          all_goals
            go_ret2
            exact ⟨0, false, rfl, HR2.out, Below.refl _ _⟩
        · go_wp2
          all_goals
            go_ret2
            exact ⟨0, false, rfl, HR2.out, Below.refl _ _⟩
end Go.Proofs.Ytfjjnngaeccdjaa
