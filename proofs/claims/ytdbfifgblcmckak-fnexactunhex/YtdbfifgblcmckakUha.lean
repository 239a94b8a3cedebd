/- The value of a digit: what the model and the program tell of one byte. -/
import Derived.Test.YtdbfifgblcmckakOwn
import Derived.Test.YtdbfifgblcmckakBits
import Derived.Lib.Bytealg
import Derived.Laws.StandIn
namespace Go.Proofs.Ytdbfifgblcmckak
open Go.ChangeShapes Go.WideShapes Go.ChangeAt Go.RowKit
/-- The sixteen digits. -/
def hexS : List UInt8 := [48, 49, 50, 51, 52, 53, 54, 55, 56, 57, 97, 98, 99, 100, 101, 102]
/-- The value of a digit, or -1. -/
def hexV (c : UInt8) : Int := Lib.indexByte hexS c
theorem ext16 (s : ByteArray) (c : UInt8) (w : World) : (callFunc 16 #[.string s, .int .u8 (c.toNat : Int)]).run Try.prog w = .ok (.value (.int .i64 (Lib.indexByte s.data.toList c))) w := by
  rw [run_callFunc_indexByte (fn := Try.f16) (by kernel_rfl) (by kernel_rfl) (by kernel_rfl) (by kernel_rfl) (by kernel_rfl), Lib.run_indexByteString]
  simp [Result.andThen]
theorem ib_any (c : UInt8) (w : World) :
    Calls Try.prog 10 #[.string ⟨#[48, 49, 50, 51, 52, 53, 54, 55, 56, 57, 97, 98, 99, 100, 101, 102]⟩, .int .u8 (c.toNat : Int)] w fun e w' => e = .returned (.int .i64 (hexV c)) ∧ w' = w := by
  have hx : ∀ w, (callFunc 16 #[.string ⟨#[48, 49, 50, 51, 52, 53, 54, 55, 56, 57, 97, 98, 99, 100, 101, 102]⟩, .int .u8 (c.toNat : Int)]).run Try.prog w = .ok (.value (.int .i64 (hexV c))) w := fun w => ext16 _ c w
  go_enter Try.func10, Try.ntmps10
  go_wp2
  go_ret
  exact ⟨rfl, rfl⟩
theorem ib_hit : ∀ (l : List UInt8) (c : UInt8) (k : Nat), (∀ j, j < k → l[j]? ≠ some c) → l[k]? = some c → Lib.indexByte l c = k
  | [], _, _, _, h => by simp at h
  | b :: l, c, 0, _, h => by simp at h; simp [Lib.indexByte, h]
  | b :: l, c, k + 1, hn, h => by
    have h0 : b ≠ c := by have := hn 0 (by omega); simpa using this
    have ih := ib_hit l c k (fun j hj => by have := hn (j + 1) (by omega); simpa using this) (by simpa using h)
    have hb : (b == c) = false := by simpa using h0
    simp only [Lib.indexByte, hb, ih]
    have : (((k : Nat) : Int) == -1) = false := by rw [beq_eq_false_iff_ne]; omega
    simp [this]
theorem ib_miss : ∀ (l : List UInt8) (c : UInt8), (∀ j, j < l.length → l[j]? ≠ some c) → Lib.indexByte l c = -1
  | [], _, _ => rfl
  | b :: l, c, hn => by
    have h0 : b ≠ c := by have := hn 0 (by simp); simpa using this
    have ih := ib_miss l c (fun j hj => by have := hn (j + 1) (by simpa using hj); simpa using this)
    have hb : (b == c) = false := by simpa using h0
    simp [Lib.indexByte, hb, ih]
theorem hexV_bd (c : UInt8) : -1 ≤ hexV c ∧ hexV c ≤ 15 := by
  refine ⟨Lib.indexByte_ge _ _, ?_⟩
  by_cases h : ∃ k : Nat, hexS[k]? = some c
  · obtain ⟨k, hk, hmin⟩ : ∃ k : Nat, hexS[k]? = some c ∧ ∀ j, j < k → hexS[j]? ≠ some c := by
      obtain ⟨k, hk⟩ := h
      induction k using Nat.strongRecOn with
      | _ k ih =>
        by_cases hm : ∃ j, j < k ∧ hexS[j]? = some c
        · obtain ⟨j, hj, hjc⟩ := hm
          exact ih j hj hjc
        · exact ⟨k, hk, fun j hj hc => hm ⟨j, hj, hc⟩⟩
    have hl : k < hexS.length := by
      rcases Nat.lt_or_ge k hexS.length with h | h
      · exact h
      · rw [List.getElem?_eq_none h] at hk; simp at hk
    have := ib_hit hexS c k hmin hk
    unfold hexV
    have h16 : hexS.length = 16 := rfl
    omega
  · have := ib_miss hexS c (fun j _ hj => h ⟨j, hj⟩)
    unfold hexV
    omega
theorem digit_any (k : Nat) (w : World) (h : k < 16) :
    Calls Try.prog 13 #[.int .i64 k] w fun e w' => e = .returned (.int .u8 ((hexS.getD k 0).toNat : Int)) ∧ w' = w := by
  rcases (by omega : k = 0 ∨ k = 1 ∨ k = 2 ∨ k = 3 ∨ k = 4 ∨ k = 5 ∨ k = 6 ∨ k = 7 ∨ k = 8 ∨ k = 9 ∨ k = 10 ∨ k = 11 ∨ k = 12 ∨ k = 13 ∨ k = 14 ∨ k = 15) with rfl | rfl | rfl | rfl | rfl | rfl | rfl | rfl | rfl | rfl | rfl | rfl | rfl | rfl | rfl | rfl
  all_goals
    go_enter Try.func13, Try.ntmps13
    go_wp2
    go_ret
    exact ⟨rfl, rfl⟩
set_option maxHeartbeats 400000 in
theorem fromHex_any (c : UInt8) (w : World) :
    Calls Try.prog 9 #[.int .u8 (c.toNat : Int)] w fun e w' => e = .returned (.int .i64 (hexV c)) ∧ w' = w := by
  go_enter Try.func9, Try.ntmps9
  go_wp2
  go_loop [3] (fun i => ∃ k : Nat, k ≤ 16 ∧ i = .int .i64 k ∧ ∀ j, j < k → hexS[j]? ≠ some c) (fun i => 16 - (intOf i).toNat)
  case atStart => exact ⟨0, by omega, rfl, fun j hj => by omega⟩
  case round =>
    obtain ⟨k, hk, rfl, hno⟩ := hrel
    have HN : Hid _ := hno
    clear hno
    by_cases hlt : k < 16
    · obtain ⟨d, hd⟩ : ∃ d, d = hexS.getD k 0 := ⟨_, rfl⟩
      have HD : Hid (hexS[k]? = some d) := by
        show _ = _
        rw [hd, List.getD_eq_getElem?_getD, List.getElem?_eq_getElem (by exact hlt)]; rfl
      have hcall := fun w => digit_any k w hlt
      rw [← hd] at hcall
      have HC : Hid _ := hcall
      clear hcall hd
      by_cases he : d = c
      · have HV : Hid (hexV c = k) := ib_hit hexS c k HN.out (by rw [HD.out, he])
        have hb : ((d.toNat : Int) == (c.toNat : Int)) = true := by rw [he]; simp
        clear HN HD he
        go_wp2_with (go_at_call 13; refine (HC.out _).mono ?_; rintro e w' ⟨rfl, rfl⟩)
        go_ret
        exact ⟨by rw [HV.out]; rfl, rfl⟩
      · have hb : ((d.toNat : Int) == (c.toNat : Int)) = false := by
          rw [beq_eq_false_iff_ne]
          intro h
          exact he (UInt8.toNat_inj.1 (by omega))
        have HN2 : Hid (∀ j, j < k + 1 → hexS[j]? ≠ some c) := by
          intro j hj
          by_cases hjk : j = k
          · rw [hjk, HD.out]; simpa using he
          · exact HN.out j (by omega)
        clear HN HD he
        go_wp2_with (go_at_call 13; refine (HC.out _).mono ?_; rintro e w' ⟨rfl, rfl⟩)
        go_round
        case rel => exact ⟨k + 1, by omega, by go_num, HN2.out⟩
        case measure => simp [intOf]; omega
    · obtain rfl : k = 16 := by omega
      have HV : Hid (hexV c = -1) := ib_miss hexS c HN.out
      clear HN
      go_wp2
      go_ret
      exact ⟨by rw [HV.out]; rfl, rfl⟩
end Go.Proofs.Ytdbfifgblcmckak
