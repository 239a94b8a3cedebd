/- The value of a digit: what the model and the program tell of one byte. -/
import Derived.Test.YtdbfifgblcmckacDoorOwn
import Derived.Test.YtdbfifgblcmckacDoorBits
import Derived.Lib.Bytealg
import Derived.Laws.StandIn
namespace Go.Proofs.YtdbfifgblcmckacDoor
open Go.ChangeShapes Go.WideShapes Go.ChangeAt Go.RowKit
/-- The sixteen digits. -/
def hexS : List UInt8 := [48, 49, 50, 51, 52, 53, 54, 55, 56, 57, 97, 98, 99, 100, 101, 102]
/-- The value of a digit, or -1. -/
def hexV (c : UInt8) : Int := Lib.indexByte hexS c
theorem ext16 (s : ByteArray) (c : UInt8) (w : World) : (callFunc 34 #[.string s, .int .u8 (c.toNat : Int)]).run Tryd.prog w = .ok (.value (.int .i64 (Lib.indexByte s.data.toList c))) w := by
  rw [run_callFunc_indexByte (fn := Tryd.f34) (by kernel_rfl) (by kernel_rfl) (by kernel_rfl) (by kernel_rfl) (by kernel_rfl), Lib.run_indexByteString]
  simp [Result.andThen]
theorem ib_any (c : UInt8) (w : World) :
    Calls Tryd.prog 21 #[.string ⟨#[48, 49, 50, 51, 52, 53, 54, 55, 56, 57, 97, 98, 99, 100, 101, 102]⟩, .int .u8 (c.toNat : Int)] w fun e w' => e = .returned (.int .i64 (hexV c)) ∧ w' = w := by
  have hx : ∀ w, (callFunc 34 #[.string ⟨#[48, 49, 50, 51, 52, 53, 54, 55, 56, 57, 97, 98, 99, 100, 101, 102]⟩, .int .u8 (c.toNat : Int)]).run Tryd.prog w = .ok (.value (.int .i64 (hexV c))) w := fun w => ext16 _ c w
  go_enter Tryd.func21, Tryd.ntmps21
  go_wp2
  go_ret
  exact ⟨rfl, rfl⟩
theorem ib_hit : ∀ (l : List UInt8) (c : UInt8) (k : Nat), (∀ j, j < k → l[j]? ≠ some c) → l[k]? = some c → Lib.indexByte l c = k
  | [], _, _, _, h => by simp at h
  | b :: l, c, 0, _, h => by simp at h; simp [Lib.indexByte, h]
  | b :: l, c, k + 1, hn, h => by
    have h0 : b ≠ c := by have := hn 0 (by omega); simpa using this
    have ih := ib_hit l c k (fun j hj => by have := hn (j + 1) (by omega); simpa using this) (by simpa using h)
    have hb : (b == c) = false := by simpa using h0
    simp only [Lib.indexByte, hb, ih]
    have : (((k : Nat) : Int) == -1) = false := by rw [beq_eq_false_iff_ne]; omega
    simp [this]
theorem ib_miss : ∀ (l : List UInt8) (c : UInt8), (∀ j, j < l.length → l[j]? ≠ some c) → Lib.indexByte l c = -1
  | [], _, _ => rfl
  | b :: l, c, hn => by
    have h0 : b ≠ c := by have := hn 0 (by simp); simpa using this
    have ih := ib_miss l c (fun j hj => by have := hn (j + 1) (by simpa using hj); simpa using this)
    have hb : (b == c) = false := by simpa using h0
    simp [Lib.indexByte, hb, ih]
theorem hexV_bd (c : UInt8) : -1 ≤ hexV c ∧ hexV c ≤ 15 := by
  refine ⟨Lib.indexByte_ge _ _, ?_⟩
  by_cases h : ∃ k : Nat, hexS[k]? = some c
  · obtain ⟨k, hk, hmin⟩ : ∃ k : Nat, hexS[k]? = some c ∧ ∀ j, j < k → hexS[j]? ≠ some c := by
      obtain ⟨k, hk⟩ := h
      induction k using Nat.strongRecOn with
      | _ k ih =>
        by_cases hm : ∃ j, j < k ∧ hexS[j]? = some c
        · obtain ⟨j, hj, hjc⟩ := hm
          exact ih j hj hjc
        · exact ⟨k, hk, fun j hj hc => hm ⟨j, hj, hc⟩⟩
    have hl : k < hexS.length := by
      rcases Nat.lt_or_ge k hexS.length with h | h
      · exact h
      · rw [List.getElem?_eq_none h] at hk; simp at hk
    have := ib_hit hexS c k hmin hk
    unfold hexV
    have h16 : hexS.length = 16 := rfl
    omega
  · have := ib_miss hexS c (fun j _ hj => h ⟨j, hj⟩)
    unfold hexV
    omega
end Go.Proofs.YtdbfifgblcmckacDoor
