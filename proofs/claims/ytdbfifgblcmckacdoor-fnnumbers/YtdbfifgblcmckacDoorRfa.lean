/- The contracts of ReadFixed, of the program and of the model: each tells the number in the first bytes. -/
import Derived.Test.YtdbfifgblcmckacDoorRows
import Derived.WalkKit
import Derived.ProofKit
import Derived.Below
import Derived.Outline
import Derived.WalkSpells
import Derived.WalkLawsBesides
namespace Go.Proofs.YtdbfifgblcmckacDoor
open Go.ChangeShapes Go.WideShapes Go.ChangeAt Go.RowKit
theorem l1In_yes (x lo hi : Int) (w : World) (h1 : lo ≤ x) (h2 : x ≤ hi) :
    Calls Tryd.prog 31 #[.int .i64 x, .int .i64 lo, .int .i64 hi] w fun e w' => e = .returned (.bool true) ∧ w' = w := by
  go_enter Tryd.func31, Tryd.ntmps31
  go_wp2
  go_ret
  exact ⟨rfl, rfl⟩
theorem l1In_low (x lo hi : Int) (w : World) (h1 : x < lo) :
    Calls Tryd.prog 31 #[.int .i64 x, .int .i64 lo, .int .i64 hi] w fun e w' => e = .returned (.bool false) ∧ w' = w := by
  go_enter Tryd.func31, Tryd.ntmps31
  go_wp2
  go_ret
  exact ⟨rfl, rfl⟩
theorem l1In_high (x lo hi : Int) (w : World) (h1 : lo ≤ x) (h2 : hi < x) :
    Calls Tryd.prog 31 #[.int .i64 x, .int .i64 lo, .int .i64 hi] w fun e w' => e = .returned (.bool false) ∧ w' = w := by
  have h3 : decide (x ≤ hi) = false := by simp; omega
  go_enter Tryd.func31, Tryd.ntmps31
  go_wp2
  go_ret
  exact ⟨rfl, rfl⟩

/-- The number in the first k bytes, the highest first. -/
def rfN (s : ByteArray) : Nat → Int
  | 0 => 0
  | k + 1 => rfN s k * 256 + ((s.data.toList.getD k 0).toNat : Int)
theorem rfN_bd (s : ByteArray) : ∀ k, 0 ≤ rfN s k ∧ rfN s k < 256 ^ k
  | 0 => by simp [rfN]
  | k + 1 => by
    have h := rfN_bd s k
    have hb : ((s.data.toList.getD k 0).toNat : Int) < 256 := by have := (s.data.toList.getD k 0).toNat_lt; omega
    have e : (256 : Int) ^ (k + 1) = 256 ^ k * 256 := Int.pow_succ _ _
    simp only [rfN]
    omega
theorem pow7 (k : Nat) (h : k ≤ 6) : (256 : Int) ^ k ≤ 281474976710656 := by
  match k, h with
  | 0, _ | 1, _ | 2, _ | 3, _ | 4, _ | 5, _ | 6, _ => decide
theorem rfN_six (s : ByteArray) (k : Nat) (h : k ≤ 6) : 0 ≤ rfN s k ∧ rfN s k < 281474976710656 := by
  have h1 := rfN_bd s k
  have h2 := pow7 k h
  omega
theorem at_getD (s : ByteArray) (k : Nat) (h : k < s.size) : s.data.toList.getD k 0 = s[k] := by
  rw [List.getD_eq_getElem?_getD, List.getElem?_eq_getElem (by simpa using h)]; rfl
end Go.Proofs.YtdbfifgblcmckacDoor
