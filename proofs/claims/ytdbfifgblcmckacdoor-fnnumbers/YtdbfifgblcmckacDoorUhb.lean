/- The contract of the model's Unhex. -/
import Derived.Test.YtdbfifgblcmckacDoorUha
namespace Go.Proofs.YtdbfifgblcmckacDoor
open Go.ChangeShapes Go.WideShapes Go.ChangeAt Go.RowKit
/-- Byte i of a text. -/
def bAt (s : ByteArray) (i : Nat) : UInt8 := s.data.toList.getD i 0
theorem bAt_eq (s : ByteArray) (k : Nat) (h : k < s.size) : s[k] = bAt s k := by
  unfold bAt
  rw [List.getD_eq_getElem?_getD, List.getElem?_eq_getElem (by simpa using h)]; rfl
/-- Is pair i of digits one? -/
def pairOk (s : ByteArray) (i : Nat) : Prop := 0 ≤ hexV (bAt s (2 * i)) ∧ 0 ≤ hexV (bAt s (2 * i + 1))
/-- The byte of pair i. -/
def pairB (s : ByteArray) (i : Nat) : UInt8 := UInt8.ofNat (16 * hexV (bAt s (2 * i)) + hexV (bAt s (2 * i + 1))).toNat
/-- The bytes of the first k pairs. -/
def uhL (s : ByteArray) : Nat → List UInt8
  | 0 => []
  | k + 1 => uhL s k ++ [pairB s k]
theorem uhL_length (s : ByteArray) : ∀ k, (uhL s k).length = k
  | 0 => rfl
  | k + 1 => by simp [uhL, uhL_length s k]
theorem pairB_nat (s : ByteArray) (i : Nat) (h : pairOk s i) : (((pairB s i).toNat : Nat) : Int) = 16 * hexV (bAt s (2 * i)) + hexV (bAt s (2 * i + 1)) := by
  have h1 := hexV_bd (bAt s (2 * i))
  have h2 := hexV_bd (bAt s (2 * i + 1))
  obtain ⟨h3, h4⟩ := h
  have hb : (UInt8.ofNat (16 * hexV (bAt s (2 * i)) + hexV (bAt s (2 * i + 1))).toNat).toNat = (16 * hexV (bAt s (2 * i)) + hexV (bAt s (2 * i + 1))).toNat := by simp; omega
  unfold pairB
  rw [hb]
  omega
/-- What Unhex answers. -/
def UhRes (s : ByteArray) (l : List UInt8) (b : Bool) : Prop :=
  (s.size % 2 = 0 ∧ (∀ i, i < s.size / 2 → pairOk s i) ∧ b = true ∧ l = uhL s (s.size / 2)) ∨
  ((s.size % 2 ≠ 0 ∨ ∃ i, i < s.size / 2 ∧ ¬ pairOk s i) ∧ b = false ∧ l = [])
theorem UhRes.unique {s : ByteArray} {l l' : List UInt8} {b b' : Bool} (h : UhRes s l b) (h' : UhRes s l' b') : l = l' ∧ b = b' := by
  rcases h with ⟨a1, a2, rfl, rfl⟩ | ⟨a1, rfl, rfl⟩ <;> rcases h' with ⟨b1, b2, rfl, rfl⟩ | ⟨b1, rfl, rfl⟩
  · exact ⟨rfl, rfl⟩
  · rcases b1 with b1 | ⟨i, b1, b2⟩
    · omega
    · exact absurd (a2 i b1) b2
  · rcases a1 with a1 | ⟨i, a1, a2⟩
    · omega
    · exact absurd (b2 i a1) a2
  · exact ⟨rfl, rfl⟩
end Go.Proofs.YtdbfifgblcmckacDoor
