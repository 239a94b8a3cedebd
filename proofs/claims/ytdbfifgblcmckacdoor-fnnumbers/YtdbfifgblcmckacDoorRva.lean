/- The contract of the model's ReadVar. -/
import Derived.Test.YtdbfifgblcmckacDoorRvp
import Derived.Deep.RegionHeld3
namespace Go.Proofs.YtdbfifgblcmckacDoor
open Go.ChangeShapes Go.WideShapes Go.ChangeAt Go.RowKit
theorem rvL_seven (l : List UInt8) (h : l.length ≤ 7) : rvL l ≤ 562949953421311 := by
  have h1 := rvL_lt l
  have h2 : 128 ^ l.length ≤ 128 ^ 7 := Nat.pow_le_pow_right (by omega) h
  omega
theorem drop_take_cons (s : ByteArray) (k m : Nat) (hm : m < k) (hk : k ≤ s.size) : (s.data.toList.take k).drop m = (s[m]'(by omega)) :: (s.data.toList.take k).drop (m + 1) := by
  have hl : m < (s.data.toList.take k).length := by rw [List.length_take]; have : s.data.toList.length = s.size := by simp
                                                    omega
  rw [List.drop_eq_getElem_cons hl]
  congr 1
  simp
  rfl
theorem extract_front (s : ByteArray) (k : Nat) : (s.extract 0 k).toList = s.data.toList.take k := by
  rw [ByteArray.toList_eq]
  simp
end Go.Proofs.YtdbfifgblcmckacDoor
