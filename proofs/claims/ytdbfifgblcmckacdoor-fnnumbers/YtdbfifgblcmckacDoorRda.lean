/- The contract of the model's ReadDec. -/
import Derived.Test.YtdbfifgblcmckacDoorOwn
import Derived.Test.YtdbfifgblcmckacDoorDecp
import Derived.Test.YtdbfifgblcmckacDoorRdp
namespace Go.Proofs.YtdbfifgblcmckacDoor
open Go.ChangeShapes Go.WideShapes Go.ChangeAt Go.RowKit
theorem take_snoc (s : ByteArray) (k : Nat) (h : k < s.size) : s.data.toList.take (k + 1) = s.data.toList.take k ++ [s[k]] := by
  rw [List.take_succ_eq_append_getElem (by simpa using h)]; rfl
theorem fd_bd (s : ByteArray) (k : Nat) (h : k ≤ 11) : (fdL (s.data.toList.take k)).length ≤ k ∧ val (fdL (s.data.toList.take k)) < 100000000000 := by
  have h1 := fdL_len (s.data.toList.take k)
  have h2 := fdL_val (s.data.toList.take k)
  have h3 : (s.data.toList.take k).length ≤ k := List.length_take_le _ _
  have h4 : 10 ^ (fdL (s.data.toList.take k)).length ≤ 10 ^ 11 := Nat.pow_le_pow_right (by omega) (by omega)
  omega
/-- What a call of ReadDec leaves. -/
def RdPost (s : ByteArray) (w : World) (e : Ending) (w' : World) : Prop := ∃ (n : Int) (b : Bool), e = .returned (.tuple #[.int .i64 n, .bool b]) ∧ RdRes s.data.toList n b ∧ Below w.heap.size w w'
end Go.Proofs.YtdbfifgblcmckacDoor
