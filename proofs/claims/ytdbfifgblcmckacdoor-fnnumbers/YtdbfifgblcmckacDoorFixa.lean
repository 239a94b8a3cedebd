/- The contract of the model's Fixed: so many bytes, the highest first. -/
import Derived.Test.YtdbfifgblcmckacDoorRfa
import Derived.Test.YtdbfifgblcmckacDoorOwn
import Derived.Test.YtdbfifgblcmckacDoorBits
namespace Go.Proofs.YtdbfifgblcmckacDoor
open Go.ChangeShapes Go.WideShapes Go.ChangeAt Go.RowKit
/-- The k lowest bytes of n, the highest first. -/
def fixL (n : Nat) : Nat → List UInt8
  | 0 => []
  | k + 1 => UInt8.ofNat (n / 256 ^ k % 256) :: fixL n k
theorem fixL_length (n : Nat) : ∀ k, (fixL n k).length = k
  | 0 => rfl
  | k + 1 => by simp [fixL, fixL_length n k]
/-- The answer of Fixed. -/
def fixR (n width : Nat) : List UInt8 := if n / 256 ^ width = 0 then fixL n width else []
theorem conv_one (w : World) (c : UInt8) : (convert 22 9 (.slice (some ⟨w.heap.size, 0, none⟩) 1 1)).run Tryd.prog (w.alloc (.cells #[.int .u8 (c.toNat : Int)] 5)) = .ok (.string ⟨#[c]⟩) (w.alloc (.cells #[.int .u8 (c.toNat : Int)] 5)) := by
  refine run_convert_bytes_back _ 22 9 5 ⟨w.heap.size, 0, none⟩ 1 [c] Tryd.underlying22 Tryd.underlying5 Tryd.underlying9 fun j hj => ?_
  match j, hj with
  | 0, _ => simp [Addr.add]
end Go.Proofs.YtdbfifgblcmckacDoor
