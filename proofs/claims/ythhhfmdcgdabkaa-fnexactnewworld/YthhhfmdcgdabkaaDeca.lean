/- The contract of the model's Dec. -/
import Derived.Test.YthhhfmdcgdabkaaOwn
import Derived.Test.YthhhfmdcgdabkaaDecp
namespace Go.Proofs.Ythhhfmdcgdabkaa
open Go.ChangeShapes Go.WideShapes Go.ChangeAt Go.RowKit
theorem conv_one (w : World) (c : UInt8) : (convert 91 9 (.slice (some ⟨w.heap.size, 0, none⟩) 1 1)).run Try.prog (w.alloc (.cells #[.int .u8 (c.toNat : Int)] 5)) = .ok (.string ⟨#[c]⟩) (w.alloc (.cells #[.int .u8 (c.toNat : Int)] 5)) := by
  refine run_convert_bytes_back _ 91 9 5 ⟨w.heap.size, 0, none⟩ 1 [c] Try.underlying91 Try.underlying5 Try.underlying9 fun j hj => ?_
  match j, hj with
  | 0, _ => simp [Addr.add]
end Go.Proofs.Ythhhfmdcgdabkaa
