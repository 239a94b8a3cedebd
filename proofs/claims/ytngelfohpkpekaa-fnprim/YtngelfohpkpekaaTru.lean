/- What is true: the program's Truth and the model's. -/
import Derived.Test.YtngelfohpkpekaaVlp
set_option linter.unusedVariables false
namespace Go.Proofs.Ytngelfohpkpekaa
open Go.ChangeShapes Go.WideShapes Go.ChangeAt Go.RowKit
/-- Is it anything but the VaBool 0? -/
def Val.truth (d : Val) : Bool := !(decide (d.k = 2) && decide (d.n = 0) && decide (d.s.toList = []))
set_option maxRecDepth 100000 in
set_option maxHeartbeats 1000000 in
theorem specTruth_any (d : Val) (w : World) : Calls Try.prog 44 #[.agg #[.int .i64 d.k, .int .i64 d.n, .string d.s]] w fun e w' => Ans w (.bool d.truth) e w' := by
  go_enter Try.func44, Try.ntmps44
  go_wp2
  all_goals
    go_ret
    refine ⟨by simp_all [Val.truth], (Below.refl _ _).alloc (Nat.le_refl _) _⟩
set_option maxRecDepth 100000 in
set_option maxHeartbeats 1000000 in
theorem implTruth_any (d : Val) (w : World) : Calls Try.prog 10 #[.agg #[.int .i64 d.k, .int .i64 d.n, .string d.s]] w fun e w' => Ans w (.bool d.truth) e w' := by
  go_enter Try.func10, Try.ntmps10
  go_wp2
  all_goals
    go_ret
    refine ⟨by simp_all [Val.truth], (Below.refl _ _).alloc (Nat.le_refl _) _⟩
end Go.Proofs.Ytngelfohpkpekaa
