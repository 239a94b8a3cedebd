/- The model's primitives. -/
import Derived.Test.YtngelfohpkpekaaPmp
import Derived.Deep.RegionWith
import Derived.Deep.RegionLaw
import Derived.Deep.CutRange
set_option linter.unusedVariables false
namespace Go.Proofs.Ytngelfohpkpekaa
open Go.ChangeShapes Go.WideShapes Go.ChangeAt Go.RowKit
/-- What a primitive leaves: a heap of its own, a value, a number. -/
def PpPost (B : Nat) (r : List Cel × Val × Int) (w : World) (e : Ending) (w' : World) : Prop := ∃ hv, e = .returned (.tuple #[hv, .agg #[.int .i64 r.2.1.k, .int .i64 r.2.1.n, .string r.2.1.s], .int .i64 r.2.2]) ∧ OwnH w' B w'.heap.size hv r.1 ∧ Below B w w'
theorem OwnH.fin {w w' : World} {B : Nat} {v : Value} {h : List Cel} (ho : OwnH w B w.heap.size v h) (hb : Below w.heap.size w w') : OwnH w' B w'.heap.size v h := (ho.below hb).weak (Nat.le_refl _) hb.size
theorem num_of_ok {h : List Cel} {n : Int} {s : ByteArray} (hv : (⟨1, n, s⟩ : Val).ok h = true) : -1000000 ≤ n ∧ n ≤ 1000000 := by
  simp [Val.ok] at hv
  omega
end Go.Proofs.Ytngelfohpkpekaa
