/- Plain facts on rows of bytes that a call has made: one byte more, and the text that they are. -/
import Derived.Test.YtlacidojljilaaaGreatDoorRows
import Derived.WalkKit
import Derived.ProofKit
import Derived.Below
import Derived.Outline
import Derived.WalkSpells
import Derived.WalkLawsBesides
import Derived.Laws.IdiomStrings
set_option linter.unusedVariables false
set_option maxRecDepth 100000
set_option maxHeartbeats 8000000
namespace Go.Proofs.YtlacidojljilaaaGreatDoor
open Go.ChangeShapes Go.WideShapes Go.ChangeAt Go.RowKit
def bb (n k : Nat) : Array Bool := ((List.range n).map fun i => k.testBit i).toArray
def vI (x : Int) : Value := .int .i64 x
def vP (b o : Nat) : Value := .pointer (some ⟨b, o, none⟩)
def vS (b o n c : Nat) : Value := .slice (some ⟨b, o, none⟩) n c
def vT : Value := .bool true
def vF : Value := .bool false
def vU : Value := undef
def nZ : Value := .agg #[.int .i64 0, .int .i64 0, .string ⟨#[]⟩, .slice none 0 0, .slice none 0 0]

end Go.Proofs.YtlacidojljilaaaGreatDoor
