/-
  No cell of these rows narrows 'for every input' (looked for: loops, veiled, ifaces, maps, wideKeys, modest, calm, conditions, laid).
  DERIVED. THE GIVEN ROWS OF THIS SEAT. 5 by the template 'for every input the law returns true; each argument reads behind the call as it read before'; 0 by the template 'total and deterministic' (their statements: YtmnkomgdcebniaaGreatTotals.lean).
  GIVEN WITH THE SEED: the statements are not yours to turn. If you find one false, say at which input.
  Laid BY PROGRAM, IN A SANDBOX (cutbox-rows.mjs): the forced cells as the released guide's own fill.sh prints them over the translation 8aa26e0efde376d8… (all of the seat's roots in one cut). By AI agents, Wed Nov 11 2026. No macro, syntax, notation, axiom, sorry.
-/
import Derived.Test.YtmnkomgdcebniaaGreatChecked
import GoSem.Claim
import GoSem.ClaimJoined
import GoSem.ClaimMapViews
import Derived.JoinedTies
import Derived.KernelRfl
namespace Go.Proofs.YtmnkomgdcebniaaGreat
/- THE CELL 'sum', in the pinned program and in every row, IS THE sha256 OF THE DUMP (.gsa) THAT YtmnkomgdcebniaaGreatProg.lean LOADS. Nothing in Lean hashes anything: it is a label: what it is worth is what the hold of that sum in a sandbox is worth. -/
noncomputable def Tryz.pinned : Pinned := { name := "ytmnkomgdcebniaagreat", sum := "8aa26e0efde376d88a8f6f67438784412ee7abca8debb690f6b468c043f89dd6", checked := Tryz.checked }
namespace Rows
def none {H : Type} : Left H := { results := [], args := [] }

/-- 'laws.FnExactSysOk': WHATEVER THE INPUT: true; the input reads as it did. -/
def fnExactSysOkSpec : ChangeSpec := { name := "fnExactSysOk", fn := fun _ => fun
  | [d] => { results := [.lit (.bool true)], args := [d] }
  | _ => none }
def fnExactSysOkRow : OpenClaim := { program := "ytmnkomgdcebniaagreat", sum := "8aa26e0efde376d88a8f6f67438784412ee7abca8debb690f6b468c043f89dd6", func := "loop.example/g00765/laws.FnExactSysOk", spec := "fnExactSysOk", unfollowed := true, recurses := true, plainKeys := false, apart := false }
def FnExactSysOkSaid : Prop := fnExactSysOkRow.holds Tryz.pinned (OpenSpec.ofChange fnExactSysOkSpec)

/-- ITS FALSE NEIGHBOUR: 'it returns false'. Refute it at one input. -/
def fnExactSysOkWrong : ChangeSpec := { name := "fnExactSysOk", fn := fun _ => fun
  | [d] => { results := [.lit (.bool false)], args := [d] }
  | _ => none }
def FnExactSysOkWrongFalsely : Prop := fnExactSysOkRow.holds Tryz.pinned (OpenSpec.ofChange fnExactSysOkWrong)

/-- 'laws.FnExactLookup': WHATEVER THE INPUT: true; the input reads as it did. -/
def fnExactLookupSpec : ChangeSpec := { name := "fnExactLookup", fn := fun _ => fun
  | [d1, d2, d3] => { results := [.lit (.bool true)], args := [d1, d2, d3] }
  | _ => none }
def fnExactLookupRow : OpenClaim := { program := "ytmnkomgdcebniaagreat", sum := "8aa26e0efde376d88a8f6f67438784412ee7abca8debb690f6b468c043f89dd6", func := "loop.example/g00765/laws.FnExactLookup", spec := "fnExactLookup", unfollowed := true, recurses := true, plainKeys := false, apart := false }
def FnExactLookupSaid : Prop := fnExactLookupRow.holds Tryz.pinned (OpenSpec.ofChange fnExactLookupSpec)

/-- ITS FALSE NEIGHBOUR: 'it returns false'. Refute it at one input. -/
def fnExactLookupWrong : ChangeSpec := { name := "fnExactLookup", fn := fun _ => fun
  | [d1, d2, d3] => { results := [.lit (.bool false)], args := [d1, d2, d3] }
  | _ => none }
def FnExactLookupWrongFalsely : Prop := fnExactLookupRow.holds Tryz.pinned (OpenSpec.ofChange fnExactLookupWrong)

/-- 'laws.FnExactSize': WHATEVER THE INPUT: true; the input reads as it did. -/
def fnExactSizeSpec : ChangeSpec := { name := "fnExactSize", fn := fun _ => fun
  | [d] => { results := [.lit (.bool true)], args := [d] }
  | _ => none }
def fnExactSizeRow : OpenClaim := { program := "ytmnkomgdcebniaagreat", sum := "8aa26e0efde376d88a8f6f67438784412ee7abca8debb690f6b468c043f89dd6", func := "loop.example/g00765/laws.FnExactSize", spec := "fnExactSize", unfollowed := true, recurses := true, plainKeys := false, apart := false }
def FnExactSizeSaid : Prop := fnExactSizeRow.holds Tryz.pinned (OpenSpec.ofChange fnExactSizeSpec)

/-- ITS FALSE NEIGHBOUR: 'it returns false'. Refute it at one input. -/
def fnExactSizeWrong : ChangeSpec := { name := "fnExactSize", fn := fun _ => fun
  | [d] => { results := [.lit (.bool false)], args := [d] }
  | _ => none }
def FnExactSizeWrongFalsely : Prop := fnExactSizeRow.holds Tryz.pinned (OpenSpec.ofChange fnExactSizeWrong)

/-- 'laws.FnExactStart': WHATEVER THE INPUT: true; the input reads as it did. -/
def fnExactStartSpec : ChangeSpec := { name := "fnExactStart", fn := fun _ => fun
  | [d1, d2] => { results := [.lit (.bool true)], args := [d1, d2] }
  | _ => none }
def fnExactStartRow : OpenClaim := { program := "ytmnkomgdcebniaagreat", sum := "8aa26e0efde376d88a8f6f67438784412ee7abca8debb690f6b468c043f89dd6", func := "loop.example/g00765/laws.FnExactStart", spec := "fnExactStart", unfollowed := true, recurses := true, plainKeys := false, apart := false }
def FnExactStartSaid : Prop := fnExactStartRow.holds Tryz.pinned (OpenSpec.ofChange fnExactStartSpec)

/-- ITS FALSE NEIGHBOUR: 'it returns false'. Refute it at one input. -/
def fnExactStartWrong : ChangeSpec := { name := "fnExactStart", fn := fun _ => fun
  | [d1, d2] => { results := [.lit (.bool false)], args := [d1, d2] }
  | _ => none }
def FnExactStartWrongFalsely : Prop := fnExactStartRow.holds Tryz.pinned (OpenSpec.ofChange fnExactStartWrong)

/-- 'laws.FnExactMachineOk': WHATEVER THE INPUT: true; the input reads as it did. -/
def fnExactMachineOkSpec : ChangeSpec := { name := "fnExactMachineOk", fn := fun _ => fun
  | [d1, d2] => { results := [.lit (.bool true)], args := [d1, d2] }
  | _ => none }
def fnExactMachineOkRow : OpenClaim := { program := "ytmnkomgdcebniaagreat", sum := "8aa26e0efde376d88a8f6f67438784412ee7abca8debb690f6b468c043f89dd6", func := "loop.example/g00765/laws.FnExactMachineOk", spec := "fnExactMachineOk", unfollowed := true, recurses := true, plainKeys := false, apart := false }
def FnExactMachineOkSaid : Prop := fnExactMachineOkRow.holds Tryz.pinned (OpenSpec.ofChange fnExactMachineOkSpec)

/-- ITS FALSE NEIGHBOUR: 'it returns false'. Refute it at one input. -/
def fnExactMachineOkWrong : ChangeSpec := { name := "fnExactMachineOk", fn := fun _ => fun
  | [d1, d2] => { results := [.lit (.bool false)], args := [d1, d2] }
  | _ => none }
def FnExactMachineOkWrongFalsely : Prop := fnExactMachineOkRow.holds Tryz.pinned (OpenSpec.ofChange fnExactMachineOkWrong)

/- THE SECOND FORM. 'bulk': how many values and letters a reading holds, each counted each time it is reached (what is shared counts as often as it is met; a slice's spare places count too). A statement '..UptoSaid' is the law's where the arguments, and the package variables that the reading takes, are together of bulk at most 1048576: NARROWER than '..Said'. Prove '..Said' where nothing that the law and all that it calls make is longer than what came in: it says more and counts as full. Else prove '..UptoSaid'. A law counts once. -/
mutual
def uptoBulk {H : Type} : DataW H → Nat
  | .lit (.string bytes) => bytes.length + 1
  | .lit _ => 1
  | .nil => 1
  | .ptr d => uptoBulk d + 1
  | .slice elems spare => uptoBulkAll elems + uptoBulkAll spare + 1
  | .agg parts => uptoBulkAll parts + 1
  | .iface _ d => uptoBulk d + 1
  | .map entries => uptoBulkEntries entries + 1
  | .held _ => 1
def uptoBulkAll {H : Type} : List (DataW H) → Nat
  | [] => 0
  | d :: r => uptoBulk d + uptoBulkAll r
def uptoBulkEntries {H : Type} : List (Lit × DataW H) → Nat
  | [] => 0
  | x :: r => uptoBulkEntry x + uptoBulkEntries r
def uptoBulkEntry {H : Type} : Lit × DataW H → Nat
  | (.string bytes, d) => bytes.length + uptoBulk d + 1
  | (_, d) => uptoBulk d + 1
 end
def uptoSmall : (H : Type) → List (DataW H) → Bool := fun _ ds => decide (uptoBulkAll ds ≤ 1048576)
def OpenSpec.upto (s : _root_.Go.ChangeSpec) : _root_.Go.OpenSpec := { _root_.Go.OpenSpec.ofChange s with cond := some uptoSmall }

/-- 'laws.FnExactSysOk', WHERE WHAT IT READS IS OF BULK AT MOST 1048576: true; the input reads as it did. -/
def fnExactSysOkUptoRow : OpenClaim := { program := "ytmnkomgdcebniaagreat", sum := "8aa26e0efde376d88a8f6f67438784412ee7abca8debb690f6b468c043f89dd6", func := "loop.example/g00765/laws.FnExactSysOk", spec := "fnExactSysOk", unfollowed := true, recurses := true, plainKeys := false, apart := false, narrowed := true }
def FnExactSysOkUptoSaid : Prop := fnExactSysOkUptoRow.holds Tryz.pinned (OpenSpec.upto fnExactSysOkSpec)

/-- 'laws.FnExactLookup', WHERE WHAT IT READS IS OF BULK AT MOST 1048576: true; the input reads as it did. -/
def fnExactLookupUptoRow : OpenClaim := { program := "ytmnkomgdcebniaagreat", sum := "8aa26e0efde376d88a8f6f67438784412ee7abca8debb690f6b468c043f89dd6", func := "loop.example/g00765/laws.FnExactLookup", spec := "fnExactLookup", unfollowed := true, recurses := true, plainKeys := false, apart := false, narrowed := true }
def FnExactLookupUptoSaid : Prop := fnExactLookupUptoRow.holds Tryz.pinned (OpenSpec.upto fnExactLookupSpec)

/-- 'laws.FnExactSize', WHERE WHAT IT READS IS OF BULK AT MOST 1048576: true; the input reads as it did. -/
def fnExactSizeUptoRow : OpenClaim := { program := "ytmnkomgdcebniaagreat", sum := "8aa26e0efde376d88a8f6f67438784412ee7abca8debb690f6b468c043f89dd6", func := "loop.example/g00765/laws.FnExactSize", spec := "fnExactSize", unfollowed := true, recurses := true, plainKeys := false, apart := false, narrowed := true }
def FnExactSizeUptoSaid : Prop := fnExactSizeUptoRow.holds Tryz.pinned (OpenSpec.upto fnExactSizeSpec)

/-- 'laws.FnExactStart', WHERE WHAT IT READS IS OF BULK AT MOST 1048576: true; the input reads as it did. -/
def fnExactStartUptoRow : OpenClaim := { program := "ytmnkomgdcebniaagreat", sum := "8aa26e0efde376d88a8f6f67438784412ee7abca8debb690f6b468c043f89dd6", func := "loop.example/g00765/laws.FnExactStart", spec := "fnExactStart", unfollowed := true, recurses := true, plainKeys := false, apart := false, narrowed := true }
def FnExactStartUptoSaid : Prop := fnExactStartUptoRow.holds Tryz.pinned (OpenSpec.upto fnExactStartSpec)

/-- 'laws.FnExactMachineOk', WHERE WHAT IT READS IS OF BULK AT MOST 1048576: true; the input reads as it did. -/
def fnExactMachineOkUptoRow : OpenClaim := { program := "ytmnkomgdcebniaagreat", sum := "8aa26e0efde376d88a8f6f67438784412ee7abca8debb690f6b468c043f89dd6", func := "loop.example/g00765/laws.FnExactMachineOk", spec := "fnExactMachineOk", unfollowed := true, recurses := true, plainKeys := false, apart := false, narrowed := true }
def FnExactMachineOkUptoSaid : Prop := fnExactMachineOkUptoRow.holds Tryz.pinned (OpenSpec.upto fnExactMachineOkSpec)

end Rows
end Go.Proofs.YtmnkomgdcebniaaGreat
