/- The law on numbers walked, way by way. -/
import Derived.Test.YtdbfifgblcmckacDoorNumb
namespace Go.Proofs.YtdbfifgblcmckacDoor
open Go.ChangeShapes Go.WideShapes Go.ChangeAt Go.RowKit
/-- A call that answers so in whatever world, and changes nothing that was there. -/
def KC (f : Nat) (args : Array Value) (v : Value) : Prop := ∀ w, Calls Tryd.prog f args w fun e w' => e = .returned v ∧ Below w.heap.size w w'
/-- The same, where the table of the library stands. -/
def KT (f : Nat) (args : Array Value) (v : Value) : Prop := ∀ w, Lib.TabIs Tryd.prog w "internal/strconv.uint64pow10" .u64 Lib.pow10Tab → Calls Tryd.prog f args w fun e w' => e = .returned v ∧ Below w.heap.size w w'
/-- What the road of the law stands on in each world: the code and the table. -/
def Inv (d : Code1) (w : World) : Prop := CodeAt w w.heap.size d ∧ 1 < w.heap.size ∧ Lib.TabIs Tryd.prog w "internal/strconv.uint64pow10" .u64 Lib.pow10Tab
theorem Inv.step {d : Code1} {w w' : World} (h : Inv d w) (hb : Below w.heap.size w w') : Inv d w' :=
  ⟨code_below h.1 hb, Nat.lt_of_lt_of_le h.2.1 hb.size, var?_below hb gPow h.2.1 h.2.2⟩
theorem below_step {a b c : World} (h : Below a.heap.size a b) (hb : Below b.heap.size b c) : Below a.heap.size a c := h.trans (hb.mono h.size)
end Go.Proofs.YtdbfifgblcmckacDoor
