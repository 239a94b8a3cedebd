/- Systems as plain lists; systems in memory. -/
import Derived.Test.YtlacidojljilaaaGreatDoorRdg
import Derived.Test.YtlacidojljilaaaGreatDoorSzc
import Derived.Test.YtlacidojljilaaaGreatDoorZpx
set_option linter.unusedVariables false
set_option maxRecDepth 100000
set_option maxHeartbeats 8000000
namespace Go.Proofs.YtlacidojljilaaaGreatDoor
open Go.ChangeShapes Go.WideShapes Go.ChangeAt Go.RowKit
def wfS (x : ByteArray) : Prop := x.size ≤ 9223372036854775807
def smS (x : ByteArray) : Prop := x.size ≤ 1048576
theorem smrow_string {l : List ByteArray} (h1 : l.length ≤ 9223372036854775807) (h2 : ∀ d ∈ l, wfS d) (hb : bulkS l ≤ 1048576) : l.length ≤ 1048576 ∧ ∀ d ∈ l, smS d := by
 unfold bulkS at hb
 have hl := bulkOf_len ByteArray.size l
 exact ⟨by omega, fun d hd => by have := bulkOf_mem ByteArray.size hd; unfold smS; omega⟩
theorem smrow_Value {l : List Val} (h1 : l.length ≤ 9223372036854775807) (h2 : ∀ d ∈ l, Val.wf d) (hb : bulkV l ≤ 1048576) : l.length ≤ 1048576 ∧ ∀ d ∈ l, Val.small d := by
 unfold bulkV at hb
 have hl := bulkOf_len (fun v : Val => v.s.size) l
 refine ⟨by omega, fun d hd => ?_⟩
 have := bulkOf_mem (fun v : Val => v.s.size) hd
 obtain ⟨q1, q2, _⟩ := h2 d hd
 exact ⟨q1, q2, by omega⟩
theorem smrow_Cell {l : List Cel} (h1 : l.length ≤ 9223372036854775807) (h2 : ∀ d ∈ l, Cel.wf d) (hb : bulkC l ≤ 1048576) : l.length ≤ 1048576 ∧ ∀ d ∈ l, Cel.small d := by
 have hl := bulkOf_len Cel.bulk l
 exact ⟨by unfold bulkC at hb; omega, small_of h2 hb⟩
theorem smrow_Node {l : List Nod} (h1 : l.length ≤ 9223372036854775807) (h2 : ∀ d ∈ l, Nod.wf d) (hb : bulkN l ≤ 1048576) : l.length ≤ 1048576 ∧ ∀ d ∈ l, Nod.small d :=
 ⟨Nat.le_trans (bulkN_len l) hb, small_ofN h2 hb⟩
structure Prg where
 nodes : List Nod
 root : Int
def Prg.wf (x : Prg) : Prop := (x.nodes.length ≤ 9223372036854775807 ∧ ∀ d ∈ x.nodes, Nod.wf d) ∧ i64B x.root
def Prg.small (x : Prg) : Prop := (x.nodes.length ≤ 1048576 ∧ ∀ d ∈ x.nodes, Nod.small d) ∧ i64B x.root
def Prg.bulk (x : Prg) : Nat := bulkN x.nodes
def PrgRows (w : World) (p : Nat → Prop) (a1 : Option Addr) (c1 : Nat) (x : Prg) : Prop := (rgN.Row w p a1 x.nodes ∧ x.nodes.length ≤ c1)
theorem PrgRows.keep {w w' : World} {p q : Nat → Prop} {a1 : Option Addr} {c1 : Nat} {x : Prg} (h : PrgRows w p a1 c1 x) (hk : ∀ b, p b → q b ∧ w'.heap[b]? = w.heap[b]?) : PrgRows w' q a1 c1 x := by
 obtain ⟨r1, t1⟩ := h
 exact ⟨r1.keep hk, t1⟩
def rgP : Rd Prg where
 n := 2
 At w p cs x := ∃ a1 c1, cs = [.slice a1 x.nodes.length c1, .int .i64 x.root] ∧ PrgRows w p a1 c1 x
 len h := by obtain ⟨_, _, rfl, _⟩ := h; rfl
 keep h hk := by
  obtain ⟨a1, c1, rfl, hr⟩ := h
  exact ⟨a1, c1, rfl, hr.keep hk⟩
theorem Prg.small_of {x : Prg} (h : x.wf) (hb : x.bulk ≤ 1048576) : x.small := by
 obtain ⟨h0, h1⟩ := h
 unfold Prg.bulk at hb
 have qh0 : bulkN x.nodes ≤ 1048576 := by omega
 exact ⟨smrow_Node h0.1 h0.2 qh0, h1⟩
structure Lnk where
 name : ByteArray
 inst : Int
 at_ : ByteArray
def Lnk.wf (x : Lnk) : Prop := x.name.size ≤ 9223372036854775807 ∧ i64B x.inst ∧ x.at_.size ≤ 9223372036854775807
def Lnk.small (x : Lnk) : Prop := x.name.size ≤ 1048576 ∧ i64B x.inst ∧ x.at_.size ≤ 1048576
def Lnk.bulk (x : Lnk) : Nat := x.name.size + (x.at_.size)
def rgL : Rd Lnk where
 n := 3
 At _ _ cs x := cs = [.string x.name, .int .i64 x.inst, .string x.at_]
 len h := by rw [h]; rfl
 keep h _ := h
theorem Lnk.small_of {x : Lnk} (h : x.wf) (hb : x.bulk ≤ 1048576) : x.small := by
 obtain ⟨h0, h1, h2⟩ := h
 unfold Lnk.bulk at hb
 exact ⟨by omega, h1, by omega⟩
theorem smrow_Link {l : List Lnk} (h1 : l.length ≤ 9223372036854775807) (h2 : ∀ d ∈ l, Lnk.wf d) (hb : bulkOf Lnk.bulk l ≤ 1048576) : l.length ≤ 1048576 ∧ ∀ d ∈ l, Lnk.small d := by
 have hl := bulkOf_len Lnk.bulk l
 exact ⟨by omega, fun d hd => Lnk.small_of (h2 d hd) (by have := bulkOf_mem Lnk.bulk hd; omega)⟩
structure Typ where
 name : ByteArray
 size : Int
def Typ.wf (x : Typ) : Prop := x.name.size ≤ 9223372036854775807 ∧ i64B x.size
def Typ.small (x : Typ) : Prop := x.name.size ≤ 1048576 ∧ i64B x.size
def Typ.bulk (x : Typ) : Nat := x.name.size
def rgT : Rd Typ where
 n := 2
 At _ _ cs x := cs = [.string x.name, .int .i64 x.size]
 len h := by rw [h]; rfl
 keep h _ := h
theorem Typ.small_of {x : Typ} (h : x.wf) (hb : x.bulk ≤ 1048576) : x.small := by
 obtain ⟨h0, h1⟩ := h
 unfold Typ.bulk at hb
 exact ⟨by omega, h1⟩
theorem smrow_Type {l : List Typ} (h1 : l.length ≤ 9223372036854775807) (h2 : ∀ d ∈ l, Typ.wf d) (hb : bulkOf Typ.bulk l ≤ 1048576) : l.length ≤ 1048576 ∧ ∀ d ∈ l, Typ.small d := by
 have hl := bulkOf_len Typ.bulk l
 exact ⟨by omega, fun d hd => Typ.small_of (h2 d hd) (by have := bulkOf_mem Typ.bulk hd; omega)⟩
structure Ins where
 lib : ByteArray
 ver : Int
 names : List ByteArray
 vals : List Val
 links : List Lnk
 types : List Typ
def Ins.wf (x : Ins) : Prop := x.lib.size ≤ 9223372036854775807 ∧ i64B x.ver ∧ (x.names.length ≤ 9223372036854775807 ∧ ∀ d ∈ x.names, wfS d) ∧ (x.vals.length ≤ 9223372036854775807 ∧ ∀ d ∈ x.vals, Val.wf d) ∧ (x.links.length ≤ 9223372036854775807 ∧ ∀ d ∈ x.links, Lnk.wf d) ∧ (x.types.length ≤ 9223372036854775807 ∧ ∀ d ∈ x.types, Typ.wf d)
def Ins.small (x : Ins) : Prop := x.lib.size ≤ 1048576 ∧ i64B x.ver ∧ (x.names.length ≤ 1048576 ∧ ∀ d ∈ x.names, smS d) ∧ (x.vals.length ≤ 1048576 ∧ ∀ d ∈ x.vals, Val.small d) ∧ (x.links.length ≤ 1048576 ∧ ∀ d ∈ x.links, Lnk.small d) ∧ (x.types.length ≤ 1048576 ∧ ∀ d ∈ x.types, Typ.small d)
def Ins.bulk (x : Ins) : Nat := x.lib.size + (bulkS x.names + (bulkV x.vals + (bulkOf Lnk.bulk x.links + (bulkOf Typ.bulk x.types))))
def InsRows (w : World) (p : Nat → Prop) (a1 a2 a3 a4 : Option Addr) (c1 c2 c3 c4 : Nat) (x : Ins) : Prop := (rgS.Row w p a1 x.names ∧ x.names.length ≤ c1) ∧ (rgV.Row w p a2 x.vals ∧ x.vals.length ≤ c2) ∧ (rgL.Row w p a3 x.links ∧ x.links.length ≤ c3) ∧ (rgT.Row w p a4 x.types ∧ x.types.length ≤ c4)
theorem InsRows.keep {w w' : World} {p q : Nat → Prop} {a1 a2 a3 a4 : Option Addr} {c1 c2 c3 c4 : Nat} {x : Ins} (h : InsRows w p a1 a2 a3 a4 c1 c2 c3 c4 x) (hk : ∀ b, p b → q b ∧ w'.heap[b]? = w.heap[b]?) : InsRows w' q a1 a2 a3 a4 c1 c2 c3 c4 x := by
 obtain ⟨⟨r1, t1⟩, ⟨r2, t2⟩, ⟨r3, t3⟩, ⟨r4, t4⟩⟩ := h
 exact ⟨⟨r1.keep hk, t1⟩, ⟨r2.keep hk, t2⟩, ⟨r3.keep hk, t3⟩, ⟨r4.keep hk, t4⟩⟩
def rgX : Rd Ins where
 n := 6
 At w p cs x := ∃ a1 a2 a3 a4 c1 c2 c3 c4, cs = [.string x.lib, .int .i64 x.ver, .slice a1 x.names.length c1, .slice a2 x.vals.length c2, .slice a3 x.links.length c3, .slice a4 x.types.length c4] ∧ InsRows w p a1 a2 a3 a4 c1 c2 c3 c4 x
 len h := by obtain ⟨_, _, _, _, _, _, _, _, rfl, _⟩ := h; rfl
 keep h hk := by
  obtain ⟨a1, a2, a3, a4, c1, c2, c3, c4, rfl, hr⟩ := h
  exact ⟨a1, a2, a3, a4, c1, c2, c3, c4, rfl, hr.keep hk⟩
theorem Ins.small_of {x : Ins} (h : x.wf) (hb : x.bulk ≤ 1048576) : x.small := by
 obtain ⟨h0, h1, h2, h3, h4, h5⟩ := h
 unfold Ins.bulk at hb
 have qh2 : bulkS x.names ≤ 1048576 := by omega
 have qh3 : bulkV x.vals ≤ 1048576 := by omega
 have qh4 : bulkOf Lnk.bulk x.links ≤ 1048576 := by omega
 have qh5 : bulkOf Typ.bulk x.types ≤ 1048576 := by omega
 exact ⟨by omega, h1, smrow_string h2.1 h2.2 qh2, smrow_Value h3.1 h3.2 qh3, smrow_Link h4.1 h4.2 qh4, smrow_Type h5.1 h5.2 qh5⟩
theorem smrow_Inst {l : List Ins} (h1 : l.length ≤ 9223372036854775807) (h2 : ∀ d ∈ l, Ins.wf d) (hb : bulkOf Ins.bulk l ≤ 1048576) : l.length ≤ 1048576 ∧ ∀ d ∈ l, Ins.small d := by
 have hl := bulkOf_len Ins.bulk l
 exact ⟨by omega, fun d hd => Ins.small_of (h2 d hd) (by have := bulkOf_mem Ins.bulk hd; omega)⟩
structure Unt where
 home : Int
 prog : Prg
def Unt.wf (x : Unt) : Prop := i64B x.home ∧ x.prog.wf
def Unt.small (x : Unt) : Prop := i64B x.home ∧ x.prog.small
def Unt.bulk (x : Unt) : Nat := x.prog.bulk
def UntRows (w : World) (p : Nat → Prop) (a1 : Option Addr) (c1 : Nat) (x : Unt) : Prop := (rgN.Row w p a1 x.prog.nodes ∧ x.prog.nodes.length ≤ c1)
theorem UntRows.keep {w w' : World} {p q : Nat → Prop} {a1 : Option Addr} {c1 : Nat} {x : Unt} (h : UntRows w p a1 c1 x) (hk : ∀ b, p b → q b ∧ w'.heap[b]? = w.heap[b]?) : UntRows w' q a1 c1 x := by
 obtain ⟨r1, t1⟩ := h
 exact ⟨r1.keep hk, t1⟩
def rgU : Rd Unt where
 n := 3
 At w p cs x := ∃ a1 c1, cs = [.int .i64 x.home, .slice a1 x.prog.nodes.length c1, .int .i64 x.prog.root] ∧ UntRows w p a1 c1 x
 len h := by obtain ⟨_, _, rfl, _⟩ := h; rfl
 keep h hk := by
  obtain ⟨a1, c1, rfl, hr⟩ := h
  exact ⟨a1, c1, rfl, hr.keep hk⟩
theorem Unt.small_of {x : Unt} (h : x.wf) (hb : x.bulk ≤ 1048576) : x.small := by
 obtain ⟨h0, h1⟩ := h
 unfold Unt.bulk at hb
 have qh1 : x.prog.bulk ≤ 1048576 := by omega
 exact ⟨h0, Prg.small_of h1 qh1⟩
theorem smrow_Unit {l : List Unt} (h1 : l.length ≤ 9223372036854775807) (h2 : ∀ d ∈ l, Unt.wf d) (hb : bulkOf Unt.bulk l ≤ 1048576) : l.length ≤ 1048576 ∧ ∀ d ∈ l, Unt.small d := by
 have hl := bulkOf_len Unt.bulk l
 exact ⟨by omega, fun d hd => Unt.small_of (h2 d hd) (by have := bulkOf_mem Unt.bulk hd; omega)⟩
structure Sy where
 heap : List Cel
 insts : List Ins
 units : List Unt
 out : List ByteArray
def yA (y : Sy) (a b c d : Option Addr) (e f g h : Nat) : Value := .agg #[.slice a y.heap.length e, .slice b y.insts.length f, .slice c y.units.length g, .slice d y.out.length h]
def Sy.wf (x : Sy) : Prop := (x.heap.length ≤ 9223372036854775807 ∧ ∀ d ∈ x.heap, Cel.wf d) ∧ (x.insts.length ≤ 9223372036854775807 ∧ ∀ d ∈ x.insts, Ins.wf d) ∧ (x.units.length ≤ 9223372036854775807 ∧ ∀ d ∈ x.units, Unt.wf d) ∧ (x.out.length ≤ 9223372036854775807 ∧ ∀ d ∈ x.out, wfS d)
def Sy.small (x : Sy) : Prop := (x.heap.length ≤ 1048576 ∧ ∀ d ∈ x.heap, Cel.small d) ∧ (x.insts.length ≤ 1048576 ∧ ∀ d ∈ x.insts, Ins.small d) ∧ (x.units.length ≤ 1048576 ∧ ∀ d ∈ x.units, Unt.small d) ∧ (x.out.length ≤ 1048576 ∧ ∀ d ∈ x.out, smS d)
def Sy.bulk (x : Sy) : Nat := bulkC x.heap + (bulkOf Ins.bulk x.insts + (bulkOf Unt.bulk x.units + (bulkS x.out)))
def SyRows (w : World) (p : Nat → Prop) (a1 a2 a3 a4 : Option Addr) (c1 c2 c3 c4 : Nat) (x : Sy) : Prop := (rgC.Row w p a1 x.heap ∧ x.heap.length ≤ c1) ∧ (rgX.Row w p a2 x.insts ∧ x.insts.length ≤ c2) ∧ (rgU.Row w p a3 x.units ∧ x.units.length ≤ c3) ∧ (rgS.Row w p a4 x.out ∧ x.out.length ≤ c4)
theorem SyRows.keep {w w' : World} {p q : Nat → Prop} {a1 a2 a3 a4 : Option Addr} {c1 c2 c3 c4 : Nat} {x : Sy} (h : SyRows w p a1 a2 a3 a4 c1 c2 c3 c4 x) (hk : ∀ b, p b → q b ∧ w'.heap[b]? = w.heap[b]?) : SyRows w' q a1 a2 a3 a4 c1 c2 c3 c4 x := by
 obtain ⟨⟨r1, t1⟩, ⟨r2, t2⟩, ⟨r3, t3⟩, ⟨r4, t4⟩⟩ := h
 exact ⟨⟨r1.keep hk, t1⟩, ⟨r2.keep hk, t2⟩, ⟨r3.keep hk, t3⟩, ⟨r4.keep hk, t4⟩⟩
def rgY : Rd Sy where
 n := 4
 At w p cs x := ∃ a1 a2 a3 a4 c1 c2 c3 c4, cs = [.slice a1 x.heap.length c1, .slice a2 x.insts.length c2, .slice a3 x.units.length c3, .slice a4 x.out.length c4] ∧ SyRows w p a1 a2 a3 a4 c1 c2 c3 c4 x
 len h := by obtain ⟨_, _, _, _, _, _, _, _, rfl, _⟩ := h; rfl
 keep h hk := by
  obtain ⟨a1, a2, a3, a4, c1, c2, c3, c4, rfl, hr⟩ := h
  exact ⟨a1, a2, a3, a4, c1, c2, c3, c4, rfl, hr.keep hk⟩
theorem Sy.small_of {x : Sy} (h : x.wf) (hb : x.bulk ≤ 1048576) : x.small := by
 obtain ⟨h0, h1, h2, h3⟩ := h
 unfold Sy.bulk at hb
 have qh0 : bulkC x.heap ≤ 1048576 := by omega
 have qh1 : bulkOf Ins.bulk x.insts ≤ 1048576 := by omega
 have qh2 : bulkOf Unt.bulk x.units ≤ 1048576 := by omega
 have qh3 : bulkS x.out ≤ 1048576 := by omega
 exact ⟨smrow_Cell h0.1 h0.2 qh0, smrow_Inst h1.1 h1.2 qh1, smrow_Unit h2.1 h2.2 qh2, smrow_string h3.1 h3.2 qh3⟩
end Go.Proofs.YtlacidojljilaaaGreatDoor
