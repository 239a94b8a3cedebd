/- Systems as plain lists; systems in memory. -/
import Derived.Test.YtamjofdgikifnaaGreatRdg
import Derived.Test.YtamjofdgikifnaaGreatSzc
import Derived.Test.YtamjofdgikifnaaGreatZpx
set_option linter.unusedVariables false
namespace Go.Proofs.YtamjofdgikifnaaGreat
open Go.ChangeShapes Go.WideShapes Go.ChangeAt Go.RowKit
def wfS (x : ByteArray) : Prop := x.size ≤ 9223372036854775807
def smS (x : ByteArray) : Prop := x.size ≤ 1048576
theorem smrow_string {l : List ByteArray} (h1 : l.length ≤ 9223372036854775807) (h2 : ∀ d ∈ l, wfS d) (hb : bulkS l ≤ 1048576) : l.length ≤ 1048576 ∧ ∀ d ∈ l, smS d := by
  unfold bulkS at hb
  have hl := bulkOf_len ByteArray.size l
  exact ⟨by omega, fun d hd => by have := bulkOf_mem ByteArray.size hd; unfold smS; omega⟩
theorem smrow_Value {l : List Val} (h1 : l.length ≤ 9223372036854775807) (h2 : ∀ d ∈ l, Val.wf d) (hb : bulkV l ≤ 1048576) : l.length ≤ 1048576 ∧ ∀ d ∈ l, Val.small d := by
  unfold bulkV at hb
  have hl := bulkOf_len (fun v : Val => v.s.size) l
  refine ⟨by omega, fun d hd => ?_⟩
  have := bulkOf_mem (fun v : Val => v.s.size) hd
  obtain ⟨q1, q2, _⟩ := h2 d hd
  exact ⟨q1, q2, by omega⟩
theorem smrow_Cell {l : List Cel} (h1 : l.length ≤ 9223372036854775807) (h2 : ∀ d ∈ l, Cel.wf d) (hb : bulkC l ≤ 1048576) : l.length ≤ 1048576 ∧ ∀ d ∈ l, Cel.small d := by
  have hl := bulkOf_len Cel.bulk l
  exact ⟨by unfold bulkC at hb; omega, small_of h2 hb⟩
theorem smrow_Node {l : List Nod} (h1 : l.length ≤ 9223372036854775807) (h2 : ∀ d ∈ l, Nod.wf d) (hb : bulkN l ≤ 1048576) : l.length ≤ 1048576 ∧ ∀ d ∈ l, Nod.small d :=
  ⟨Nat.le_trans (bulkN_len l) hb, small_ofN h2 hb⟩
structure Prg where
  nodes : List Nod
  root : Int
def Prg.wf (x : Prg) : Prop := (x.nodes.length ≤ 9223372036854775807 ∧ ∀ d ∈ x.nodes, Nod.wf d) ∧ i64B x.root
def Prg.small (x : Prg) : Prop := (x.nodes.length ≤ 1048576 ∧ ∀ d ∈ x.nodes, Nod.small d) ∧ i64B x.root
def Prg.bulk (x : Prg) : Nat := bulkN x.nodes
def PrgRows (w : World) (p : Nat → Prop) (a1 : Option Addr) (c1 : Nat) (x : Prg) : Prop := (rgN.Row w p a1 x.nodes ∧ x.nodes.length ≤ c1)
theorem PrgRows.keep {w w' : World} {p q : Nat → Prop} {a1 : Option Addr} {c1 : Nat} {x : Prg} (h : PrgRows w p a1 c1 x) (hk : ∀ b, p b → q b ∧ w'.heap[b]? = w.heap[b]?) : PrgRows w' q a1 c1 x := by
  obtain ⟨r1, t1⟩ := h
  exact ⟨r1.keep hk, t1⟩
def rgP : Rd Prg where
  n := 2
  At w p cs x := ∃ a1 c1, cs = [.slice a1 x.nodes.length c1, .int .i64 x.root] ∧ PrgRows w p a1 c1 x
  len h := by obtain ⟨_, _, rfl, _⟩ := h; rfl
  keep h hk := by
    obtain ⟨a1, c1, rfl, hr⟩ := h
    exact ⟨a1, c1, rfl, hr.keep hk⟩
theorem Prg.small_of {x : Prg} (h : x.wf) (hb : x.bulk ≤ 1048576) : x.small := by
  obtain ⟨h0, h1⟩ := h
  unfold Prg.bulk at hb
  have qh0 : bulkN x.nodes ≤ 1048576 := by omega
  exact ⟨smrow_Node h0.1 h0.2 qh0, h1⟩
theorem smrow_Prog {l : List Prg} (h1 : l.length ≤ 9223372036854775807) (h2 : ∀ d ∈ l, Prg.wf d) (hb : bulkOf Prg.bulk l ≤ 1048576) : l.length ≤ 1048576 ∧ ∀ d ∈ l, Prg.small d := by
  have hl := bulkOf_len Prg.bulk l
  exact ⟨by omega, fun d hd => Prg.small_of (h2 d hd) (by have := bulkOf_mem Prg.bulk hd; omega)⟩
structure Typ where
  name : ByteArray
  size : Int
def Typ.wf (x : Typ) : Prop := x.name.size ≤ 9223372036854775807 ∧ i64B x.size
def Typ.small (x : Typ) : Prop := x.name.size ≤ 1048576 ∧ i64B x.size
def Typ.bulk (x : Typ) : Nat := x.name.size
def rgT : Rd Typ where
  n := 2
  At _ _ cs x := cs = [.string x.name, .int .i64 x.size]
  len h := by rw [h]; rfl
  keep h _ := h
theorem Typ.small_of {x : Typ} (h : x.wf) (hb : x.bulk ≤ 1048576) : x.small := by
  obtain ⟨h0, h1⟩ := h
  unfold Typ.bulk at hb
  exact ⟨by omega, h1⟩
theorem smrow_Type {l : List Typ} (h1 : l.length ≤ 9223372036854775807) (h2 : ∀ d ∈ l, Typ.wf d) (hb : bulkOf Typ.bulk l ≤ 1048576) : l.length ≤ 1048576 ∧ ∀ d ∈ l, Typ.small d := by
  have hl := bulkOf_len Typ.bulk l
  exact ⟨by omega, fun d hd => Typ.small_of (h2 d hd) (by have := bulkOf_mem Typ.bulk hd; omega)⟩
structure Dfn where
  name : ByteArray
  prog : Prg
def Dfn.wf (x : Dfn) : Prop := x.name.size ≤ 9223372036854775807 ∧ x.prog.wf
def Dfn.small (x : Dfn) : Prop := x.name.size ≤ 1048576 ∧ x.prog.small
def Dfn.bulk (x : Dfn) : Nat := x.name.size + (x.prog.bulk)
def DfnRows (w : World) (p : Nat → Prop) (a1 : Option Addr) (c1 : Nat) (x : Dfn) : Prop := (rgN.Row w p a1 x.prog.nodes ∧ x.prog.nodes.length ≤ c1)
theorem DfnRows.keep {w w' : World} {p q : Nat → Prop} {a1 : Option Addr} {c1 : Nat} {x : Dfn} (h : DfnRows w p a1 c1 x) (hk : ∀ b, p b → q b ∧ w'.heap[b]? = w.heap[b]?) : DfnRows w' q a1 c1 x := by
  obtain ⟨r1, t1⟩ := h
  exact ⟨r1.keep hk, t1⟩
def rgD : Rd Dfn where
  n := 3
  At w p cs x := ∃ a1 c1, cs = [.string x.name, .slice a1 x.prog.nodes.length c1, .int .i64 x.prog.root] ∧ DfnRows w p a1 c1 x
  len h := by obtain ⟨_, _, rfl, _⟩ := h; rfl
  keep h hk := by
    obtain ⟨a1, c1, rfl, hr⟩ := h
    exact ⟨a1, c1, rfl, hr.keep hk⟩
theorem Dfn.small_of {x : Dfn} (h : x.wf) (hb : x.bulk ≤ 1048576) : x.small := by
  obtain ⟨h0, h1⟩ := h
  unfold Dfn.bulk at hb
  have qh1 : x.prog.bulk ≤ 1048576 := by omega
  exact ⟨by omega, Prg.small_of h1 qh1⟩
theorem smrow_Def {l : List Dfn} (h1 : l.length ≤ 9223372036854775807) (h2 : ∀ d ∈ l, Dfn.wf d) (hb : bulkOf Dfn.bulk l ≤ 1048576) : l.length ≤ 1048576 ∧ ∀ d ∈ l, Dfn.small d := by
  have hl := bulkOf_len Dfn.bulk l
  exact ⟨by omega, fun d hd => Dfn.small_of (h2 d hd) (by have := bulkOf_mem Dfn.bulk hd; omega)⟩
structure Srx where
  name : ByteArray
  imps : List ByteArray
  exps : List ByteArray
  types : List Typ
  defs : List Dfn
  convs : List Dfn
def Srx.wf (x : Srx) : Prop := x.name.size ≤ 9223372036854775807 ∧ (x.imps.length ≤ 9223372036854775807 ∧ ∀ d ∈ x.imps, wfS d) ∧ (x.exps.length ≤ 9223372036854775807 ∧ ∀ d ∈ x.exps, wfS d) ∧ (x.types.length ≤ 9223372036854775807 ∧ ∀ d ∈ x.types, Typ.wf d) ∧ (x.defs.length ≤ 9223372036854775807 ∧ ∀ d ∈ x.defs, Dfn.wf d) ∧ (x.convs.length ≤ 9223372036854775807 ∧ ∀ d ∈ x.convs, Dfn.wf d)
def Srx.small (x : Srx) : Prop := x.name.size ≤ 1048576 ∧ (x.imps.length ≤ 1048576 ∧ ∀ d ∈ x.imps, smS d) ∧ (x.exps.length ≤ 1048576 ∧ ∀ d ∈ x.exps, smS d) ∧ (x.types.length ≤ 1048576 ∧ ∀ d ∈ x.types, Typ.small d) ∧ (x.defs.length ≤ 1048576 ∧ ∀ d ∈ x.defs, Dfn.small d) ∧ (x.convs.length ≤ 1048576 ∧ ∀ d ∈ x.convs, Dfn.small d)
def Srx.bulk (x : Srx) : Nat := x.name.size + (bulkS x.imps + (bulkS x.exps + (bulkOf Typ.bulk x.types + (bulkOf Dfn.bulk x.defs + (bulkOf Dfn.bulk x.convs)))))
def SrxRows (w : World) (p : Nat → Prop) (a1 a2 a3 a4 a5 : Option Addr) (c1 c2 c3 c4 c5 : Nat) (x : Srx) : Prop := (rgS.Row w p a1 x.imps ∧ x.imps.length ≤ c1) ∧ (rgS.Row w p a2 x.exps ∧ x.exps.length ≤ c2) ∧ (rgT.Row w p a3 x.types ∧ x.types.length ≤ c3) ∧ (rgD.Row w p a4 x.defs ∧ x.defs.length ≤ c4) ∧ (rgD.Row w p a5 x.convs ∧ x.convs.length ≤ c5)
theorem SrxRows.keep {w w' : World} {p q : Nat → Prop} {a1 a2 a3 a4 a5 : Option Addr} {c1 c2 c3 c4 c5 : Nat} {x : Srx} (h : SrxRows w p a1 a2 a3 a4 a5 c1 c2 c3 c4 c5 x) (hk : ∀ b, p b → q b ∧ w'.heap[b]? = w.heap[b]?) : SrxRows w' q a1 a2 a3 a4 a5 c1 c2 c3 c4 c5 x := by
  obtain ⟨⟨r1, t1⟩, ⟨r2, t2⟩, ⟨r3, t3⟩, ⟨r4, t4⟩, ⟨r5, t5⟩⟩ := h
  exact ⟨⟨r1.keep hk, t1⟩, ⟨r2.keep hk, t2⟩, ⟨r3.keep hk, t3⟩, ⟨r4.keep hk, t4⟩, ⟨r5.keep hk, t5⟩⟩
def rgX : Rd Srx where
  n := 6
  At w p cs x := ∃ a1 a2 a3 a4 a5 c1 c2 c3 c4 c5, cs = [.string x.name, .slice a1 x.imps.length c1, .slice a2 x.exps.length c2, .slice a3 x.types.length c3, .slice a4 x.defs.length c4, .slice a5 x.convs.length c5] ∧ SrxRows w p a1 a2 a3 a4 a5 c1 c2 c3 c4 c5 x
  len h := by obtain ⟨_, _, _, _, _, _, _, _, _, _, rfl, _⟩ := h; rfl
  keep h hk := by
    obtain ⟨a1, a2, a3, a4, a5, c1, c2, c3, c4, c5, rfl, hr⟩ := h
    exact ⟨a1, a2, a3, a4, a5, c1, c2, c3, c4, c5, rfl, hr.keep hk⟩
theorem Srx.small_of {x : Srx} (h : x.wf) (hb : x.bulk ≤ 1048576) : x.small := by
  obtain ⟨h0, h1, h2, h3, h4, h5⟩ := h
  unfold Srx.bulk at hb
  have qh1 : bulkS x.imps ≤ 1048576 := by omega
  have qh2 : bulkS x.exps ≤ 1048576 := by omega
  have qh3 : bulkOf Typ.bulk x.types ≤ 1048576 := by omega
  have qh4 : bulkOf Dfn.bulk x.defs ≤ 1048576 := by omega
  have qh5 : bulkOf Dfn.bulk x.convs ≤ 1048576 := by omega
  exact ⟨by omega, smrow_string h1.1 h1.2 qh1, smrow_string h2.1 h2.2 qh2, smrow_Type h3.1 h3.2 qh3, smrow_Def h4.1 h4.2 qh4, smrow_Def h5.1 h5.2 qh5⟩
theorem smrow_Src {l : List Srx} (h1 : l.length ≤ 9223372036854775807) (h2 : ∀ d ∈ l, Srx.wf d) (hb : bulkOf Srx.bulk l ≤ 1048576) : l.length ≤ 1048576 ∧ ∀ d ∈ l, Srx.small d := by
  have hl := bulkOf_len Srx.bulk l
  exact ⟨by omega, fun d hd => Srx.small_of (h2 d hd) (by have := bulkOf_mem Srx.bulk hd; omega)⟩
end Go.Proofs.YtamjofdgikifnaaGreat
