/- Machines as plain lists; machines in memory. -/
import Derived.Test.YtmnkomgdcebniaaGreatSyp
set_option linter.unusedVariables false
namespace Go.Proofs.YtmnkomgdcebniaaGreat
open Go.ChangeShapes Go.WideShapes Go.ChangeAt Go.RowKit
def Val.bulk (v : Val) : Nat := v.s.size
theorem Val.small_of {x : Val} (h : x.wf) (hb : x.bulk ≤ 1048576) : x.small := by
 obtain ⟨h0, h1, h2⟩ := h
 unfold Val.bulk at hb
 exact ⟨h0, h1, by omega⟩
structure Bnd where
 name : ByteArray
 val : Val
def Bnd.wf (x : Bnd) : Prop := x.name.size ≤ 9223372036854775807 ∧ x.val.wf
def Bnd.small (x : Bnd) : Prop := x.name.size ≤ 1048576 ∧ x.val.small
def Bnd.bulk (x : Bnd) : Nat := x.name.size + (x.val.bulk)
def rgB : Rd Bnd where
 n := 4
 At _ _ cs x := cs = [.string x.name, .int .i64 x.val.k, .int .i64 x.val.n, .string x.val.s]
 len h := by rw [h]; rfl
 keep h _ := h
theorem Bnd.small_of {x : Bnd} (h : x.wf) (hb : x.bulk ≤ 1048576) : x.small := by
 obtain ⟨h0, h1⟩ := h
 unfold Bnd.bulk at hb
 have qh1 : x.val.bulk ≤ 1048576 := by omega
 exact ⟨by omega, Val.small_of h1 qh1⟩
theorem smrow_Bind {l : List Bnd} (h1 : l.length ≤ 9223372036854775807) (h2 : ∀ d ∈ l, Bnd.wf d) (hb : bulkOf Bnd.bulk l ≤ 1048576) : l.length ≤ 1048576 ∧ ∀ d ∈ l, Bnd.small d := by
 have hl := bulkOf_len Bnd.bulk l
 exact ⟨by omega, fun d hd => Bnd.small_of (h2 d hd) (by have := bulkOf_mem Bnd.bulk hd; omega)⟩
structure Frm where
 unit : Int
 node : Int
 vals : List Val
 env : List Bnd
def Frm.wf (x : Frm) : Prop := i64B x.unit ∧ i64B x.node ∧ (x.vals.length ≤ 9223372036854775807 ∧ ∀ d ∈ x.vals, Val.wf d) ∧ (x.env.length ≤ 9223372036854775807 ∧ ∀ d ∈ x.env, Bnd.wf d)
def Frm.small (x : Frm) : Prop := i64B x.unit ∧ i64B x.node ∧ (x.vals.length ≤ 1048576 ∧ ∀ d ∈ x.vals, Val.small d) ∧ (x.env.length ≤ 1048576 ∧ ∀ d ∈ x.env, Bnd.small d)
def Frm.bulk (x : Frm) : Nat := bulkV x.vals + (bulkOf Bnd.bulk x.env)
def FrmRows (w : World) (p : Nat → Prop) (a1 a2 : Option Addr) (c1 c2 : Nat) (x : Frm) : Prop := (rgV.Row w p a1 x.vals ∧ x.vals.length ≤ c1) ∧ (rgB.Row w p a2 x.env ∧ x.env.length ≤ c2)
theorem FrmRows.keep {w w' : World} {p q : Nat → Prop} {a1 a2 : Option Addr} {c1 c2 : Nat} {x : Frm} (h : FrmRows w p a1 a2 c1 c2 x) (hk : ∀ b, p b → q b ∧ w'.heap[b]? = w.heap[b]?) : FrmRows w' q a1 a2 c1 c2 x := by
 obtain ⟨⟨r1, t1⟩, ⟨r2, t2⟩⟩ := h
 exact ⟨⟨r1.keep hk, t1⟩, ⟨r2.keep hk, t2⟩⟩
def rgF : Rd Frm where
 n := 4
 At w p cs x := ∃ a1 a2 c1 c2, cs = [.int .i64 x.unit, .int .i64 x.node, .slice a1 x.vals.length c1, .slice a2 x.env.length c2] ∧ FrmRows w p a1 a2 c1 c2 x
 len h := by obtain ⟨_, _, _, _, rfl, _⟩ := h; rfl
 keep h hk := by
  obtain ⟨a1, a2, c1, c2, rfl, hr⟩ := h
  exact ⟨a1, a2, c1, c2, rfl, hr.keep hk⟩
theorem Frm.small_of {x : Frm} (h : x.wf) (hb : x.bulk ≤ 1048576) : x.small := by
 obtain ⟨h0, h1, h2, h3⟩ := h
 unfold Frm.bulk at hb
 have qh2 : bulkV x.vals ≤ 1048576 := by omega
 have qh3 : bulkOf Bnd.bulk x.env ≤ 1048576 := by omega
 exact ⟨h0, h1, smrow_Value h2.1 h2.2 qh2, smrow_Bind h3.1 h3.2 qh3⟩
theorem smrow_Frame {l : List Frm} (h1 : l.length ≤ 9223372036854775807) (h2 : ∀ d ∈ l, Frm.wf d) (hb : bulkOf Frm.bulk l ≤ 1048576) : l.length ≤ 1048576 ∧ ∀ d ∈ l, Frm.small d := by
 have hl := bulkOf_len Frm.bulk l
 exact ⟨by omega, fun d hd => Frm.small_of (h2 d hd) (by have := bulkOf_mem Frm.bulk hd; omega)⟩
structure Mac where
 mode : Int
 unit : Int
 node : Int
 env : List Bnd
 val : Val
 stack : List Frm
 end_ : Int
def Mac.wf (x : Mac) : Prop := i64B x.mode ∧ i64B x.unit ∧ i64B x.node ∧ (x.env.length ≤ 9223372036854775807 ∧ ∀ d ∈ x.env, Bnd.wf d) ∧ x.val.wf ∧ (x.stack.length ≤ 9223372036854775807 ∧ ∀ d ∈ x.stack, Frm.wf d) ∧ i64B x.end_
def Mac.small (x : Mac) : Prop := i64B x.mode ∧ i64B x.unit ∧ i64B x.node ∧ (x.env.length ≤ 1048576 ∧ ∀ d ∈ x.env, Bnd.small d) ∧ x.val.small ∧ (x.stack.length ≤ 1048576 ∧ ∀ d ∈ x.stack, Frm.small d) ∧ i64B x.end_
def Mac.bulk (x : Mac) : Nat := bulkOf Bnd.bulk x.env + (x.val.bulk + (bulkOf Frm.bulk x.stack))
def MacRows (w : World) (p : Nat → Prop) (a1 a2 : Option Addr) (c1 c2 : Nat) (x : Mac) : Prop := (rgB.Row w p a1 x.env ∧ x.env.length ≤ c1) ∧ (rgF.Row w p a2 x.stack ∧ x.stack.length ≤ c2)
theorem MacRows.keep {w w' : World} {p q : Nat → Prop} {a1 a2 : Option Addr} {c1 c2 : Nat} {x : Mac} (h : MacRows w p a1 a2 c1 c2 x) (hk : ∀ b, p b → q b ∧ w'.heap[b]? = w.heap[b]?) : MacRows w' q a1 a2 c1 c2 x := by
 obtain ⟨⟨r1, t1⟩, ⟨r2, t2⟩⟩ := h
 exact ⟨⟨r1.keep hk, t1⟩, ⟨r2.keep hk, t2⟩⟩
def rgM : Rd Mac where
 n := 9
 At w p cs x := ∃ a1 a2 c1 c2, cs = [.int .i64 x.mode, .int .i64 x.unit, .int .i64 x.node, .slice a1 x.env.length c1, .int .i64 x.val.k, .int .i64 x.val.n, .string x.val.s, .slice a2 x.stack.length c2, .int .i64 x.end_] ∧ MacRows w p a1 a2 c1 c2 x
 len h := by obtain ⟨_, _, _, _, rfl, _⟩ := h; rfl
 keep h hk := by
  obtain ⟨a1, a2, c1, c2, rfl, hr⟩ := h
  exact ⟨a1, a2, c1, c2, rfl, hr.keep hk⟩
theorem Mac.small_of {x : Mac} (h : x.wf) (hb : x.bulk ≤ 1048576) : x.small := by
 obtain ⟨h0, h1, h2, h3, h4, h5, h6⟩ := h
 unfold Mac.bulk at hb
 have qh3 : bulkOf Bnd.bulk x.env ≤ 1048576 := by omega
 have qh4 : x.val.bulk ≤ 1048576 := by omega
 have qh5 : bulkOf Frm.bulk x.stack ≤ 1048576 := by omega
 exact ⟨h0, h1, h2, smrow_Bind h3.1 h3.2 qh3, Val.small_of h4 qh4, smrow_Frame h5.1 h5.2 qh5, h6⟩
theorem smrow_Machine {l : List Mac} (h1 : l.length ≤ 9223372036854775807) (h2 : ∀ d ∈ l, Mac.wf d) (hb : bulkOf Mac.bulk l ≤ 1048576) : l.length ≤ 1048576 ∧ ∀ d ∈ l, Mac.small d := by
 have hl := bulkOf_len Mac.bulk l
 exact ⟨by omega, fun d hd => Mac.small_of (h2 d hd) (by have := bulkOf_mem Mac.bulk hd; omega)⟩
end Go.Proofs.YtmnkomgdcebniaaGreat
