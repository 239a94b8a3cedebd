/- Systems as plain lists; systems in memory. Which sources are right, as a plain function. Rows of texts that a call made; a row appended onto one of them. -/
import Derived.Test.YtamjofdgikifnaaGreatSzc
import Derived.Test.YtamjofdgikifnaaGreatZpx
import Derived.Test.YtamjofdgikifnaaGreatPsx
import Derived.Maps.AppendAt
import Derived.Deep.AppendLies
set_option linter.unusedVariables false
namespace Go.Proofs.YtamjofdgikifnaaGreat
open Go.ChangeShapes Go.WideShapes Go.ChangeAt Go.RowKit
def wfS (x : ByteArray) : Prop := x.size ≤ 9223372036854775807
def smS (x : ByteArray) : Prop := x.size ≤ 1048576
theorem smrow_string {l : List ByteArray} (h1 : l.length ≤ 9223372036854775807) (h2 : ∀ d ∈ l, wfS d) (hb : bulkS l ≤ 1048576) : l.length ≤ 1048576 ∧ ∀ d ∈ l, smS d := by
 unfold bulkS at hb
 have hl := bulkOf_len ByteArray.size l
 exact ⟨by omega, fun d hd => by have := bulkOf_mem ByteArray.size hd; unfold smS; omega⟩
theorem smrow_Node {l : List Nod} (h1 : l.length ≤ 9223372036854775807) (h2 : ∀ d ∈ l, Nod.wf d) (hb : bulkN l ≤ 1048576) : l.length ≤ 1048576 ∧ ∀ d ∈ l, Nod.small d :=
 ⟨Nat.le_trans (bulkN_len l) hb, small_ofN h2 hb⟩
structure Prg where
 nodes : List Nod
 root : Int
def Prg.wf (x : Prg) : Prop := (x.nodes.length ≤ 9223372036854775807 ∧ ∀ d ∈ x.nodes, Nod.wf d) ∧ i64B x.root
def Prg.small (x : Prg) : Prop := (x.nodes.length ≤ 1048576 ∧ ∀ d ∈ x.nodes, Nod.small d) ∧ i64B x.root
def Prg.bulk (x : Prg) : Nat := bulkN x.nodes
def PrgRows (w : World) (p : Nat → Prop) (a1 : Option Addr) (c1 : Nat) (x : Prg) : Prop := (rgN.Row w p a1 x.nodes ∧ x.nodes.length ≤ c1)
theorem PrgRows.keep {w w' : World} {p q : Nat → Prop} {a1 : Option Addr} {c1 : Nat} {x : Prg} (h : PrgRows w p a1 c1 x) (hk : ∀ b, p b → q b ∧ w'.heap[b]? = w.heap[b]?) : PrgRows w' q a1 c1 x := by
 obtain ⟨r1, t1⟩ := h
 exact ⟨r1.keep hk, t1⟩
def rgP : Rd Prg where
 n := 2
 At w p cs x := ∃ a1 c1, cs = [.slice a1 x.nodes.length c1, .int .i64 x.root] ∧ PrgRows w p a1 c1 x
 len h := by obtain ⟨_, _, rfl, _⟩ := h; rfl
 keep h hk := by
  obtain ⟨a1, c1, rfl, hr⟩ := h
  exact ⟨a1, c1, rfl, hr.keep hk⟩
theorem Prg.small_of {x : Prg} (h : x.wf) (hb : x.bulk ≤ 1048576) : x.small := by
 obtain ⟨h0, h1⟩ := h
 unfold Prg.bulk at hb
 have qh0 : bulkN x.nodes ≤ 1048576 := by omega
 exact ⟨smrow_Node h0.1 h0.2 qh0, h1⟩
structure Typ where
 name : ByteArray
 size : Int
def Typ.wf (x : Typ) : Prop := x.name.size ≤ 9223372036854775807 ∧ i64B x.size
def Typ.small (x : Typ) : Prop := x.name.size ≤ 1048576 ∧ i64B x.size
def Typ.bulk (x : Typ) : Nat := x.name.size
def rgT : Rd Typ where
 n := 2
 At _ _ cs x := cs = [.string x.name, .int .i64 x.size]
 len h := by rw [h]; rfl
 keep h _ := h
theorem Typ.small_of {x : Typ} (h : x.wf) (hb : x.bulk ≤ 1048576) : x.small := by
 obtain ⟨h0, h1⟩ := h
 unfold Typ.bulk at hb
 exact ⟨by omega, h1⟩
theorem smrow_Type {l : List Typ} (h1 : l.length ≤ 9223372036854775807) (h2 : ∀ d ∈ l, Typ.wf d) (hb : bulkOf Typ.bulk l ≤ 1048576) : l.length ≤ 1048576 ∧ ∀ d ∈ l, Typ.small d := by
 have hl := bulkOf_len Typ.bulk l
 exact ⟨by omega, fun d hd => Typ.small_of (h2 d hd) (by have := bulkOf_mem Typ.bulk hd; omega)⟩
structure Dfn where
 name : ByteArray
 prog : Prg
def Dfn.wf (x : Dfn) : Prop := x.name.size ≤ 9223372036854775807 ∧ x.prog.wf
def Dfn.small (x : Dfn) : Prop := x.name.size ≤ 1048576 ∧ x.prog.small
def Dfn.bulk (x : Dfn) : Nat := x.name.size + (x.prog.bulk)
def DfnRows (w : World) (p : Nat → Prop) (a1 : Option Addr) (c1 : Nat) (x : Dfn) : Prop := (rgN.Row w p a1 x.prog.nodes ∧ x.prog.nodes.length ≤ c1)
theorem DfnRows.keep {w w' : World} {p q : Nat → Prop} {a1 : Option Addr} {c1 : Nat} {x : Dfn} (h : DfnRows w p a1 c1 x) (hk : ∀ b, p b → q b ∧ w'.heap[b]? = w.heap[b]?) : DfnRows w' q a1 c1 x := by
 obtain ⟨r1, t1⟩ := h
 exact ⟨r1.keep hk, t1⟩
def rgD : Rd Dfn where
 n := 3
 At w p cs x := ∃ a1 c1, cs = [.string x.name, .slice a1 x.prog.nodes.length c1, .int .i64 x.prog.root] ∧ DfnRows w p a1 c1 x
 len h := by obtain ⟨_, _, rfl, _⟩ := h; rfl
 keep h hk := by
  obtain ⟨a1, c1, rfl, hr⟩ := h
  exact ⟨a1, c1, rfl, hr.keep hk⟩
theorem Dfn.small_of {x : Dfn} (h : x.wf) (hb : x.bulk ≤ 1048576) : x.small := by
 obtain ⟨h0, h1⟩ := h
 unfold Dfn.bulk at hb
 have qh1 : x.prog.bulk ≤ 1048576 := by omega
 exact ⟨by omega, Prg.small_of h1 qh1⟩
theorem smrow_Def {l : List Dfn} (h1 : l.length ≤ 9223372036854775807) (h2 : ∀ d ∈ l, Dfn.wf d) (hb : bulkOf Dfn.bulk l ≤ 1048576) : l.length ≤ 1048576 ∧ ∀ d ∈ l, Dfn.small d := by
 have hl := bulkOf_len Dfn.bulk l
 exact ⟨by omega, fun d hd => Dfn.small_of (h2 d hd) (by have := bulkOf_mem Dfn.bulk hd; omega)⟩
structure Srx where
 name : ByteArray
 imps : List ByteArray
 exps : List ByteArray
 types : List Typ
 defs : List Dfn
 convs : List Dfn
def Srx.wf (x : Srx) : Prop := x.name.size ≤ 9223372036854775807 ∧ (x.imps.length ≤ 9223372036854775807 ∧ ∀ d ∈ x.imps, wfS d) ∧ (x.exps.length ≤ 9223372036854775807 ∧ ∀ d ∈ x.exps, wfS d) ∧ (x.types.length ≤ 9223372036854775807 ∧ ∀ d ∈ x.types, Typ.wf d) ∧ (x.defs.length ≤ 9223372036854775807 ∧ ∀ d ∈ x.defs, Dfn.wf d) ∧ (x.convs.length ≤ 9223372036854775807 ∧ ∀ d ∈ x.convs, Dfn.wf d)
def Srx.small (x : Srx) : Prop := x.name.size ≤ 1048576 ∧ (x.imps.length ≤ 1048576 ∧ ∀ d ∈ x.imps, smS d) ∧ (x.exps.length ≤ 1048576 ∧ ∀ d ∈ x.exps, smS d) ∧ (x.types.length ≤ 1048576 ∧ ∀ d ∈ x.types, Typ.small d) ∧ (x.defs.length ≤ 1048576 ∧ ∀ d ∈ x.defs, Dfn.small d) ∧ (x.convs.length ≤ 1048576 ∧ ∀ d ∈ x.convs, Dfn.small d)
def Srx.bulk (x : Srx) : Nat := x.name.size + (bulkS x.imps + (bulkS x.exps + (bulkOf Typ.bulk x.types + (bulkOf Dfn.bulk x.defs + (bulkOf Dfn.bulk x.convs)))))
def SrxRows (w : World) (p : Nat → Prop) (a1 a2 a3 a4 a5 : Option Addr) (c1 c2 c3 c4 c5 : Nat) (x : Srx) : Prop := (rgS.Row w p a1 x.imps ∧ x.imps.length ≤ c1) ∧ (rgS.Row w p a2 x.exps ∧ x.exps.length ≤ c2) ∧ (rgT.Row w p a3 x.types ∧ x.types.length ≤ c3) ∧ (rgD.Row w p a4 x.defs ∧ x.defs.length ≤ c4) ∧ (rgD.Row w p a5 x.convs ∧ x.convs.length ≤ c5)
theorem SrxRows.keep {w w' : World} {p q : Nat → Prop} {a1 a2 a3 a4 a5 : Option Addr} {c1 c2 c3 c4 c5 : Nat} {x : Srx} (h : SrxRows w p a1 a2 a3 a4 a5 c1 c2 c3 c4 c5 x) (hk : ∀ b, p b → q b ∧ w'.heap[b]? = w.heap[b]?) : SrxRows w' q a1 a2 a3 a4 a5 c1 c2 c3 c4 c5 x := by
 obtain ⟨⟨r1, t1⟩, ⟨r2, t2⟩, ⟨r3, t3⟩, ⟨r4, t4⟩, ⟨r5, t5⟩⟩ := h
 exact ⟨⟨r1.keep hk, t1⟩, ⟨r2.keep hk, t2⟩, ⟨r3.keep hk, t3⟩, ⟨r4.keep hk, t4⟩, ⟨r5.keep hk, t5⟩⟩
def rgX : Rd Srx where
 n := 6
 At w p cs x := ∃ a1 a2 a3 a4 a5 c1 c2 c3 c4 c5, cs = [.string x.name, .slice a1 x.imps.length c1, .slice a2 x.exps.length c2, .slice a3 x.types.length c3, .slice a4 x.defs.length c4, .slice a5 x.convs.length c5] ∧ SrxRows w p a1 a2 a3 a4 a5 c1 c2 c3 c4 c5 x
 len h := by obtain ⟨_, _, _, _, _, _, _, _, _, _, rfl, _⟩ := h; rfl
 keep h hk := by
  obtain ⟨a1, a2, a3, a4, a5, c1, c2, c3, c4, c5, rfl, hr⟩ := h
  exact ⟨a1, a2, a3, a4, a5, c1, c2, c3, c4, c5, rfl, hr.keep hk⟩
theorem Srx.small_of {x : Srx} (h : x.wf) (hb : x.bulk ≤ 1048576) : x.small := by
 obtain ⟨h0, h1, h2, h3, h4, h5⟩ := h
 unfold Srx.bulk at hb
 have qh1 : bulkS x.imps ≤ 1048576 := by omega
 have qh2 : bulkS x.exps ≤ 1048576 := by omega
 have qh3 : bulkOf Typ.bulk x.types ≤ 1048576 := by omega
 have qh4 : bulkOf Dfn.bulk x.defs ≤ 1048576 := by omega
 have qh5 : bulkOf Dfn.bulk x.convs ≤ 1048576 := by omega
 exact ⟨by omega, smrow_string h1.1 h1.2 qh1, smrow_string h2.1 h2.2 qh2, smrow_Type h3.1 h3.2 qh3, smrow_Def h4.1 h4.2 qh4, smrow_Def h5.1 h5.2 qh5⟩
end Go.Proofs.YtamjofdgikifnaaGreat
set_option linter.unusedVariables false
namespace Go.Proofs.YtamjofdgikifnaaGreat
open Go.ChangeShapes Go.WideShapes Go.ChangeAt Go.RowKit
noncomputable def holds (p : Prop) : Bool := @decide p (Classical.propDecidable p)
theorem holds_iff {p : Prop} : holds p = true ↔ p := by unfold holds; exact @decide_eq_true_iff p (Classical.propDecidable p)
theorem holds_of {p : Prop} {b : Bool} (h : b = true ↔ p) : b = holds p := by
 rw [Bool.eq_iff_iff, h, holds_iff]
def Typ.ok (t : Typ) : Bool := decide (0 ≤ t.size) && decide (t.size ≤ 8)
noncomputable def Dfn.ok (d : Dfn) : Bool := holds (OkP d.prog.nodes d.prog.root)
theorem all_take_succ {α : Type} (f : α → Bool) {l : List α} {i : Nat} {d : α} (h : l[i]? = some d) : (l.take (i + 1)).all f = ((l.take i).all f && f d) := by
 rw [List.take_add_one, h, List.all_append]
 simp
theorem all_of_bad {α : Type} (f : α → Bool) {l : List α} {i : Nat} {d : α} (h : l[i]? = some d) (hd : f d = false) : l.all f = false := by
 rw [List.all_eq_false]
 exact ⟨d, List.mem_of_getElem? h, by simp [hd]⟩
def twB (ts : List ByteArray) : Nat → Bool
 | 0 => false
 | k + 1 => twB ts k || (match ts[k]? with
  | some x => hasS (ts.take k) x
  | none => false)
def twA (ts : List ByteArray) : Bool := twB ts ts.length
theorem twB_step {ts : List ByteArray} {k : Nat} {x : ByteArray} (h : ts[k]? = some x) : twB ts (k + 1) = (twB ts k || hasS (ts.take k) x) := by simp [twB, h]
theorem twB_true {ts : List ByteArray} {k : Nat} (h : twB ts k = true) : ∀ j, k ≤ j → twB ts j = true := by
 intro j hj
 induction j with
 | zero => obtain rfl : k = 0 := (by omega); exact h
 | succ j ih =>
  by_cases e : k = j + 1
  ·subst e; exact h
  ·show (twB ts j || _) = true
   rw [ih (by omega)]
   rfl
theorem twA_true {ts : List ByteArray} {k : Nat} {x : ByteArray} (hx : ts[k]? = some x) (h : hasS (ts.take k) x = true) : twA ts = true :=
 twB_true (k := k + 1) (by rw [twB_step hx, h, Bool.or_true]) _ (List.getElem?_eq_some_iff.1 hx).1
def nB (x : ByteArray) : Bool := naL x.toList
theorem nmB_eq (ts : List ByteArray) : ∀ k, k ≤ ts.length → nmB ts k = ((ts.take k).all nB && !twB ts k)
 | 0, _ => rfl
 | k + 1, hk => by
  have hx : ts[k]? = some ts[k] := List.getElem?_eq_getElem (by omega)
  rw [nmB_step hx, twB_step hx, all_take_succ _ hx, nmB_eq ts k (by omega)]
  have e : naL ts[k].toList = nB ts[k] := rfl
  rw [e]
  cases (ts.take k).all nB <;> cases twB ts k <;> cases nB ts[k] <;> cases hasS (ts.take k) ts[k] <;> rfl
theorem nmA_eq (ts : List ByteArray) : nmA ts = (ts.all nB && !twA ts) := by
 unfold nmA twA
 rw [nmB_eq ts _ (Nat.le_refl _), List.take_length]
def Srx.tns (x : Srx) : List ByteArray := x.types.map (·.name)
def Srx.dns (x : Srx) : List ByteArray := x.defs.map (·.name)
def Srx.cns (x : Srx) : List ByteArray := x.convs.map (·.name)
def Srx.many (x : Srx) : Bool := decide (30 < x.imps.length) || decide (30 < x.exps.length) || decide (30 < x.defs.length) || decide (8 < x.types.length) || decide (8 < x.convs.length)
def Srx.dup (x : Srx) : Bool := twA x.imps || twA x.exps || twA x.tns || twA x.dns || twA x.cns || hasS x.imps x.name
def Srx.known (x : Srx) : Bool := x.exps.all (hasS x.dns) && x.cns.all (hasS x.tns)
noncomputable def Srx.progs (x : Srx) : Bool := x.defs.all Dfn.ok && x.convs.all Dfn.ok
def Srx.names (x : Srx) : Bool := x.imps.all nB && x.exps.all nB && x.tns.all nB && x.dns.all nB && x.cns.all nB
noncomputable def Srx.ok (x : Srx) : Bool := (nB x.name && !x.many && !x.dup && x.known && x.names) && x.types.all Typ.ok && x.defs.all Dfn.ok && x.convs.all Dfn.ok
def Srx.alike (x : Srx) : Bool := nmA x.imps && nmA x.exps && (x.types.all Typ.ok && nmA x.tns) && nmA x.dns && nmA x.cns && !hasS x.imps x.name
theorem Srx.ok_eq (x : Srx) : (nB x.name && !x.many && x.alike && x.known && x.progs) = x.ok := by
 unfold Srx.alike Srx.ok Srx.progs Srx.dup Srx.names
 rw [nmA_eq, nmA_eq, nmA_eq, nmA_eq, nmA_eq]
 generalize nB x.name = a
 generalize x.many = b
 generalize x.known = c
 generalize hasS x.imps x.name = d
 generalize twA x.imps = e1
 generalize twA x.exps = e2
 generalize twA x.tns = e3
 generalize twA x.dns = e4
 generalize twA x.cns = e5
 generalize x.imps.all nB = f1
 generalize x.exps.all nB = f2
 generalize x.tns.all nB = f3
 generalize x.dns.all nB = f4
 generalize x.cns.all nB = f5
 generalize x.types.all Typ.ok = g1
 generalize x.defs.all Dfn.ok = g2
 generalize x.convs.all Dfn.ok = g3
 cases a <;> cases b <;> cases c <;> cases d <;> simp [Bool.and_assoc, Bool.and_left_comm, Bool.and_comm]
end Go.Proofs.YtamjofdgikifnaaGreat
set_option linter.unusedVariables false
namespace Go.Proofs.YtamjofdgikifnaaGreat
open Go.ChangeShapes Go.WideShapes Go.ChangeAt Go.RowKit
theorem own_keep {w w' : World} {B n s : Nat} {e : TypeId} {v : Value} {xs : List Value} (h : w.ownsRow B e s v n xs) (hk : ∀ b, v.ownBlock = some b → w'.heap[b]? = w.heap[b]?) : w'.ownsRow B e s v n xs := by
 obtain ⟨hl, ⟨hv, h0⟩ | ⟨g, cap', cur, hv, a1, hblk, a3⟩⟩ := h
 ·exact ⟨hl, .inl ⟨hv, h0⟩⟩
 ·exact ⟨hl, .inr ⟨g, cap', cur, hv, a1, (hk g (by rw [hv]; rfl)).trans hblk, a3⟩⟩
theorem own_slice {w : World} {B n s : Nat} {e : TypeId} {v : Value} {xs : List Value} (h : w.ownsRow B e s v n xs) : ∃ (a : Option Addr) (cap : Nat), v = .slice a n cap ∧ n ≤ cap := by
 obtain ⟨hl, ⟨hv, h0⟩ | ⟨g, cap', cur, hv, _, _, h3, _⟩⟩ := h
 ·exact ⟨none, 0, by rw [hv, h0], by omega⟩
 ·exact ⟨_, _, hv, h3⟩
theorem own_weak {w : World} {B B' n s : Nat} {e : TypeId} {v : Value} {xs : List Value} (h : w.ownsRow B e s v n xs) (hB : B' ≤ B) : w.ownsRow B' e s v n xs := by
 obtain ⟨hl, ⟨hv, h0⟩ | ⟨g, cap', cur, hv, a1, a3⟩⟩ := h
 ·exact ⟨hl, .inl ⟨hv, h0⟩⟩
 ·exact ⟨hl, .inr ⟨g, cap', cur, hv, by omega, a3⟩⟩
theorem own_blk {w : World} {B n s b : Nat} {e : TypeId} {v : Value} {xs : List Value} (h : w.ownsRow B e s v n xs) (hv : v.ownBlock = some b) : B ≤ b ∧ b < w.heap.size ∧ ∃ cur cap, v = .slice (some ⟨b, 0, none⟩) n cap ∧ n ≤ cap ∧ w.heap[b]? = some (.cells cur e (0, 0)) ∧ cur.size = cap * s ∧ cur.toList.take (n * s) = xs := by
 obtain ⟨hl, ⟨hv', h0⟩ | ⟨g, cap', cur, hv', a1, hblk, a3, a4, a5, a6⟩⟩ := h
 ·subst hv'
  cases hv
 ·subst hv'
  obtain rfl : g = b := by injection hv
  exact ⟨a1, (Array.getElem?_eq_some_iff.1 hblk).1, cur, cap', rfl, a3, hblk, a5, a6⟩
def OwnS (w : World) (B : Nat) (v : Value) (l : List ByteArray) : Prop := w.ownsRow B 9 1 v l.length (l.map Value.string)
theorem OwnS.keep {w w' : World} {B : Nat} {v : Value} {l : List ByteArray} (h : OwnS w B v l) (hk : ∀ b, v.ownBlock = some b → w'.heap[b]? = w.heap[b]?) : OwnS w' B v l := own_keep h hk
theorem OwnS.weak {w : World} {B B' : Nat} {v : Value} {l : List ByteArray} (h : OwnS w B v l) (hB : B' ≤ B) : OwnS w B' v l := own_weak h hB
theorem OwnS.slice {w : World} {B : Nat} {v : Value} {l : List ByteArray} (h : OwnS w B v l) : ∃ (a : Option Addr) (cap : Nat), v = .slice a l.length cap ∧ l.length ≤ cap := own_slice h
theorem OwnS.blk {w : World} {B b : Nat} {v : Value} {l : List ByteArray} (h : OwnS w B v l) (hv : v.ownBlock = some b) : B ≤ b ∧ b < w.heap.size ∧ ∃ cur, w.heap[b]? = some (.cells cur 9 (0, 0)) := by
 obtain ⟨h1, h2, cur, _, _, _, h3, _⟩ := own_blk h hv
 exact ⟨h1, h2, cur, h3⟩
theorem OwnS.row {w : World} {B n cap : Nat} {a : Option Addr} {l : List ByteArray} (h : OwnS w B (.slice a n cap) l) : RowSP w (fun b => (Value.slice a n cap).ownBlock = some b) a l := by
 intro i x hx
 obtain ⟨hl, ⟨hv, h0⟩ | ⟨g, cap', cur, hv, a1, hblk, a3, a4, a5, a6⟩⟩ := h
 ·rw [List.eq_nil_of_length_eq_zero h0] at hx
  simp at hx
 ·injection hv with h1 h2 h3
  subst h1
  refine ⟨g, 0, rfl, rfl, ?_⟩
  rw [Nat.zero_add]
  have hil := (List.getElem?_eq_some_iff.1 hx).1
  refine cell_blk hblk ?_
  rw [← Array.getElem?_toList, ← List.getElem?_take_of_lt (j := l.length * 1) (by omega), a6, List.getElem?_map, hx]
  rfl
theorem gb_set (w : World) (g o : Nat) (u : Value) : w.grownBy (w.setCell ⟨g, o, none⟩ u) (some g) :=
 ⟨rfl, rfl, rfl, by simp, fun i hi hne => heap_setCell_other _ _ _ _ (by rintro rfl; exact hne rfl)⟩
theorem gb_below {w w' : World} (r : Option Nat) (h : Below w.heap.size w w') : w.grownBy w' r := ⟨h.os, h.tape, h.output, h.size, fun i hi _ => h.block i hi⟩
theorem gb_refl (w : World) (r : Option Nat) : w.grownBy w r := ⟨rfl, rfl, rfl, Nat.le_refl _, fun _ _ _ => rfl⟩
theorem gb_trans {w w1 w2 : World} {r : Option Nat} (h : w.grownBy w1 r) (g : w1.grownBy w2 r) : w.grownBy w2 r :=
 ⟨g.os.trans h.os, g.tape.trans h.tape, g.output.trans h.output, Nat.le_trans h.size g.size, fun i hi hne => (g.block i (Nat.lt_of_lt_of_le hi h.size) hne).trans (h.block i hi hne)⟩
theorem stop {p : Prop} (h : Hid p) : p := h.out
theorem append_zero (w : World) (i : TypeInfo) (t e : TypeId) (ht : Tryz.prog.underlying t = some (.slice e)) (hi : Tryz.prog.info? e = some i) (ty : TypeId) (base a : Option Addr) (n c cx : Nat) (hle : n ≤ c) :
  (Builtin.append_ #[t, t] ty #[.slice base n c, .slice a 0 cx]).run Tryz.prog w = .ok (.slice base n c) w := by
 cases base <;> cases a <;> simp [Builtin.append_, run_underlying ht, sizeOf, typeInfo, hi, hle, storeCells, Builtin.lenOf, Builtin.firstCells, loadCells, loadCellsFrom]
theorem own_empty {W : World} {B g size : Nat} {e : TypeId} (h : W.heap[g]? = some (.cells #[] e (0, 0))) (hB : B ≤ g) : W.ownsRow B e size (.slice (some ⟨g, 0, none⟩) 0 0) 0 [] :=
 ⟨by simp, .inr ⟨g, 0, #[], rfl, hB, h, Nat.le_refl _, Nat.zero_le _, by simp, by simp⟩⟩
theorem wpList_append_row {ops : Array Oper} {rest : List Oper} {o : Oper} {a : Act} {w : World} {Q : Exit → Act → World → Prop} (hgd : o.guard = none) (s x : Operand) (t : TypeId)
  (ho : o.op = .call { callee := .builtin .append, args := #[s, x], argTypes := #[t, t] })
  (base : Nat) (e : TypeId) (i : TypeInfo) (z : Value) (size bytes : Nat) (ht : Tryz.prog.underlying t = some (.slice e)) (hi : Tryz.prog.info? e = some i) (hz : i.zero = some z)
  (hsize : i.size = size) (hby : i.bytes = bytes) (hzs : z.cells.size = size) (hsz : 0 < size)
  (v : Value) (n : Nat) (xs : List Value) (hs : a.eval s = v) (hown : w.ownsRow base e size v n xs)
  (ax : Option Addr) (m c : Nat) (news : List Value) (hx : a.eval x = .slice ax m c) (hl : news.length = m * size) (hnews : 0 < m → ∃ ad, ax = some ad ∧ ∀ j u, news[j]? = some u → w.cell? (ad.add j) = some u) (h1 : ∀ u ∈ news, u.oneCell' = true)
  (h63 : n + m ≤ maxLen) (hbytes : (n + m) * bytes ≤ 140737488355328) (hbase : base ≤ w.heap.size)
  (h : ∀ v' w', w'.ownsRow base e size v' (n + m) (xs ++ news) → w.grownBy w' v.ownBlock → (v'.ownBlock = v.ownBlock ∨ v'.ownBlock = some w.heap.size) → wpList Tryz.prog ops Q rest (a.put o.dst v') w') :
  wpList Tryz.prog ops Q (o :: rest) a w := by
 by_cases hm : m = 0
 ·subst hm
  obtain rfl : news = [] := List.eq_nil_of_length_eq_zero (by omega)
  obtain ⟨av, cv, rfl, hc⟩ := own_slice hown
  have hrun := append_zero w i t e ht hi o.type av ax n cv c hc
  have hK := h (.slice av n cv) w (by simpa using hown) (gb_refl _ _) (.inl rfl)
  refine wpList_plain hgd fun K hK' => ?_
  unfold Oper.wp
  simp [execOp, ho, resolve, invoke, builtin, hs, hx, hrun, Result.andThen]
  exact hK' _ _ hK
 ·obtain ⟨ad, rfl, hn⟩ := hnews (by omega)
  exact wpList_append_own_at w hgd s x t ho base e i z size bytes ht hi hz hsize hby hzs hsz v n xs hs hown ad m c news hx hl hn h1 h63 hbytes hbase fun v' w' q1 q2 _ q4 => h v' w' q1 q2 q4
end Go.Proofs.YtamjofdgikifnaaGreat
