/- Which sources are right, as a plain function. -/
import Derived.Test.YtamjofdgikifnaaGreatSyp
import Derived.Test.YtamjofdgikifnaaGreatPsx
set_option linter.unusedVariables false
namespace Go.Proofs.YtamjofdgikifnaaGreat
open Go.ChangeShapes Go.WideShapes Go.ChangeAt Go.RowKit
/-- Is it so? -/
noncomputable def holds (p : Prop) : Bool := @decide p (Classical.propDecidable p)
theorem holds_iff {p : Prop} : holds p = true ↔ p := by unfold holds; exact @decide_eq_true_iff p (Classical.propDecidable p)
theorem holds_of {p : Prop} {b : Bool} (h : b = true ↔ p) : b = holds p := by
  rw [Bool.eq_iff_iff, h, holds_iff]
def Typ.ok (t : Typ) : Bool := decide (0 ≤ t.size) && decide (t.size ≤ 8)
noncomputable def Dfn.ok (d : Dfn) : Bool := holds (OkP d.prog.nodes d.prog.root)
theorem all_take_succ {α : Type} (f : α → Bool) {l : List α} {i : Nat} {d : α} (h : l[i]? = some d) : (l.take (i + 1)).all f = ((l.take i).all f && f d) := by
  rw [List.take_add_one, h, List.all_append]
  simp
theorem all_of_bad {α : Type} (f : α → Bool) {l : List α} {i : Nat} {d : α} (h : l[i]? = some d) (hd : f d = false) : l.all f = false := by
  rw [List.all_eq_false]
  exact ⟨d, List.mem_of_getElem? h, by simp [hd]⟩
/-- Is one of the first k there twice? -/
def twB (ts : List ByteArray) : Nat → Bool
  | 0 => false
  | k + 1 => twB ts k || (match ts[k]? with
    | some x => hasS (ts.take k) x
    | none => false)
def twA (ts : List ByteArray) : Bool := twB ts ts.length
theorem twB_step {ts : List ByteArray} {k : Nat} {x : ByteArray} (h : ts[k]? = some x) : twB ts (k + 1) = (twB ts k || hasS (ts.take k) x) := by simp [twB, h]
theorem twB_true {ts : List ByteArray} {k : Nat} (h : twB ts k = true) : ∀ j, k ≤ j → twB ts j = true := by
  intro j hj
  induction j with
  | zero => obtain rfl : k = 0 := (by omega); exact h
  | succ j ih =>
    by_cases e : k = j + 1
    · subst e; exact h
    · show (twB ts j || _) = true
      rw [ih (by omega)]
      rfl
theorem twA_true {ts : List ByteArray} {k : Nat} {x : ByteArray} (hx : ts[k]? = some x) (h : hasS (ts.take k) x = true) : twA ts = true :=
  twB_true (k := k + 1) (by rw [twB_step hx, h, Bool.or_true]) _ (List.getElem?_eq_some_iff.1 hx).1
def nB (x : ByteArray) : Bool := naL x.toList
theorem nmB_eq (ts : List ByteArray) : ∀ k, k ≤ ts.length → nmB ts k = ((ts.take k).all nB && !twB ts k)
  | 0, _ => rfl
  | k + 1, hk => by
    have hx : ts[k]? = some ts[k] := List.getElem?_eq_getElem (by omega)
    rw [nmB_step hx, twB_step hx, all_take_succ _ hx, nmB_eq ts k (by omega)]
    have e : naL ts[k].toList = nB ts[k] := rfl
    rw [e]
    cases (ts.take k).all nB <;> cases twB ts k <;> cases nB ts[k] <;> cases hasS (ts.take k) ts[k] <;> rfl
theorem nmA_eq (ts : List ByteArray) : nmA ts = (ts.all nB && !twA ts) := by
  unfold nmA twA
  rw [nmB_eq ts _ (Nat.le_refl _), List.take_length]
def Srx.tns (x : Srx) : List ByteArray := x.types.map (·.name)
def Srx.dns (x : Srx) : List ByteArray := x.defs.map (·.name)
def Srx.cns (x : Srx) : List ByteArray := x.convs.map (·.name)
def Srx.many (x : Srx) : Bool := decide (30 < x.imps.length) || decide (30 < x.exps.length) || decide (30 < x.defs.length) || decide (8 < x.types.length) || decide (8 < x.convs.length)
def Srx.dup (x : Srx) : Bool := twA x.imps || twA x.exps || twA x.tns || twA x.dns || twA x.cns || hasS x.imps x.name
def Srx.known (x : Srx) : Bool := x.exps.all (hasS x.dns) && x.cns.all (hasS x.tns)
noncomputable def Srx.progs (x : Srx) : Bool := x.defs.all Dfn.ok && x.convs.all Dfn.ok
def Srx.names (x : Srx) : Bool := x.imps.all nB && x.exps.all nB && x.tns.all nB && x.dns.all nB && x.cns.all nB
noncomputable def Srx.ok (x : Srx) : Bool := (nB x.name && !x.many && !x.dup && x.known && x.names) && x.types.all Typ.ok && x.defs.all Dfn.ok && x.convs.all Dfn.ok
def Srx.alike (x : Srx) : Bool := nmA x.imps && nmA x.exps && (x.types.all Typ.ok && nmA x.tns) && nmA x.dns && nmA x.cns && !hasS x.imps x.name
/-- As the program asks. -/
theorem Srx.ok_eq (x : Srx) : (nB x.name && !x.many && x.alike && x.known && x.progs) = x.ok := by
  unfold Srx.alike Srx.ok Srx.progs Srx.dup Srx.names
  rw [nmA_eq, nmA_eq, nmA_eq, nmA_eq, nmA_eq]
  generalize nB x.name = a
  generalize x.many = b
  generalize x.known = c
  generalize hasS x.imps x.name = d
  generalize twA x.imps = e1
  generalize twA x.exps = e2
  generalize twA x.tns = e3
  generalize twA x.dns = e4
  generalize twA x.cns = e5
  generalize x.imps.all nB = f1
  generalize x.exps.all nB = f2
  generalize x.tns.all nB = f3
  generalize x.dns.all nB = f4
  generalize x.cns.all nB = f5
  generalize x.types.all Typ.ok = g1
  generalize x.defs.all Dfn.ok = g2
  generalize x.convs.all Dfn.ok = g3
  cases a <;> cases b <;> cases c <;> cases d <;> simp [Bool.and_assoc, Bool.and_left_comm, Bool.and_comm]
end Go.Proofs.YtamjofdgikifnaaGreat
