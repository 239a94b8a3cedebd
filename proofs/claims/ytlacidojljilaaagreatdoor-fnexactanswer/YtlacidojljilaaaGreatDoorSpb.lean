/- Which systems are right, as a plain function. -/
import Derived.Test.YtlacidojljilaaaGreatDoorSyp
import Derived.Test.YtlacidojljilaaaGreatDoorHsx
import Derived.Test.YtlacidojljilaaaGreatDoorPsx
set_option linter.unusedVariables false
set_option maxRecDepth 100000
set_option maxHeartbeats 8000000
namespace Go.Proofs.YtlacidojljilaaaGreatDoor
open Go.ChangeShapes Go.WideShapes Go.ChangeAt Go.RowKit
noncomputable def holds (p : Prop) : Bool := @decide p (Classical.propDecidable p)
theorem holds_iff {p : Prop} : holds p = true ↔ p := by unfold holds; exact @decide_eq_true_iff p (Classical.propDecidable p)
theorem holds_of {p : Prop} {b : Bool} (h : b = true ↔ p) : b = holds p := by
 rw [Bool.eq_iff_iff, h, holds_iff]
def Val.zero (v : Val) : Bool := decide (v.k = 0) && decide (v.n = 0) && (v.s.toList == [])
def Val.okz (h : List Cel) (v : Val) : Bool := v.zero || v.ok h
def Lnk.ok (ni : Nat) (l : Lnk) : Bool := decide (0 ≤ l.inst) && decide (l.inst < (ni : Int)) && naL l.at_.toList
def Typ.ok (t : Typ) : Bool := decide (0 ≤ t.size) && decide (t.size ≤ 8)
def Ins.lns (x : Ins) : List ByteArray := x.names ++ x.links.map (·.name)
def Ins.tns (x : Ins) : List ByteArray := x.types.map (·.name)
def Ins.hd (i : Nat) (x : Ins) : Bool := if i = 0 then (x.lib.toList == []) && decide (x.ver = 0) else naL x.lib.toList && decide (1 ≤ x.ver) && decide (x.ver ≤ 1000)
def Ins.vok (h : List Cel) (x : Ins) : Bool := decide (x.vals.length = x.names.length) && x.vals.all (Val.okz h)
def Ins.cont (h : List Cel) (ni : Nat) (x : Ins) : Bool :=
 decide (x.names.length ≤ 30) && decide (x.links.length ≤ 30) && decide (x.types.length ≤ 8) && nmA x.lns && x.vok h && x.links.all (Lnk.ok ni) && (x.types.all Typ.ok && nmA x.tns)
def Ins.ok (h : List Cel) (ni i : Nat) (x : Ins) : Bool := x.hd i && x.cont h ni
def allI {α : Type} (f : Nat → α → Bool) (l : List α) : Nat → Bool
 | 0 => true
 | k + 1 => allI f l k && (match l[k]? with
  | some x => f k x
  | none => true)
theorem allI_step {α : Type} {f : Nat → α → Bool} {l : List α} {k : Nat} {x : α} (h : l[k]? = some x) : allI f l (k + 1) = (allI f l k && f k x) := by simp [allI, h]
theorem allI_false {α : Type} {f : Nat → α → Bool} {l : List α} {k : Nat} (h : allI f l k = false) : ∀ j, k ≤ j → allI f l j = false := by
 intro j hj
 induction j with
 | zero =>
  obtain rfl : k = 0 := by omega
  exact h
 | succ j ih =>
  by_cases hk : k = j + 1
  ·subst hk; exact h
  ·simp [allI, ih (by omega)]
theorem allI_bad {α : Type} {f : Nat → α → Bool} {l : List α} {k : Nat} {x : α} (h : l[k]? = some x) (hf : f k x = false) : allI f l l.length = false :=
 allI_false (k := k + 1) (by rw [allI_step h, hf, Bool.and_false]) _ (List.getElem?_eq_some_iff.1 h).1
def instsB (h : List Cel) (l : List Ins) : Bool := decide (1 ≤ l.length) && decide (l.length ≤ 12) && allI (fun i x => x.ok h l.length i) l l.length
noncomputable def Unt.ok (ni : Nat) (u : Unt) : Bool := decide (0 ≤ u.home) && decide (u.home < (ni : Int)) && holds (OkP u.prog.nodes u.prog.root)
noncomputable def unitsB (ni : Nat) (l : List Unt) : Bool := decide (l.length ≤ 60) && l.all (Unt.ok ni)
def isFnB (us : List Unt) (a b : Int) : Bool :=
 match us[a.toNat]? with
 | none => false
 | some u => match u.prog.nodes[b.toNat]? with
  | none => false
  | some d => decide (d.k = 7)
def fnB (us : List Unt) (c : Cel) : Bool := if c.k = 2 then isFnB us c.a c.b else true
def fnsB (h : List Cel) (us : List Unt) : Bool := h.all (fnB us)
noncomputable def Sy.ok (y : Sy) : Bool := holds (HeapP y.heap) && instsB y.heap y.insts && unitsB y.insts.length y.units && fnsB y.heap y.units && decide (y.out.length ≤ 40)
theorem nmB_pre (a b : List ByteArray) : ∀ k, k ≤ a.length → nmB (a ++ b) k = nmB a k
 | 0, _ => rfl
 | k + 1, hk => by
  have hx : a[k]? = some a[k] := List.getElem?_eq_getElem (by omega)
  have hx' : (a ++ b)[k]? = some a[k] := by rw [List.getElem?_append_left (by omega)]; exact hx
  rw [nmB_step hx, nmB_step hx', nmB_pre a b k (by omega), List.take_append_of_le_length (by omega)]
theorem nmA_pre {a b : List ByteArray} (h : nmA (a ++ b) = true) : nmA a = true := by
 unfold nmA at *
 cases hq : nmB a a.length with
 | true => rfl
 | false =>
  rw [← nmB_pre a b a.length (Nat.le_refl _)] at hq
  rw [nmB_false hq _ (by simp)] at h
  cases h
end Go.Proofs.YtlacidojljilaaaGreatDoor
