/- What a right node is, in the model's words and by the map of shapes: the same. A region that draws its order, gone through by hand: an operation at a time. Rows of names: the model's and the program's way. Programs as plain lists of nodes; which are right; programs in memory. How much a program holds. -/
import Derived.Test.YtgjeefedcfakdaaShq
import Derived.Test.YtgjeefedcfakdaaNad
import Derived.Deep.RegionHeld3
set_option linter.unusedVariables false
set_option maxRecDepth 100000
set_option maxHeartbeats 8000000
namespace Go.Proofs.Ytgjeefedcfakdaa
open Go.ChangeShapes Go.WideShapes Go.ChangeAt Go.RowKit
def baseF (a b c d : Int) : Option (Int × Int × Int) :=
 if a = 1 ∧ b = 0 ∧ c = 0 ∧ d = 0 then some (-1000000, 1000000, 0) else
 if a = 2 ∧ b = 0 ∧ c = 0 ∧ d = 0 then some (0, 1, 0) else
 if a = 3 ∧ b = 0 ∧ c = 0 ∧ d = 0 then some (0, 0, 0) else
 if a = 4 ∧ b = 0 ∧ c = 0 ∧ d = 0 then some (0, 0, 1) else
 if a = 5 ∧ b = 0 ∧ c = 0 ∧ d = 0 then some (0, 0, 2) else
 if a = 6 ∧ b = 0 ∧ c = 0 ∧ d = 3 then some (0, 0, 0) else
 if a = 9 ∧ b = 1 ∧ c = 0 ∧ d = 1 then some (0, 0, 3) else
 if a = 9 ∧ b = 2 ∧ c = 0 ∧ d = 2 then some (0, 0, 3) else
 if a = 9 ∧ b = 4 ∧ c = 1 ∧ d = 1 then some (0, 7, 3) else
 if a = 9 ∧ b = 5 ∧ c = 1 ∧ d = 1 then some (0, 0, 3) else
 if a = 10 ∧ b = 0 ∧ c = 0 ∧ d = 1 then some (0, 0, 2) else
 if a = 11 ∧ b = 0 ∧ c = 0 ∧ d = 2 then some (0, 0, 0) else
 none
theorem FS_base (a b c d : Int) : FS (fun _ => true) a b c d = baseF a b c d := by
 have e : List.range 12 = [0, 1, 2, 3, 4, 5, 6, 7, 8, 9, 10, 11] := rfl
 unfold FS shIdx baseF
 rw [e]
 by_cases h0 : a = 1 ∧ b = 0 ∧ c = 0 ∧ d = 0
 ·rw [if_pos h0]
  obtain ⟨rfl, rfl, rfl, rfl⟩ := h0
  rfl
 by_cases h1 : a = 2 ∧ b = 0 ∧ c = 0 ∧ d = 0
 ·rw [if_neg h0, if_pos h1]
  obtain ⟨rfl, rfl, rfl, rfl⟩ := h1
  rfl
 by_cases h2 : a = 3 ∧ b = 0 ∧ c = 0 ∧ d = 0
 ·rw [if_neg h0, if_neg h1, if_pos h2]
  obtain ⟨rfl, rfl, rfl, rfl⟩ := h2
  rfl
 by_cases h3 : a = 4 ∧ b = 0 ∧ c = 0 ∧ d = 0
 ·rw [if_neg h0, if_neg h1, if_neg h2, if_pos h3]
  obtain ⟨rfl, rfl, rfl, rfl⟩ := h3
  rfl
 by_cases h4 : a = 5 ∧ b = 0 ∧ c = 0 ∧ d = 0
 ·rw [if_neg h0, if_neg h1, if_neg h2, if_neg h3, if_pos h4]
  obtain ⟨rfl, rfl, rfl, rfl⟩ := h4
  rfl
 by_cases h5 : a = 6 ∧ b = 0 ∧ c = 0 ∧ d = 3
 ·rw [if_neg h0, if_neg h1, if_neg h2, if_neg h3, if_neg h4, if_pos h5]
  obtain ⟨rfl, rfl, rfl, rfl⟩ := h5
  rfl
 by_cases h6 : a = 9 ∧ b = 1 ∧ c = 0 ∧ d = 1
 ·rw [if_neg h0, if_neg h1, if_neg h2, if_neg h3, if_neg h4, if_neg h5, if_pos h6]
  obtain ⟨rfl, rfl, rfl, rfl⟩ := h6
  rfl
 by_cases h7 : a = 9 ∧ b = 2 ∧ c = 0 ∧ d = 2
 ·rw [if_neg h0, if_neg h1, if_neg h2, if_neg h3, if_neg h4, if_neg h5, if_neg h6, if_pos h7]
  obtain ⟨rfl, rfl, rfl, rfl⟩ := h7
  rfl
 by_cases h8 : a = 9 ∧ b = 4 ∧ c = 1 ∧ d = 1
 ·rw [if_neg h0, if_neg h1, if_neg h2, if_neg h3, if_neg h4, if_neg h5, if_neg h6, if_neg h7, if_pos h8]
  obtain ⟨rfl, rfl, rfl, rfl⟩ := h8
  rfl
 by_cases h9 : a = 9 ∧ b = 5 ∧ c = 1 ∧ d = 1
 ·rw [if_neg h0, if_neg h1, if_neg h2, if_neg h3, if_neg h4, if_neg h5, if_neg h6, if_neg h7, if_neg h8, if_pos h9]
  obtain ⟨rfl, rfl, rfl, rfl⟩ := h9
  rfl
 by_cases h10 : a = 10 ∧ b = 0 ∧ c = 0 ∧ d = 1
 ·rw [if_neg h0, if_neg h1, if_neg h2, if_neg h3, if_neg h4, if_neg h5, if_neg h6, if_neg h7, if_neg h8, if_neg h9, if_pos h10]
  obtain ⟨rfl, rfl, rfl, rfl⟩ := h10
  rfl
 by_cases h11 : a = 11 ∧ b = 0 ∧ c = 0 ∧ d = 2
 ·rw [if_neg h0, if_neg h1, if_neg h2, if_neg h3, if_neg h4, if_neg h5, if_neg h6, if_neg h7, if_neg h8, if_neg h9, if_neg h10, if_pos h11]
  obtain ⟨rfl, rfl, rfl, rfl⟩ := h11
  rfl
 rw [if_neg h0, if_neg h1, if_neg h2, if_neg h3, if_neg h4, if_neg h5, if_neg h6, if_neg h7, if_neg h8, if_neg h9, if_neg h10, if_neg h11]
 have hn : ([0, 1, 2, 3, 4, 5, 6, 7, 8, 9, 10, 11] : List Nat).find? (fun j => decide (shKey j = (a, b, c, d))) = none := by
  rw [List.find?_eq_none]
  intro j hj hs
  have hs : shKey j = (a, b, c, d) := by simpa using hs
  simp only [List.mem_cons, List.not_mem_nil, or_false] at hj
  rcases hj with rfl | rfl | rfl | rfl | rfl | rfl | rfl | rfl | rfl | rfl | rfl | rfl
  ·simp only [shKey, Prod.mk.injEq] at hs; exact h0 (by omega)
  ·simp only [shKey, Prod.mk.injEq] at hs; exact h1 (by omega)
  ·simp only [shKey, Prod.mk.injEq] at hs; exact h2 (by omega)
  ·simp only [shKey, Prod.mk.injEq] at hs; exact h3 (by omega)
  ·simp only [shKey, Prod.mk.injEq] at hs; exact h4 (by omega)
  ·simp only [shKey, Prod.mk.injEq] at hs; exact h5 (by omega)
  ·simp only [shKey, Prod.mk.injEq] at hs; exact h6 (by omega)
  ·simp only [shKey, Prod.mk.injEq] at hs; exact h7 (by omega)
  ·simp only [shKey, Prod.mk.injEq] at hs; exact h8 (by omega)
  ·simp only [shKey, Prod.mk.injEq] at hs; exact h9 (by omega)
  ·simp only [shKey, Prod.mk.injEq] at hs; exact h10 (by omega)
  ·simp only [shKey, Prod.mk.injEq] at hs; exact h11 (by omega)
 rw [hn]
 rfl
def txB (s : ByteArray) (t : Int) : Bool :=
 if t = 1 then syL s.toList else if t = 2 then naL s.toList else if t = 3 then !(soL s.toList == 0) else s.toList.isEmpty
def nodB (k n : Int) (s : ByteArray) (ln la : Nat) (nm : Bool) : Bool :=
 match F2 9 k (if k = 9 then soL s.toList else 0) ln (if k = 11 then min (la : Int) 2 else la) with
 | some (l, h, t) => decide (l ≤ n) && decide (n ≤ h) && txB s t && nm
 | none => false
def prB (n : Int) (s : ByteArray) (ln la : Nat) (nm : Bool) : Bool :=
 if soL s.toList = 3 then decide (ln = 1) && nm && decide (la ≤ 8) && decide (n = 0)
 else if soL s.toList = 4 then decide (ln = 1) && nm && decide (la = 1) && (decide (0 ≤ n) && decide (n ≤ 7))
 else if soL s.toList = 5 then decide (ln = 1) && nm && decide (la = 1) && decide (n = 0)
 else decide (ln = 0) && decide (arL s.toList = (la : Int)) && decide (n = 0)
def spB (k n : Int) (s : ByteArray) (ln la : Nat) (nm : Bool) : Bool :=
 if k = 1 then decide (ln = 0) && decide (la = 0) && s.toList.isEmpty && (decide (-1000000 ≤ n) && decide (n ≤ 1000000))
 else if k = 2 then decide (ln = 0) && decide (la = 0) && s.toList.isEmpty && (decide (0 ≤ n) && decide (n ≤ 1))
 else if k = 3 then decide (ln = 0) && decide (la = 0) && s.toList.isEmpty && decide (n = 0)
 else if k = 4 then decide (ln = 0) && decide (la = 0) && syL s.toList && decide (n = 0)
 else if k = 5 then decide (ln = 0) && decide (la = 0) && naL s.toList && decide (n = 0)
 else if k = 6 then decide (ln = 0) && decide (la = 3) && s.toList.isEmpty && decide (n = 0)
 else if k = 7 then (decide (ln ≤ 8) && nm) && decide (la = 1) && s.toList.isEmpty && decide (n = 0)
 else if k = 8 then decide (ln = 0) && (decide (1 ≤ la) && decide (la ≤ 9)) && s.toList.isEmpty && decide (n = 0)
 else if k = 10 then decide (ln = 0) && decide (la = 1) && naL s.toList && decide (n = 0)
 else if k = 11 then decide (ln = 0) && decide (2 ≤ la) && s.toList.isEmpty && decide (n = 0)
 else if k = 9 then prB n s ln la nm
 else false
theorem F2_at (a b c d : Int) : F2 9 a b c d = (if a = 8 ∧ b = 0 ∧ c = 0 ∧ 1 ≤ d ∧ d < 10 then some (0, 0, 0) else if a = 9 ∧ b = 3 ∧ c = 1 ∧ 0 ≤ d ∧ d < 9 then some (0, 0, 3) else if a = 7 ∧ b = 0 ∧ d = 1 ∧ 0 ≤ c ∧ c < 9 then some (0, 0, 0) else baseF a b c d) := by
 unfold F2 F1
 rw [FS_base]
 rfl
theorem sp_nod (k n : Int) (s : ByteArray) (ln la : Nat) (nm : Bool) (h0 : ln = 0 → nm = true) : spB k n s ln la nm = nodB k n s ln la nm := by
 unfold nodB
 rw [F2_at]
 have hz : (decide (0 ≤ n) && decide (n ≤ 0)) = decide (n = 0) := by
  by_cases h : n = 0
  ·simp [h]
  ·simp [h]; omega
 have hz' : (decide (n ≤ 0) && decide (0 ≤ n)) = decide (n = 0) := by rw [Bool.and_comm]; exact hz
 by_cases k1 : k = 1
 ·subst k1
  by_cases h1 : ln = 0
  ·have hn := h0 h1
   by_cases h2 : la = 0
   ·simp [spB, baseF, txB, Bool.and_comm, *]
   ·have h3 : ¬ (la : Int) = 0 := by omega
    simp [spB, baseF, *]
  ·have h3 : ¬ (ln : Int) = 0 := by omega
   simp [spB, baseF, *]
 by_cases k2 : k = 2
 ·subst k2
  by_cases h1 : ln = 0
  ·have hn := h0 h1
   by_cases h2 : la = 0
   ·simp [spB, baseF, txB, Bool.and_comm, *]
   ·have h3 : ¬ (la : Int) = 0 := by omega
    simp [spB, baseF, *]
  ·have h3 : ¬ (ln : Int) = 0 := by omega
   simp [spB, baseF, *]
 by_cases k3 : k = 3
 ·subst k3
  by_cases h1 : ln = 0
  ·have hn := h0 h1
   by_cases h2 : la = 0
   ·simp [spB, baseF, txB, Bool.and_comm, *]
   ·have h3 : ¬ (la : Int) = 0 := by omega
    simp [spB, baseF, *]
  ·have h3 : ¬ (ln : Int) = 0 := by omega
   simp [spB, baseF, *]
 by_cases k4 : k = 4
 ·subst k4
  by_cases h1 : ln = 0
  ·have hn := h0 h1
   by_cases h2 : la = 0
   ·simp [spB, baseF, txB, Bool.and_comm, *]
   ·have h3 : ¬ (la : Int) = 0 := by omega
    simp [spB, baseF, *]
  ·have h3 : ¬ (ln : Int) = 0 := by omega
   simp [spB, baseF, *]
 by_cases k5 : k = 5
 ·subst k5
  by_cases h1 : ln = 0
  ·have hn := h0 h1
   by_cases h2 : la = 0
   ·simp [spB, baseF, txB, Bool.and_comm, *]
   ·have h3 : ¬ (la : Int) = 0 := by omega
    simp [spB, baseF, *]
  ·have h3 : ¬ (ln : Int) = 0 := by omega
   simp [spB, baseF, *]
 by_cases k6 : k = 6
 ·subst k6
  by_cases h1 : ln = 0
  ·have hn := h0 h1
   by_cases h2 : la = 3
   ·simp [spB, baseF, txB, Bool.and_comm, *]
   ·have h3 : ¬ (la : Int) = 3 := by omega
    simp [spB, baseF, *]
  ·have h3 : ¬ (ln : Int) = 0 := by omega
   simp [spB, baseF, *]
 by_cases k10 : k = 10
 ·subst k10
  by_cases h1 : ln = 0
  ·have hn := h0 h1
   by_cases h2 : la = 1
   ·simp [spB, baseF, txB, Bool.and_comm, *]
   ·have h3 : ¬ (la : Int) = 1 := by omega
    simp [spB, baseF, *]
  ·have h3 : ¬ (ln : Int) = 0 := by omega
   simp [spB, baseF, *]
 by_cases k11 : k = 11
 ·subst k11
  by_cases h1 : ln = 0
  ·have hn := h0 h1
   by_cases h2 : 2 ≤ la
   ·have h3 : min (la : Int) 2 = 2 := by omega
    simp [spB, baseF, txB, Bool.and_comm, *]
   ·have h3 : ¬ min (la : Int) 2 = 2 := by omega
    simp [spB, baseF, *]
  ·have h3 : ¬ (ln : Int) = 0 := by omega
   simp [spB, baseF, *]
 by_cases k8 : k = 8
 ·subst k8
  by_cases h1 : ln = 0
  ·have hn := h0 h1
   by_cases h2 : 1 ≤ la ∧ la ≤ 9
   ·obtain ⟨h2, h3⟩ := h2
    have h4 : (1 : Int) ≤ la := by omega
    have h5 : (la : Int) < 10 := by omega
    simp [spB, txB, Bool.and_comm, *]
   ·have h3 : ¬ ((1 : Int) ≤ la ∧ (la : Int) < 10) := by omega
    have h4 : (decide (1 ≤ la) && decide (la ≤ 9)) = false := by simp; omega
    simp [spB, baseF, *]
  ·have h3 : ¬ (ln : Int) = 0 := by omega
   simp [spB, baseF, *]
 by_cases k7 : k = 7
 ·subst k7
  by_cases h2 : la = 1
  ·by_cases h1 : ln ≤ 8
   ·have h3 : (ln : Int) < 9 := by omega
    simp [spB, txB, Bool.and_assoc, Bool.and_comm, *]
   ·have h3 : ¬ (ln : Int) < 9 := by omega
    simp [spB, baseF, *]
  ·have h3 : ¬ (la : Int) = 1 := by omega
   simp [spB, baseF, *]
 by_cases k9 : k = 9
 ·subst k9
  unfold spB prB
  rcases so_ar s with ⟨e1, e2⟩ | ⟨e1, e2⟩ | ⟨e1, e2⟩ | ⟨e1, e2⟩ | ⟨e1, e2⟩ | ⟨e1, e2⟩
  ·by_cases h1 : ln = 0
   ·have hn := h0 h1
    by_cases h2 : la = 1
    ·simp [baseF, txB, *]
    ·have h3 : ¬ (la : Int) = 1 := by omega
     have h4 : ¬ (1 : Int) = la := by omega
     simp [baseF, *]
   ·have h3 : ¬ (ln : Int) = 0 := by omega
    simp [baseF, *]
  ·by_cases h1 : ln = 0
   ·have hn := h0 h1
    by_cases h2 : la = 2
    ·simp [baseF, txB, *]
    ·have h3 : ¬ (la : Int) = 2 := by omega
     have h4 : ¬ (2 : Int) = la := by omega
     simp [baseF, *]
   ·have h3 : ¬ (ln : Int) = 0 := by omega
    simp [baseF, *]
  ·by_cases h1 : ln = 1
   ·by_cases h2 : la ≤ 8
    ·have h3 : (la : Int) < 9 := by omega
     simp [txB, Bool.and_comm, *]
    ·have h3 : ¬ (la : Int) < 9 := by omega
     simp [baseF, *]
   ·have h3 : ¬ (ln : Int) = 1 := by omega
    simp [baseF, *]
  ·by_cases h1 : ln = 1
   ·by_cases h2 : la = 1
    ·simp [baseF, txB, Bool.and_comm, *]
    ·have h3 : ¬ (la : Int) = 1 := by omega
     simp [baseF, *]
   ·have h3 : ¬ (ln : Int) = 1 := by omega
    simp [baseF, *]
  ·by_cases h1 : ln = 1
   ·by_cases h2 : la = 1
    ·simp [baseF, txB, Bool.and_comm, *]
    ·have h3 : ¬ (la : Int) = 1 := by omega
     simp [baseF, *]
   ·have h3 : ¬ (ln : Int) = 1 := by omega
    simp [baseF, *]
  ·have h4 : ¬ (-1 : Int) = la := by omega
   simp [baseF, *]
 simp [spB, baseF, *]
end Go.Proofs.Ytgjeefedcfakdaa
namespace Go.Proofs.Ytgjeefedcfakdaa
open Go.ChangeShapes Go.WideShapes Go.ChangeAt Go.RowKit
section
variable {Q : Exit → Act → World → Prop}
theorem run_v {s : Sem Value} {w w' : World} {x : Value} (h : s.run Try.prog w = .ok x w') : (do let y ← s; pure (Next.value y) : Sem Next).run Try.prog w = .ok (.value x) w' := by
 simp [h, Result.andThen]
theorem opw_value {ops : Array Oper} {i : Nat} {o : Oper} {a : Act} {w w' : World} {K : Act → World → Prop} {v : Value} (ho : ops[i]? = some o) (hw : Region.wanted o (yielded ops a.tmps) = true)
  (hr : (execOp a.eval o).run Try.prog w = .ok (.value v) w') (h : K (a.put o.dst v) w') : wpOp Try.prog ops Q i K a w := by
 unfold wpOp
 simp only [ho, hw, if_true]
 refine .inl ?_
 unfold Oper.wp
 rw [hr]
 exact h
theorem opw_call {ops : Array Oper} {i : Nat} {o : Oper} {a : Act} {w : World} {K : Act → World → Prop} {f : FuncId} {args : Array Value} (ho : ops[i]? = some o) (hw : Region.wanted o (yielded ops a.tmps) = true)
  (hr : (execOp a.eval o).run Try.prog w = .ok (.enter f args) w) (h : Calls Try.prog f args w fun e w' => ∃ v, e = .returned v ∧ K (a.put o.dst v) w') : wpOp Try.prog ops Q i K a w := by
 unfold wpOp
 simp only [ho, hw, if_true]
 refine .inl ?_
 unfold Oper.wp
 rw [hr]
 refine h.mono ?_
 rintro e w' ⟨v, rfl, hk⟩
 exact hk
theorem any_one {ops : Array Oper} {fuel : Nat} {listed l' : Array Bool} {i : Nat} {a : Act} {w : World} (hr : Region.ready .any ops listed = [i]) (hl : listed.setIfInBounds i true = l')
  (h : wpOp Try.prog ops Q i (wpAny Try.prog .any ops Q fuel l') a w) : wpAny Try.prog .any ops Q (fuel + 1) listed a w := by
 refine wpAny_all hr (by simp) fun j hj => ?_
 obtain rfl : j = i := by simpa using hj
 rw [hl]
 exact h
end
end Go.Proofs.Ytgjeefedcfakdaa
set_option linter.unusedVariables false
set_option maxRecDepth 100000
set_option maxHeartbeats 8000000
namespace Go.Proofs.Ytgjeefedcfakdaa
open Go.ChangeShapes Go.WideShapes Go.ChangeAt Go.RowKit
def nmB (ts : List ByteArray) : Nat → Bool
 | 0 => true
 | k + 1 => nmB ts k && (match ts[k]? with
  | some x => naL x.toList && !hasS (ts.take k) x
  | none => true)
def nmA (ts : List ByteArray) : Bool := nmB ts ts.length
theorem nmB_step {ts : List ByteArray} {k : Nat} {x : ByteArray} (h : ts[k]? = some x) : nmB ts (k + 1) = (nmB ts k && (naL x.toList && !hasS (ts.take k) x)) := by
 simp [nmB, h]
theorem nmB_false {ts : List ByteArray} {k : Nat} (h : nmB ts k = false) : ∀ j, k ≤ j → nmB ts j = false := by
 intro j hj
 induction j with
 | zero => obtain rfl : k = 0 := (by omega); exact h
 | succ j ih =>
  by_cases e : k = j + 1
  ·subst e; exact h
  ·show (nmB ts j && _) = false
   rw [ih (by omega)]
   rfl
theorem nmA_false {ts : List ByteArray} {k : Nat} {x : ByteArray} (hx : ts[k]? = some x) (h : naL x.toList = false ∨ hasS (ts.take k) x = true) : nmA ts = false := by
 refine nmB_false (k := k + 1) ?_ _ (llt hx)
 rw [nmB_step hx]
 rcases h with h | h <;> simp [h]
theorem cell_keep {B b o : Nat} {w w' : World} {v : Value} (h : w.cell? ⟨b, o, none⟩ = some v) (hb : Below B w w') (hlt : b < B) : w'.cell? ⟨b, o, none⟩ = some v :=
 (World.cell?_of_block (w := w) (a := ⟨b, o, none⟩) (hb.block b hlt)).trans h
def HeldAt (w0 : World) (b o : Nat) (v : Value) (w : World) : Prop := Below w0.heap.size w0 w ∧ w.cell? ⟨b, o, none⟩ = some v
theorem HeldAt.start {w0 : World} {b o : Nat} {v : Value} (h : w0.cell? ⟨b, o, none⟩ = some v) : HeldAt w0 b o v w0.drew := ⟨(Below.refl _ _).drew, h⟩
theorem HeldAt.keep {w0 w w' : World} {b o : Nat} {v : Value} (h : HeldAt w0 b o v w) (hb : Below w.heap.size w w') (hlt : b < w0.heap.size) : HeldAt w0 b o v w' :=
 ⟨h.1.trans (hb.mono h.1.size), cell_keep h.2 hb (by have := h.1.size; omega)⟩
theorem l3Names_any (a : Option Addr) (ts : List ByteArray) (cap : Nat) (w : World) (hn : ts.length ≤ 1048576) (hcap : ts.length ≤ cap) (hr : RowS w w.heap.size a ts) (hsz : ∀ x ∈ ts, x.size ≤ 1048576) :
  Calls Try.prog 37 #[.slice a ts.length cap, .int .i64 8] w fun e w' => Ans w (.bool (decide (ts.length ≤ 8) && nmA ts)) e w' := by
 by_cases h8 : ts.length ≤ 8
 ·have HD : Hid ((decide (ts.length ≤ 8) && nmA ts) = nmA ts) := by show _ = _; simp [h8]
  have h8' : decide ((8 : Int) < (ts.length : Int)) = false := by simp; omega
  rw [HD.out]
  clear HD
  have HR : Hid (RowS w w.heap.size a ts) := hr
  have HS : Hid (∀ x ∈ ts, x.size ≤ 1048576) := hsz
  clear hr hsz
  go_enter Try.func37, Try.ntmps37
  go_wp2
  go_loopw [5] (fun o wr => ∃ (i : Nat), i ≤ ts.length ∧ o = .int .i64 i ∧ nmB ts i = true ∧ Below w.heap.size w wr)
   (fun o _ => ts.length - (intOf o).toNat)
  case atStart => exact ⟨0, by omega, rfl, rfl, Below.refl _ _⟩
  case round =>
   obtain ⟨i, hi, rfl, hno, hb⟩ := hrel
   by_cases hlt : i < ts.length
   ·obtain ⟨d, hd⟩ : ∃ d, ts[i]? = some d := ⟨_, List.getElem?_eq_getElem hlt⟩
    have hrow := (HR.out.below hb)
    obtain ⟨b1, o1, rfl, hbb, c0⟩ := hrow i d hd
    have hsz0 := hb.size
    have HRT : Hid (∀ w2, Below wr.heap.size wr w2 → RowS w2 w2.heap.size (some ⟨b1, o1, none⟩) (ts.take i)) := fun w2 h2 => ((hrow.take i).keep (fun b hb' => h2.block b (by omega))).mono (by have := h2.size; omega)
    have HN : Hid (∀ w, Calls Try.prog 36 #[.string d] w fun e w' => Ans w (.bool (naL d.toList)) e w') := fun w => specNa_any d w (HS.out d (List.mem_of_getElem? hd))
    have HI : Hid (∀ w2, Below wr.heap.size wr w2 → Calls Try.prog 27 #[.slice (some ⟨b1, o1, none⟩) i cap, .string d] w2 fun e w' => Ans w2 (.bool (hasS (ts.take i) d)) e w') := fun w2 h2 => by
     have := l3In_any (some ⟨b1, o1, none⟩) (ts.take i) cap d w2 (by rw [List.length_take]; omega) (HRT.out w2 h2)
     rwa [List.length_take, Nat.min_eq_left (by omega)] at this
    have hic : (i : Int) ≤ (cap : Int) := by omega
    have HC0 : Hid (wr.cell? ⟨b1, o1 + i, none⟩ = some (.string d)) := c0
    have hix : ∀ w, (Instr.indexAt 29 (.slice (some ⟨b1, o1, none⟩) ts.length cap) (.int .i64 i)).run Try.prog w = .ok (.pointer (some ⟨b1, o1 + i, none⟩)) w := by
     intro w
     simp [go_sem]
     omega
    have hsl : ∀ w, (Instr.sliceAt 29 (.slice (some ⟨b1, o1, none⟩) ts.length cap) none (some (.int .i64 i)) none).run Try.prog w = .ok (.slice (some ⟨b1, o1, none⟩) i cap) w := by
     intro w
     simp [go_sem]
     intro h
     exact absurd h (by omega)
    have hld : ∀ w : World, w.cell? ⟨b1, o1 + i, none⟩ = some (.string d) → (Instr.loadAt 9 (.pointer (some ⟨b1, o1 + i, none⟩))).run Try.prog w = .ok (.string d) w := by
     intro w hc
     simp [go_sem, hc]
    have HX : Hid _ := hix
    have HSL : Hid _ := hsl
    have HLD : Hid _ := hld
    clear hix hsl hld
    clear hrow HRT
    cases hna : naL d.toList
    ·have HQ : Hid (nmA ts = false) := nmA_false hd (.inl hna)
     rw [hna] at HN
     clear hno hna HI
     go_wp2_with fail
     refine wp_region_any (by kernel_rfl) ?_
     refine sK 0 (vS b1 o1 ts.length cap) rfl (by kernel_rfl) (fun _ _ _ h => h) (fun w => by kernel_rfl) ?_
     refine eA (bb 16 1) ⟨#[vS b1 o1 ts.length cap,vI 8,vU,vU,u4,vI i,vS b1 o1 ts.length cap,vI ts.length,vI 8,vF,vI i,vS b1 o1 ts.length cap,vI ts.length,vT,u14,u15,vS b1 o1 ts.length cap,u17,u18,u19,u20,u21,u22,u23,u24,u25,u26,u27,u28,u29,u30,u31], []⟩ (by kernel_rfl) (by kernel_rfl) ?_
     refine sK 1 (vI i) rfl (by kernel_rfl) (fun _ _ _ h => h) (fun w => by kernel_rfl) ?_
     refine eA (bb 16 3) ⟨#[vS b1 o1 ts.length cap,vI 8,vU,vU,u4,vI i,vS b1 o1 ts.length cap,vI ts.length,vI 8,vF,vI i,vS b1 o1 ts.length cap,vI ts.length,vT,u14,u15,vS b1 o1 ts.length cap,vI i,u18,u19,u20,u21,u22,u23,u24,u25,u26,u27,u28,u29,u30,u31], []⟩ (by kernel_rfl) (by kernel_rfl) ?_
     refine sK 2 (.pointer (some ⟨b1, o1 + i, none⟩)) rfl (by kernel_rfl) (fun _ _ _ h => h) (fun w => run_v (HX.out w)) ?_
     refine eA (bb 16 7) ⟨#[vS b1 o1 ts.length cap,vI 8,vU,vU,u4,vI i,vS b1 o1 ts.length cap,vI ts.length,vI 8,vF,vI i,vS b1 o1 ts.length cap,vI ts.length,vT,u14,u15,vS b1 o1 ts.length cap,vI i,vP b1 (o1 + i),u19,u20,u21,u22,u23,u24,u25,u26,u27,u28,u29,u30,u31], []⟩ (by kernel_rfl) (by kernel_rfl) ?_
     refine any_one (i := 3) (by kernel_rfl) rfl (opw_value (v := .string d) rfl (by kernel_rfl) (run_v (HLD.out _ c0)) ?_)
     refine eA (bb 16 15) ⟨#[vS b1 o1 ts.length cap,vI 8,vU,vU,u4,vI i,vS b1 o1 ts.length cap,vI ts.length,vI 8,vF,vI i,vS b1 o1 ts.length cap,vI ts.length,vT,u14,u15,vS b1 o1 ts.length cap,vI i,vP b1 (o1 + i),.string d,u20,u21,u22,u23,u24,u25,u26,u27,u28,u29,u30,u31], []⟩ (by kernel_rfl) (by kernel_rfl) ?_
     refine any_one (i := 4) (by kernel_rfl) rfl (opw_call (f := 36) (args := #[.string d]) rfl (by kernel_rfl) (by kernel_rfl) ((HN.out _).mono ?_))
     rintro e w2 ⟨rfl, hb2⟩
     refine ⟨_, rfl, ?_⟩
     refine eA (bb 16 31) ⟨#[vS b1 o1 ts.length cap,vI 8,vU,vU,u4,vI i,vS b1 o1 ts.length cap,vI ts.length,vI 8,vF,vI i,vS b1 o1 ts.length cap,vI ts.length,vT,u14,u15,vS b1 o1 ts.length cap,vI i,vP b1 (o1 + i),.string d,vF,u21,u22,u23,u24,u25,u26,u27,u28,u29,u30,u31], []⟩ (by kernel_rfl) (by kernel_rfl) ?_
     have hb2 : Below wr.heap.size wr w2 := ((Below.refl wr.heap.size wr).drew).trans hb2
     refine sK 5 (vT) rfl (by kernel_rfl) (fun _ _ _ h => h) (fun w => by kernel_rfl) ?_
     refine eA (bb 16 63) ⟨#[vS b1 o1 ts.length cap,vI 8,vU,vU,u4,vI i,vS b1 o1 ts.length cap,vI ts.length,vI 8,vF,vI i,vS b1 o1 ts.length cap,vI ts.length,vT,u14,u15,vS b1 o1 ts.length cap,vI i,vP b1 (o1 + i),.string d,vF,vT,u22,u23,u24,u25,u26,u27,u28,u29,u30,u31], []⟩ (by kernel_rfl) (by kernel_rfl) ?_
     refine sK 6 (vT) rfl (by kernel_rfl) (fun _ _ _ h => h) (fun w => by kernel_rfl) ?_
     refine eA (bb 16 127) ⟨#[vS b1 o1 ts.length cap,vI 8,vU,vU,u4,vI i,vS b1 o1 ts.length cap,vI ts.length,vI 8,vF,vI i,vS b1 o1 ts.length cap,vI ts.length,vT,u14,u15,vS b1 o1 ts.length cap,vI i,vP b1 (o1 + i),.string d,vF,vT,vT,u23,u24,u25,u26,u27,u28,u29,u30,u31], []⟩ (by kernel_rfl) (by kernel_rfl) ?_
     refine sU 7 rfl (by kernel_rfl) (fun _ _ _ h => h) ?_
     refine eA (bb 16 255) ⟨#[vS b1 o1 ts.length cap,vI 8,vU,vU,u4,vI i,vS b1 o1 ts.length cap,vI ts.length,vI 8,vF,vI i,vS b1 o1 ts.length cap,vI ts.length,vT,u14,u15,vS b1 o1 ts.length cap,vI i,vP b1 (o1 + i),.string d,vF,vT,vT,vU,u24,u25,u26,u27,u28,u29,u30,u31], []⟩ (by kernel_rfl) (by kernel_rfl) ?_
     refine sU 8 rfl (by kernel_rfl) (fun _ _ _ h => h) ?_
     refine eA (bb 16 511) ⟨#[vS b1 o1 ts.length cap,vI 8,vU,vU,u4,vI i,vS b1 o1 ts.length cap,vI ts.length,vI 8,vF,vI i,vS b1 o1 ts.length cap,vI ts.length,vT,u14,u15,vS b1 o1 ts.length cap,vI i,vP b1 (o1 + i),.string d,vF,vT,vT,vU,vU,u25,u26,u27,u28,u29,u30,u31], []⟩ (by kernel_rfl) (by kernel_rfl) ?_
     refine sU 9 rfl (by kernel_rfl) (fun _ _ _ h => h) ?_
     refine eA (bb 16 1023) ⟨#[vS b1 o1 ts.length cap,vI 8,vU,vU,u4,vI i,vS b1 o1 ts.length cap,vI ts.length,vI 8,vF,vI i,vS b1 o1 ts.length cap,vI ts.length,vT,u14,u15,vS b1 o1 ts.length cap,vI i,vP b1 (o1 + i),.string d,vF,vT,vT,vU,vU,vU,u26,u27,u28,u29,u30,u31], []⟩ (by kernel_rfl) (by kernel_rfl) ?_
     refine sU 10 rfl (by kernel_rfl) (fun _ _ _ h => h) ?_
     refine eA (bb 16 2047) ⟨#[vS b1 o1 ts.length cap,vI 8,vU,vU,u4,vI i,vS b1 o1 ts.length cap,vI ts.length,vI 8,vF,vI i,vS b1 o1 ts.length cap,vI ts.length,vT,u14,u15,vS b1 o1 ts.length cap,vI i,vP b1 (o1 + i),.string d,vF,vT,vT,vU,vU,vU,vU,u27,u28,u29,u30,u31], []⟩ (by kernel_rfl) (by kernel_rfl) ?_
     refine sU 11 rfl (by kernel_rfl) (fun _ _ _ h => h) ?_
     refine eA (bb 16 4095) ⟨#[vS b1 o1 ts.length cap,vI 8,vU,vU,u4,vI i,vS b1 o1 ts.length cap,vI ts.length,vI 8,vF,vI i,vS b1 o1 ts.length cap,vI ts.length,vT,u14,u15,vS b1 o1 ts.length cap,vI i,vP b1 (o1 + i),.string d,vF,vT,vT,vU,vU,vU,vU,vU,u28,u29,u30,u31], []⟩ (by kernel_rfl) (by kernel_rfl) ?_
     refine sU 12 rfl (by kernel_rfl) (fun _ _ _ h => h) ?_
     refine eA (bb 16 8191) ⟨#[vS b1 o1 ts.length cap,vI 8,vU,vU,u4,vI i,vS b1 o1 ts.length cap,vI ts.length,vI 8,vF,vI i,vS b1 o1 ts.length cap,vI ts.length,vT,u14,u15,vS b1 o1 ts.length cap,vI i,vP b1 (o1 + i),.string d,vF,vT,vT,vU,vU,vU,vU,vU,vU,u29,u30,u31], []⟩ (by kernel_rfl) (by kernel_rfl) ?_
     refine sU 13 rfl (by kernel_rfl) (fun _ _ _ h => h) ?_
     refine eA (bb 16 16383) ⟨#[vS b1 o1 ts.length cap,vI 8,vU,vU,u4,vI i,vS b1 o1 ts.length cap,vI ts.length,vI 8,vF,vI i,vS b1 o1 ts.length cap,vI ts.length,vT,u14,u15,vS b1 o1 ts.length cap,vI i,vP b1 (o1 + i),.string d,vF,vT,vT,vU,vU,vU,vU,vU,vU,vU,u30,u31], []⟩ (by kernel_rfl) (by kernel_rfl) ?_
     refine sU 14 rfl (by kernel_rfl) (fun _ _ _ h => h) ?_
     refine eA (bb 16 32767) ⟨#[vS b1 o1 ts.length cap,vI 8,vU,vU,u4,vI i,vS b1 o1 ts.length cap,vI ts.length,vI 8,vF,vI i,vS b1 o1 ts.length cap,vI ts.length,vT,u14,u15,vS b1 o1 ts.length cap,vI i,vP b1 (o1 + i),.string d,vF,vT,vT,vU,vU,vU,vU,vU,vU,vU,vU,u31], []⟩ (by kernel_rfl) (by kernel_rfl) ?_
     refine sK 15 (vT) rfl (by kernel_rfl) (fun _ _ _ h => h) (fun w => by kernel_rfl) ?_
     refine eA (bb 16 65535) ⟨#[.slice (some ⟨b1, o1, none⟩) ts.length cap, .int .i64 8, undef, undef, u4, .int .i64 i, .slice (some ⟨b1, o1, none⟩) ts.length cap, .int .i64 ts.length, .int .i64 8, .bool false, .int .i64 i, .slice (some ⟨b1, o1, none⟩) ts.length cap, .int .i64 ts.length, .bool true, u14, u15, .slice (some ⟨b1, o1, none⟩) ts.length cap, .int .i64 i, .pointer (some ⟨b1, o1 + i, none⟩), .string d, .bool false, .bool true, .bool true, undef, undef, undef, undef, undef, undef, undef, undef, .bool true], []⟩ (by kernel_rfl) (by kernel_rfl) ?_
     refine wpAny_done (by kernel_rfl) ?_ _
     all_goals
      go_wp2
      go_ret
      exact ⟨by rw [HQ.out]; rfl, hb.trans (hb2.mono hsz0)⟩
    ·rw [hna] at HN
     cases hha : hasS (ts.take i) d
     ·have HQ : Hid (nmB ts (i + 1) = true) := by show _ = _; rw [nmB_step hd, hno, hna, hha]; rfl
      rw [hha] at HI
      clear hno hna hha
      go_wp2_with fail
      go_region_held3 (fun w' => w'.cell? ⟨b1, o1 + i, none⟩ = some (.string d)) (first | exact cell_keep HC0.out hb5 (by omega) | exact cell_keep HC0.out hb3 (by omega) | exact HC0.out) (first | (go_at_call 27; refine (HI.out _ hb3).mono ?_; rintro e w3 ⟨rfl, hb4⟩; have hb5 : Below wr.heap.size wr w3 := bT hb3 hb4) | (go_at_call 36; refine (HN.out _).mono ?_; rintro e w2 ⟨rfl, hb2⟩; have hb3 : Below wr.heap.size wr w2 := (Below.refl wr.heap.size wr).drew.trans hb2))
      all_goals
       go_wp2
       go_roundw
       case rel => exact ⟨i + 1, by omega, by go_num, HQ.out, hb.trans (hb5.mono hsz0)⟩
       case measure => simp [intOf]; omega
     ·have HQ : Hid (nmA ts = false) := nmA_false hd (.inr hha)
      rw [hha] at HI
      clear hno hna hha
      go_wp2_with fail
      go_region_held3 (fun w' => w'.cell? ⟨b1, o1 + i, none⟩ = some (.string d)) (first | exact cell_keep HC0.out hb5 (by omega) | exact cell_keep HC0.out hb3 (by omega) | exact HC0.out) (first | (go_at_call 27; refine (HI.out _ hb3).mono ?_; rintro e w3 ⟨rfl, hb4⟩; have hb5 : Below wr.heap.size wr w3 := bT hb3 hb4) | (go_at_call 36; refine (HN.out _).mono ?_; rintro e w2 ⟨rfl, hb2⟩; have hb3 : Below wr.heap.size wr w2 := (Below.refl wr.heap.size wr).drew.trans hb2))
      all_goals
       go_wp2
       go_ret
       exact ⟨by rw [HQ.out]; rfl, hb.trans (hb5.mono hsz0)⟩
   ·have hlt' : decide ((i : Int) < (ts.length : Int)) = false := by simp; omega
    obtain rfl : i = ts.length := by omega
    have HQ : Hid (nmA ts = true) := hno
    clear hno
    go_wp2
    go_ret
    exact ⟨by rw [HQ.out]; rfl, hb⟩
 ·have HD : Hid ((decide (ts.length ≤ 8) && nmA ts) = false) := by show _ = _; simp [h8]
  have h8' : decide ((8 : Int) < (ts.length : Int)) = true := by simp; omega
  rw [HD.out]
  go_enter Try.func37, Try.ntmps37
  go_wp2
  go_ret
  exact ⟨rfl, Below.refl _ _⟩
end Go.Proofs.Ytgjeefedcfakdaa
set_option linter.unusedVariables false
set_option maxRecDepth 100000
set_option maxHeartbeats 8000000
namespace Go.Proofs.Ytgjeefedcfakdaa
open Go.ChangeShapes Go.WideShapes Go.ChangeAt Go.RowKit
structure Nod where
 k : Int
 n : Int
 s : ByteArray
 names : List ByteArray
 args : List Int
def nA (d : Nod) (a b : Option Addr) (e f : Nat) : Value := .agg #[.int .i64 d.k, .int .i64 d.n, .string d.s, .slice a d.names.length e, .slice b d.args.length f]
def flat (ns : List Nod) : List Int := ns.flatMap (·.args)
theorem flat_append (a b : List Nod) : flat (a ++ b) = flat a ++ flat b := by simp [flat]
theorem flat_take {ns : List Nod} {i : Nat} {nd : Nod} (h : ns[i]? = some nd) : flat (ns.take (i + 1)) = flat (ns.take i) ++ nd.args := by
 rw [List.take_add_one, h, flat_append]
 simp [flat]
theorem flat_split {ns : List Nod} {i : Nat} {nd : Nod} (h : ns[i]? = some nd) : flat ns = flat (ns.take i) ++ nd.args ++ flat (ns.drop (i + 1)) := by
 rw [← flat_take h, ← flat_append, List.take_append_drop]
theorem flat_mem {ns : List Nod} {a : Int} (h : a ∈ flat ns) : ∃ (i : Nat) (nd : Nod), ns[i]? = some nd ∧ a ∈ nd.args := by
 obtain ⟨nd, h1, h2⟩ := List.mem_flatMap.1 h
 obtain ⟨i, hi⟩ := List.getElem?_of_mem h1
 exact ⟨i, nd, hi, h2⟩
def inR (ns : List Nod) : Prop := ∀ (i : Nat) (nd : Nod), ns[i]? = some nd → ∀ a ∈ nd.args, 0 ≤ a ∧ a < (i : Int)
def onceS (ns : List Nod) : Prop := ∀ j : Nat, j + 1 < ns.length → (flat ns).count (j : Int) = 1
def onceP (ns : List Nod) : Prop := (∀ a, (flat ns).count a ≤ 1) ∧ ∀ j : Nat, j + 1 < ns.length → (j : Int) ∈ flat ns
theorem inR_mem {ns : List Nod} (hin : inR ns) {a : Int} (h : a ∈ flat ns) : ∃ j : Nat, j + 1 < ns.length ∧ a = (j : Int) := by
 obtain ⟨i, nd, hi, ha⟩ := flat_mem h
 have hlt := (llt hi)
 obtain ⟨h1, h2⟩ := hin i nd hi a ha
 exact ⟨a.toNat, by omega, by omega⟩
theorem once_iff {ns : List Nod} (hin : inR ns) : onceS ns ↔ onceP ns := by
 constructor
 ·intro h
  refine ⟨fun a => ?_, fun j hj => ?_⟩
  ·by_cases ha : a ∈ flat ns
   ·obtain ⟨j, hj, rfl⟩ := inR_mem hin ha
    rw [h j hj]
    exact Nat.le_refl _
   ·rw [List.count_eq_zero_of_not_mem ha]
    omega
  ·have := h j hj
   exact List.count_pos_iff.1 (by omega)
 ·rintro ⟨h1, h2⟩ j hj
  have := List.count_pos_iff.2 (h2 j hj)
  have := h1 (j : Int)
  omega
def Nod.ok (d : Nod) : Bool := spB d.k d.n d.s d.names.length d.args.length (nmA d.names)
def OkP (ns : List Nod) (root : Int) : Prop := 1 ≤ ns.length ∧ ns.length ≤ 400 ∧ root = (ns.length : Int) - 1 ∧ (∀ d ∈ ns, d.ok = true) ∧ inR ns ∧ onceS ns
def Nod.small (d : Nod) : Prop := i64B d.k ∧ i64B d.n ∧ d.s.size ≤ 1048576 ∧ d.names.length ≤ 1048576 ∧ d.args.length ≤ 1048576 ∧ ∀ x ∈ d.names, x.size ≤ 1048576
def RowSP (w : World) (p : Nat → Prop) (a : Option Addr) (ts : List ByteArray) : Prop :=
 ∀ i x, ts[i]? = some x → ∃ b o, a = some ⟨b, o, none⟩ ∧ p b ∧ w.cell? ⟨b, o + i, none⟩ = some (.string x)
def RowIP (w : World) (p : Nat → Prop) (a : Option Addr) (ts : List Int) : Prop :=
 ∀ i x, ts[i]? = some x → ∃ b o, a = some ⟨b, o, none⟩ ∧ p b ∧ w.cell? ⟨b, o + i, none⟩ = some (.int .i64 x)
theorem RowSP.keep {w w' : World} {p q : Nat → Prop} {a : Option Addr} {ts : List ByteArray} (h : RowSP w p a ts) (hk : ∀ b, p b → q b ∧ w'.heap[b]? = w.heap[b]?) : RowSP w' q a ts := by
 intro i d hi
 obtain ⟨b, o, ha, hb, hd⟩ := h i d hi
 exact ⟨b, o, ha, (hk b hb).1, (World.cell?_of_block (w := w) (a := ⟨b, _, none⟩) (hk b hb).2).trans hd⟩
theorem RowIP.keep {w w' : World} {p q : Nat → Prop} {a : Option Addr} {ts : List Int} (h : RowIP w p a ts) (hk : ∀ b, p b → q b ∧ w'.heap[b]? = w.heap[b]?) : RowIP w' q a ts := by
 intro i d hi
 obtain ⟨b, o, ha, hb, hd⟩ := h i d hi
 exact ⟨b, o, ha, (hk b hb).1, (World.cell?_of_block (w := w) (a := ⟨b, _, none⟩) (hk b hb).2).trans hd⟩
def NodRows (w : World) (p : Nat → Prop) (an : Option Addr) (cn : Nat) (aa : Option Addr) (ca : Nat) (d : Nod) : Prop :=
 RowSP w p an d.names ∧ RowIP w p aa d.args ∧ d.names.length ≤ cn ∧ d.args.length ≤ ca
def NodAt (w : World) (p : Nat → Prop) (b o : Nat) (d : Nod) : Prop := ∃ an cn aa ca,
 w.cell? ⟨b, o, none⟩ = some (.int .i64 d.k) ∧ w.cell? ⟨b, o + 1, none⟩ = some (.int .i64 d.n) ∧ w.cell? ⟨b, o + 2, none⟩ = some (.string d.s) ∧
 w.cell? ⟨b, o + 3, none⟩ = some (.slice an d.names.length cn) ∧ w.cell? ⟨b, o + 4, none⟩ = some (.slice aa d.args.length ca) ∧ NodRows w p an cn aa ca d
def RowN (w : World) (B : Nat) (a : Option Addr) (ns : List Nod) : Prop :=
 ∀ i d, ns[i]? = some d → ∃ b o, a = some ⟨b, o, none⟩ ∧ b < B ∧ NodAt w (fun b => b < B) b (o + i * 5) d
theorem NodRows.keep {w w' : World} {p q : Nat → Prop} {an aa : Option Addr} {cn ca : Nat} {d : Nod} (h : NodRows w p an cn aa ca d) (hk : ∀ b, p b → q b ∧ w'.heap[b]? = w.heap[b]?) : NodRows w' q an cn aa ca d :=
 ⟨h.1.keep hk, h.2.1.keep hk, h.2.2⟩
theorem NodAt.keep {w w' : World} {p q : Nat → Prop} {b o : Nat} {d : Nod} (h : NodAt w p b o d) (hb : w'.heap[b]? = w.heap[b]?) (hk : ∀ b, p b → q b ∧ w'.heap[b]? = w.heap[b]?) : NodAt w' q b o d := by
 obtain ⟨an, cn, aa, ca, h0, h1, h2, h3, h4, hr⟩ := h
 have f : ∀ {o v}, w.cell? ⟨b, o, none⟩ = some v → w'.cell? ⟨b, o, none⟩ = some v := fun {o v} h => (World.cell?_of_block (w := w) (a := ⟨b, o, none⟩) hb).trans h
 exact ⟨an, cn, aa, ca, f h0, f h1, f h2, f h3, f h4, hr.keep hk⟩
theorem RowN.below {w w' : World} {B : Nat} {a : Option Addr} {ns : List Nod} (h : RowN w B a ns) (hb : Below B w w') : RowN w' B a ns := by
 intro i d hi
 obtain ⟨b, o, ha, hlt, hd⟩ := h i d hi
 exact ⟨b, o, ha, hlt, hd.keep (hb.block b hlt) fun b' h' => ⟨h', hb.block b' h'⟩⟩
theorem RowN.mono {w : World} {B B' : Nat} {a : Option Addr} {ns : List Nod} (h : RowN w B a ns) (hB : B ≤ B') : RowN w B' a ns := by
 intro i d hi
 obtain ⟨b, o, ha, hlt, hd⟩ := h i d hi
 exact ⟨b, o, ha, by omega, hd.keep rfl fun b' h' => ⟨by omega, rfl⟩⟩
def OkPost (ns : List Nod) (root : Int) (w : World) (e : Ending) (w' : World) : Prop := ∃ b : Bool, e = .returned (.bool b) ∧ (b = true ↔ OkP ns root) ∧ Below w.heap.size w w'
theorem count_snoc_same (l : List Int) (a : Int) : (l ++ [a]).count a = l.count a + 1 := by simp
theorem count_snoc_other (l : List Int) {a b : Int} (h : a ≠ b) : (l ++ [a]).count b = l.count b := by
 rw [List.count_append, List.count_cons_of_ne h]
 simp
end Go.Proofs.Ytgjeefedcfakdaa
set_option linter.unusedVariables false
set_option maxRecDepth 100000
set_option maxHeartbeats 8000000
namespace Go.Proofs.Ytgjeefedcfakdaa
open Go.ChangeShapes Go.WideShapes Go.ChangeAt Go.RowKit
theorem Try.info9 : (Try.prog.info? 9).map (fun i => (i.zero, i.size, i.bytes)) = some (some (.string ⟨#[]⟩), 1, 16) := by kernel_rfl
def Nod.wf (d : Nod) : Prop := i64B d.k ∧ i64B d.n ∧ d.s.size ≤ 9223372036854775807 ∧ d.names.length ≤ 9223372036854775807 ∧ d.args.length ≤ 9223372036854775807 ∧ ∀ x ∈ d.names, x.size ≤ 9223372036854775807
end Go.Proofs.Ytgjeefedcfakdaa
