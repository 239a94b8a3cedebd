/- What a right node is, in the model's words and by the map of shapes: the same. A region that draws its order, gone through by hand: an operation at a time. -/
import Derived.Test.YtamjofdgikifnaaGreatShx
import Derived.Test.YtamjofdgikifnaaGreatNax
namespace Go.Proofs.YtamjofdgikifnaaGreat
open Go.ChangeShapes Go.WideShapes Go.ChangeAt Go.RowKit
def baseF (a b c d : Int) : Option (Int × Int × Int) :=
 if a = 1 ∧ b = 0 ∧ c = 0 ∧ d = 0 then some (-1000000, 1000000, 0) else
 if a = 2 ∧ b = 0 ∧ c = 0 ∧ d = 0 then some (0, 1, 0) else
 if a = 3 ∧ b = 0 ∧ c = 0 ∧ d = 0 then some (0, 0, 0) else
 if a = 4 ∧ b = 0 ∧ c = 0 ∧ d = 0 then some (0, 0, 1) else
 if a = 5 ∧ b = 0 ∧ c = 0 ∧ d = 0 then some (0, 0, 2) else
 if a = 6 ∧ b = 0 ∧ c = 0 ∧ d = 3 then some (0, 0, 0) else
 if a = 9 ∧ b = 1 ∧ c = 0 ∧ d = 1 then some (0, 0, 3) else
 if a = 9 ∧ b = 2 ∧ c = 0 ∧ d = 2 then some (0, 0, 3) else
 if a = 9 ∧ b = 4 ∧ c = 1 ∧ d = 1 then some (0, 7, 3) else
 if a = 9 ∧ b = 5 ∧ c = 1 ∧ d = 1 then some (0, 0, 3) else
 if a = 10 ∧ b = 0 ∧ c = 0 ∧ d = 1 then some (0, 0, 2) else
 if a = 11 ∧ b = 0 ∧ c = 0 ∧ d = 2 then some (0, 0, 0) else
 none
theorem FS_base (a b c d : Int) : FS (fun _ => true) a b c d = baseF a b c d := by
 have e : List.range 12 = [0, 1, 2, 3, 4, 5, 6, 7, 8, 9, 10, 11] := rfl
 unfold FS shIdx baseF
 rw [e]
 by_cases h0 : a = 1 ∧ b = 0 ∧ c = 0 ∧ d = 0
 ·rw [if_pos h0]
  obtain ⟨rfl, rfl, rfl, rfl⟩ := h0
  rfl
 by_cases h1 : a = 2 ∧ b = 0 ∧ c = 0 ∧ d = 0
 ·rw [if_neg h0, if_pos h1]
  obtain ⟨rfl, rfl, rfl, rfl⟩ := h1
  rfl
 by_cases h2 : a = 3 ∧ b = 0 ∧ c = 0 ∧ d = 0
 ·rw [if_neg h0, if_neg h1, if_pos h2]
  obtain ⟨rfl, rfl, rfl, rfl⟩ := h2
  rfl
 by_cases h3 : a = 4 ∧ b = 0 ∧ c = 0 ∧ d = 0
 ·rw [if_neg h0, if_neg h1, if_neg h2, if_pos h3]
  obtain ⟨rfl, rfl, rfl, rfl⟩ := h3
  rfl
 by_cases h4 : a = 5 ∧ b = 0 ∧ c = 0 ∧ d = 0
 ·rw [if_neg h0, if_neg h1, if_neg h2, if_neg h3, if_pos h4]
  obtain ⟨rfl, rfl, rfl, rfl⟩ := h4
  rfl
 by_cases h5 : a = 6 ∧ b = 0 ∧ c = 0 ∧ d = 3
 ·rw [if_neg h0, if_neg h1, if_neg h2, if_neg h3, if_neg h4, if_pos h5]
  obtain ⟨rfl, rfl, rfl, rfl⟩ := h5
  rfl
 by_cases h6 : a = 9 ∧ b = 1 ∧ c = 0 ∧ d = 1
 ·rw [if_neg h0, if_neg h1, if_neg h2, if_neg h3, if_neg h4, if_neg h5, if_pos h6]
  obtain ⟨rfl, rfl, rfl, rfl⟩ := h6
  rfl
 by_cases h7 : a = 9 ∧ b = 2 ∧ c = 0 ∧ d = 2
 ·rw [if_neg h0, if_neg h1, if_neg h2, if_neg h3, if_neg h4, if_neg h5, if_neg h6, if_pos h7]
  obtain ⟨rfl, rfl, rfl, rfl⟩ := h7
  rfl
 by_cases h8 : a = 9 ∧ b = 4 ∧ c = 1 ∧ d = 1
 ·rw [if_neg h0, if_neg h1, if_neg h2, if_neg h3, if_neg h4, if_neg h5, if_neg h6, if_neg h7, if_pos h8]
  obtain ⟨rfl, rfl, rfl, rfl⟩ := h8
  rfl
 by_cases h9 : a = 9 ∧ b = 5 ∧ c = 1 ∧ d = 1
 ·rw [if_neg h0, if_neg h1, if_neg h2, if_neg h3, if_neg h4, if_neg h5, if_neg h6, if_neg h7, if_neg h8, if_pos h9]
  obtain ⟨rfl, rfl, rfl, rfl⟩ := h9
  rfl
 by_cases h10 : a = 10 ∧ b = 0 ∧ c = 0 ∧ d = 1
 ·rw [if_neg h0, if_neg h1, if_neg h2, if_neg h3, if_neg h4, if_neg h5, if_neg h6, if_neg h7, if_neg h8, if_neg h9, if_pos h10]
  obtain ⟨rfl, rfl, rfl, rfl⟩ := h10
  rfl
 by_cases h11 : a = 11 ∧ b = 0 ∧ c = 0 ∧ d = 2
 ·rw [if_neg h0, if_neg h1, if_neg h2, if_neg h3, if_neg h4, if_neg h5, if_neg h6, if_neg h7, if_neg h8, if_neg h9, if_neg h10, if_pos h11]
  obtain ⟨rfl, rfl, rfl, rfl⟩ := h11
  rfl
 rw [if_neg h0, if_neg h1, if_neg h2, if_neg h3, if_neg h4, if_neg h5, if_neg h6, if_neg h7, if_neg h8, if_neg h9, if_neg h10, if_neg h11]
 have hn : ([0, 1, 2, 3, 4, 5, 6, 7, 8, 9, 10, 11] : List Nat).find? (fun j => decide (shKey j = (a, b, c, d))) = none := by
  rw [List.find?_eq_none]
  intro j hj hs
  have hs : shKey j = (a, b, c, d) := by simpa using hs
  simp only [List.mem_cons, List.not_mem_nil, or_false] at hj
  rcases hj with rfl | rfl | rfl | rfl | rfl | rfl | rfl | rfl | rfl | rfl | rfl | rfl
  ·simp only [shKey, Prod.mk.injEq] at hs; exact h0 (by omega)
  ·simp only [shKey, Prod.mk.injEq] at hs; exact h1 (by omega)
  ·simp only [shKey, Prod.mk.injEq] at hs; exact h2 (by omega)
  ·simp only [shKey, Prod.mk.injEq] at hs; exact h3 (by omega)
  ·simp only [shKey, Prod.mk.injEq] at hs; exact h4 (by omega)
  ·simp only [shKey, Prod.mk.injEq] at hs; exact h5 (by omega)
  ·simp only [shKey, Prod.mk.injEq] at hs; exact h6 (by omega)
  ·simp only [shKey, Prod.mk.injEq] at hs; exact h7 (by omega)
  ·simp only [shKey, Prod.mk.injEq] at hs; exact h8 (by omega)
  ·simp only [shKey, Prod.mk.injEq] at hs; exact h9 (by omega)
  ·simp only [shKey, Prod.mk.injEq] at hs; exact h10 (by omega)
  ·simp only [shKey, Prod.mk.injEq] at hs; exact h11 (by omega)
 rw [hn]
 rfl
def txB (s : ByteArray) (t : Int) : Bool :=
 if t = 1 then syL s.toList else if t = 2 then naL s.toList else if t = 3 then !(soL s.toList == 0) else s.toList.isEmpty
def nodB (k n : Int) (s : ByteArray) (ln la : Nat) (nm : Bool) : Bool :=
 match F2 9 k (if k = 9 then soL s.toList else 0) ln (if k = 11 then min (la : Int) 2 else la) with
 | some (l, h, t) => decide (l ≤ n) && decide (n ≤ h) && txB s t && nm
 | none => false
def prB (n : Int) (s : ByteArray) (ln la : Nat) (nm : Bool) : Bool :=
 if soL s.toList = 3 then decide (ln = 1) && nm && decide (la ≤ 8) && decide (n = 0)
 else if soL s.toList = 4 then decide (ln = 1) && nm && decide (la = 1) && (decide (0 ≤ n) && decide (n ≤ 7))
 else if soL s.toList = 5 then decide (ln = 1) && nm && decide (la = 1) && decide (n = 0)
 else decide (ln = 0) && decide (arL s.toList = (la : Int)) && decide (n = 0)
def spB (k n : Int) (s : ByteArray) (ln la : Nat) (nm : Bool) : Bool :=
 if k = 1 then decide (ln = 0) && decide (la = 0) && s.toList.isEmpty && (decide (-1000000 ≤ n) && decide (n ≤ 1000000))
 else if k = 2 then decide (ln = 0) && decide (la = 0) && s.toList.isEmpty && (decide (0 ≤ n) && decide (n ≤ 1))
 else if k = 3 then decide (ln = 0) && decide (la = 0) && s.toList.isEmpty && decide (n = 0)
 else if k = 4 then decide (ln = 0) && decide (la = 0) && syL s.toList && decide (n = 0)
 else if k = 5 then decide (ln = 0) && decide (la = 0) && naL s.toList && decide (n = 0)
 else if k = 6 then decide (ln = 0) && decide (la = 3) && s.toList.isEmpty && decide (n = 0)
 else if k = 7 then (decide (ln ≤ 8) && nm) && decide (la = 1) && s.toList.isEmpty && decide (n = 0)
 else if k = 8 then decide (ln = 0) && (decide (1 ≤ la) && decide (la ≤ 9)) && s.toList.isEmpty && decide (n = 0)
 else if k = 10 then decide (ln = 0) && decide (la = 1) && naL s.toList && decide (n = 0)
 else if k = 11 then decide (ln = 0) && decide (2 ≤ la) && s.toList.isEmpty && decide (n = 0)
 else if k = 9 then prB n s ln la nm
 else false
theorem F2_at (a b c d : Int) : F2 9 a b c d = (if a = 8 ∧ b = 0 ∧ c = 0 ∧ 1 ≤ d ∧ d < 10 then some (0, 0, 0) else if a = 9 ∧ b = 3 ∧ c = 1 ∧ 0 ≤ d ∧ d < 9 then some (0, 0, 3) else if a = 7 ∧ b = 0 ∧ d = 1 ∧ 0 ≤ c ∧ c < 9 then some (0, 0, 0) else baseF a b c d) := by
 unfold F2 F1
 rw [FS_base]
 rfl
theorem sp_nod (k n : Int) (s : ByteArray) (ln la : Nat) (nm : Bool) (h0 : ln = 0 → nm = true) : spB k n s ln la nm = nodB k n s ln la nm := by
 unfold nodB
 rw [F2_at]
 have hz : (decide (0 ≤ n) && decide (n ≤ 0)) = decide (n = 0) := by
  by_cases h : n = 0
  ·simp [h]
  ·simp [h]; omega
 have hz' : (decide (n ≤ 0) && decide (0 ≤ n)) = decide (n = 0) := by rw [Bool.and_comm]; exact hz
 by_cases k1 : k = 1
 ·subst k1
  by_cases h1 : ln = 0
  ·have hn := h0 h1
   by_cases h2 : la = 0
   ·simp [spB, baseF, txB, Bool.and_comm, *]
   ·have h3 : ¬ (la : Int) = 0 := by omega
    simp [spB, baseF, *]
  ·have h3 : ¬ (ln : Int) = 0 := by omega
   simp [spB, baseF, *]
 by_cases k2 : k = 2
 ·subst k2
  by_cases h1 : ln = 0
  ·have hn := h0 h1
   by_cases h2 : la = 0
   ·simp [spB, baseF, txB, Bool.and_comm, *]
   ·have h3 : ¬ (la : Int) = 0 := by omega
    simp [spB, baseF, *]
  ·have h3 : ¬ (ln : Int) = 0 := by omega
   simp [spB, baseF, *]
 by_cases k3 : k = 3
 ·subst k3
  by_cases h1 : ln = 0
  ·have hn := h0 h1
   by_cases h2 : la = 0
   ·simp [spB, baseF, txB, Bool.and_comm, *]
   ·have h3 : ¬ (la : Int) = 0 := by omega
    simp [spB, baseF, *]
  ·have h3 : ¬ (ln : Int) = 0 := by omega
   simp [spB, baseF, *]
 by_cases k4 : k = 4
 ·subst k4
  by_cases h1 : ln = 0
  ·have hn := h0 h1
   by_cases h2 : la = 0
   ·simp [spB, baseF, txB, Bool.and_comm, *]
   ·have h3 : ¬ (la : Int) = 0 := by omega
    simp [spB, baseF, *]
  ·have h3 : ¬ (ln : Int) = 0 := by omega
   simp [spB, baseF, *]
 by_cases k5 : k = 5
 ·subst k5
  by_cases h1 : ln = 0
  ·have hn := h0 h1
   by_cases h2 : la = 0
   ·simp [spB, baseF, txB, Bool.and_comm, *]
   ·have h3 : ¬ (la : Int) = 0 := by omega
    simp [spB, baseF, *]
  ·have h3 : ¬ (ln : Int) = 0 := by omega
   simp [spB, baseF, *]
 by_cases k6 : k = 6
 ·subst k6
  by_cases h1 : ln = 0
  ·have hn := h0 h1
   by_cases h2 : la = 3
   ·simp [spB, baseF, txB, Bool.and_comm, *]
   ·have h3 : ¬ (la : Int) = 3 := by omega
    simp [spB, baseF, *]
  ·have h3 : ¬ (ln : Int) = 0 := by omega
   simp [spB, baseF, *]
 by_cases k10 : k = 10
 ·subst k10
  by_cases h1 : ln = 0
  ·have hn := h0 h1
   by_cases h2 : la = 1
   ·simp [spB, baseF, txB, Bool.and_comm, *]
   ·have h3 : ¬ (la : Int) = 1 := by omega
    simp [spB, baseF, *]
  ·have h3 : ¬ (ln : Int) = 0 := by omega
   simp [spB, baseF, *]
 by_cases k11 : k = 11
 ·subst k11
  by_cases h1 : ln = 0
  ·have hn := h0 h1
   by_cases h2 : 2 ≤ la
   ·have h3 : min (la : Int) 2 = 2 := by omega
    simp [spB, baseF, txB, Bool.and_comm, *]
   ·have h3 : ¬ min (la : Int) 2 = 2 := by omega
    simp [spB, baseF, *]
  ·have h3 : ¬ (ln : Int) = 0 := by omega
   simp [spB, baseF, *]
 by_cases k8 : k = 8
 ·subst k8
  by_cases h1 : ln = 0
  ·have hn := h0 h1
   by_cases h2 : 1 ≤ la ∧ la ≤ 9
   ·obtain ⟨h2, h3⟩ := h2
    have h4 : (1 : Int) ≤ la := by omega
    have h5 : (la : Int) < 10 := by omega
    simp [spB, txB, Bool.and_comm, *]
   ·have h3 : ¬ ((1 : Int) ≤ la ∧ (la : Int) < 10) := by omega
    have h4 : (decide (1 ≤ la) && decide (la ≤ 9)) = false := by simp; omega
    simp [spB, baseF, *]
  ·have h3 : ¬ (ln : Int) = 0 := by omega
   simp [spB, baseF, *]
 by_cases k7 : k = 7
 ·subst k7
  by_cases h2 : la = 1
  ·by_cases h1 : ln ≤ 8
   ·have h3 : (ln : Int) < 9 := by omega
    simp [spB, txB, Bool.and_assoc, Bool.and_comm, *]
   ·have h3 : ¬ (ln : Int) < 9 := by omega
    simp [spB, baseF, *]
  ·have h3 : ¬ (la : Int) = 1 := by omega
   simp [spB, baseF, *]
 by_cases k9 : k = 9
 ·subst k9
  unfold spB prB
  rcases so_ar s with ⟨e1, e2⟩ | ⟨e1, e2⟩ | ⟨e1, e2⟩ | ⟨e1, e2⟩ | ⟨e1, e2⟩ | ⟨e1, e2⟩
  ·by_cases h1 : ln = 0
   ·have hn := h0 h1
    by_cases h2 : la = 1
    ·simp [baseF, txB, *]
    ·have h3 : ¬ (la : Int) = 1 := by omega
     have h4 : ¬ (1 : Int) = la := by omega
     simp [baseF, *]
   ·have h3 : ¬ (ln : Int) = 0 := by omega
    simp [baseF, *]
  ·by_cases h1 : ln = 0
   ·have hn := h0 h1
    by_cases h2 : la = 2
    ·simp [baseF, txB, *]
    ·have h3 : ¬ (la : Int) = 2 := by omega
     have h4 : ¬ (2 : Int) = la := by omega
     simp [baseF, *]
   ·have h3 : ¬ (ln : Int) = 0 := by omega
    simp [baseF, *]
  ·by_cases h1 : ln = 1
   ·by_cases h2 : la ≤ 8
    ·have h3 : (la : Int) < 9 := by omega
     simp [txB, Bool.and_comm, *]
    ·have h3 : ¬ (la : Int) < 9 := by omega
     simp [baseF, *]
   ·have h3 : ¬ (ln : Int) = 1 := by omega
    simp [baseF, *]
  ·by_cases h1 : ln = 1
   ·by_cases h2 : la = 1
    ·simp [baseF, txB, Bool.and_comm, *]
    ·have h3 : ¬ (la : Int) = 1 := by omega
     simp [baseF, *]
   ·have h3 : ¬ (ln : Int) = 1 := by omega
    simp [baseF, *]
  ·by_cases h1 : ln = 1
   ·by_cases h2 : la = 1
    ·simp [baseF, txB, Bool.and_comm, *]
    ·have h3 : ¬ (la : Int) = 1 := by omega
     simp [baseF, *]
   ·have h3 : ¬ (ln : Int) = 1 := by omega
    simp [baseF, *]
  ·have h4 : ¬ (-1 : Int) = la := by omega
   simp [baseF, *]
 simp [spB, baseF, *]
end Go.Proofs.YtamjofdgikifnaaGreat
namespace Go.Proofs.YtamjofdgikifnaaGreat
open Go.ChangeShapes Go.WideShapes Go.ChangeAt Go.RowKit
section
variable {Q : Exit → Act → World → Prop}
theorem run_vN {s : Sem Value} {w w' : World} {x : Value} (h : s.run Tryz.prog w = .ok x w') : (do let y ← s; pure (Next.value y) : Sem Next).run Tryz.prog w = .ok (.value x) w' := by
 simp [h, Result.andThen]
theorem opw_value {ops : Array Oper} {i : Nat} {o : Oper} {a : Act} {w w' : World} {K : Act → World → Prop} {v : Value} (ho : ops[i]? = some o) (hw : Region.wanted o (yielded ops a.tmps) = true)
  (hr : (execOp a.eval o).run Tryz.prog w = .ok (.value v) w') (h : K (a.put o.dst v) w') : wpOp Tryz.prog ops Q i K a w := by
 unfold wpOp
 simp only [ho, hw, if_true]
 refine .inl ?_
 unfold Oper.wp
 rw [hr]
 exact h
theorem opw_callN {ops : Array Oper} {i : Nat} {o : Oper} {a : Act} {w : World} {K : Act → World → Prop} {f : FuncId} {args : Array Value} (ho : ops[i]? = some o) (hw : Region.wanted o (yielded ops a.tmps) = true)
  (hr : (execOp a.eval o).run Tryz.prog w = .ok (.enter f args) w) (h : Calls Tryz.prog f args w fun e w' => ∃ v, e = .returned v ∧ K (a.put o.dst v) w') : wpOp Tryz.prog ops Q i K a w := by
 unfold wpOp
 simp only [ho, hw, if_true]
 refine .inl ?_
 unfold Oper.wp
 rw [hr]
 refine h.mono ?_
 rintro e w' ⟨v, rfl, hk⟩
 exact hk
theorem any_one {ops : Array Oper} {fuel : Nat} {listed l' : Array Bool} {i : Nat} {a : Act} {w : World} (hr : Region.ready .any ops listed = [i]) (hl : listed.setIfInBounds i true = l')
  (h : wpOp Tryz.prog ops Q i (wpAny Tryz.prog .any ops Q fuel l') a w) : wpAny Tryz.prog .any ops Q (fuel + 1) listed a w := by
 refine wpAny_all hr (by simp) fun j hj => ?_
 obtain rfl : j = i := by simpa using hj
 rw [hl]
 exact h
end
end Go.Proofs.YtamjofdgikifnaaGreat
