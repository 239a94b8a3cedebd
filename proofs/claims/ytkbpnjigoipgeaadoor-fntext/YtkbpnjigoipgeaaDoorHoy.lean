/- A region that draws its order, gone through by hand with what holds all through it. -/
import Derived.Test.YtkbpnjigoipgeaaDoorHou
import Derived.OrdersHeld
set_option linter.unusedVariables false
namespace Go.Proofs.YtkbpnjigoipgeaaDoor
open Go.ChangeShapes Go.WideShapes Go.ChangeAt Go.RowKit
section
variable {Q : Exit → Act → World → Prop}
theorem run_v {s : Sem Value} {w w' : World} {x : Value} (h : s.run Tryd.prog w = .ok x w') : (do let y ← s; pure (Next.value y) : Sem Next).run Tryd.prog w = .ok (.value x) w' := by
  simp [h, Result.andThen]
theorem wpAnyH_eq {ops : Array Oper} {S : World → Prop} {fuel : Nat} {l l' : Array Bool} {a a' : Act} {w : World} (hl : l = l') (ha : a = a') (h : wpAnyH Tryd.prog .any ops Q S fuel l' a' w) : wpAnyH Tryd.prog .any ops Q S fuel l a w := by
  subst hl ha
  exact h
theorem opw_call {ops : Array Oper} {i : Nat} {o : Oper} {a : Act} {w : World} {K : Act → World → Prop} {f : FuncId} {args : Array Value} (ho : ops[i]? = some o) (hw : Region.wanted o (yielded ops a.tmps) = true)
    (hr : (execOp a.eval o).run Tryd.prog w = .ok (.enter f args) w) (h : Calls Tryd.prog f args w fun e w' => ∃ v, e = .returned v ∧ K (a.put o.dst v) w') : wpOp Tryd.prog ops Q i K a w := by
  unfold wpOp
  simp only [ho, hw, if_true]
  refine .inl ?_
  unfold Oper.wp
  rw [hr]
  refine h.mono ?_
  rintro e w' ⟨v, rfl, hk⟩
  exact hk
end
theorem ld9 {w : World} {b o : Nat} {s : ByteArray} (h : w.cell? ⟨b, o, none⟩ = some (.string s)) : (Instr.loadAt 9 (.pointer (some ⟨b, o, none⟩))).run Tryd.prog w = .ok (.string s) w := by simp [go_sem, h]
theorem ld3 {w : World} {b o : Nat} {n : Int} (h : w.cell? ⟨b, o, none⟩ = some (.int .i64 n)) : (Instr.loadAt 3 (.pointer (some ⟨b, o, none⟩))).run Tryd.prog w = .ok (.int .i64 n) w := by simp [go_sem, h]
theorem ld35 {w : World} {b o : Nat} {a : Option Addr} {n c : Nat} (h : w.cell? ⟨b, o, none⟩ = some (.slice a n c)) : (Instr.loadAt 38 (.pointer (some ⟨b, o, none⟩))).run Tryd.prog w = .ok (.slice a n c) w := by simp [go_sem, h]
theorem ld41 {w : World} {b o : Nat} {a : Option Addr} {n c : Nat} (h : w.cell? ⟨b, o, none⟩ = some (.slice a n c)) : (Instr.loadAt 32 (.pointer (some ⟨b, o, none⟩))).run Tryd.prog w = .ok (.slice a n c) w := by simp [go_sem, h]
theorem eqs {s : ByteArray} (h : (s.toList == []) = true) (w : World) : (binOp .eql 9 (.string s) (.string ⟨#[]⟩)).run Tryd.prog w = .ok (.bool true) w := by simp [go_sem, h]
theorem ge0 {n : Int} (h : decide (0 ≤ n) = true) (w : World) : (binOp .geq 3 (.int .i64 n) (.int .i64 0)).run Tryd.prog w = .ok (.bool true) w := by simp at h; simp [go_sem, h]
theorem eqn {x y : Int} (h : (x == y) = false) (w : World) : (binOp .eql 3 (.int .i64 x) (.int .i64 y)).run Tryd.prog w = .ok (.bool false) w := by simp [go_sem, h]
end Go.Proofs.YtkbpnjigoipgeaaDoor
