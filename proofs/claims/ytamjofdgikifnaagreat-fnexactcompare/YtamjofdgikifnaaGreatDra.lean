/- A region that draws its order, gone through by hand: an operation at a time. -/
import Derived.Test.YtamjofdgikifnaaGreatShx
namespace Go.Proofs.YtamjofdgikifnaaGreat
open Go.ChangeShapes Go.WideShapes Go.ChangeAt Go.RowKit
section
variable {Q : Exit → Act → World → Prop}
theorem run_vN {s : Sem Value} {w w' : World} {x : Value} (h : s.run Tryz.prog w = .ok x w') : (do let y ← s; pure (Next.value y) : Sem Next).run Tryz.prog w = .ok (.value x) w' := by
  simp [h, Result.andThen]
theorem opw_value {ops : Array Oper} {i : Nat} {o : Oper} {a : Act} {w w' : World} {K : Act → World → Prop} {v : Value} (ho : ops[i]? = some o) (hw : Region.wanted o (yielded ops a.tmps) = true)
    (hr : (execOp a.eval o).run Tryz.prog w = .ok (.value v) w') (h : K (a.put o.dst v) w') : wpOp Tryz.prog ops Q i K a w := by
  unfold wpOp
  simp only [ho, hw, if_true]
  refine .inl ?_
  unfold Oper.wp
  rw [hr]
  exact h
theorem opw_callN {ops : Array Oper} {i : Nat} {o : Oper} {a : Act} {w : World} {K : Act → World → Prop} {f : FuncId} {args : Array Value} (ho : ops[i]? = some o) (hw : Region.wanted o (yielded ops a.tmps) = true)
    (hr : (execOp a.eval o).run Tryz.prog w = .ok (.enter f args) w) (h : Calls Tryz.prog f args w fun e w' => ∃ v, e = .returned v ∧ K (a.put o.dst v) w') : wpOp Tryz.prog ops Q i K a w := by
  unfold wpOp
  simp only [ho, hw, if_true]
  refine .inl ?_
  unfold Oper.wp
  rw [hr]
  refine h.mono ?_
  rintro e w' ⟨v, rfl, hk⟩
  exact hk
/-- One operation alone may come up. -/
theorem any_one {ops : Array Oper} {fuel : Nat} {listed l' : Array Bool} {i : Nat} {a : Act} {w : World} (hr : Region.ready .any ops listed = [i]) (hl : listed.setIfInBounds i true = l')
    (h : wpOp Tryz.prog ops Q i (wpAny Tryz.prog .any ops Q fuel l') a w) : wpAny Tryz.prog .any ops Q (fuel + 1) listed a w := by
  refine wpAny_all hr (by simp) fun j hj => ?_
  obtain rfl : j = i := by simpa using hj
  rw [hl]
  exact h
end
end Go.Proofs.YtamjofdgikifnaaGreat
