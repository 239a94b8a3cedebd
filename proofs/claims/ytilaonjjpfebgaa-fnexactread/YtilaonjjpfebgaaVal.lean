/- A walk over code that holds a range over a function whose body may panic: of frames of the program's own functions. -/
import Derived.Test.YtilaonjjpfebgaaRng
import Derived.RangeFuncLeaves
import Derived.RangeFuncCalls
namespace Go.Proofs.Ytilaonjjpfebgaa
open Go
variable {n : Nat} {P : Program}
/-- Code that goes on behind itself, or panics. -/
def RunsV (P : Program) (c : Code) (N : Act → World → Prop) (Z : List PanicEntry → Act → World → Prop) (a : Act) (w : World) : Prop :=
  ∀ (b : Frame) (k : List Item) (cs : List Frame), b.roundOf = none → (∃ x, P.funcs[b.fn]? = some x) →
    (∃ a' w', N a' w' ∧ StepsIn (Machine.fenced P Fence.wide) P (lone (b.atR a (.code c :: k)) cs w) (lone (b.atR a' k) cs w')) ∨
    (∃ chain a' w' todo, Z chain a' w' ∧ StepsIn (Machine.fenced P Fence.wide) P (lone (b.atR a (.code c :: k)) cs w) (lone { b.atR a' todo with mode := .panicking chain } cs w'))
theorem runsV_of_wpIn {c : Code} {N : Act → World → Prop} {Z : List PanicEntry → Act → World → Prop} {a : Act} {w : World}
    (h : c.wpIn Fence.wide n P (fun e a w => e = .normal ∧ N a w) a w) : RunsV P c N Z a w := by
  intro b k cs hro _
  obtain ⟨e, a', w', ⟨rfl, hn⟩, harr⟩ := h b k cs hro trivial (room_wide _)
  exact .inl ⟨a', w', hn, harr⟩
theorem runsV_seq {x y : Code} {N : Act → World → Prop} {Z : List PanicEntry → Act → World → Prop} {a : Act} {w : World}
    (h : RunsV P x (fun a w => RunsV P y N Z a w) Z a w) : RunsV P (x.seq y) N Z a w := by
  intro b k cs hro hv
  have s0 : StepsIn (Machine.fenced P Fence.wide) P (lone (b.atR a (.code (.seq x y) :: k)) cs w) (lone (b.atR a (.code x :: .code y :: k)) cs w) := .one (fenced_wide _ _) stepR_seq
  rcases h b (.code y :: k) cs hro hv with ⟨a', w', hy, s1⟩ | ⟨chain, a', w', todo, hz, s1⟩
  · rcases hy b k cs hro hv with ⟨a2, w2, hn, s2⟩ | ⟨chain, a2, w2, todo, hz, s2⟩
    · exact .inl ⟨a2, w2, hn, (s0.trans s1).trans s2⟩
    · exact .inr ⟨chain, a2, w2, todo, hz, (s0.trans s1).trans s2⟩
  · exact .inr ⟨chain, a', w', todo, hz, s0.trans s1⟩
theorem runsV_block {id : Nat} {x : Code} {N : Act → World → Prop} {Z : List PanicEntry → Act → World → Prop} {a : Act} {w : World}
    (h : RunsV P x N Z a w) : RunsV P (.block id x) N Z a w := by
  intro b k cs hro hv
  have s0 : StepsIn (Machine.fenced P Fence.wide) P (lone (b.atR a (.code (.block id x) :: k)) cs w) (lone (b.atR a (.code x :: .inBlock id :: k)) cs w) := .one (fenced_wide _ _) stepR_block
  rcases h b (.inBlock id :: k) cs hro hv with ⟨a', w', hn, s1⟩ | ⟨chain, a', w', todo, hz, s1⟩
  · exact .inl ⟨a', w', hn, (s0.trans s1).trans (.one (fenced_wide _ _) stepR_inBlock)⟩
  · exact .inr ⟨chain, a', w', todo, hz, s0.trans s1⟩
/-- The statement: its record is laid, the function is called; it returns and no jump is pending, or it panics. -/
theorem runsV_rangeFunc {g : Operand} {ps : Array Tmp} {assign body : Code} {N : Act → World → Prop} {Z : List PanicEntry → Act → World → Prop} {a : Act} {w : World}
    (h : ∀ fn, (∃ x, P.funcs[fn]? = some x) → ∃ (l : Nat) (mark : List Deferred) (w₁ : World) (d : Deferred) (w₁' : World) (f : FuncId) (args : Array Value) (w₂ : World),
      (Instr.enterLoop fn a.tmps ps assign body none).run P w = .ok (l, mark) w₁ ∧
      (resolve a.eval (rangeCall g l) 0).run P w₁ = .ok d w₁' ∧
      (invoke d.target d.args).run P w₁' = .ok (.enter f args) w₂ ∧
      CallsIn Fence.wide n P f args w₂ fun e w₃ =>
        (∃ v, e = .returned v ∧ ∃ w₄, (Instr.endLoop l).run P w₃ = .ok none w₄ ∧ N { a with defers := mark ++ a.defers } w₄) ∨
        (∃ chain, e = .panicked chain ∧ Z chain { a with defers := mark ++ a.defers } w₃)) :
    RunsV P (.rangeFunc g ps assign body) N Z a w := by
  intro b k cs hro hv
  obtain ⟨l, mark, w₁, d, w₁', f, args, w₂, he, hres, hinv, _, hcall⟩ := h b.fn hv
  rw [← hro] at he
  have s0 : StepsIn (Machine.fenced P Fence.wide) P (lone (b.atR a (.code (.rangeFunc g ps assign body) :: k)) cs w) (lone (Frame.enter P f args .normal) (b.atR { a with defers := mark ++ a.defers } (.inRangeFunc l :: k) :: cs) w₂) :=
    .one (fenced_wide _ _) (stepR_rangeFunc he hres hinv)
  obtain ⟨e, w₃, fr, hR, hsteps, _, hleave⟩ := hcall (b.atR { a with defers := mark ++ a.defers } (.inRangeFunc l :: k) :: cs) (room_wide _)
  rcases hR with ⟨v, rfl, w₄, hend, hn⟩ | ⟨chain, rfl, hz⟩
  · refine .inl ⟨_, w₄, hn, (s0.trans hsteps).trans (.head (fenced_wide _ _) ?_ (.one (fenced_wide _ _) (stepR_endRangeFunc hend)))⟩
    rw [← finish_atR_inRangeFunc l v]
    exact step_leave_returned hleave
  · refine .inr ⟨chain, _, w₃, .inRangeFunc l :: k, hz, (s0.trans hsteps).trans (.one (fenced_wide _ _) ?_)⟩
    rw [← Frame.raise_atR]
    exact step_leave_panicked hleave
/-- The same, the function that is ranged over a closure of the program's. -/
theorem runsV_rangeClosure {g : Operand} {ps : Array Tmp} {assign body : Code} {N : Act → World → Prop} {Z : List PanicEntry → Act → World → Prop} {a : Act} {w : World} {gf : Nat} {lb : Array Value} (hg : a.eval g = .func (.func gf) #[] lb) (eg : ∀ args w, (callFunc gf args).run P w = .ok (.enter gf args) w)
    (h : ∀ fn, (∃ x, P.funcs[fn]? = some x) →
      CallsIn Fence.wide n P gf (#[.func (.yield (w.heap.size + 1)) #[] #[]] ++ lb) ((w.alloc (.deferred (some []))).alloc (.loop { state := .ready, pending := none, fn, tmps := a.tmps, params := ps, assign, body, defers := w.heap.size })) fun e w₃ =>
        (∃ v, e = .returned v ∧ ∃ w₄, (Instr.endLoop (w.heap.size + 1)).run P w₃ = .ok none w₄ ∧ N { a with defers := [{ target := .collected w.heap.size, args := #[] }] ++ a.defers } w₄) ∨
        (∃ chain, e = .panicked chain ∧ Z chain { a with defers := [{ target := .collected w.heap.size, args := #[] }] ++ a.defers } w₃)) :
    RunsV P (.rangeFunc g ps assign body) N Z a w := by
  apply runsV_rangeFunc (n := n)
  intro fn hfn
  obtain ⟨W1, hW1⟩ : ∃ W1, W1 = (w.alloc (.deferred (some []))).alloc (.loop { state := .ready, pending := none, fn, tmps := a.tmps, params := ps, assign, body, defers := w.heap.size }) := ⟨_, rfl⟩
  have hc := h fn hfn
  rw [← hW1] at hc
  refine ⟨w.heap.size + 1, [{ target := .collected w.heap.size, args := #[] }], W1, { target := .fn (.func gf) lb, args := #[.func (.yield (w.heap.size + 1)) #[] #[]] }, W1, gf, #[.func (.yield (w.heap.size + 1)) #[] #[]] ++ lb, W1, ?_, ?_, ?_, ?_⟩
  · rw [hW1]; exact run_enterLoop_outer _ _ _ _ _
  · simp only [resolve, hg]
    simp [go_sem]
  · simp [invoke, eg]
  · exact hc
/-- Code that is all that is left of a function. -/
def FinV (P : Program) (fn : Func) (R : Ending → World → Prop) (c : Code) (a : Act) (w : World) : Prop :=
  ∀ (b : Frame) (cs : List Frame), b.roundOf = none → P.funcs[b.fn]? = some fn → b.kind = .normal →
    ∃ e w' fr', R e w' ∧ ComesIn (Machine.fenced P Fence.wide) P (lone (b.atR a [.code c]) cs w) (lone fr' cs w') e ∧ fr'.fn = b.fn ∧ fr'.leaving P w' e
theorem finV_seq {fn : Func} {R : Ending → World → Prop} {x y : Code} {a : Act} {w : World}
    (h : RunsV P x (fun a w => FinV P fn R y a w) (fun chain a w => LeavesInM Fence.wide n P fn a.tmps R a.defers (.panicking chain) w) a w) : FinV P fn R (x.seq y) a w := by
  intro b cs hro hf hk
  have s0 : StepsIn (Machine.fenced P Fence.wide) P (lone (b.atR a [.code (.seq x y)]) cs w) (lone (b.atR a [.code x, .code y]) cs w) := .one (fenced_wide _ _) stepR_seq
  rcases h b [.code y] cs hro ⟨fn, hf⟩ with ⟨a', w', hy, s1⟩ | ⟨chain, a', w', todo, hz, s1⟩
  · obtain ⟨e, w2, fr', hR, hs, h1, h2⟩ := hy b cs hro hf hk
    exact ⟨e, w2, fr', hR, ComesIn.of_steps (s0.trans s1) hs, h1, h2⟩
  · obtain ⟨e, w2, fr', hR, hs, h1, h2⟩ := leaves_stepsInM a'.defers (.panicking chain) w' { b.atR a' todo with mode := .panicking chain } cs rfl rfl rfl hf hk trivial (room_wide _) hz
    exact ⟨e, w2, fr', hR, ComesIn.of_steps (s0.trans s1) hs, h1, h2⟩
theorem finV_ret {fn : Func} {R : Ending → World → Prop} {a : Act} {w : World} (h : LeavesInM Fence.wide n P fn a.tmps R a.defers .returning w) : FinV P fn R .ret a w := by
  intro b cs hro hf hk
  have s0 : StepsIn (Machine.fenced P Fence.wide) P (lone (b.atR a [.code .ret]) cs w) (lone { b.atR a [.code .ret] with mode := .returning } cs w) := .one (fenced_wide _ _) (stepR_ret hro)
  obtain ⟨e, w2, fr', hR, hs, h1, h2⟩ := leaves_stepsInM a.defers .returning w { b.atR a [.code .ret] with mode := .returning } cs rfl rfl rfl hf hk trivial (room_wide _) h
  exact ⟨e, w2, fr', hR, ComesIn.of_steps s0 hs, h1, h2⟩
theorem calls_of_finV {f : FuncId} {fn : Func} {c : Code} {args : Array Value} {w : World} {R : Ending → World → Prop} (hf : P.funcs[f]? = some fn) (hb : fn.body = some c)
    (h : FinV P fn R c { tmps := args ++ Array.replicate (fn.ntmps - args.size) undef, defers := [] } w) : CallsIn Fence.wide n P f args w R := by
  refine ⟨trivial, fun cs _ => ?_⟩
  obtain ⟨b, hbd⟩ : ∃ b : Frame, b = { (default : Frame) with fn := f, kind := .normal, roundOf := none } := ⟨_, rfl⟩
  have henter : Frame.enter P f args .normal = b.atR { tmps := args ++ Array.replicate (fn.ntmps - args.size) undef, defers := [] } [.code c] := by
    simp [Frame.enter, Frame.atR, hf, hb, hbd]
  obtain ⟨e, w', fr', hR, hs, h1, h2⟩ := h b cs (by rw [hbd]) (by rw [hbd]; exact hf) (by rw [hbd])
  rw [henter]
  exact ⟨e, w', fr', hR, hs, by rw [h1, hbd], h2⟩
end Go.Proofs.Ytilaonjjpfebgaa
