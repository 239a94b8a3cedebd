/- A round of a range over a function that ends by a panic: the panic goes to the function that is ranged over. A walk over code that holds a range over a function whose body may panic: of frames of the program's own functions. slices.Backward's iterator over a row of ints, for a loop whose body may panic. The program's reader: where it is, how it fails, how it takes a cell. The pairs of a list: each part, the last one first; where they do not fit, the panic. Reading data, as a plain function of the bytes. -/
import Derived.RangeFuncIn
import Derived.Test.YtgfkmppkeolckaaDoorRows
import Derived.RangeFuncLeaves
import Derived.RangeFuncCalls
import Derived.Test.YtgfkmppkeolckaaDoorDat
import Derived.RangeFuncNested
import Derived.RangeFuncBox
import Derived.Shelf.Abstract
import Derived.WalkKit
import Derived.OwnWalkIn
import Derived.TacticsInMore
import Derived.LoopNIn
import Derived.LoopIn
import Derived.Lib.OthersKept
import Derived.Recover
import Derived.Deep.AppendLies
import Derived.Deep.RegionHeldLaw
import Derived.Deep.RegionLaw
import Derived.Deep.RegionHeld3
import Derived.Test.YtgfkmppkeolckaaDoorRdx
namespace Go.Proofs.YtgfkmppkeolckaaDoor
open Go
variable {F : Fence} {n : Nat} {P : Program}
/-- What a body asks that panics. -/
def Panics (R : Ending → World → Prop) : Exit → Act → World → Prop := fun e a w => ∃ chain, e = .panic chain ∧ a.defers = [] ∧ R (.panicked chain) w
theorem roundIn_panics {l : Nat} {f : FuncId} {tmps : Array Value} {assign body : Code} {w : World} {R : Ending → World → Prop} (hF : F.fn f) (hfn : ∃ fn, P.funcs[f]? = some fn)
    (h : assign.wpIn (F.inRound l) n P (Exit.then (fun a₁ w₁ => ∃ w₂, (Instr.beginRound l).run P w₁ = .ok () w₂ ∧ body.wpIn (F.inRound l) n P (Panics R) a₁ w₂) (fun _ _ _ => False))
      { tmps := tmps, defers := [] } w) :
    RoundIn F n P l f tmps assign body w R := by
  refine ⟨hF, fun c cs hr => ?_⟩
  obtain ⟨b, hb⟩ : ∃ b : Frame, b = { (default : Frame) with fn := f, kind := .normal, roundOf := some l } := ⟨_, rfl⟩
  have hb0 : Frame.round l f tmps assign body .normal = b.atR { tmps := tmps, defers := [] } [.code assign, .beginRound, .code body] := by
    simp [Frame.round, Frame.atR, hb]
  have hro : b.roundOf = some l := by rw [hb]
  have hbf : b.fn = f := by rw [hb]
  have hr' : (F.inRound l).room ((c :: cs).length + 1 + n) := hr
  have hF' : (F.inRound l).fn b.fn := by rw [hbf]; exact hF
  obtain ⟨e, a₁, w₁, hq, harr⟩ := h b [.beginRound, .code body] (c :: cs) hro hF' hr'
  cases e with
  | normal =>
    obtain ⟨w₂, hbr, hbody⟩ := hq
    have s1 : StepsIn (Machine.fenced P (F.inRound l)) P (lone (b.atR a₁ [.beginRound, .code body]) (c :: cs) w₁) (lone (b.atR a₁ [.code body]) (c :: cs) w₂) :=
      .one (fenced_calm (fr := b.atR a₁ [.beginRound, .code body]) hF' hr' rfl) (stepR_beginRound hro hbr)
    obtain ⟨e₂, a₂, w₃, ⟨chain, rfl, hd, hR⟩, harr₂⟩ := hbody b [] (c :: cs) hro hF' hr'
    obtain ⟨todo, hs⟩ := harr₂
    have hlv : ({ b.atR a₂ todo with mode := .panicking chain } : Frame).leaving P w₃ (.panicked chain) := by
      obtain ⟨fn, hfn⟩ := hfn
      exact ⟨rfl, hd, fn, by show P.funcs[b.fn]? = _; rw [hbf]; exact hfn⟩
    refine ⟨.panicked chain, w₃, hR, ?_⟩
    rw [hb0]
    exact (StepsIn.trans harr s1).trans (StepsIn.trans hs (.one (fenced_leaving hF' hr' hlv) (step_leave_panicked hlv)))
  | exit id => exact hq.elim
  | goto t => exact hq.elim
  | ret => exact hq.elim
  | panic chain => exact hq.elim
  | outgrown => exact hq.elim
end Go.Proofs.YtgfkmppkeolckaaDoor
namespace Go.Proofs.YtgfkmppkeolckaaDoor
open Go
variable {n : Nat} {P : Program}
/-- Code that goes on behind itself, or panics. -/
def RunsV (P : Program) (c : Code) (N : Act → World → Prop) (Z : List PanicEntry → Act → World → Prop) (a : Act) (w : World) : Prop :=
  ∀ (b : Frame) (k : List Item) (cs : List Frame), b.roundOf = none → (∃ x, P.funcs[b.fn]? = some x) →
    (∃ a' w', N a' w' ∧ StepsIn (Machine.fenced P Fence.wide) P (lone (b.atR a (.code c :: k)) cs w) (lone (b.atR a' k) cs w')) ∨
    (∃ chain a' w' todo, Z chain a' w' ∧ StepsIn (Machine.fenced P Fence.wide) P (lone (b.atR a (.code c :: k)) cs w) (lone { b.atR a' todo with mode := .panicking chain } cs w'))
theorem runsV_of_wpIn {c : Code} {N : Act → World → Prop} {Z : List PanicEntry → Act → World → Prop} {a : Act} {w : World}
    (h : c.wpIn Fence.wide n P (fun e a w => e = .normal ∧ N a w) a w) : RunsV P c N Z a w := by
  intro b k cs hro _
  obtain ⟨e, a', w', ⟨rfl, hn⟩, harr⟩ := h b k cs hro trivial (room_wide _)
  exact .inl ⟨a', w', hn, harr⟩
theorem runsV_seq {x y : Code} {N : Act → World → Prop} {Z : List PanicEntry → Act → World → Prop} {a : Act} {w : World}
    (h : RunsV P x (fun a w => RunsV P y N Z a w) Z a w) : RunsV P (x.seq y) N Z a w := by
  intro b k cs hro hv
  have s0 : StepsIn (Machine.fenced P Fence.wide) P (lone (b.atR a (.code (.seq x y) :: k)) cs w) (lone (b.atR a (.code x :: .code y :: k)) cs w) := .one (fenced_wide _ _) stepR_seq
  rcases h b (.code y :: k) cs hro hv with ⟨a', w', hy, s1⟩ | ⟨chain, a', w', todo, hz, s1⟩
  · rcases hy b k cs hro hv with ⟨a2, w2, hn, s2⟩ | ⟨chain, a2, w2, todo, hz, s2⟩
    · exact .inl ⟨a2, w2, hn, (s0.trans s1).trans s2⟩
    · exact .inr ⟨chain, a2, w2, todo, hz, (s0.trans s1).trans s2⟩
  · exact .inr ⟨chain, a', w', todo, hz, s0.trans s1⟩
theorem runsV_block {id : Nat} {x : Code} {N : Act → World → Prop} {Z : List PanicEntry → Act → World → Prop} {a : Act} {w : World}
    (h : RunsV P x N Z a w) : RunsV P (.block id x) N Z a w := by
  intro b k cs hro hv
  have s0 : StepsIn (Machine.fenced P Fence.wide) P (lone (b.atR a (.code (.block id x) :: k)) cs w) (lone (b.atR a (.code x :: .inBlock id :: k)) cs w) := .one (fenced_wide _ _) stepR_block
  rcases h b (.inBlock id :: k) cs hro hv with ⟨a', w', hn, s1⟩ | ⟨chain, a', w', todo, hz, s1⟩
  · exact .inl ⟨a', w', hn, (s0.trans s1).trans (.one (fenced_wide _ _) stepR_inBlock)⟩
  · exact .inr ⟨chain, a', w', todo, hz, s0.trans s1⟩
/-- The statement: its record is laid, the function is called; it returns and no jump is pending, or it panics. -/
theorem runsV_rangeFunc {g : Operand} {ps : Array Tmp} {assign body : Code} {N : Act → World → Prop} {Z : List PanicEntry → Act → World → Prop} {a : Act} {w : World}
    (h : ∀ fn, (∃ x, P.funcs[fn]? = some x) → ∃ (l : Nat) (mark : List Deferred) (w₁ : World) (d : Deferred) (w₁' : World) (f : FuncId) (args : Array Value) (w₂ : World),
      (Instr.enterLoop fn a.tmps ps assign body none).run P w = .ok (l, mark) w₁ ∧
      (resolve a.eval (rangeCall g l) 0).run P w₁ = .ok d w₁' ∧
      (invoke d.target d.args).run P w₁' = .ok (.enter f args) w₂ ∧
      CallsIn Fence.wide n P f args w₂ fun e w₃ =>
        (∃ v, e = .returned v ∧ ∃ w₄, (Instr.endLoop l).run P w₃ = .ok none w₄ ∧ N { a with defers := mark ++ a.defers } w₄) ∨
        (∃ chain, e = .panicked chain ∧ Z chain { a with defers := mark ++ a.defers } w₃)) :
    RunsV P (.rangeFunc g ps assign body) N Z a w := by
  intro b k cs hro hv
  obtain ⟨l, mark, w₁, d, w₁', f, args, w₂, he, hres, hinv, _, hcall⟩ := h b.fn hv
  rw [← hro] at he
  have s0 : StepsIn (Machine.fenced P Fence.wide) P (lone (b.atR a (.code (.rangeFunc g ps assign body) :: k)) cs w) (lone (Frame.enter P f args .normal) (b.atR { a with defers := mark ++ a.defers } (.inRangeFunc l :: k) :: cs) w₂) :=
    .one (fenced_wide _ _) (stepR_rangeFunc he hres hinv)
  obtain ⟨e, w₃, fr, hR, hsteps, _, hleave⟩ := hcall (b.atR { a with defers := mark ++ a.defers } (.inRangeFunc l :: k) :: cs) (room_wide _)
  rcases hR with ⟨v, rfl, w₄, hend, hn⟩ | ⟨chain, rfl, hz⟩
  · refine .inl ⟨_, w₄, hn, (s0.trans hsteps).trans (.head (fenced_wide _ _) ?_ (.one (fenced_wide _ _) (stepR_endRangeFunc hend)))⟩
    rw [← finish_atR_inRangeFunc l v]
    exact step_leave_returned hleave
  · refine .inr ⟨chain, _, w₃, .inRangeFunc l :: k, hz, (s0.trans hsteps).trans (.one (fenced_wide _ _) ?_)⟩
    rw [← Frame.raise_atR]
    exact step_leave_panicked hleave
/-- The same, the function that is ranged over a closure of the program's. -/
theorem runsV_rangeClosure {g : Operand} {ps : Array Tmp} {assign body : Code} {N : Act → World → Prop} {Z : List PanicEntry → Act → World → Prop} {a : Act} {w : World} {gf : Nat} {lb : Array Value} (hg : a.eval g = .func (.func gf) #[] lb) (eg : ∀ args w, (callFunc gf args).run P w = .ok (.enter gf args) w)
    (h : ∀ fn, (∃ x, P.funcs[fn]? = some x) →
      CallsIn Fence.wide n P gf (#[.func (.yield (w.heap.size + 1)) #[] #[]] ++ lb) ((w.alloc (.deferred (some []))).alloc (.loop { state := .ready, pending := none, fn, tmps := a.tmps, params := ps, assign, body, defers := w.heap.size })) fun e w₃ =>
        (∃ v, e = .returned v ∧ ∃ w₄, (Instr.endLoop (w.heap.size + 1)).run P w₃ = .ok none w₄ ∧ N { a with defers := [{ target := .collected w.heap.size, args := #[] }] ++ a.defers } w₄) ∨
        (∃ chain, e = .panicked chain ∧ Z chain { a with defers := [{ target := .collected w.heap.size, args := #[] }] ++ a.defers } w₃)) :
    RunsV P (.rangeFunc g ps assign body) N Z a w := by
  apply runsV_rangeFunc (n := n)
  intro fn hfn
  obtain ⟨W1, hW1⟩ : ∃ W1, W1 = (w.alloc (.deferred (some []))).alloc (.loop { state := .ready, pending := none, fn, tmps := a.tmps, params := ps, assign, body, defers := w.heap.size }) := ⟨_, rfl⟩
  have hc := h fn hfn
  rw [← hW1] at hc
  refine ⟨w.heap.size + 1, [{ target := .collected w.heap.size, args := #[] }], W1, { target := .fn (.func gf) lb, args := #[.func (.yield (w.heap.size + 1)) #[] #[]] }, W1, gf, #[.func (.yield (w.heap.size + 1)) #[] #[]] ++ lb, W1, ?_, ?_, ?_, ?_⟩
  · rw [hW1]; exact run_enterLoop_outer _ _ _ _ _
  · simp only [resolve, hg]
    simp [go_sem]
  · simp [invoke, eg]
  · exact hc
/-- Code that is all that is left of a function. -/
def FinV (P : Program) (fn : Func) (R : Ending → World → Prop) (c : Code) (a : Act) (w : World) : Prop :=
  ∀ (b : Frame) (cs : List Frame), b.roundOf = none → P.funcs[b.fn]? = some fn → b.kind = .normal →
    ∃ e w' fr', R e w' ∧ ComesIn (Machine.fenced P Fence.wide) P (lone (b.atR a [.code c]) cs w) (lone fr' cs w') e ∧ fr'.fn = b.fn ∧ fr'.leaving P w' e
theorem finV_seq {fn : Func} {R : Ending → World → Prop} {x y : Code} {a : Act} {w : World}
    (h : RunsV P x (fun a w => FinV P fn R y a w) (fun chain a w => LeavesInM Fence.wide n P fn a.tmps R a.defers (.panicking chain) w) a w) : FinV P fn R (x.seq y) a w := by
  intro b cs hro hf hk
  have s0 : StepsIn (Machine.fenced P Fence.wide) P (lone (b.atR a [.code (.seq x y)]) cs w) (lone (b.atR a [.code x, .code y]) cs w) := .one (fenced_wide _ _) stepR_seq
  rcases h b [.code y] cs hro ⟨fn, hf⟩ with ⟨a', w', hy, s1⟩ | ⟨chain, a', w', todo, hz, s1⟩
  · obtain ⟨e, w2, fr', hR, hs, h1, h2⟩ := hy b cs hro hf hk
    exact ⟨e, w2, fr', hR, ComesIn.of_steps (s0.trans s1) hs, h1, h2⟩
  · obtain ⟨e, w2, fr', hR, hs, h1, h2⟩ := leaves_stepsInM a'.defers (.panicking chain) w' { b.atR a' todo with mode := .panicking chain } cs rfl rfl rfl hf hk trivial (room_wide _) hz
    exact ⟨e, w2, fr', hR, ComesIn.of_steps (s0.trans s1) hs, h1, h2⟩
theorem finV_ret {fn : Func} {R : Ending → World → Prop} {a : Act} {w : World} (h : LeavesInM Fence.wide n P fn a.tmps R a.defers .returning w) : FinV P fn R .ret a w := by
  intro b cs hro hf hk
  have s0 : StepsIn (Machine.fenced P Fence.wide) P (lone (b.atR a [.code .ret]) cs w) (lone { b.atR a [.code .ret] with mode := .returning } cs w) := .one (fenced_wide _ _) (stepR_ret hro)
  obtain ⟨e, w2, fr', hR, hs, h1, h2⟩ := leaves_stepsInM a.defers .returning w { b.atR a [.code .ret] with mode := .returning } cs rfl rfl rfl hf hk trivial (room_wide _) h
  exact ⟨e, w2, fr', hR, ComesIn.of_steps s0 hs, h1, h2⟩
theorem calls_of_finV {f : FuncId} {fn : Func} {c : Code} {args : Array Value} {w : World} {R : Ending → World → Prop} (hf : P.funcs[f]? = some fn) (hb : fn.body = some c)
    (h : FinV P fn R c { tmps := args ++ Array.replicate (fn.ntmps - args.size) undef, defers := [] } w) : CallsIn Fence.wide n P f args w R := by
  refine ⟨trivial, fun cs _ => ?_⟩
  obtain ⟨b, hbd⟩ : ∃ b : Frame, b = { (default : Frame) with fn := f, kind := .normal, roundOf := none } := ⟨_, rfl⟩
  have henter : Frame.enter P f args .normal = b.atR { tmps := args ++ Array.replicate (fn.ntmps - args.size) undef, defers := [] } [.code c] := by
    simp [Frame.enter, Frame.atR, hf, hb, hbd]
  obtain ⟨e, w', fr', hR, hs, h1, h2⟩ := h b cs (by rw [hbd]) (by rw [hbd]; exact hf) (by rw [hbd])
  rw [henter]
  exact ⟨e, w', fr', hR, hs, by rw [h1, hbd], h2⟩
end Go.Proofs.YtgfkmppkeolckaaDoor
set_option linter.unusedVariables false
namespace Go.Proofs.YtgfkmppkeolckaaDoor
open Go.RowKit Go.Shelf
attribute [local go_sem] Oper.semAt_some
set_option maxRecDepth 100000 in
set_option maxHeartbeats 2000000 in
theorem back_in (n l Bp cap : Nat) (a : Option Addr) (ps : List Int) (chain : List PanicEntry) (J : Nat → World → Prop) (Z : World → Prop) (hps : ps.length ≤ 33554432)
    (hJ : ∀ k W, J k W → W.cell? ⟨Bp, 0, none⟩ = some (.slice a ps.length cap) ∧ ∀ i x, ps[i]? = some x → ∃ b o, a = some ⟨b, o, none⟩ ∧ W.cell? ⟨b, o + i, none⟩ = some (.int .i64 x))
    (hY : ∀ k i x W, J k W → k + i + 1 = ps.length → ps[i]? = some x → YieldAt Fence.wide n Tryd.prog l #[.int .i64 (i : Int), .int .i64 x] W fun e W' =>
      (e = .returned (.bool true) ∧ J (k + 1) W') ∨ (e = .panicked chain ∧ Z W'))
    (W : World) (h0 : J 0 W) :
    CallsIn Fence.wide (n + 1) Tryd.prog 93 #[.func (.yield l) #[] #[], .pointer (some ⟨Bp, 0, none⟩)] W fun e W' => ((∃ v, e = .returned v) ∧ J ps.length W') ∨ (e = .panicked chain ∧ Z W') := by
  refine callsIn_of_wp Tryd.func93 rfl trivial ?_ rfl
  simp only [Tryd.ntmps93, List.size_toArray, List.length_cons, List.length_nil, Nat.reduceAdd, Nat.reduceSub, Array.replicate_succ, Array.replicate_zero, List.push_toArray, List.append_toArray, List.nil_append, List.cons_append]
  have hc0 := (hJ 0 W h0).1
  gi_wp2
  gi_loopw [3] (fun i wr => ∃ k : Nat, k ≤ ps.length ∧ i = .int .i64 ((ps.length : Int) - 1 - (k : Int)) ∧ J k wr)
    (fun i _ => (intOf i + 1).toNat)
  case atStart => exact ⟨0, Nat.zero_le _, by simp, h0⟩
  case round =>
    clear hc0
    obtain ⟨k, hk, rfl, hJs⟩ := hrel
    obtain ⟨hc1, hcells⟩ := hJ k wr hJs
    by_cases hlt : k < ps.length
    · obtain ⟨i, hi⟩ : ∃ i : Nat, k + i + 1 = ps.length := ⟨ps.length - 1 - k, by omega⟩
      obtain ⟨x, hx⟩ : ∃ x, ps[i]? = some x := ⟨_, List.getElem?_eq_getElem (by omega)⟩
      obtain ⟨b, o, rfl, hcx⟩ := hcells i x hx
      have hii : (ps.length : Int) - 1 - (k : Int) = (i : Int) := by omega
      obtain ⟨fn, tmps, assign, body, hy, hR⟩ := hY k i x wr hJs hi hx
      have i1 : (i : Int) < (ps.length : Int) := by omega
      rw [hii]
      gi_wp2
      refine hR.mono ?_
      rintro e W3 (⟨rfl, hJ3⟩ | ⟨rfl, hZ⟩)
      · gi_wp2
        go_roundw
        case rel => exact ⟨k + 1, by omega, by simp; omega, hJ3⟩
        case measure => simp [intOf]
      · gi_wp2
        exact ⟨rfl, .inr ⟨rfl, hZ⟩⟩
    · obtain rfl : k = ps.length := by omega
      have d1 : decide ((0 : Int) ≤ (ps.length : Int) - 1 - (ps.length : Int)) = false := by simp; omega
      gi_wp2
      go_end0
      exact .inl ⟨⟨_, rfl⟩, hJs⟩
end Go.Proofs.YtgfkmppkeolckaaDoor
set_option linter.unusedVariables false
namespace Go.Proofs.YtgfkmppkeolckaaDoor
open Go.ChangeShapes Go.WideShapes Go.ChangeAt Go.RowKit
/-- The reader's block. -/
def RdB (t : ByteArray) (beg nxt deep : Nat) (v : Value) : Obj := .cells #[.string t, .int .i64 (beg : Int), .int .i64 (nxt : Int), .int .i64 (deep : Int), v] 50 (0, 0)
/-- The panic at a place. -/
def bad (p : Nat) : Ending := .panicked [{ v := .iface 47 (.int .i64 (p : Int)), recovered := false }]
theorem fail_any (R : Nat) (t : ByteArray) (beg nxt deep : Nat) (v : Value) (w : World) (hR : w.heap[R]? = some (RdB t beg nxt deep v)) :
    Calls Tryd.prog 53 #[.pointer (some ⟨R, 0, none⟩)] w fun e w' => e = bad beg ∧ w' = w := by
  have c1 := cell_blk (j := 1) hR rfl
  go_enter Tryd.func53, Tryd.ntmps53
  go_wp2
  exact ⟨rfl, rfl, rfl⟩
/-- The cells of data, one behind the other. -/
def flatD (cs : List Dat) : List Value := cs.flatMap fun d => [.int .i64 d.k, .int .i64 d.n, .string d.s, .int .i64 d.l, .int .i64 d.r]
theorem flatD_length (cs : List Dat) : (flatD cs).length = cs.length * 5 := by
  induction cs with
  | nil => rfl
  | cons d cs ih => simp [flatD] at *; omega
theorem flatD_snoc (cs : List Dat) (d : Dat) : flatD (cs ++ [d]) = flatD cs ++ [.int .i64 d.k, .int .i64 d.n, .string d.s, .int .i64 d.l, .int .i64 d.r] := by simp [flatD]
set_option maxRecDepth 100000 in
set_option maxHeartbeats 2000000 in
theorem add_full (R B : Nat) (t : ByteArray) (beg nxt deep : Nat) (v : Value) (cs : List Dat) (d : Dat) (w : World) (hR : w.heap[R]? = some (RdB t beg nxt deep v)) (hown : w.ownsRow B 67 5 v cs.length (flatD cs)) (hn : cs.length = 1000) :
    Calls Tryd.prog 75 #[.pointer (some ⟨R, 0, none⟩), .agg #[.int .i64 d.k, .int .i64 d.n, .string d.s, .int .i64 d.l, .int .i64 d.r]] w fun e w' => e = bad beg ∧ Below w.heap.size w w' := by
  obtain ⟨ao, cap, rfl⟩ : ∃ ao cap, v = .slice ao cs.length cap := by
    rcases hown.2 with ⟨hv, h0⟩ | ⟨g, cap, cur, hv, _⟩
    · exact ⟨none, 0, by rw [hv, h0]⟩
    · exact ⟨_, _, hv⟩
  have hRl : R < w.heap.size := (Array.getElem?_eq_some_iff.1 hR).1
  have c4 := cell_blk (j := 4) hR rfl
  have HR : Hid (w.heap[R]? = some (RdB t beg nxt deep (.slice ao cs.length cap))) := hR
  clear hown hR
  go_enter Tryd.func75, Tryd.ntmps75
  go_wp2_with fail
  refine (fail_any R t beg nxt deep _ _ (blk_past HR.out)).mono ?_
  rintro e w1 ⟨rfl, rfl⟩
  simp only [bad]
  go_wp2
  exact ⟨rfl, rfl, (Below.refl _ _).alloc (Nat.le_refl _) _⟩
theorem grownBy_setCell'' (a : World) (k j : Nat) (v : Value) : a.grownBy (a.setCell ⟨k, j, none⟩ v) (some k) :=
  ⟨rfl, rfl, rfl, by simp, fun i _ hn => heap_setCell_other a ⟨k, j, none⟩ i v (fun e => hn (by simp [e]))⟩
def Sx (R X : Nat) (v : Value) (d : Dat) (w : World) : Prop :=
  w.cell? ⟨R, 4, none⟩ = some v ∧ w.frozen? ⟨R, 4, none⟩ = false ∧ w.cell? ⟨X, 0, none⟩ = some (.int .i64 d.k) ∧ w.cell? ⟨X, 1, none⟩ = some (.int .i64 d.n) ∧ w.cell? ⟨X, 2, none⟩ = some (.string d.s) ∧ w.cell? ⟨X, 3, none⟩ = some (.int .i64 d.l) ∧ w.cell? ⟨X, 4, none⟩ = some (.int .i64 d.r)
theorem Sx.keep {R X : Nat} {v : Value} {d : Dat} {w w' : World} (h : Sx R X v d w) (h1 : w'.heap[R]? = w.heap[R]?) (h2 : w'.heap[X]? = w.heap[X]?) : Sx R X v d w' := by
  obtain ⟨a, b, c, e, f, g, i⟩ := h
  exact ⟨(World.cell?_of_block (a := ⟨R, _, none⟩) h1).trans a, (World.frozen?_of_block (a := ⟨R, _, none⟩) h1).trans b, (World.cell?_of_block (a := ⟨X, _, none⟩) h2).trans c, (World.cell?_of_block (a := ⟨X, _, none⟩) h2).trans e, (World.cell?_of_block (a := ⟨X, _, none⟩) h2).trans f, (World.cell?_of_block (a := ⟨X, _, none⟩) h2).trans g, (World.cell?_of_block (a := ⟨X, _, none⟩) h2).trans i⟩
theorem heap_alloc_lt (w : World) (o : Obj) (k : Nat) (h : k < w.heap.size) : (w.alloc o).drew.heap[k]? = w.heap[k]? := by
  show (w.heap.push o)[k]? = w.heap[k]?
  rw [Array.getElem?_push_lt h, Array.getElem?_eq_getElem h]
theorem bldInfo49 : (Tryd.prog.info? 67).map (fun i => (i.zero, i.size, i.bytes)) = some (some (.agg #[.int .i64 0, .int .i64 0, .string ⟨#[]⟩, .int .i64 0, .int .i64 0]), 5, 48) := by kernel_rfl
set_option maxRecDepth 100000 in
set_option maxHeartbeats 2000000 in
theorem add_ok (R B : Nat) (t : ByteArray) (beg nxt deep : Nat) (v : Value) (cs : List Dat) (d : Dat) (w : World) (hR : w.heap[R]? = some (RdB t beg nxt deep v)) (hown : w.ownsRow B 67 5 v cs.length (flatD cs)) (hn : cs.length < 1000) (hB : B ≤ R) :
    Calls Tryd.prog 75 #[.pointer (some ⟨R, 0, none⟩), .agg #[.int .i64 d.k, .int .i64 d.n, .string d.s, .int .i64 d.l, .int .i64 d.r]] w fun e w' => e = .returned (.int .i64 (cs.length : Int)) ∧ ∃ v', w'.heap[R]? = some (RdB t beg nxt deep v') ∧ w'.ownsRow B 67 5 v' (cs ++ [d]).length (flatD (cs ++ [d])) ∧ Below B w w' ∧ Lib.OthersKept 67 (some R) w w' := by
  obtain ⟨i0, hi, hz0, hz1, hz2⟩ := info_parts bldInfo49
  have hRl : R < w.heap.size := (Array.getElem?_eq_some_iff.1 hR).1
  obtain ⟨ao, cap, rfl⟩ : ∃ ao cap, v = .slice ao cs.length cap := by
    rcases hown.2 with ⟨hv, h0⟩ | ⟨g, cap, cur, hv, _⟩
    · exact ⟨none, 0, by rw [hv, h0]⟩
    · exact ⟨_, _, hv⟩
  have c4 := cell_blk (j := 4) hR rfl
  have HR : Hid (w.heap[R]? = some (RdB t beg nxt deep (.slice ao cs.length cap))) := hR
  have HO : Hid (w.ownsRow B 67 5 (.slice ao cs.length cap) cs.length (flatD cs)) := hown
  have hd : ((cs.length : Int) == 1000) = false := by rw [beq_eq_false_iff_ne]; omega
  clear hown hR
  go_enter Tryd.func75, Tryd.ntmps75
  go_wp2
  have hv1 : (Value.slice ao cs.length cap).ownBlock ≠ some R := by
    intro e
    rcases HO.out.2 with ⟨hv, h0⟩ | ⟨g, cap', cur, hv, _, hg, _⟩
    · rw [hv] at e; cases e
    · rw [hv] at e
      simp only [Value.ownBlock, Option.some.injEq] at e
      subst e
      have := hg.symm.trans HR.out
      simp [RdB] at this
  have hv2 : (Value.slice ao cs.length cap).ownBlock ≠ some w.heap.size := by
    intro e
    have := (HO.out.lt _ e).2
    omega
  have k0 : (w.alloc (Obj.cells #[Value.int .i64 d.k, Value.int .i64 d.n, Value.string d.s, Value.int .i64 d.l, Value.int .i64 d.r] 67)).heap[R]? = some (RdB t beg nxt deep (.slice ao cs.length cap)) := blk_past HR.out
  have k1 : (w.alloc (Obj.cells #[Value.int .i64 d.k, Value.int .i64 d.n, Value.string d.s, Value.int .i64 d.l, Value.int .i64 d.r] 67)).heap[w.heap.size]? = some (Obj.cells #[Value.int .i64 d.k, Value.int .i64 d.n, Value.string d.s, Value.int .i64 d.l, Value.int .i64 d.r] 67) := blk_alloc _ _
  have hs0 : (w.alloc (Obj.cells #[Value.int .i64 d.k, Value.int .i64 d.n, Value.string d.s, Value.int .i64 d.l, Value.int .i64 d.r] 67)).heap.size = w.heap.size + 1 := by simp
  have ho0 := HO.out.alloc (Obj.cells #[Value.int .i64 d.k, Value.int .i64 d.n, Value.string d.s, Value.int .i64 d.l, Value.int .i64 d.r] 67)
  have hb0 : Below w.heap.size w (w.alloc (Obj.cells #[Value.int .i64 d.k, Value.int .i64 d.n, Value.string d.s, Value.int .i64 d.l, Value.int .i64 d.r] 67)) := (Below.refl _ _).alloc (Nat.le_refl _) _
  generalize w.alloc (Obj.cells #[Value.int .i64 d.k, Value.int .i64 d.n, Value.string d.s, Value.int .i64 d.l, Value.int .i64 d.r] 67) = w0 at *
  have f4 := frozen_blk k0 4
  have r4 := cell_blk (j := 4) k0 rfl
  have x0 := cell_blk (j := 0) k1 rfl
  have x1 := cell_blk (j := 1) k1 rfl
  have x2 := cell_blk (j := 2) k1 rfl
  have x3 := cell_blk (j := 3) k1 rfl
  have x4 := cell_blk (j := 4) k1 rfl
  have HK0 : Hid _ := k0
  have HO0 : Hid (w0.ownsRow B 67 5 (.slice ao cs.length cap) cs.length (flatD cs)) := ho0
  have hR0 : R < w0.heap.size := by omega
  have hW0 : w.heap.size < w0.heap.size := by omega
  clear k0 k1 ho0 c4
  have hS0 : Sx R w.heap.size (.slice ao cs.length cap) d w0 := ⟨r4, f4, x0, x1, x2, x3, x4⟩
  have HS0 : Hid (Sx R w.heap.size (.slice ao cs.length cap) d w0) := hS0
  clear hS0
  go_region_law
    ((refine step_append_lies _ (by rfl) _ _ _ (by rfl) B 67 i0 _ 5 48 Tryd.underlying25 hi hz0 hz1 hz2 rfl (by omega) (.slice ao cs.length cap) cs.length (flatD cs) (by rfl) (HO0.out.alloc _) ⟨w.heap.size + 1, 0, none⟩ 1 1 [.int .i64 d.k, .int .i64 d.n, .string d.s, .int .i64 d.l, .int .i64 d.r] (by rfl) (by rfl) (World.news_of_block (blk_at _ _ _ hs0.symm)) (by intro u hu; simp at hu; rcases hu with rfl | rfl | rfl | rfl | rfl <;> rfl) (by omega) (by simp [maxLen]; omega) (by omega) (by simp; omega) (w.heap.size + 1 + 1) (by simp; omega) ?_; intro g cap' w1 hown1 hgrow hat hlt; have hsx := Sx.keep HS0.out ((hgrow.block R (by simp; omega) (Ne.symm hv1)).trans (heap_alloc_lt w0 _ R hR0)) ((hgrow.block w.heap.size (by simp; omega) (Ne.symm hv2)).trans (heap_alloc_lt w0 _ _ hW0)); have z4 := hsx.1; have zf := hsx.2.1))
  all_goals
    have hk1 : w1.heap[R]? = some (RdB t beg nxt deep (.slice ao cs.length cap)) := ((hgrow.block R (by simp; omega) (Ne.symm hv1)).trans (heap_alloc_lt w0 _ R hR0)).trans HK0.out
    have hb1 : Below B w w1 := by
      refine ⟨hgrow.os.trans hb0.os, hgrow.tape.trans hb0.tape, hgrow.output.trans hb0.output, Nat.le_trans hb0.size (Nat.le_trans (by simp) hgrow.size), fun k hk => ?_⟩
      have hkw : k < w.heap.size := by omega
      rw [hgrow.block k (by simp; omega) (fun e => by have := (HO.out.lt k e.symm).1; omega)]
      exact (heap_alloc_lt w0 _ k (by omega)).trans (hb0.block k hkw)
    have hok : Lib.OthersKept 67 (some R) w w1 := by
      intro k o hk hkR ho
      have hkw := (Array.getElem?_eq_some_iff.1 hk).1
      have hne : some k ≠ (Value.slice ao cs.length cap).ownBlock := by
        intro e
        rcases HO.out.2 with ⟨hv, _⟩ | ⟨g', cap'', cur, hv, _, hg, _⟩
        · rw [hv] at e; cases e
        · rw [hv] at e
          simp only [Value.ownBlock, Option.some.injEq] at e
          subst e
          exact ho _ _ (Option.some.inj (hk.symm.trans hg))
      rw [hgrow.block k (by simp; omega) hne]
      exact ((heap_alloc_lt w0 _ k (by omega)).trans (hb0.block k hkw)).trans hk
    have hk2 : (w1.setCell ⟨R, 4, none⟩ (.slice (some ⟨g, 0, none⟩) (cs.length + 1) cap')).heap[R]? = some (RdB t beg nxt deep (.slice (some ⟨g, 0, none⟩) (cs.length + 1) cap')) := heap_setCell_same _ _ _ _ _ _ hk1
    have hgR : g ≠ R := by
      intro e
      rcases hown1.2 with ⟨hv, _⟩ | ⟨g', cap'', cur, hv, _, hg, _⟩
      · cases hv
      · simp only [Value.slice.injEq, Option.some.injEq, Addr.mk.injEq] at hv
        obtain ⟨⟨rfl, _⟩, _⟩ := hv
        subst e
        have := hg.symm.trans hk1
        simp [RdB] at this
    have ho2 : (w1.setCell ⟨R, 4, none⟩ (.slice (some ⟨g, 0, none⟩) (cs.length + 1) cap')).ownsRow B 67 5 (.slice (some ⟨g, 0, none⟩) (cs.length + 1) cap') (cs ++ [d]).length (flatD (cs ++ [d])) := by
      rw [flatD_snoc, List.length_append, List.length_cons, List.length_nil]
      exact hown1.kept (grownBy_setCell'' w1 R 4 _) (.inr (by simp only [Value.ownBlock]; intro e; exact hgR (Option.some.inj e)))
    have r5 := cell_blk (j := 4) hk2 rfl
    have HK2 : Hid _ := hk2
    have HO2 : Hid _ := ho2
    have HB1 : Hid (Below B w (w1.setCell ⟨R, 4, none⟩ (.slice (some ⟨g, 0, none⟩) (cs.length + 1) cap'))) := hb1.setCell (p := ⟨R, 4, none⟩) hB _
    have HOK : Hid (Lib.OthersKept 67 (some R) w (w1.setCell ⟨R, 4, none⟩ (.slice (some ⟨g, 0, none⟩) (cs.length + 1) cap'))) := hok.setCell ⟨R, 4, none⟩ rfl _
    clear hk1 hb1 hok hk2 ho2 hown1 hgrow hsx z4 zf
    go_wp2
    go_ret
    exact ⟨by simp, _, HK2.out, HO2.out, HB1.out, HOK.out⟩
end Go.Proofs.YtgfkmppkeolckaaDoor
set_option linter.unusedVariables false
namespace Go.Proofs.YtgfkmppkeolckaaDoor
open Go.RowKit Go.Shelf
attribute [local go_sem] Oper.semAt_some
/-- The cells and the end behind k pairs. -/
def prS (cs : List Dat) (ps : List Int) (e : Int) : Nat → List Dat × Int
  | 0 => (cs, e)
  | k + 1 => ((prS cs ps e k).1 ++ [⟨5, 0, ⟨#[]⟩, ps.getD (ps.length - 1 - k) 0, (prS cs ps e k).2⟩], ((prS cs ps e k).1.length : Int))
theorem prS_length (cs : List Dat) (ps : List Int) (e : Int) : ∀ k, (prS cs ps e k).1.length = cs.length + k
  | 0 => rfl
  | k + 1 => by simp [prS, prS_length cs ps e k]; omega
/-- A row of ints in a block of its own kind. -/
def PartsAt (w : World) (S : Nat) (a : Option Addr) (ps : List Int) : Prop :=
  ∀ (i : Nat) (x : Int), ps[i]? = some x → ∃ b o xs, a = some ⟨b, o, none⟩ ∧ b < S ∧ w.heap[b]? = some (.cells xs 3 (0, 0)) ∧ xs[o + i]? = some (.int .i64 x)
theorem PartsAt.keep {w w' : World} {S : Nat} {a : Option Addr} {ps : List Int} (h : PartsAt w S a ps) (hk : ∀ b xs, b < S → w.heap[b]? = some (.cells xs 3 (0, 0)) → w'.heap[b]? = w.heap[b]?) : PartsAt w' S a ps := by
  intro i x hx
  obtain ⟨b, o, xs, ha, hb, hw, hc⟩ := h i x hx
  exact ⟨b, o, xs, ha, hb, (hk b xs hb hw).trans hw, hc⟩
/-- Where the pairs stand behind k of them. -/
def PrJ (w : World) (R B : Nat) (t : ByteArray) (beg nxt deep : Nat) (cs : List Dat) (a : Option Addr) (cap : Nat) (ps : List Int) (e0 : Int) (rc : Loop) (k : Nat) (W : World) : Prop :=
  cs.length + k ≤ 1000 ∧ (∃ v', W.heap[R]? = some (RdB t beg nxt deep v') ∧ W.ownsRow B 67 5 v' (prS cs ps e0 k).1.length (flatD (prS cs ps e0 k).1)) ∧
  W.heap[w.heap.size]? = some (.cells #[.pointer (some ⟨R, 0, none⟩)] 80 (0, 0)) ∧
  W.heap[w.heap.size + 1]? = some (.cells #[.int .i64 (prS cs ps e0 k).2] 3 (0, 0)) ∧
  W.heap[w.heap.size + 1 + 1]? = some (.cells #[.slice a ps.length cap] 26 (0, 0)) ∧
  PartsAt W w.heap.size a ps ∧ W.heap[w.heap.size + 1 + 1 + 1 + 1]? = some (.loop rc) ∧ W.heap[w.heap.size + 1 + 1 + 1]? = some (.deferred (some [])) ∧ Below B w W ∧ Lib.OthersKept 67 (some R) w W
theorem own_put {W : World} {B l : Nat} {v : Value} {n : Nat} {xs : List Value} {o o' : Obj} (h : W.ownsRow B 67 5 v n xs) (hl : W.heap[l]? = some o) (ho : ∀ c fz, o ≠ .cells c 67 fz) : (W.putObj l o').ownsRow B 67 5 v n xs := by
  refine h.kept (grownBy_putObj' W l o') (.inr ?_)
  intro e
  rcases h.2 with ⟨hv, _⟩ | ⟨g, cap', cur, hv, _, hg, _⟩
  · rw [hv] at e; cases e
  · rw [hv] at e
    simp only [Value.ownBlock, Option.some.injEq] at e
    subst e
    exact ho _ _ (Option.some.inj (hl.symm.trans hg))
theorem own_set {W : World} {B l j : Nat} {v u : Value} {n : Nat} {xs : List Value} {ys : Array Value} (h : W.ownsRow B 67 5 v n xs) (hl : W.heap[l]? = some (.cells ys 3 (0, 0))) : (W.setCell ⟨l, j, none⟩ u).ownsRow B 67 5 v n xs := by
  refine h.kept (grownBy_setCell'' W l j u) (.inr ?_)
  intro e
  rcases h.2 with ⟨hv, _⟩ | ⟨g, cap', cur, hv, _, hg, _⟩
  · rw [hv] at e; cases e
  · rw [hv] at e
    simp only [Value.ownBlock, Option.some.injEq] at e
    subst e
    have := hl.symm.trans hg
    simp at this
/-- One pair more. -/
theorem PrJ.step {w : World} {R B : Nat} {t : ByteArray} {beg nxt deep : Nat} {cs : List Dat} {a : Option Addr} {cap : Nat} {ps : List Int} {e0 : Int} {rc : Loop} {k : Nat} {W2 W3 : World} {v3 : Value} {x ek : Int}
    (hRl : R < w.heap.size) (hBw : B ≤ w.heap.size) (hRt : ∀ ys, W2.heap[R]? ≠ some (.cells ys 3 (0, 0))) (hc : cs.length + k < 1000) (hek : (prS cs ps e0 k).2 = ek) (hgd : ps.getD (ps.length - 1 - k) 0 = x)
    (h4 : W2.heap[w.heap.size]? = some (.cells #[.pointer (some ⟨R, 0, none⟩)] 80 (0, 0))) (h5 : W2.heap[w.heap.size + 1]? = some (.cells #[.int .i64 ek] 3 (0, 0))) (h6 : W2.heap[w.heap.size + 1 + 1]? = some (.cells #[.slice a ps.length cap] 26 (0, 0)))
    (h7 : PartsAt W2 w.heap.size a ps) (h8 : W2.heap[w.heap.size + 1 + 1 + 1 + 1]? = some (.loop rc)) (h9 : W2.heap[w.heap.size + 1 + 1 + 1]? = some (.deferred (some []))) (h10 : Below B w W2) (h11 : Lib.OthersKept 67 (some R) w W2)
    (g1 : W3.heap[R]? = some (RdB t beg nxt deep v3)) (g2 : W3.ownsRow B 67 5 v3 ((prS cs ps e0 k).1 ++ ([⟨5, 0, ⟨#[]⟩, x, ek⟩] : List Dat)).length (flatD ((prS cs ps e0 k).1 ++ ([⟨5, 0, ⟨#[]⟩, x, ek⟩] : List Dat)))) (g3 : Below B W2 W3) (g4 : Lib.OthersKept 67 (some R) W2 W3) :
    PrJ w R B t beg nxt deep cs a cap ps e0 rc (k + 1) (W3.setCell ⟨w.heap.size + 1, 0, none⟩ (.int .i64 ((cs.length : Int) + k))) := by
  have hpr : prS cs ps e0 (k + 1) = ((prS cs ps e0 k).1 ++ ([⟨5, 0, ⟨#[]⟩, x, ek⟩] : List Dat), (((prS cs ps e0 k).1.length : Nat) : Int)) := by
    rw [prS, hgd, hek]
  have hln := prS_length cs ps e0 k
  have kp : ∀ j o, j ≠ R → W2.heap[j]? = some o → (∀ c fz, o ≠ .cells c 67 fz) → W3.heap[j]? = some o := fun j o hj ho hn => g4 j o ho (fun e => hj (Option.some.inj e)) hn
  have e3 := kp (w.heap.size + 1) _ (by omega) h5 (fun _ _ e => by injection e with _ e; cases e)
  have ot : ∀ j, j ≠ w.heap.size + 1 → (W3.setCell ⟨w.heap.size + 1, 0, none⟩ (.int .i64 ((cs.length : Int) + k))).heap[j]? = W3.heap[j]? := fun j hj => heap_setCell_other _ _ _ _ hj
  rw [PrJ, hpr]
  refine ⟨by omega, ⟨v3, (ot _ (by omega)).trans g1, own_set g2 e3⟩, (ot _ (by omega)).trans (kp _ _ (by omega) h4 (fun _ _ e => by injection e with _ e; cases e)), ?_, (ot _ (by omega)).trans (kp _ _ (by omega) h6 (fun _ _ e => by injection e with _ e; cases e)), ?_, (ot _ (by omega)).trans (kp _ _ (by omega) h8 (fun _ _ e => by cases e)), (ot _ (by omega)).trans (kp _ _ (by omega) h9 (fun _ _ e => by cases e)), (h10.trans g3).setCell (p := ⟨_, _, none⟩) (by simp; omega) _, ?_⟩
  · have := heap_setCell_same W3 (w.heap.size + 1) 0 _ _ (.int .i64 ((cs.length : Int) + k)) e3
    rw [this]
    simp only [hln]
    simp
  · refine h7.keep fun b xs hb hw => ?_
    have hbR : b ≠ R := by intro e; subst e; exact hRt _ hw
    exact (ot b (by omega)).trans ((kp b _ hbR hw (fun _ _ e => by injection e with _ e; cases e)).trans hw.symm)
  · intro j o hj hjR ho
    have hjl := (Array.getElem?_eq_some_iff.1 hj).1
    exact (ot j (by omega)).trans (g4 j o (h11 j o hj hjR ho) hjR ho)
theorem ok_other {b : Option Nat} {w W W' : World} (h : Lib.OthersKept 67 b w W) (hk : ∀ k, k < w.heap.size → some k ≠ b → W'.heap[k]? = W.heap[k]?) : Lib.OthersKept 67 b w W' :=
  fun k o hk0 hkb ho => (hk k (Array.getElem?_eq_some_iff.1 hk0).1 hkb).trans (h k o hk0 hkb ho)
theorem below_put {B l : Nat} {w W : World} (h : Below B w W) (hl : B ≤ l) (o : Obj) : Below B w (W.putObj l o) :=
  h.trans ⟨rfl, rfl, rfl, (grownBy_putObj' W l o).size, fun k hk => World.putObj_heap_other (by omega)⟩
/-- The record laid or turned: nothing else is. -/
theorem PrJ.put {w : World} {R B : Nat} {t : ByteArray} {beg nxt deep : Nat} {cs : List Dat} {a : Option Addr} {cap : Nat} {ps : List Int} {e0 : Int} {rc rc' : Loop} {k : Nat} {W : World} (h : PrJ w R B t beg nxt deep cs a cap ps e0 rc k W) (hR : R < w.heap.size) (hB : B ≤ w.heap.size) : PrJ w R B t beg nxt deep cs a cap ps e0 rc' k (W.putObj (w.heap.size + 1 + 1 + 1 + 1) (.loop rc')) := by
  obtain ⟨h1, ⟨v', h2, h3⟩, h4, h5, h6, h7, h8, h9, h10, h11⟩ := h
  have ot : ∀ j, j ≠ w.heap.size + 1 + 1 + 1 + 1 → (W.putObj (w.heap.size + 1 + 1 + 1 + 1) (.loop rc')).heap[j]? = W.heap[j]? := fun j hj => World.putObj_heap_other hj
  exact ⟨h1, ⟨v', (ot _ (by omega)).trans h2, own_put h3 h8 (fun _ _ e => by cases e)⟩, (ot _ (by omega)).trans h4, (ot _ (by omega)).trans h5, (ot _ (by omega)).trans h6, h7.keep (fun b _ hb _ => ot b (by omega)), World.putObj_heap_same (Array.getElem?_eq_some_iff.1 h8).1, (ot _ (by omega)).trans h9, below_put h10 (by omega) _, ok_other h11 (fun j hj _ => ot j (by omega))⟩
theorem gen_world {C : World → Prop} {Q : Loop → World → Prop} {W2 : World} {rb : Loop} (h : ∀ W2, Q rb W2 → C W2) (hq : Q rb W2) : C W2 := h W2 hq
theorem back_any (a : Option Addr) (n c : Nat) (w : World) :
    Calls Tryd.prog 88 #[.slice a n c] w fun e w' => e = .returned (.func (.func 93) #[] #[.pointer (some ⟨w.heap.size, 0, none⟩)]) ∧ w' = w.alloc (.cells #[.slice a n c] 26) := by
  have hmf : ∀ (fn : Fn) (first cap : Array Value) (w : World), (Instr.makeFunc fn first cap).run Tryd.prog w = .ok (.func fn first cap) w := fun _ _ _ _ => rfl
  go_enter Tryd.func88, Tryd.ntmps88
  go_wp2
  go_ret
  exact ⟨rfl, rfl⟩
set_option maxRecDepth 100000 in
set_option maxHeartbeats 4000000 in
theorem pairs_any (R B : Nat) (t : ByteArray) (beg nxt deep : Nat) (v : Value) (cs : List Dat) (a : Option Addr) (cap : Nat) (ps : List Int) (e0 : Int) (w : World) (hR : w.heap[R]? = some (RdB t beg nxt deep v)) (hown : w.ownsRow B 67 5 v cs.length (flatD cs)) (hn : cs.length ≤ 1000) (hB : B ≤ R) (hps : ps.length ≤ 33554432) (hpt : PartsAt w w.heap.size a ps) (hBw : B ≤ w.heap.size) :
    Calls Tryd.prog 76 #[.pointer (some ⟨R, 0, none⟩), .slice a ps.length cap, .int .i64 e0] w fun e w' =>
      (cs.length + ps.length ≤ 1000 ∧ e = .returned (.int .i64 (prS cs ps e0 ps.length).2) ∧ ∃ v', w'.heap[R]? = some (RdB t beg nxt deep v') ∧ w'.ownsRow B 67 5 v' (prS cs ps e0 ps.length).1.length (flatD (prS cs ps e0 ps.length).1) ∧ Below B w w' ∧ Lib.OthersKept 67 (some R) w w') ∨
      (1000 < cs.length + ps.length ∧ e = bad beg ∧ Below B w w') := by
  refine (callsIn_wide (n := 3)).1 ?_
  refine calls_of_finV (n := 3) Tryd.func76 rfl ?_
  simp only [Tryd.ntmps76, List.size_toArray, List.length_cons, List.length_nil, Nat.reduceAdd, Nat.reduceSub, Array.replicate_succ, Array.replicate_zero, List.push_toArray, List.append_toArray, List.nil_append, List.cons_append]
  have HBK : Hid (∀ w, Calls Tryd.prog 88 #[.slice a ps.length cap] w fun e w' => e = .returned (.func (.func 93) #[] #[.pointer (some ⟨w.heap.size, 0, none⟩)]) ∧ w' = w.alloc (.cells #[.slice a ps.length cap] 26)) := fun w => back_any a ps.length cap w
  have eg : ∀ args w, (callFunc 93 args).run Tryd.prog w = .ok (.enter 93 args) w := enters_of Tryd.func93 (by kernel_rfl) rfl
  refine finV_seq (n := 3) ?_
  refine runsV_of_wpIn (n := 3) ?_
  gi_wp2
  refine finV_seq (n := 3) ?_
  refine runsV_seq ?_
  refine runsV_of_wpIn (n := 3) ?_
  gi_wp2_with (refine ⟨trivial, ?_⟩; gi_at_call 88; refine (callsIn_wide.2 (HBK.out _)).mono ?_; rintro e w' ⟨rfl, rfl⟩)
  refine runsV_block ?_
  have hRl : R < w.heap.size := (Array.getElem?_eq_some_iff.1 hR).1
  obtain ⟨W0, hW0⟩ : ∃ W0, W0 = (((w.alloc (Obj.cells #[Value.pointer (some ⟨R, 0, none⟩)] 80)).alloc (Obj.cells #[Value.int .i64 e0] 3)).alloc (Obj.cells #[Value.slice a ps.length cap] 26)) := ⟨_, rfl⟩
  rw [← hW0]
  have hs0 : W0.heap.size = w.heap.size + 1 + 1 + 1 := by rw [hW0]; simp
  have q0 : W0.heap[w.heap.size]? = some (.cells #[.pointer (some ⟨R, 0, none⟩)] 80 (0, 0)) := by rw [hW0]; exact blk_past (blk_past (blk_at _ _ _ rfl))
  have q1 : W0.heap[w.heap.size + 1]? = some (.cells #[.int .i64 e0] 3 (0, 0)) := by rw [hW0]; exact blk_past (blk_at _ _ _ (by simp))
  have q2 : W0.heap[w.heap.size + 1 + 1]? = some (.cells #[.slice a ps.length cap] 26 (0, 0)) := by rw [hW0]; exact blk_at _ _ _ (by simp)
  have qb : Below w.heap.size w W0 := by rw [hW0]; exact (((Below.refl _ _).alloc (Nat.le_refl _) _).alloc (by simp) _).alloc (by simp; omega) _
  have qo : W0.ownsRow B 67 5 v cs.length (flatD cs) := by rw [hW0]; exact ((hown.alloc _).alloc _).alloc _
  clear hW0
  refine runsV_rangeClosure (n := 2) (gf := 93) (lb := #[.pointer (some ⟨w.heap.size + 1 + 1, 0, none⟩)]) rfl eg ?_
  intro fn hfn
  rw [hs0]
  simp only [List.append_toArray, List.cons_append, List.nil_append]
  have qk : ∀ j, j < w.heap.size + 1 + 1 + 1 → ∀ (o o' : Obj), ((W0.alloc o).alloc o').heap[j]? = W0.heap[j]? := by
    intro j hj o o'
    obtain ⟨x, hx⟩ : ∃ x, W0.heap[j]? = some x := ⟨_, Array.getElem?_eq_getElem (by omega)⟩
    rw [hx]; exact blk_past (blk_past hx)
  have hL : ∀ (o o' : Obj), ((W0.alloc o).alloc o').heap[w.heap.size + 1 + 1 + 1 + 1]? = some o' := fun o o' => blk_at _ _ _ (by rw [World.size_alloc, hs0])
  have hD : ∀ (o o' : Obj), ((W0.alloc o).alloc o').heap[w.heap.size + 1 + 1 + 1]? = some o := fun o o' => blk_past (blk_at _ _ _ hs0.symm)
  have hP0 : ∀ (o o' : Obj), PartsAt ((W0.alloc o).alloc o') w.heap.size a ps := by
    intro o1 o2 i x hx
    obtain ⟨b, o, xs, ha, hb, hw, hc⟩ := hpt i x hx
    exact ⟨b, o, xs, ha, hb, ((qk b (by omega) _ _).trans (qb.block b hb)).trans hw, hc⟩
  have hB0 : ∀ (o o' : Obj), Below B w ((W0.alloc o).alloc o') := fun o o' => ((qb.mono hBw).alloc (by omega) _).alloc (by simp; omega) _
  have hK0 : ∀ (o o' : Obj), Lib.OthersKept 67 (some R) w ((W0.alloc o).alloc o') := fun o1 o2 k o hk hkR ho => ((qk k (by have := (Array.getElem?_eq_some_iff.1 hk).1; omega) _ _).trans (qb.block k (Array.getElem?_eq_some_iff.1 hk).1)).trans hk
  have hO0 : ∀ (o o' : Obj), ((W0.alloc o).alloc o').ownsRow B 67 5 v cs.length (flatD cs) := fun o o' => (qo.alloc _).alloc _
  refine (back_in 1 (w.heap.size + 1 + 1 + 1 + 1) (w.heap.size + 1 + 1) cap a ps [{ v := .iface 47 (.int .i64 (beg : Int)), recovered := false }] (PrJ w R B t beg nxt deep cs a cap ps e0 _) (fun W => 1000 < cs.length + ps.length ∧ Below B w W ∧ W.heap[w.heap.size + 1 + 1 + 1]? = some (.deferred (some []))) hps ?hJ ?hY _
    ⟨by omega, ⟨v, (qk R (by omega) _ _).trans ((qb.block R hRl).trans hR), hO0 _ _⟩, (qk _ (by omega) _ _).trans q0, (qk _ (by omega) _ _).trans q1, (qk _ (by omega) _ _).trans q2, hP0 _ _, hL _ _, hD _ _, hB0 _ _, hK0 _ _⟩).mono ?fin
  case hJ =>
    rintro k W ⟨h1, ⟨v', h2, h3⟩, h4, h5, h6, h7, h8, h9, h10, h11⟩
    refine ⟨cell_blk h6 rfl, fun i x hx => ?_⟩
    obtain ⟨b, o, xs, ha, hb, hw, hc⟩ := h7 i x hx
    exact ⟨b, o, ha, cell_blk hw hc⟩
  case hY =>
    clear hP0 hB0 hK0 hO0 hL hD qk q0 q1 q2 qb qo hs0 hpt hown hR HBK eg
    intro k i x W hj hki hx
    have h8 := hj.2.2.2.2.2.2.1
    have hy := run_yield (P := Tryd.prog) (args := #[.int .i64 (i : Int), .int .i64 x]) h8 rfl
    refine ⟨_, _, _, _, hy, ?_⟩
    have hgd : ps.getD (ps.length - 1 - k) 0 = x := by
      rw [show ps.length - 1 - k = i by omega, List.getD_eq_getElem?_getD, hx]; rfl
    have hpl := prS_length cs ps e0 k
    by_cases hc : cs.length + k < 1000
    · refine roundIn_of_wpIn (F := Fence.wide) (n := 1) trivial ?_
      gi_wp2
      refine ⟨_, run_beginRound h8 rfl, ?_⟩
      refine gen_world (Q := fun rb W2 => PrJ w R B t beg nxt deep cs a cap ps e0 rb k W2) (C := fun W2 => Code.wpIn (Fence.wide.inRound (w.heap.size + 1 + 1 + 1 + 1)) 1 Tryd.prog _ _ _ W2) ?_ (hj.put hRl hBw)
      clear hj h8 hy
      rintro W2 ⟨h1, ⟨v2, h2, h3⟩, h4, h5, h6, h7, h8, h9, h10, h11⟩
      obtain ⟨ek, hek⟩ : ∃ ek, (prS cs ps e0 k).2 = ek := ⟨_, rfl⟩
      have HADD : Hid (Calls Tryd.prog 75 #[.pointer (some ⟨R, 0, none⟩), .agg #[.int .i64 5, .int .i64 0, .string ⟨#[]⟩, .int .i64 x, .int .i64 ek]] W2 fun e w' => e = .returned (.int .i64 ((prS cs ps e0 k).1.length : Int)) ∧ ∃ v', w'.heap[R]? = some (RdB t beg nxt deep v') ∧ w'.ownsRow B 67 5 v' ((prS cs ps e0 k).1 ++ ([⟨5, 0, ⟨#[]⟩, x, ek⟩] : List Dat)).length (flatD ((prS cs ps e0 k).1 ++ ([⟨5, 0, ⟨#[]⟩, x, ek⟩] : List Dat))) ∧ Below B W2 w' ∧ Lib.OthersKept 67 (some R) W2 w') := add_ok R B t beg nxt deep v2 (prS cs ps e0 k).1 ⟨5, 0, ⟨#[]⟩, x, ek⟩ W2 h2 h3 (by omega) hB
      rw [hek] at h5
      rw [hpl] at HADD
      have c80 := cell_blk (j := 0) h4 rfl
      have cE := cell_blk (j := 0) h5 rfl
      have HRT : Hid (W2.heap[R]? = some (RdB t beg nxt deep v2)) := h2
      have H4 : Hid _ := h4
      have H5 : Hid _ := h5
      have H6 : Hid _ := h6
      have H7 : Hid (PartsAt W2 w.heap.size a ps) := h7
      have H8 : Hid _ := h8
      have H9 : Hid _ := h9
      have H10 : Hid (Below B w W2) := h10
      have H11 : Hid (Lib.OthersKept 67 (some R) w W2) := h11
      clear h2 h3 h4 h5 h6 h7 h8 h9 h10 h11
      gi_wp2_with (refine ⟨trivial, ?_⟩; gi_at_call 75; refine (CallsIn.inRound _ (callsIn_wide.2 HADD.out)).mono ?_; rintro e W3 ⟨rfl, v3, g1, g2, g3, g4⟩; have e3 := g4 (w.heap.size + 1) _ H5.out (by simp; omega) (fun _ _ e => by cases e); have zE := cell_blk (j := 0) e3 rfl; have fE := frozen_blk e3 0)
      have hst := PrJ.step hRl hBw (fun ys e => by have := HRT.out.symm.trans e; simp [RdB] at this) hc hek hgd H4.out H5.out H6.out H7.out H8.out H9.out H10.out H11.out g1 g2 g3 g4
      refine ⟨_, _, run_endRound none hst.2.2.2.2.2.2.1, .inl ⟨rfl, ?_⟩⟩
      exact hst.put hRl hBw
    · refine roundIn_panics (F := Fence.wide) (n := 1) trivial hfn ?_
      gi_wp2
      refine ⟨_, run_beginRound h8 rfl, ?_⟩
      refine gen_world (Q := fun rb W2 => PrJ w R B t beg nxt deep cs a cap ps e0 rb k W2) (C := fun W2 => Code.wpIn (Fence.wide.inRound (w.heap.size + 1 + 1 + 1 + 1)) 1 Tryd.prog _ _ _ W2) ?_ (hj.put hRl hBw)
      clear hj h8 hy
      rintro W2 ⟨h1, ⟨v2, h2, h3⟩, h4, h5, h6, h7, h8, h9, h10, h11⟩
      obtain ⟨ek, hek⟩ : ∃ ek, (prS cs ps e0 k).2 = ek := ⟨_, rfl⟩
      have HADD : Hid (Calls Tryd.prog 75 #[.pointer (some ⟨R, 0, none⟩), .agg #[.int .i64 5, .int .i64 0, .string ⟨#[]⟩, .int .i64 x, .int .i64 ek]] W2 fun e w' => e = .panicked [{ v := .iface 47 (.int .i64 (beg : Int)), recovered := false }] ∧ Below W2.heap.size W2 w') := add_full R B t beg nxt deep v2 (prS cs ps e0 k).1 ⟨5, 0, ⟨#[]⟩, x, ek⟩ W2 h2 h3 (by omega)
      rw [hek] at h5
      have c80 := cell_blk (j := 0) h4 rfl
      have cE := cell_blk (j := 0) h5 rfl
      have H9 : Hid (W2.heap[w.heap.size + 1 + 1 + 1]? = some (.deferred (some []))) := h9
      have H10 : Hid (Below B w W2) := h10
      clear h2 h3 h4 h5 h6 h7 h8 h9 h10 h11
      gi_wp2_with (refine ⟨trivial, ?_⟩; gi_at_call 75; refine (CallsIn.inRound _ (callsIn_wide.2 HADD.out)).mono ?_; rintro e W3 ⟨rfl, hb3⟩)
      have hwz := H10.out.size
      exact ⟨_, rfl, rfl, .inr ⟨rfl, by omega, H10.out.trans (hb3.mono (by omega)), (hb3.block _ (Array.getElem?_eq_some_iff.1 H9.out).1).trans H9.out⟩⟩
  case fin =>
    clear hP0 hB0 hK0 hO0 hL hD qk q0 q1 q2 qb qo hs0 hpt hown hR HBK eg
    rintro e W3 (⟨⟨vv, rfl⟩, hj⟩ | ⟨rfl, hz1, hz2, hz3⟩)
    · refine .inl ⟨vv, rfl, _, run_endLoop hj.2.2.2.2.2.2.1 (by simp), ?_⟩
      refine gen_world (Q := fun rb W2 => PrJ w R B t beg nxt deep cs a cap ps e0 rb ps.length W2) (C := fun W2 => FinV Tryd.prog Tryd.f76 _ _ _ W2) ?_ (hj.put hRl hBw)
      clear hj
      rintro W2 ⟨h1, ⟨v2, h2, h3⟩, h4, h5, h6, h7, h8, h9, h10, h11⟩
      have cE := cell_blk (j := 0) h5 rfl
      refine finV_seq (n := 3) (runsV_of_wpIn (n := 3) ?_)
      gi_wp2
      refine finV_ret (n := 3) ?_
      refine ⟨by simp, .inl ⟨_, _, rfl, run_takeDeferred h9, ?_⟩⟩
      have ot : ∀ j, j ≠ w.heap.size + 1 + 1 + 1 → (W2.putObj (w.heap.size + 1 + 1 + 1) (.deferred none)).heap[j]? = W2.heap[j]? := fun j hj => World.putObj_heap_other hj
      exact ⟨_, results_tmp rfl _ _ _, .inl ⟨rfl, v2, (ot _ (by omega)).trans h2, own_put h3 h9 (fun _ _ e => by cases e), below_put h10 (by omega) _, ok_other h11 (fun j hj _ => ot j (by omega))⟩⟩
    · refine .inr ⟨_, rfl, ?_⟩
      refine ⟨by simp, .inl ⟨_, _, rfl, run_takeDeferred hz3, ?_⟩⟩
      exact .inr ⟨hz1, rfl, below_put hz2 (by omega) _⟩
end Go.Proofs.YtgfkmppkeolckaaDoor
set_option linter.unusedVariables false
namespace Go.Proofs.YtgfkmppkeolckaaDoor
/-- How many bytes are passed over (rem: in a remark). -/
def skp : Bool → List UInt8 → Nat
  | _, [] => 0
  | rem, c :: r => if c.toNat = 10 then 1 + skp false r else if rem then 1 + skp true r else if c.toNat = 9 ∨ c.toNat = 32 then 1 + skp false r else if c.toNat = 59 then 1 + skp true r else 0
/-- What is left of a text. -/
def dr (s : ByteArray) (at_ : Nat) : List UInt8 := s.data.toList.drop at_
theorem dr_len (s : ByteArray) (i : Nat) : (dr s i).length = s.size - i := by simp [dr]
theorem dr_cons (s : ByteArray) (i : Nat) (h : i < s.size) : dr s i = s[i] :: dr s (i + 1) := by
  unfold dr
  rw [List.drop_eq_getElem_cons (by simpa using h)]
  rfl
theorem dr_end (s : ByteArray) (i : Nat) (h : s.size ≤ i) : dr s i = [] := List.eq_nil_of_length_eq_zero (by rw [dr_len]; omega)
theorem skp_le : ∀ (rem : Bool) (l : List UInt8), skp rem l ≤ l.length
  | _, [] => by simp [skp]
  | rem, c :: r => by
    have h1 := skp_le false r
    have h2 := skp_le true r
    simp only [skp, List.length_cons]
    split
    · omega
    · split
      · omega
      · split
        · omega
        · split <;> omega
theorem skp_idem : ∀ (rem : Bool) (l : List UInt8), skp false (l.drop (skp rem l)) = 0
  | _, [] => by simp [skp]
  | rem, c :: r => by
    have h1 := skp_idem false r
    have h2 := skp_idem true r
    simp only [skp]
    by_cases a1 : c.toNat = 10
    · rw [if_pos a1, Nat.add_comm 1, List.drop_succ_cons]; exact h1
    · rw [if_neg a1]
      by_cases a2 : rem = true
      · rw [if_pos a2, Nat.add_comm 1, List.drop_succ_cons]; exact h2
      · rw [if_neg a2]
        by_cases a3 : c.toNat = 9 ∨ c.toNat = 32
        · rw [if_pos a3, Nat.add_comm 1, List.drop_succ_cons]; exact h1
        · rw [if_neg a3]
          by_cases a4 : c.toNat = 59
          · rw [if_pos a4, Nat.add_comm 1, List.drop_succ_cons]; exact h2
          · rw [if_neg a4, List.drop_zero]
            simp only [skp]
            rw [if_neg a1, if_neg (by simp), if_neg a3, if_neg a4]
/-- Where the next token begins. -/
def skAt (s : ByteArray) (i : Nat) : Nat := i + skp false (dr s i)
theorem skAt_ge (s : ByteArray) (i : Nat) : i ≤ skAt s i := Nat.le_add_right _ _
theorem skAt_le (s : ByteArray) (i : Nat) (h : i ≤ s.size) : skAt s i ≤ s.size := by
  have := skp_le false (dr s i)
  rw [dr_len] at this
  unfold skAt
  omega
theorem skAt_idem (s : ByteArray) (i : Nat) : skAt s (skAt s i) = skAt s i := by
  have h := skp_idem false (dr s i)
  have e : dr s (i + skp false (dr s i)) = (dr s i).drop (skp false (dr s i)) := by unfold dr; rw [List.drop_drop]
  unfold skAt
  rw [e, h]
  rfl
/-- May the byte stand in a token of several bytes? -/
def wdB (c : UInt8) : Bool := sgB c || (decide (c.toNat = 35) || decide (c.toNat = 46))
def parB (c : UInt8) : Bool := hasB [40, 41, 39] c
def twl (l : List UInt8) : Nat := (l.takeWhile wdB).length
theorem twl_le (l : List UInt8) : twl l ≤ l.length := by
  unfold twl
  have := (List.takeWhile_prefix (p := wdB) (l := l)).length_le
  exact this
theorem twl_cons (c : UInt8) (l : List UInt8) : twl (c :: l) = if wdB c then 1 + twl l else 0 := by
  unfold twl
  rw [List.takeWhile_cons]
  split
  · simp; omega
  · rfl
/-- Where the token that begins at b ends: b itself where there is none. -/
def tkE (s : ByteArray) (b : Nat) : Nat :=
  match dr s b with
  | [] => b
  | c :: r => if parB c then b + 1 else b + twl (c :: r)
theorem tkE_ge (s : ByteArray) (b : Nat) : b ≤ tkE s b := by
  unfold tkE
  split
  · exact Nat.le_refl _
  · split <;> omega
theorem tkE_le (s : ByteArray) (b : Nat) (h : b ≤ s.size) : tkE s b ≤ s.size := by
  unfold tkE
  have hl := dr_len s b
  split
  · exact h
  · rename_i c r e
    rw [e] at hl
    have := twl_le (c :: r)
    simp only [List.length_cons] at hl this
    split <;> omega
/-- The token that begins at b. -/
def tk (s : ByteArray) (b : Nat) : ByteArray := s.extract b (tkE s b)
/-- Where the reading is. -/
structure St where
  nx : Nat
  la : Nat
  cs : List Dat
def numD (n : Int) : Dat := ⟨1, n, ⟨#[]⟩, 0, 0⟩
def boolD (n : Int) : Dat := ⟨2, n, ⟨#[]⟩, 0, 0⟩
def symD (s : ByteArray) : Dat := ⟨3, 0, s, 0, 0⟩
def nilD : Dat := ⟨4, 0, ⟨#[]⟩, 0, 0⟩
def quoD : Dat := symD ⟨#[113, 117, 111, 116, 101]⟩
/-- The datum of a token of several bytes. -/
def atomD (t : ByteArray) : Option Dat :=
  if deB t.data.toList = true ∧ -1000000 ≤ rdX t.data.toList ∧ rdX t.data.toList ≤ 1000000 then some (numD (rdX t.data.toList))
  else if (t.toList == [35, 116]) = true then some (boolD 1)
  else if (t.toList == [35, 102]) = true then some (boolD 0)
  else if syL t.data.toList = true then some (symD t)
  else none
/-- One cell more. -/
def putP (st : St) (d : Dat) : Except Nat St := if st.cs.length < 1000 then .ok ⟨st.nx, st.la, st.cs ++ [d]⟩ else .error st.la
/-- The pairs of a list, behind the cell that ends it. -/
def prsP (st : St) (ps : List Int) : Except Nat St := if st.cs.length + ps.length ≤ 1000 then .ok ⟨st.nx, st.la, (prS st.cs ps ((st.cs.length : Int) - 1) ps.length).1⟩ else .error st.la
def atomP (st : St) (t : ByteArray) : Except Nat St :=
  match atomD t with
  | some d => putP st d
  | none => .error st.la
/-- The number of the last cell. -/
def St.top (st : St) : Int := (st.cs.length : Int) - 1
/-- Reading: a datum whose token begins where st is (true), or what stands behind a ( and some of its parts (false). -/
def rdP (s : ByteArray) : Nat → Bool → Nat → List Int → St → Except Nat St
  | 0, _, _, _, st => .error st.nx
  | f + 1, true, deep, _, st =>
    if tkE s st.nx = st.nx then .error st.nx
    else if ((tk s st.nx).toList == [40]) = true then (if 24 ≤ deep then .error st.nx else rdP s f false (deep + 1) [] ⟨tkE s st.nx, st.nx, st.cs⟩)
    else if ((tk s st.nx).toList == [39]) = true then (if 24 ≤ deep then .error st.nx else
      (putP ⟨tkE s st.nx, st.nx, st.cs⟩ quoD).bind fun st1 => (rdP s f true (deep + 1) [] ⟨skAt s st1.nx, 0, st1.cs⟩).bind fun st2 => (putP st2 nilD).bind fun st3 => prsP st3 [st1.top, st2.top])
    else atomP ⟨tkE s st.nx, st.nx, st.cs⟩ (tk s st.nx)
  | f + 1, false, deep, ps, st =>
    if ((tk s (skAt s st.nx)).toList == [41]) = true then (putP ⟨tkE s (skAt s st.nx), skAt s st.nx, st.cs⟩ nilD).bind fun st2 => prsP st2 ps
    else if ((tk s (skAt s st.nx)).toList == [46]) = true ∧ ps ≠ [] then
      (rdP s f true deep [] ⟨skAt s (tkE s (skAt s st.nx)), 0, st.cs⟩).bind fun st2 =>
        if ((tk s (skAt s st2.nx)).toList == [41]) = true then prsP ⟨tkE s (skAt s st2.nx), skAt s st2.nx, st2.cs⟩ ps else .error (skAt s st2.nx)
    else (rdP s f true deep [] ⟨skAt s st.nx, 0, st.cs⟩).bind fun st2 => rdP s f false deep (ps ++ [st2.top]) st2
/-- The datum whose token begins at b, inside of deep. -/
def datP (s : ByteArray) (f deep b : Nat) (cs : List Dat) : Except Nat St := rdP s f true deep [] ⟨b, 0, cs⟩
/-- What stands behind a (, behind some of its parts. -/
def lstP (s : ByteArray) (f deep : Nat) (ps : List Int) (st : St) : Except Nat St := rdP s f false deep ps st
theorem datP_succ (s : ByteArray) (f deep b : Nat) (cs : List Dat) : datP s (f + 1) deep b cs =
    if tkE s b = b then .error b
    else if ((tk s b).toList == [40]) = true then (if 24 ≤ deep then .error b else lstP s f (deep + 1) [] ⟨tkE s b, b, cs⟩)
    else if ((tk s b).toList == [39]) = true then (if 24 ≤ deep then .error b else
      (putP ⟨tkE s b, b, cs⟩ quoD).bind fun st => (datP s f (deep + 1) (skAt s st.nx) st.cs).bind fun st2 => (putP st2 nilD).bind fun st3 => prsP st3 [st.top, st2.top])
    else atomP ⟨tkE s b, b, cs⟩ (tk s b) := rfl
theorem lstP_succ (s : ByteArray) (f deep : Nat) (ps : List Int) (st : St) : lstP s (f + 1) deep ps st =
    if ((tk s (skAt s st.nx)).toList == [41]) = true then (putP ⟨tkE s (skAt s st.nx), skAt s st.nx, st.cs⟩ nilD).bind fun st2 => prsP st2 ps
    else if ((tk s (skAt s st.nx)).toList == [46]) = true ∧ ps ≠ [] then
      (datP s f deep (skAt s (tkE s (skAt s st.nx))) st.cs).bind fun st2 =>
        if ((tk s (skAt s st2.nx)).toList == [41]) = true then prsP ⟨tkE s (skAt s st2.nx), skAt s st2.nx, st2.cs⟩ ps else .error (skAt s st2.nx)
    else (datP s f deep (skAt s st.nx) st.cs).bind fun st2 => lstP s f deep (ps ++ [st2.top]) st2 := rfl
/-- All data of a text. -/
def topP (s : ByteArray) (F : Nat) : Nat → List Int → St → Except Nat (St × List Int)
  | 0, _, st => .error st.nx
  | f + 1, ts, st =>
    if skAt s st.nx = s.size then .ok (st, ts)
    else (datP s F 0 (skAt s st.nx) st.cs).bind fun st2 => topP s F f (ts ++ [st2.top]) st2
end Go.Proofs.YtgfkmppkeolckaaDoor
