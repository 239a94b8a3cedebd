/- A round of a range over a function that ends by a panic: the panic goes to the function that is ranged over. -/
import Derived.RangeFuncIn
import Derived.Test.YtilaonjjpfebgaaRows
namespace Go.Proofs.Ytilaonjjpfebgaa
open Go
variable {F : Fence} {n : Nat} {P : Program}
/-- What a body asks that panics. -/
def Panics (R : Ending → World → Prop) : Exit → Act → World → Prop := fun e a w => ∃ chain, e = .panic chain ∧ a.defers = [] ∧ R (.panicked chain) w
theorem roundIn_panics {l : Nat} {f : FuncId} {tmps : Array Value} {assign body : Code} {w : World} {R : Ending → World → Prop} (hF : F.fn f) (hfn : ∃ fn, P.funcs[f]? = some fn)
    (h : assign.wpIn (F.inRound l) n P (Exit.then (fun a₁ w₁ => ∃ w₂, (Instr.beginRound l).run P w₁ = .ok () w₂ ∧ body.wpIn (F.inRound l) n P (Panics R) a₁ w₂) (fun _ _ _ => False))
      { tmps := tmps, defers := [] } w) :
    RoundIn F n P l f tmps assign body w R := by
  refine ⟨hF, fun c cs hr => ?_⟩
  obtain ⟨b, hb⟩ : ∃ b : Frame, b = { (default : Frame) with fn := f, kind := .normal, roundOf := some l } := ⟨_, rfl⟩
  have hb0 : Frame.round l f tmps assign body .normal = b.atR { tmps := tmps, defers := [] } [.code assign, .beginRound, .code body] := by
    simp [Frame.round, Frame.atR, hb]
  have hro : b.roundOf = some l := by rw [hb]
  have hbf : b.fn = f := by rw [hb]
  have hr' : (F.inRound l).room ((c :: cs).length + 1 + n) := hr
  have hF' : (F.inRound l).fn b.fn := by rw [hbf]; exact hF
  obtain ⟨e, a₁, w₁, hq, harr⟩ := h b [.beginRound, .code body] (c :: cs) hro hF' hr'
  cases e with
  | normal =>
    obtain ⟨w₂, hbr, hbody⟩ := hq
    have s1 : StepsIn (Machine.fenced P (F.inRound l)) P (lone (b.atR a₁ [.beginRound, .code body]) (c :: cs) w₁) (lone (b.atR a₁ [.code body]) (c :: cs) w₂) :=
      .one (fenced_calm (fr := b.atR a₁ [.beginRound, .code body]) hF' hr' rfl) (stepR_beginRound hro hbr)
    obtain ⟨e₂, a₂, w₃, ⟨chain, rfl, hd, hR⟩, harr₂⟩ := hbody b [] (c :: cs) hro hF' hr'
    obtain ⟨todo, hs⟩ := harr₂
    have hlv : ({ b.atR a₂ todo with mode := .panicking chain } : Frame).leaving P w₃ (.panicked chain) := by
      obtain ⟨fn, hfn⟩ := hfn
      exact ⟨rfl, hd, fn, by show P.funcs[b.fn]? = _; rw [hbf]; exact hfn⟩
    refine ⟨.panicked chain, w₃, hR, ?_⟩
    rw [hb0]
    exact (StepsIn.trans harr s1).trans (StepsIn.trans hs (.one (fenced_leaving hF' hr' hlv) (step_leave_panicked hlv)))
  | exit id => exact hq.elim
  | goto t => exact hq.elim
  | ret => exact hq.elim
  | panic chain => exact hq.elim
  | outgrown => exact hq.elim
end Go.Proofs.Ytilaonjjpfebgaa
