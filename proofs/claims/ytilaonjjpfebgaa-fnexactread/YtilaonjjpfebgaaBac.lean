/- slices.Backward's iterator over a row of ints, for a loop whose body may panic. -/
import Derived.Test.YtilaonjjpfebgaaRng
import Derived.Test.YtilaonjjpfebgaaDat
import Derived.RangeFuncNested
import Derived.RangeFuncBox
import Derived.RangeFuncLeaves
import Derived.RangeFuncCalls
import Derived.Shelf.Abstract
import Derived.WalkKit
import Derived.OwnWalkIn
import Derived.TacticsInMore
import Derived.LoopNIn
import Derived.LoopIn
set_option linter.unusedVariables false
namespace Go.Proofs.Ytilaonjjpfebgaa
open Go.RowKit Go.Shelf
attribute [local go_sem] Oper.semAt_some
set_option maxRecDepth 100000 in
set_option maxHeartbeats 2000000 in
theorem back_in (n l Bp cap : Nat) (a : Option Addr) (ps : List Int) (chain : List PanicEntry) (J : Nat → World → Prop) (Z : World → Prop) (hps : ps.length ≤ 1048576)
    (hJ : ∀ k W, J k W → W.cell? ⟨Bp, 0, none⟩ = some (.slice a ps.length cap) ∧ ∀ i x, ps[i]? = some x → ∃ b o, a = some ⟨b, o, none⟩ ∧ W.cell? ⟨b, o + i, none⟩ = some (.int .i64 x))
    (hY : ∀ k i x W, J k W → k + i + 1 = ps.length → ps[i]? = some x → YieldAt Fence.wide n Try.prog l #[.int .i64 (i : Int), .int .i64 x] W fun e W' =>
      (e = .returned (.bool true) ∧ J (k + 1) W') ∨ (e = .panicked chain ∧ Z W'))
    (W : World) (h0 : J 0 W) :
    CallsIn Fence.wide (n + 1) Try.prog 51 #[.func (.yield l) #[] #[], .pointer (some ⟨Bp, 0, none⟩)] W fun e W' => ((∃ v, e = .returned v) ∧ J ps.length W') ∨ (e = .panicked chain ∧ Z W') := by
  refine callsIn_of_wp Try.func51 rfl trivial ?_ rfl
  simp only [Try.ntmps51, List.size_toArray, List.length_cons, List.length_nil, Nat.reduceAdd, Nat.reduceSub, Array.replicate_succ, Array.replicate_zero, List.push_toArray, List.append_toArray, List.nil_append, List.cons_append]
  have hc0 := (hJ 0 W h0).1
  gi_wp2
  gi_loopw [3] (fun i wr => ∃ k : Nat, k ≤ ps.length ∧ i = .int .i64 ((ps.length : Int) - 1 - (k : Int)) ∧ J k wr)
    (fun i _ => (intOf i + 1).toNat)
  case atStart => exact ⟨0, Nat.zero_le _, by simp, h0⟩
  case round =>
    clear hc0
    obtain ⟨k, hk, rfl, hJs⟩ := hrel
    obtain ⟨hc1, hcells⟩ := hJ k wr hJs
    by_cases hlt : k < ps.length
    · obtain ⟨i, hi⟩ : ∃ i : Nat, k + i + 1 = ps.length := ⟨ps.length - 1 - k, by omega⟩
      obtain ⟨x, hx⟩ : ∃ x, ps[i]? = some x := ⟨_, List.getElem?_eq_getElem (by omega)⟩
      obtain ⟨b, o, rfl, hcx⟩ := hcells i x hx
      have hii : (ps.length : Int) - 1 - (k : Int) = (i : Int) := by omega
      obtain ⟨fn, tmps, assign, body, hy, hR⟩ := hY k i x wr hJs hi hx
      have i1 : (i : Int) < (ps.length : Int) := by omega
      rw [hii]
      gi_wp2
      refine hR.mono ?_
      rintro e W3 (⟨rfl, hJ3⟩ | ⟨rfl, hZ⟩)
      · gi_wp2
        go_roundw
        case rel => exact ⟨k + 1, by omega, by simp; omega, hJ3⟩
        case measure => simp [intOf]
      · gi_wp2
        exact ⟨rfl, .inr ⟨rfl, hZ⟩⟩
    · obtain rfl : k = ps.length := by omega
      have d1 : decide ((0 : Int) ≤ (ps.length : Int) - 1 - (ps.length : Int)) = false := by simp; omega
      gi_wp2
      go_end0
      exact .inl ⟨⟨_, rfl⟩, hJs⟩
end Go.Proofs.Ytilaonjjpfebgaa
