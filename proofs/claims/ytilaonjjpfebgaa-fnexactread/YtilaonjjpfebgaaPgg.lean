/- The program's Read: its deferred function. -/
import Derived.Test.YtilaonjjpfebgaaPgf
import Derived.Defers
import Derived.Recover
set_option linter.unusedVariables false
namespace Go.Proofs.Ytilaonjjpfebgaa
open Go.ChangeShapes Go.WideShapes Go.ChangeAt Go.RowKit
set_option maxRecDepth 100000 in
set_option maxHeartbeats 1000000 in
theorem catch_bad (D E p : Nat) (x0 x1 x2 : Value) (w : World) (hD : w.heap[D]? = some (.cells #[x0, x1] 25 (0, 0))) (hE : w.heap[E]? = some (.cells #[x2] 3 (0, 0))) (hDE : ¬ D = E) (hED : ¬ E = D) :
    CallsD Try.prog 11 #[.pointer (some ⟨D, 0, none⟩), .pointer (some ⟨E, 0, none⟩)] (.panicking [{ v := .iface 35 (.int .i64 (p : Int)), recovered := false }]) w fun e u' w' =>
      e = .returned (.tuple #[]) ∧ u' = .panicking [{ v := .iface 35 (.int .i64 (p : Int)), recovered := true }] ∧ w' = ((w.setCell ⟨D, 0, none⟩ (.slice none 0 0)).setCell ⟨D, 1, none⟩ (.slice none 0 0)).setCell ⟨E, 0, none⟩ (.int .i64 (p : Int)) := by
  have c0 := cell_blk (j := 0) hD rfl
  have c1 := cell_blk (j := 1) hD rfl
  have c2 := cell_blk (j := 0) hE rfl
  have f0 := frozen_blk hD 0
  have f1 := frozen_blk hD 1
  have f2 := frozen_blk hE 0
  have hta : ∀ w, (Instr.typeAssert (.iface 35 (.int .i64 (p : Int))) 20 35 true).run Try.prog w = .ok (.tuple #[.int .i64 (p : Int), .bool true]) w := fun w => by kernel_rfl
  refine callsD_of_wpS Try.func11 rfl fun c₀ cs hu => ?_
  simp only [Try.ntmps11, List.size_toArray, List.length_cons, List.length_nil, Nat.reduceAdd, Nat.reduceSub, Array.replicate_succ, Array.replicate_zero, List.push_toArray, List.append_toArray, List.nil_append, List.cons_append]
  apply wpS_seq
  apply wpS_region
  simp [wpOpsS, go_sem, recoverD, hu, Exit.thenS, hta]
  refine wpS_of_wp ?_
  go_wp2
  simp [bodyPostS, results, Try.results11]
theorem catch_idle (D E : Nat) (w : World) :
    CallsD Try.prog 11 #[.pointer (some ⟨D, 0, none⟩), .pointer (some ⟨E, 0, none⟩)] .returning w fun e u' w' => e = .returned (.tuple #[]) ∧ u' = .returning ∧ w' = w := by
  have hta : ∀ w, (Instr.typeAssert .nilIface 20 35 true).run Try.prog w = .ok (.tuple #[.int .i64 0, .bool false]) w := fun w => by kernel_rfl
  refine callsD_of_wpS Try.func11 rfl fun c₀ cs hu => ?_
  simp only [Try.ntmps11, List.size_toArray, List.length_cons, List.length_nil, Nat.reduceAdd, Nat.reduceSub, Array.replicate_succ, Array.replicate_zero, List.push_toArray, List.append_toArray, List.nil_append, List.cons_append]
  apply wpS_seq
  apply wpS_region
  simp [wpOpsS, go_sem, recoverD, hu, Exit.thenS, hta]
  refine wpS_of_wp ?_
  go_wp2
  cases c₀
  simp_all [bodyPostS, results, Try.results11]
end Go.Proofs.Ytilaonjjpfebgaa
