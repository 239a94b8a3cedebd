/- strings.Clone at this program's numbers; the bytes of a token. -/
import Derived.Test.YtgfkmppkeolckaaDoorShelf
import Derived.Test.YtgfkmppkeolckaaDoorPga
set_option linter.unusedVariables false
namespace Go.Proofs.YtgfkmppkeolckaaDoor
open Go.ChangeShapes Go.WideShapes Go.ChangeAt Go.RowKit
theorem clone_any (s : ByteArray) (w : World) (hs : s.size ≤ 33554432) : Calls Tryd.prog 79 #[.string s] w fun e w' => Ans w (.string s) e w' := by
  have HC : Hid (Calls Tryd.prog 90 #[.string s] w fun e w' => e = .returned (.string s) ∧ Below w.heap.size w w') := Tryd.stringslite_Clone s w (by omega)
  go_enter Tryd.func79, Tryd.ntmps79
  go_wp2_with (go_at_call 90; refine HC.out.mono ?_; rintro e w2 ⟨rfl, hb⟩)
  go_ret
  exact ⟨rfl, hb⟩
set_option maxRecDepth 100000 in
theorem inWord_any (c : UInt8) (w : World) : Calls Tryd.prog 52 #[.int .u8 c.toNat] w fun e w' => e = .returned (.bool (wdB c)) ∧ w' = w := by
  have HG : Hid (∀ w, Calls Tryd.prog 73 #[.int .u8 c.toNat] w fun e w' => e = .returned (.bool (sgB c)) ∧ w' = w) := fun w => inSymbol_any c w
  by_cases h1 : c.toNat = 35
  · have q1 : ((c.toNat : Int) == 35) = true := by rw [beq_iff_eq]; omega
    have e : wdB c = true := by simp [wdB, h1]
    rw [e]
    clear h1 e
    go_enter Tryd.func52, Tryd.ntmps52
    go_wp2
    go_ret
    exact ⟨rfl, rfl⟩
  · have q1 : ((c.toNat : Int) == 35) = false := by rw [beq_eq_false_iff_ne]; omega
    by_cases h2 : c.toNat = 46
    · have q2 : ((c.toNat : Int) == 46) = true := by rw [beq_iff_eq]; omega
      have e : wdB c = true := by simp [wdB, h2]
      rw [e]
      clear h1 h2 e
      go_enter Tryd.func52, Tryd.ntmps52
      go_wp2
      go_ret
      exact ⟨rfl, rfl⟩
    · have q2 : ((c.toNat : Int) == 46) = false := by rw [beq_eq_false_iff_ne]; omega
      have e : wdB c = sgB c := by simp [wdB, h1, h2]
      rw [e]
      clear h1 h2 e
      go_enter Tryd.func52, Tryd.ntmps52
      go_wp2_with (go_at_call 73; refine (HG.out _).mono ?_; rintro e w2 ⟨rfl, rfl⟩)
      go_ret
      exact ⟨rfl, rfl⟩
end Go.Proofs.YtgfkmppkeolckaaDoor
