/- A heap and a value that come in, opened. -/
import Derived.Test.YtddcoegcpoapcaaVlp
import Derived.Deep.Slices
import Derived.SliceStrings
import Derived.ChangeOld
import Derived.Carry
set_option linter.unusedVariables false
namespace Go.Proofs.Ytddcoegcpoapcaa
open Go.ChangeShapes Go.WideShapes Go.ChangeAt Go.RowKit Go.Deep
variable {H : Type} {enc : TypeId × Value → H} {W : World}
theorem add_none (b off j : Nat) : (⟨b, off, none⟩ : Addr).add j = ⟨b, off + j, none⟩ := by unfold Addr.add; split <;> simp_all
theorem open_rowS {fuel : Nat} {c : Value} {x : DataW H × List MemPlace} (h : DataW.trod enc Try.prog W 0 (fun _ => true) true fuel 22 [c] = some x) :
    ∃ (a : Option Addr) (ts : List ByteArray) (cap : Nat), c = .slice a ts.length cap ∧ ts.length ≤ 9223372036854775807 ∧ ts.length ≤ cap ∧ RowSP W (fun b => b < W.heap.size) a ts ∧ ∀ x ∈ ts, x.size ≤ 9223372036854775807 := by
  rcases open_strings Try.underlying22 Try.underlying9 (by kernel_rfl) h with ⟨hcs, _⟩ | ⟨x, l, cp, zs, hcs, _, hl, hm, hz, _, hcell, hwz⟩
  · simp at hcs
    subst hcs
    exact ⟨none, [], 0, rfl, by simp, by simp, fun i x hi => by simp at hi, fun x hx => by cases hx⟩
  · simp at hcs
    subst hcs
    simp only [if_true] at hz
    have hml : maxLen = 9223372036854775807 := rfl
    have hlen : (zs.take l).length = l := by rw [List.length_take]; omega
    refine ⟨some x, zs.take l, cp, by rw [hlen], by rw [hlen]; omega, by rw [hlen]; exact hl, ?_, fun y hy => hwz y (List.mem_of_mem_take hy)⟩
    intro i y hi
    have hil : i < l := by have := (List.getElem?_eq_some_iff.1 hi).1; omega
    rw [List.getElem?_take_of_lt hil] at hi
    obtain ⟨b, off, spot⟩ := x
    have hc := hcell 0 (by omega)
    have hspot : spot = none := by simpa [Addr.add] using World.cell?_spot hc
    subst hspot
    have hci := hcell i (by omega)
    rw [add_none] at hci
    have hg : zs.getD i ByteArray.empty = y := by rw [List.getD_eq_getElem?_getD, hi]; rfl
    rw [hg] at hci
    exact ⟨b, off, rfl, World.block_lt_of_cell? W _ hci, hci⟩
theorem i64_of_wf {n : Int} (h : (Lit.int .i64 n).wf = true) : i64B n := bounds_i64 h
end Go.Proofs.Ytddcoegcpoapcaa
