/- A heap that comes in, copied whole. -/
import Derived.Test.YtddcoegcpoapcaaToa
set_option linter.unusedVariables false
namespace Go.Proofs.Ytddcoegcpoapcaa
open Go.ChangeShapes Go.WideShapes Go.ChangeAt Go.RowKit
/-- What toCell leaves. -/
def TnPost (d : Cel) (w : World) (e : Ending) (w' : World) : Prop := ∃ g h, e = .returned (.agg #[.int .i64 d.k, .string d.s, .int .i64 d.a, .int .i64 d.b, .slice (some ⟨g, 0, none⟩) d.names.length d.names.length, .slice (some ⟨h, 0, none⟩) d.vals.length d.vals.length]) ∧
  CelRows w' (fun b => w.heap.size ≤ b ∧ b < w'.heap.size) (some ⟨g, 0, none⟩) d.names.length (some ⟨h, 0, none⟩) d.vals.length d ∧ Below w.heap.size w w'
/-- The cells of one row are laid beside another's. -/
theorem CelAt.beside {w : World} {p q : Nat → Prop} {g o k : Nat} {v0 v1 v2 v3 v4 v5 : Value} {d : Cel} (h : CelAt w p g k d) (ho : k + 6 ≤ o ∨ o + 6 ≤ k) (hk : ∀ b, p b → q b ∧ b ≠ g) : CelAt (put6 w g o v0 v1 v2 v3 v4 v5) q g k d := by
  obtain ⟨an, cn, aa, ca, h0, h1, h2, h3, h4, h5, hr⟩ := h
  exact ⟨an, cn, aa, ca, (put6_out (by omega)).trans h0, (put6_out (by omega)).trans h1, (put6_out (by omega)).trans h2, (put6_out (by omega)).trans h3, (put6_out (by omega)).trans h4, (put6_out (by omega)).trans h5, hr.keep fun b hb => ⟨(hk b hb).1, put6_other (hk b hb).2⟩⟩
/-- What toCellS leaves. -/
def TpPost (cs : List Cel) (w : World) (e : Ending) (w' : World) : Prop := ∃ g, e = .returned (.slice (some ⟨g, 0, none⟩) cs.length cs.length) ∧ RowC w' w'.heap.size (some ⟨g, 0, none⟩) cs ∧ Below w.heap.size w w'
end Go.Proofs.Ytddcoegcpoapcaa
