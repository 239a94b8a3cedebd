/- Rows that were copied may be marked; a whole system marked. -/
import Derived.Test.YtamjofdgikifnaaGreatMrk
import Derived.Test.YtamjofdgikifnaaGreatRdu
import Derived.Test.YtamjofdgikifnaaGreatSyp
set_option linter.unusedVariables false
namespace Go.Proofs.YtamjofdgikifnaaGreat
open Go.ChangeShapes Go.WideShapes Go.ChangeAt Go.RowKit
theorem fits_row {α : Type} {B C : Nat} {w : World} (R : Rd α) (sh : α → List Sh) (hlen : ∀ x, (sh x).length = R.n)
    (each : ∀ cs x, R.At w (fun b => B ≤ b ∧ b < C ∧ Unf w b) cs x → ∀ (j : Nat) (f : Sh), (sh x)[j]? = some f → ∃ v, cs[j]? = some v ∧ Fits B C w f v)
    {a : Option Addr} {l : List α} (cap : Nat) (h : R.Row w (fun b => B ≤ b ∧ b < C ∧ Unf w b) a l) : Fits B C w (.r R.n (l.map sh)) (.slice a l.length cap) := by
  have hlm : l.length = (l.map sh).length := by simp
  rw [hlm]
  match l, h with
  | [], h => exact .r R.n [] a cap 0 0 #[] 0 (fun _ _ => undef) (fun h => absurd rfl h) (fun i fs j f h => by simp at h) (fun i fs j f h => by simp at h)
  | x0 :: t, h =>
    obtain ⟨b, o, cs0, rfl, ⟨hB, hC, X, ty, hX⟩, hat0, hl0⟩ := h 0 x0 rfl
    have key : ∀ i fs j f, ((x0 :: t).map sh)[i]? = some fs → fs[j]? = some f → ∃ v, X[o + i * R.n + j]? = some v ∧ Fits B C w f v := by
      intro i fs j f hi hj
      rw [List.getElem?_map] at hi
      cases hx : (x0 :: t)[i]? with
      | none => rw [hx] at hi; cases hi
      | some x =>
        rw [hx] at hi
        obtain rfl := Option.some.inj hi
        obtain ⟨b', o', cs, hax, _, hat, hl⟩ := h i x hx
        obtain ⟨rfl, rfl⟩ : b = b' ∧ o = o' := by simpa using hax
        obtain ⟨v, hv, hf⟩ := each cs x hat j f hj
        refine ⟨v, ?_, hf⟩
        have := hl j v hv
        rw [cell_of_row w b _ X ty (0, 0) hX] at this
        exact this
    refine .r R.n _ _ cap b o X ty (fun i j => (X[o + i * R.n + j]?).getD undef) (fun _ => ⟨rfl, hB, hC, hX⟩) (fun i fs j f hi hj => ?_) (fun i fs j f hi hj => ?_)
    · obtain ⟨v, hv, _⟩ := key i fs j f hi hj
      rw [hv]; rfl
    · obtain ⟨v, hv, hf⟩ := key i fs j f hi hj
      rw [hv]
      exact hf
section
variable {B C : Nat} {w : World}
theorem fits_string {a : Option Addr} {l : List ByteArray} (cap : Nat) (h : rgS.Row w (fun b => B ≤ b ∧ b < C ∧ Unf w b) a l) : Fits B C w (.r 1 (l.map sh_string)) (.slice a l.length cap) := by
  refine fits_row rgS sh_string (fun _ => rfl) (fun cs x hat j f hj => ?_) cap h
  obtain rfl := hat
  match j, hj with
  | 0, hj => obtain rfl := Option.some.inj hj; exact ⟨_, rfl, .s _⟩
  | _ + 1, hj => simp [sh_string] at hj
theorem fits_int {a : Option Addr} {l : List Int} (cap : Nat) (h : rgJ.Row w (fun b => B ≤ b ∧ b < C ∧ Unf w b) a l) : Fits B C w (.r 1 (l.map sh_int)) (.slice a l.length cap) := by
  refine fits_row rgJ sh_int (fun _ => rfl) (fun cs x hat j f hj => ?_) cap h
  obtain rfl := hat
  match j, hj with
  | 0, hj => obtain rfl := Option.some.inj hj; exact ⟨_, rfl, .i _⟩
  | _ + 1, hj => simp [sh_int] at hj
theorem fits_Type {a : Option Addr} {l : List Typ} (cap : Nat) (h : rgT.Row w (fun b => B ≤ b ∧ b < C ∧ Unf w b) a l) : Fits B C w (.r 2 (l.map sh_Type)) (.slice a l.length cap) := by
  refine fits_row rgT sh_Type (fun _ => rfl) (fun cs x hat j f hj => ?_) cap h
  obtain rfl := hat
  match j, hj with
  | 0, hj => obtain rfl := Option.some.inj hj; exact ⟨_, rfl, .s _⟩
  | 1, hj => obtain rfl := Option.some.inj hj; exact ⟨_, rfl, .i _⟩
  | _ + 2, hj => simp [sh_Type] at hj
theorem fits_Node {a : Option Addr} {l : List Nod} (cap : Nat) (h : rgN.Row w (fun b => B ≤ b ∧ b < C ∧ Unf w b) a l) : Fits B C w (.r 5 (l.map sh_Node)) (.slice a l.length cap) := by
  refine fits_row rgN sh_Node (fun _ => rfl) (fun cs x hat j f hj => ?_) cap h
  obtain ⟨a1, c1, a2, c2, rfl, g1, g2, _, _⟩ := hat
  match j, hj with
  | 0, hj => obtain rfl := Option.some.inj hj; exact ⟨_, rfl, .i _⟩
  | 1, hj => obtain rfl := Option.some.inj hj; exact ⟨_, rfl, .i _⟩
  | 2, hj => obtain rfl := Option.some.inj hj; exact ⟨_, rfl, .s _⟩
  | 3, hj => obtain rfl := Option.some.inj hj; exact ⟨_, rfl, fits_string _ (rowSP_iff.2 g1)⟩
  | 4, hj => obtain rfl := Option.some.inj hj; exact ⟨_, rfl, fits_int _ (rowIP_iff.2 g2)⟩
  | _ + 5, hj => simp [sh_Node] at hj
theorem fits_Def {a : Option Addr} {l : List Dfn} (cap : Nat) (h : rgD.Row w (fun b => B ≤ b ∧ b < C ∧ Unf w b) a l) : Fits B C w (.r 3 (l.map sh_Def)) (.slice a l.length cap) := by
  refine fits_row rgD sh_Def (fun _ => rfl) (fun cs x hat j f hj => ?_) cap h
  obtain ⟨a1, c1, rfl, hrs⟩ := hat
  obtain ⟨g1, _⟩ := hrs
  match j, hj with
  | 0, hj => obtain rfl := Option.some.inj hj; exact ⟨_, rfl, .s _⟩
  | 1, hj => obtain rfl := Option.some.inj hj; exact ⟨_, rfl, fits_Node _ (g1)⟩
  | 2, hj => obtain rfl := Option.some.inj hj; exact ⟨_, rfl, .i _⟩
  | _ + 3, hj => simp [sh_Def] at hj
theorem fits_Src {a : Option Addr} {l : List Srx} (cap : Nat) (h : rgX.Row w (fun b => B ≤ b ∧ b < C ∧ Unf w b) a l) : Fits B C w (.r 6 (l.map sh_Src)) (.slice a l.length cap) := by
  refine fits_row rgX sh_Src (fun _ => rfl) (fun cs x hat j f hj => ?_) cap h
  obtain ⟨a1, a2, a3, a4, a5, c1, c2, c3, c4, c5, rfl, hrs⟩ := hat
  obtain ⟨⟨g1, _⟩, ⟨g2, _⟩, ⟨g3, _⟩, ⟨g4, _⟩, ⟨g5, _⟩⟩ := hrs
  match j, hj with
  | 0, hj => obtain rfl := Option.some.inj hj; exact ⟨_, rfl, .s _⟩
  | 1, hj => obtain rfl := Option.some.inj hj; exact ⟨_, rfl, fits_string _ (g1)⟩
  | 2, hj => obtain rfl := Option.some.inj hj; exact ⟨_, rfl, fits_string _ (g2)⟩
  | 3, hj => obtain rfl := Option.some.inj hj; exact ⟨_, rfl, fits_Type _ (g3)⟩
  | 4, hj => obtain rfl := Option.some.inj hj; exact ⟨_, rfl, fits_Def _ (g4)⟩
  | 5, hj => obtain rfl := Option.some.inj hj; exact ⟨_, rfl, fits_Def _ (g5)⟩
  | _ + 6, hj => simp [sh_Src] at hj
end
end Go.Proofs.YtamjofdgikifnaaGreat
