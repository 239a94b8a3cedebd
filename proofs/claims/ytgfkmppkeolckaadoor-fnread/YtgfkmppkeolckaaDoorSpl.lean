/- The model's reader: a datum. -/
import Derived.Test.YtgfkmppkeolckaaDoorSpk
set_option linter.unusedVariables false
namespace Go.Proofs.YtgfkmppkeolckaaDoor
open Go.ChangeShapes Go.WideShapes Go.ChangeAt Go.RowKit
theorem l2Datum_any (s : ByteArray) (bo : Option Addr) (m cb B : Nat) (hs : s.size ≤ 33554432) (f : Nat) : ∀ deep, deep ≤ 24 → DatC s bo m cb B f deep := by
  induction f using Nat.strongRecOn with
  | ind f ih =>
    intro deep hdeep r i la bd ao n ca w hB h hfu
    cases r with
    | error p =>
      have hb : bd = (p : Int) := h.2.2
      subst hb
      exact l2Datum_bad s bo m cb B p i la ao n ca deep w hs hB h
    | ok st =>
      obtain ⟨rfl, rfl, rfl, rfl, _⟩ := h.2.2
      have hfu := hfu st rfl
      cases f with
      | zero => omega
      | succ f =>
        show Calls _ _ _ _ fun e w' => SpPost s bo m cb B (datP s (f + 1) deep (skAt s st.nx) st.cs) w e w'
        rw [datP_succ]
        by_cases hN : tkE s (skAt s st.nx) = skAt s st.nx
        · rw [if_pos hN]
          exact l2Datum_none s bo m cb B st ao ca deep w hs hB h hN
        · rw [if_neg hN]
          by_cases h40 : ((tk s (skAt s st.nx)).toList == [40]) = true
          · rw [if_pos h40]
            by_cases hd : 24 ≤ deep
            · rw [if_pos hd]
              exact l2Datum_deep s bo m cb B st ao ca deep w hs hB h hN (.inl h40) hd (by omega)
            · rw [if_neg hd]
              exact l2Datum_list s bo m cb B st ao ca deep w hs hB h f hN h40 (by omega) hfu fun g hg => ih g (by omega) (deep + 1) (by omega)
          · rw [if_neg h40]
            have h40' : ((tk s (skAt s st.nx)).toList == [40]) = false := by simpa using h40
            by_cases h39 : ((tk s (skAt s st.nx)).toList == [39]) = true
            · rw [if_pos h39]
              by_cases hd : 24 ≤ deep
              · rw [if_pos hd]
                exact l2Datum_deep s bo m cb B st ao ca deep w hs hB h hN (.inr h39) hd (by omega)
              · rw [if_neg hd]
                exact l2Datum_quote s bo m cb B st ao ca deep w hs hB h f hN h40' h39 (by omega) hfu (ih f (by omega) (deep + 1) (by omega))
            · rw [if_neg h39]
              exact l2Datum_atom s bo m cb B st ao ca deep w hs hB h hN h40' (by simpa using h39)
end Go.Proofs.YtgfkmppkeolckaaDoor
