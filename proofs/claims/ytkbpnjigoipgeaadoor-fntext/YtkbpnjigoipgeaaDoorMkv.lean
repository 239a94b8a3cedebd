/- The law's marks: into rows of texts and of values, and held there. -/
import Derived.Test.YtkbpnjigoipgeaaDoorRww
import Derived.Deep.RegionWith
set_option linter.unusedVariables false
namespace Go.Proofs.YtkbpnjigoipgeaaDoor
open Go.ChangeShapes Go.WideShapes Go.ChangeAt Go.RowKit
theorem gb_set (w : World) (g o : Nat) (u : Value) : w.grownBy (w.setCell ⟨g, o, none⟩ u) (some g) :=
  ⟨rfl, rfl, rfl, by simp, fun i hi hne => heap_setCell_other _ _ _ _ (by rintro rfl; exact hne rfl)⟩
theorem gb_below {w w' : World} (r : Option Nat) (h : Below w.heap.size w w') : w.grownBy w' r := ⟨h.os, h.tape, h.output, h.size, fun i hi _ => h.block i hi⟩
theorem gb_refl (w : World) (r : Option Nat) : w.grownBy w r := ⟨rfl, rfl, rfl, Nat.le_refl _, fun _ _ _ => rfl⟩
theorem gb_trans {w w1 w2 : World} {r : Option Nat} (h : w.grownBy w1 r) (g : w1.grownBy w2 r) : w.grownBy w2 r :=
  ⟨g.os.trans h.os, g.tape.trans h.tape, g.output.trans h.output, Nat.le_trans h.size g.size, fun i hi hne => (g.block i (Nat.lt_of_lt_of_le hi h.size) hne).trans (h.block i hi hne)⟩
theorem own_set {w : World} {B n s g cap o : Nat} {e : TypeId} {xs : List Value} (u : Value) (h : w.ownsRow B e s (.slice (some ⟨g, 0, none⟩) n cap) n xs) (ho : o < n * s) : (w.setCell ⟨g, o, none⟩ u).ownsRow B e s (.slice (some ⟨g, 0, none⟩) n cap) n (xs.set o u) := by
  obtain ⟨hl, ⟨hv, h0⟩ | ⟨g', cap', cur, hv, a1, hblk, a3, a4, a5, a6⟩⟩ := h
  · cases hv
  · simp only [Value.slice.injEq, Option.some.injEq, Addr.mk.injEq] at hv
    obtain ⟨⟨rfl, _⟩, _, rfl⟩ := hv
    refine ⟨by simpa using hl, .inr ⟨g, cap, cur.setIfInBounds o u, rfl, a1, heap_setCell_same _ _ _ _ _ _ hblk, a3, a4, by simpa using a5, ?_⟩⟩
    rw [Array.toList_setIfInBounds, List.take_set, a6]
theorem OwnS.put {w : World} {B g n cap i : Nat} {l : List ByteArray} (x : ByteArray) (h : OwnS w B (.slice (some ⟨g, 0, none⟩) n cap) l) (hn : n = l.length) (hi : i < l.length) : OwnS (w.setCell ⟨g, i, none⟩ (.string x)) B (.slice (some ⟨g, 0, none⟩) n cap) (l.set i x) := by
  subst hn
  have := own_set (.string x) h (o := i) (by omega)
  unfold OwnS
  rw [List.length_set, List.map_set]
  exact this
theorem vals_set {l : List Val} {xs : List Value} {i : Nat} (d : Val) (hxl : xs.length = l.length * 3) (hi : i < l.length) (h2 : ∀ (j : Nat) (d : Val), l[j]? = some d → xs[j * 3]? = some (.int .i64 d.k) ∧ xs[j * 3 + 1]? = some (.int .i64 d.n) ∧ xs[j * 3 + 2]? = some (.string d.s)) :
    ∀ (j : Nat) (d' : Val), (l.set i d)[j]? = some d' → (((xs.set (i * 3) (.int .i64 d.k)).set (i * 3 + 1) (.int .i64 d.n)).set (i * 3 + 2) (.string d.s))[j * 3]? = some (.int .i64 d'.k) ∧ (((xs.set (i * 3) (.int .i64 d.k)).set (i * 3 + 1) (.int .i64 d.n)).set (i * 3 + 2) (.string d.s))[j * 3 + 1]? = some (.int .i64 d'.n) ∧ (((xs.set (i * 3) (.int .i64 d.k)).set (i * 3 + 1) (.int .i64 d.n)).set (i * 3 + 2) (.string d.s))[j * 3 + 2]? = some (.string d'.s) := by
  intro j d' hj
  rw [List.getElem?_set] at hj
  by_cases hji : i = j
  · subst hji
    rw [if_pos rfl, if_pos hi] at hj
    obtain rfl := Option.some.inj hj
    simp only [List.getElem?_set, List.length_set]
    refine ⟨?_, ?_, ?_⟩
    · rw [if_neg (by omega), if_neg (by omega), if_pos trivial, if_pos (by omega)]
    · rw [if_neg (by omega), if_pos trivial, if_pos (by omega)]
    · rw [if_pos trivial, if_pos (by omega)]
  · rw [if_neg hji] at hj
    obtain ⟨c0, c1, c2⟩ := h2 j d' hj
    simp only [List.getElem?_set]
    refine ⟨?_, ?_, ?_⟩
    · rw [if_neg (by omega), if_neg (by omega), if_neg (by omega)]; exact c0
    · rw [if_neg (by omega), if_neg (by omega), if_neg (by omega)]; exact c1
    · rw [if_neg (by omega), if_neg (by omega), if_neg (by omega)]; exact c2
theorem list_eq {α : Type} {a b : List α} {n : Nat} (ha : a.length = n) (hb : b.length = n) (h : ∀ i, i < n → a[i]? = b[i]?) : a = b := by
  apply List.ext_getElem?
  intro i
  by_cases hi : i < n
  · exact h i hi
  · rw [List.getElem?_eq_none (by omega), List.getElem?_eq_none (by omega)]
theorem own_some {w : World} {B n s : Nat} {e : TypeId} {a : Option Addr} {cap : Nat} {xs : List Value} (h : w.ownsRow B e s (.slice a n cap) n xs) (hn : 0 < n) : ∃ g cur, a = some ⟨g, 0, none⟩ ∧ w.heap[g]? = some (.cells cur e (0, 0)) ∧ n * s ≤ cur.size := by
  obtain ⟨hl, ⟨hv, h0⟩ | ⟨g, cap', cur, hv, a1, hblk, a3, a4, a5, a6⟩⟩ := h
  · omega
  · injection hv with q1 q2 q3
    subst q3
    exact ⟨g, cur, q1, hblk, by rw [a5]; exact Nat.mul_le_mul_right _ a3⟩
end Go.Proofs.YtkbpnjigoipgeaaDoor
