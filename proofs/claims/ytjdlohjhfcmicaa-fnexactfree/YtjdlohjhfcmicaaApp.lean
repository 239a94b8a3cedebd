/- A row of texts onto a row of texts, be it empty or not, as one step of a region. -/
import Derived.Test.YtjdlohjhfcmicaaFrp
import Derived.Deep.RegionLaw
import Derived.Deep.AppendLies
set_option linter.unusedVariables false
namespace Go.Proofs.Ytjdlohjhfcmicaa
open Go.ChangeShapes Go.WideShapes Go.ChangeAt Go.RowKit
theorem append_none (w : World) (i : TypeInfo) (hi : Try.prog.info? 9 = some i) (ty : TypeId) (base a : Option Addr) (n c cx : Nat) (hle : n ≤ c) :
    (Builtin.append_ #[26, 26] ty #[.slice base n c, .slice a 0 cx]).run Try.prog w = .ok (.slice base n c) w := by
  cases base <;> cases a <;> simp [Builtin.append_, run_underlying Try.underlying26, sizeOf, typeInfo, hi, hle, storeCells, Builtin.lenOf, Builtin.firstCells, loadCells, loadCellsFrom]
theorem OwnS.cap {w : World} {B n c : Nat} {a : Option Addr} {l : List ByteArray} (h : OwnS w B (.slice a n c) l) : n = l.length ∧ n ≤ c := by
  obtain ⟨hl, ⟨hv, h0⟩ | ⟨g, cap', cur, hv, a1, hblk, a3, _⟩⟩ := h
  · injection hv with h1 h2 h3
    omega
  · injection hv with h1 h2 h3
    omega
theorem step_append_S {ops : Array Oper} {o : Oper} {a : Act} {w : World} {K : Act → World → Prop} {Q : Exit → Act → World → Prop} {E : Prop} (hgd : o.guard = none) (s x : Operand)
    (ho : o.op = .call { callee := .builtin .append, args := #[s, x], argTypes := #[26, 26] }) (B : Nat) (v : Value) (l m : List ByteArray) (hs : a.eval s = v) (hown : OwnS w B v l) (ax : Option Addr) (cx : Nat) (hx : a.eval x = .slice ax m.length cx) (hr : RowS w w.heap.size ax m)
    (hlen : l.length + m.length ≤ 1048576) (hB : B ≤ w.heap.size)
    (h : ∀ v' w', OwnS w' B v' (l ++ m) → w.grownBy w' v.ownBlock → (v'.ownBlock = v.ownBlock ∨ ∀ k, v'.ownBlock = some k → w.heap.size ≤ k) → K (a.put o.dst v') w') :
    if Region.wanted o (yielded ops a.tmps) = true then Oper.wp Try.prog o a w K Q else E := by
  obtain ⟨i9, hi9, hz90, hz91, hz92⟩ := info_parts Try.info9
  by_cases hm : m = []
  · subst hm
    obtain ⟨av, cv, rfl⟩ := hown.slice
    have hc := hown.cap.2
    have hw : Region.wanted o (yielded ops a.tmps) = true := by simp [Region.wanted, hgd]
    rw [if_pos hw]
    have hrun := append_none w i9 hi9 o.type av ax l.length cv cx hc
    have hK := h (.slice av l.length cv) w (by simpa using hown) ⟨rfl, rfl, rfl, Nat.le_refl _, fun _ _ _ => rfl⟩ (.inl rfl)
    unfold Oper.wp
    simp [execOp, ho, resolve, invoke, builtin, hs, hx, hrun, Result.andThen]
    exact hK
  · have h0 : 0 < m.length := List.length_pos_iff.2 hm
    obtain ⟨y, hy⟩ : ∃ y, m[0]? = some y := ⟨_, List.getElem?_eq_getElem h0⟩
    obtain ⟨b, of, hax, hbl, _⟩ := hr 0 y hy
    subst hax
    refine step_append_lies w hgd s x 26 ho B 9 i9 _ 1 16 Try.underlying26 hi9 hz90 hz91 hz92 rfl (by omega) v l.length (l.map Value.string) hs hown ⟨b, of, none⟩ m.length cx (m.map Value.string) hx (by simp) ?_ ?_ h0 (by simp [maxLen]; omega) (by omega) hB w.heap.size rfl ?_
    · intro j u hu
      rw [List.getElem?_map] at hu
      cases hmj : m[j]? with
      | none => rw [hmj] at hu; cases hu
      | some z =>
        rw [hmj] at hu
        injection hu with hu
        subst hu
        obtain ⟨b', o', e1, _, e3⟩ := hr j z hmj
        simp only [Option.some.injEq, Addr.mk.injEq, and_true] at e1
        obtain ⟨rfl, rfl⟩ := e1
        have : (⟨b, of, none⟩ : Addr).add j = ⟨b, of + j, none⟩ := by unfold Addr.add; split <;> simp_all
        rw [this]
        exact e3
    · intro u hu
      obtain ⟨z, _, rfl⟩ := List.mem_map.1 hu
      rfl
    · intro g cap w' hown' hgrow hat hlt
      refine h _ w' ?_ hgrow ?_
      · show World.ownsRow _ _ _ _ _ _ _
        rw [List.length_append, List.map_append]
        exact hown'
      · rcases hat with h1 | h1
        · left; rw [h1]; rfl
        · right
          intro k hk
          have : g = k := Option.some.inj hk
          omega
end Go.Proofs.Ytjdlohjhfcmicaa
