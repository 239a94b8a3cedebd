/- Plain facts of the primitives: what is told is right; a pair is taken apart again. -/
import Derived.Test.YtngelfohpkpekaaPsq
set_option linter.unusedVariables false
namespace Go.Proofs.Ytngelfohpkpekaa
theorem ok_take_le {h : List Cel} {i : Nat} {v : Val} (hv : v.ok (h.take i) = true) : v.ok h = true := by
  rw [Val.ok_take] at hv
  simp at hv
  exact hv.1
theorem ok_app {h : List Cel} {c : Cel} {v : Val} (hv : v.ok h = true) : v.ok (h ++ [c]) = true := by
  have e : v.ok ((h ++ [c]).take h.length) = true := by rw [List.take_left]; exact hv
  exact ok_take_le e
theorem heap_app {h : List Cel} {x y : Val} (hH : HeapP h) (hl : h.length < 300) (hx : x.ok h = true) (hy : y.ok h = true) : HeapP (h ++ [consC x y]) := by
  refine ⟨by simp; omega, fun i c hc => ?_⟩
  by_cases hi : i < h.length
  · rw [List.getElem?_append_left hi] at hc
    have h1 := hH.2 i c hc
    unfold Cel.ok at h1 ⊢
    simp only [Bool.and_eq_true] at h1 ⊢
    refine ⟨h1.1, ?_⟩
    have h2 := h1.2
    unfold Cel.fits at h2 ⊢
    by_cases hk : c.k = 3
    · rw [if_pos hk] at h2 ⊢
      rw [List.all_eq_true] at h2 ⊢
      exact fun v hv => ok_app (h2 v hv)
    · rw [if_neg hk] at h2 ⊢
      rw [List.take_append_of_le_length (by omega)]
      exact h2
  · have hi2 : i < h.length + 1 := by have := (List.getElem?_eq_some_iff.1 hc).1; simpa using this
    obtain rfl : i = h.length := by omega
    rw [List.getElem?_append_right (Nat.le_refl _)] at hc
    simp at hc
    subst hc
    unfold Cel.ok Cel.shape Cel.fits consC
    simp [hx, hy]
    rfl
theorem part_ok {h : List Cel} {x : Val} {i : Nat} (hH : HeapP h) (hx : x.ok h = true) (hk : x.k = 5) (hi : i < 2) : (partP h x i).ok h = true := by
  have h5 : cellB h x.n 1 = true := by
    unfold Val.ok at hx
    simp [hk] at hx
    exact hx.2
  unfold cellB at h5
  simp at h5
  obtain ⟨h0, c, hc, hck⟩ := h5
  have hok := hH.2 _ c hc
  unfold Cel.ok Cel.shape Cel.fits at hok
  simp [hck] at hok
  obtain ⟨⟨_, hlen⟩, hall⟩ := hok
  have hil : i < c.vals.length := by omega
  unfold partP
  rw [hc]
  simp [hil]
  exact ok_take_le (hall _ (List.getElem_mem hil))
theorem bv_ok (b : Bool) (h : List Cel) : (bv b).ok h = true := by
  cases b <;> simp [bv, bvN, Val.ok] <;> rfl
theorem numR_ok (n : Int) (h : List Cel) : ((numR n).2 = 0 ∧ (numR n).1.ok h = true) ∨ ((numR n).2 ≠ 0 ∧ (numR n).1 = zv) := by
  unfold numR
  by_cases hn : inW n = true
  · rw [if_pos hn]
    left
    refine ⟨rfl, ?_⟩
    unfold inW at hn
    simp at hn
    simp [Val.ok, hn]
    rfl
  · rw [if_neg hn]
    exact .inr ⟨by decide, rfl⟩
/-- What is told where the code is 0, and where it is not. -/
def ToldP (h : List Cel) (s : ByteArray) (a : List Val) (r : List Cel × Val × Int) : Prop :=
  (r.2.2 ≠ 0 ∧ r.1 = h ∧ r.2.1 = zv) ∨ (r.2.2 = 0 ∧ HeapP r.1 ∧ r.2.1.ok r.1 = true ∧ ((s.toList ≠ [99, 111, 110, 115] ∧ r.1 = h) ∨ (s.toList = [99, 111, 110, 115] ∧ ∃ x y, a = [x, y] ∧ h.length < 300 ∧ r = (h ++ [consC x y], ⟨5, h.length, ⟨#[]⟩⟩, 0))))
theorem told_bv {h : List Cel} {s : ByteArray} {a : List Val} (b : Bool) (hH : HeapP h) (hs : s.toList ≠ [99, 111, 110, 115]) : ToldP h s a (h, bv b, 0) := .inr ⟨rfl, hH, bv_ok b h, .inl ⟨hs, rfl⟩⟩
theorem told_no {h : List Cel} {s : ByteArray} {a : List Val} {c : Int} (hc : c ≠ 0) : ToldP h s a (h, zv, c) := .inl ⟨hc, rfl, rfl⟩
theorem told_num {h : List Cel} {s : ByteArray} {a : List Val} (n : Int) (hH : HeapP h) (hs : s.toList ≠ [99, 111, 110, 115]) : ToldP h s a (h, numR n) := by
  rcases numR_ok n h with ⟨h1, h2⟩ | ⟨h1, h2⟩
  · exact .inr ⟨h1, hH, h2, .inl ⟨hs, rfl⟩⟩
  · exact .inl ⟨h1, rfl, h2⟩
theorem prim_told {h : List Cel} {s : ByteArray} {a : List Val} {r : List Cel × Val × Int} (hr : PrimR h s a r) : ToldP h s a r := by
  rcases hr with ⟨p, ⟨hw, hH, hl, hv⟩, rfl⟩ | ⟨_, rfl⟩
  · have hp : p < 12 := (List.getElem?_eq_some_iff.1 hw).1
    match a with
    | [] => unfold arP at hl; split at hl <;> simp at hl
    | [x] =>
      have hp7 : 7 ≤ p := by
        unfold arP at hl
        split at hl
        · simp at hl
        · omega
      have hx := hv x (by simp)
      show ToldP h s [x] (prim1 p h x)
      have hs : s.toList ≠ [99, 111, 110, 115] := by
        intro e
        rw [e] at hw
        obtain rfl | rfl | rfl | rfl | rfl : p = 7 ∨ p = 8 ∨ p = 9 ∨ p = 10 ∨ p = 11 := by omega
        all_goals (revert hw; decide)
      unfold prim1
      by_cases h1 : p = 7 ∨ p = 8
      · rw [if_pos h1]
        by_cases hk : x.k = 5
        · rw [if_pos hk]
          exact .inr ⟨rfl, hH, part_ok hH hx hk (by omega), .inl ⟨hs, rfl⟩⟩
        · rw [if_neg hk]
          exact told_no (by decide)
      · rw [if_neg h1]
        by_cases h2 : p = 9
        · rw [if_pos h2]
          exact told_bv _ hH hs
        · rw [if_neg h2]
          by_cases h3 : p = 10
          · rw [if_pos h3]
            exact told_bv _ hH hs
          · rw [if_neg h3]
            exact told_bv _ hH hs
    | [x, y] =>
      have hp7 : p < 7 := by
        unfold arP at hl
        split at hl
        · omega
        · simp at hl
      have hx := hv x (by simp)
      have hy := hv y (by simp)
      show ToldP h s [x, y] (prim2 p h x y)
      have hs : p ≠ 6 → s.toList ≠ [99, 111, 110, 115] := by
        intro h6 e
        rw [e] at hw
        obtain rfl | rfl | rfl | rfl | rfl | rfl : p = 0 ∨ p = 1 ∨ p = 2 ∨ p = 3 ∨ p = 4 ∨ p = 5 := by omega
        all_goals (revert hw; decide)
      unfold prim2
      by_cases h1 : p < 5
      · have hs' := hs (by omega)
        rw [if_pos h1]
        by_cases hk : x.k = 1 ∧ y.k = 1
        · rw [if_pos hk]
          obtain rfl | rfl | rfl | rfl | rfl : p = 0 ∨ p = 1 ∨ p = 2 ∨ p = 3 ∨ p = 4 := by omega
          · exact told_num _ hH hs'
          · exact told_num _ hH hs'
          · exact told_num _ hH hs'
          · exact told_bv _ hH hs'
          · exact told_bv _ hH hs'
        · rw [if_neg hk]
          exact told_no (by decide)
      · rw [if_neg h1]
        by_cases h2 : p = 5
        · rw [if_pos h2]
          exact told_bv _ hH (hs (by omega))
        · rw [if_neg h2]
          obtain rfl : p = 6 := by omega
          by_cases h3 : 300 ≤ h.length
          · rw [if_pos h3]
            exact told_no (by decide)
          · rw [if_neg h3]
            refine .inr ⟨rfl, heap_app hH (by omega) hx hy, ?_, .inr ⟨(Option.some.inj hw).symm, x, y, rfl, by omega, rfl⟩⟩
            show (⟨5, (h.length : Int), ⟨#[]⟩⟩ : Val).ok (h ++ [consC x y]) = true
            unfold Val.ok cellB
            simp [consC]
            rfl
    | x :: y :: z :: q => unfold arP at hl; split at hl <;> simp at hl
  · exact told_no (by decide)
theorem car_cons {h : List Cel} {x y : Val} (hH : HeapP (h ++ [consC x y])) (hv : (⟨5, h.length, ⟨#[]⟩⟩ : Val).ok (h ++ [consC x y]) = true) :
    PrimR (h ++ [consC x y]) ⟨#[99, 97, 114]⟩ [⟨5, h.length, ⟨#[]⟩⟩] (h ++ [consC x y], x, 0) := by
  refine .inl ⟨7, ⟨by kernel_rfl, hH, rfl, by intro v hv'; simp at hv'; subst hv'; exact hv⟩, ?_⟩
  show _ = prim1 7 _ _
  unfold prim1 partP
  simp [consC]
theorem cdr_cons {h : List Cel} {x y : Val} (hH : HeapP (h ++ [consC x y])) (hv : (⟨5, h.length, ⟨#[]⟩⟩ : Val).ok (h ++ [consC x y]) = true) :
    PrimR (h ++ [consC x y]) ⟨#[99, 100, 114]⟩ [⟨5, h.length, ⟨#[]⟩⟩] (h ++ [consC x y], y, 0) := by
  refine .inl ⟨8, ⟨by kernel_rfl, hH, rfl, by intro v hv'; simp at hv'; subst hv'; exact hv⟩, ?_⟩
  show _ = prim1 8 _ _
  unfold prim1 partP
  simp [consC]
theorem prim_any (h : List Cel) (s : ByteArray) (a : List Val) : ∃ r, PrimR h s a r := by
  by_cases hg : ∃ p, GoodP p h s a
  · obtain ⟨p, hp⟩ := hg
    exact ⟨_, .inl ⟨p, hp, rfl⟩⟩
  · exact ⟨_, .inr ⟨hg, rfl⟩⟩
end Go.Proofs.Ytngelfohpkpekaa
