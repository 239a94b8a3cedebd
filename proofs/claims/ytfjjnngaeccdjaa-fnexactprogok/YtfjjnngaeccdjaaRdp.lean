/- Plain facts on what the model's ReadDec looks at: the digits of a text and its first byte. -/
import Derived.Test.YtfjjnngaeccdjaaDecp
namespace Go.Proofs.Ytfjjnngaeccdjaa
def isDigB (c : UInt8) : Bool := decide (48 ≤ c.toNat) && decide (c.toNat ≤ 57)
/-- The digits of a text. -/
def fdL (l : List UInt8) : List UInt8 := l.filter isDigB
/-- The number that a text says by its digits and its first byte. -/
def rdX (l : List UInt8) : Int := if l.head? = some 45 then -((val (fdL l) : Nat) : Int) else ((val (fdL l) : Nat) : Int)
theorem isDigB_iff (c : UInt8) : isDigB c = true ↔ isDig c := by simp [isDigB, isDig]
theorem fdL_dig (l : List UInt8) : ∀ c ∈ fdL l, isDig c := by
  intro c hc
  exact (isDigB_iff c).1 (List.mem_filter.1 hc).2
theorem fdL_all (l : List UInt8) (h : ∀ c ∈ l, isDig c) : fdL l = l := by
  unfold fdL
  rw [List.filter_eq_self]
  intro c hc
  exact (isDigB_iff c).2 (h c hc)
theorem fdL_snoc (l : List UInt8) (c : UInt8) : fdL (l ++ [c]) = if isDigB c then fdL l ++ [c] else fdL l := by
  unfold fdL
  rw [List.filter_append]
  by_cases h : isDigB c = true <;> simp [h]
theorem fdL_len (l : List UInt8) : (fdL l).length ≤ l.length := List.length_filter_le _ _
theorem fdL_val (l : List UInt8) : val (fdL l) < 10 ^ (fdL l).length := val_lt _ (fdL_dig l)
theorem of_dec (m : Int) (h1 : -1000000000 < m) (h2 : m < 1000000000) : (decL m).length ≤ 10 ∧ (fdL (decL m)).length ≤ 9 ∧ rdX (decL m) = m := by
  rcases Int.lt_trichotomy m 0 with h | rfl | h
  · have hl := digs_len 20 (-m).toNat 9 (by omega)
    have hd := digs_dig 20 (-m).toNat
    have hf : fdL (decL m) = digs 20 (-m).toNat := by
      rw [decL_neg m h]
      show List.filter isDigB (45 :: _) = _
      have : isDigB 45 = false := rfl
      rw [List.filter_cons, this]
      exact fdL_all _ hd
    refine ⟨by rw [decL_neg m h]; simp; omega, by rw [hf]; exact hl, ?_⟩
    have hh : (decL m).head? = some 45 := by rw [decL_neg m h]; rfl
    unfold rdX
    rw [if_pos hh, hf, digs_val 20 _ (by omega)]
    omega
  · refine ⟨by decide, by decide, by decide⟩
  · have hl := digs_len 20 m.toNat 9 (by omega)
    have hd := digs_dig 20 m.toNat
    have hf : fdL (decL m) = digs 20 m.toNat := by rw [decL_pos m h]; exact fdL_all _ hd
    refine ⟨by rw [decL_pos m h]; omega, by rw [hf]; exact hl, ?_⟩
    obtain ⟨c, l, e, hc1, hc2⟩ := head_digs m.toNat (by omega) (by omega)
    have hh : ¬ (decL m).head? = some 45 := by
      rw [decL_pos m h, e]
      intro h0
      have : c = 45 := by simpa using h0
      rw [this] at hc1
      simp at hc1
    unfold rdX
    rw [if_neg hh, hf, digs_val 20 _ (by omega)]
    omega
theorem rdA (l : List UInt8) (h : 9 < (fdL (l.take 11)).length ∨ 10 < l.length) : RdRes l 0 false := by
  refine .inr ⟨rfl, rfl, fun m h1 h2 he => ?_⟩
  obtain ⟨a, b, _⟩ := of_dec m h1 h2
  rw [he] at a b
  rcases h with h | h
  · rw [List.take_of_length_le (by omega)] at h
    omega
  · omega
theorem rdX_bd (l : List UInt8) (h : (fdL l).length ≤ 9) : -1000000000 < rdX l ∧ rdX l < 1000000000 := by
  have h1 := fdL_val l
  have h2 : 10 ^ (fdL l).length ≤ 10 ^ 9 := Nat.pow_le_pow_right (by omega) h
  unfold rdX
  split <;> omega
theorem rdB (l : List UInt8) (hk : (fdL l).length ≤ 9) (he : decL (rdX l) = l) : RdRes l (rdX l) true :=
  .inl ⟨rfl, he, (rdX_bd l hk).1, (rdX_bd l hk).2⟩
theorem rdC (l : List UInt8) (he : decL (rdX l) ≠ l) : RdRes l 0 false := by
  refine .inr ⟨rfl, rfl, fun m h1 h2 h => ?_⟩
  have := (of_dec m h1 h2).2.2
  rw [h] at this
  rw [this] at he
  exact he h
end Go.Proofs.Ytfjjnngaeccdjaa
