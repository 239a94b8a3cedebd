/- Plain facts on which beginnings of a text are the bytes of a number. -/
import Derived.Test.YtdbfifgblcmckacDoorVara
namespace Go.Proofs.YtdbfifgblcmckacDoor
/-- The number that bytes say, seven bits each, the lowest first. -/
def rvL : List UInt8 → Nat
  | [] => 0
  | b :: l => b.toNat % 128 + 128 * rvL l
/-- Are they the bytes of that number? -/
def can : List UInt8 → Bool
  | [] => false
  | [b] => decide (b.toNat < 128)
  | b :: c :: l => decide (128 ≤ b.toNat) && can (c :: l) && decide (0 < rvL (c :: l))
theorem rvL_lt : ∀ l : List UInt8, rvL l < 128 ^ l.length
  | [] => by simp [rvL]
  | b :: l => by
    have h := rvL_lt l
    simp only [rvL, List.length_cons, Nat.pow_succ]
    omega
theorem ofNat_eq (n : Nat) (b : UInt8) (h : n < 256) : UInt8.ofNat n = b ↔ n = b.toNat := by
  constructor
  · intro e; rw [← e]; simp; omega
  · intro e; rw [e]; simp
theorem canon : ∀ (l : List UInt8) (f : Nat), l.length ≤ f → l ≠ [] → (varL f (rvL l) = l ↔ can l = true)
  | [], _, _, h => absurd rfl h
  | [b], f, _, _ => by
    have hb := b.toNat_lt
    simp only [rvL, Nat.mul_zero, Nat.add_zero]
    rw [varL_small f _ (by omega)]
    simp only [can, decide_eq_true_eq, List.cons.injEq, and_true]
    rw [ofNat_eq _ _ (by omega)]
    omega
  | b :: c :: l, 0, h, _ => by simp at h
  | b :: c :: l, f + 1, h, _ => by
    have hb := b.toNat_lt
    have ih := canon (c :: l) f (by simpa using h) (by simp)
    have e : rvL (b :: c :: l) = b.toNat % 128 + 128 * rvL (c :: l) := rfl
    have ec : can (b :: c :: l) = (decide (128 ≤ b.toNat) && can (c :: l) && decide (0 < rvL (c :: l))) := rfl
    rw [e, ec]
    generalize rvL (c :: l) = r at *
    by_cases hr : r = 0
    · subst hr
      rw [varL_small _ _ (by omega)]
      simp
    · rw [varL_big f _ (by omega)]
      have e1 : (b.toNat % 128 + 128 * r) % 128 = b.toNat % 128 := by omega
      have e2 : (b.toNat % 128 + 128 * r) / 128 = r := by omega
      rw [e1, e2, List.cons.injEq, ih, ofNat_eq _ _ (by omega)]
      simp only [Bool.and_eq_true, decide_eq_true_eq]
      constructor
      · rintro ⟨h1, h2⟩; exact ⟨⟨by omega, h2⟩, by omega⟩
      · rintro ⟨⟨h1, h2⟩, h3⟩; exact ⟨by omega, h2⟩
theorem can_step {b c : UInt8} {l : List UInt8} (h : can (b :: c :: l) = true) : 128 ≤ b.toNat ∧ can (c :: l) = true := by
  simp only [can, Bool.and_eq_true, decide_eq_true_eq] at h
  exact h.1
theorem can_unique : ∀ (l m : List UInt8), can l = true → can (l ++ m) = true → m = []
  | [], _, h, _ => by simp [can] at h
  | [b], [], _, _ => rfl
  | [b], c :: m, h, k => by
    have h1 := (can_step k).1
    simp [can] at h
    omega
  | b :: c :: l, m, h, k => can_unique (c :: l) m (can_step h).2 (can_step (l := l ++ m) k).2
theorem can_all_big : ∀ l : List UInt8, (∀ b ∈ l, 128 ≤ b.toNat) → can l = false
  | [], _ => rfl
  | [b], h => by have := h b (by simp); simp [can]; omega
  | b :: c :: l, h => by
    have := can_all_big (c :: l) (fun x hx => h x (List.mem_cons_of_mem _ hx))
    have ec : can (b :: c :: l) = (decide (128 ≤ b.toNat) && can (c :: l) && decide (0 < rvL (c :: l))) := rfl
    rw [ec, this]; simp
theorem can_zero : ∀ (pre m : List UInt8) (z : UInt8), pre ≠ [] → z.toNat = 0 → can (pre ++ z :: m) = false
  | [], _, _, h, _ => absurd rfl h
  | [x], [], z, _, hz => by simp [can, rvL, hz]
  | [x], c :: m, z, _, hz => by
    cases h : can ([x] ++ z :: c :: m) with
    | false => rfl
    | true => have := (can_step (can_step h).2).1; omega
  | x :: y :: p, m, z, _, hz => by
    cases h : can (x :: y :: p ++ z :: m) with
    | false => rfl
    | true =>
      have h2 := (can_step (l := p ++ z :: m) h).2
      have := can_zero (y :: p) m z (by simp) hz
      rw [List.cons_append] at this
      rw [this] at h2
      exact absurd h2 (by simp)
theorem rvL_pos : ∀ (pre : List UInt8) (z : UInt8), 0 < z.toNat → z.toNat < 128 → 0 < rvL (pre ++ [z])
  | [], z, h, h2 => by simp [rvL]; omega
  | x :: p, z, h, h2 => by
    have := rvL_pos p z h h2
    simp only [List.cons_append, rvL]
    omega
theorem can_last : ∀ (pre : List UInt8) (z : UInt8), (∀ b ∈ pre, 128 ≤ b.toNat) → z.toNat < 128 → (pre = [] ∨ 0 < z.toNat) → can (pre ++ [z]) = true
  | [], z, _, h, _ => by simp [can, h]
  | [x], z, hp, h, hz => by
    have hz : 0 < z.toNat := hz.resolve_left (by simp)
    have := hp x (by simp)
    have := rvL_pos [] z hz h
    simp [can, h, hp]
    simpa using this
  | x :: y :: p, z, hp, h, hz => by
    have hz : 0 < z.toNat := hz.resolve_left (by simp)
    have hx := hp x (by simp)
    have ih := can_last (y :: p) z (fun b hb => hp b (List.mem_cons_of_mem _ hb)) h (.inr hz)
    have hr := rvL_pos (y :: p) z hz h
    have ec : can (x :: y :: p ++ [z]) = (decide (128 ≤ x.toNat) && can (y :: p ++ [z]) && decide (0 < rvL (y :: p ++ [z]))) := rfl
    rw [ec, ih]; simp only [Bool.and_true, Bool.and_eq_true, decide_eq_true_eq]
    exact ⟨hx, hr⟩
theorem rvL_snoc : ∀ (l : List UInt8) (b : UInt8), rvL (l ++ [b]) = rvL l + 128 ^ l.length * (b.toNat % 128)
  | [], b => by simp [rvL]
  | c :: l, b => by
    simp only [List.cons_append, rvL, rvL_snoc l b, List.length_cons, Nat.pow_succ]
    rw [Nat.mul_add, show 128 ^ l.length * 128 * (b.toNat % 128) = 128 * (128 ^ l.length * (b.toNat % 128)) by rw [Nat.mul_comm (128 ^ l.length) 128, Nat.mul_assoc]]
    omega
/-- What ReadVar answers. -/
def RvRes (s : List UInt8) (n k : Nat) : Prop :=
  (1 ≤ k ∧ k ≤ 7 ∧ k ≤ s.length ∧ can (s.take k) = true ∧ n = rvL (s.take k)) ∨
  (n = 0 ∧ k = 0 ∧ ∀ j, 1 ≤ j → j ≤ 7 → j ≤ s.length → can (s.take j) = false)
theorem RvRes.unique {s : List UInt8} {n k n' k' : Nat} (h : RvRes s n k) (h' : RvRes s n' k') : n = n' ∧ k = k' := by
  rcases h with ⟨a1, a2, a3, a4, rfl⟩ | ⟨rfl, rfl, a⟩ <;> rcases h' with ⟨b1, b2, b3, b4, rfl⟩ | ⟨rfl, rfl, b⟩
  · have key : ∀ i j : Nat, i ≤ j → j ≤ s.length → can (s.take i) = true → can (s.take j) = true → i = j := by
      intro i j hij hj hi hcj
      have e : s.take j = s.take i ++ (s.drop i).take (j - i) := by
        rw [show j = i + (j - i) by omega, List.take_add]; simp
      rw [e] at hcj
      have h0 := can_unique _ _ hi hcj
      have hl : ((s.drop i).take (j - i)).length = 0 := by rw [h0]; rfl
      rw [List.length_take, List.length_drop] at hl
      omega
    rcases Nat.le_total k k' with h | h
    · have := key k k' h b3 a4 b4; subst this; exact ⟨rfl, rfl⟩
    · have := key k' k h a3 b4 a4; subst this; exact ⟨rfl, rfl⟩
  · rw [b k a1 a2 a3] at a4; exact absurd a4 (by simp)
  · rw [a k' b1 b2 b3] at b4; exact absurd b4 (by simp)
  · exact ⟨rfl, rfl⟩
end Go.Proofs.YtdbfifgblcmckacDoor
