/- Plain facts on decimal digits: what Dec makes of a number, and which texts it makes. -/
import Derived.Laws.BitsAllLaws
namespace Go.Proofs.YtkbpnjigoipgeaaDoor
/-- The digits of m, by so many at most; none of 0. -/
def digs : Nat → Nat → List UInt8
  | 0, _ => []
  | f + 1, m => if m = 0 then [] else digs f (m / 10) ++ [UInt8.ofNat (48 + m % 10)]
/-- What Dec makes of x. -/
def decL (x : Int) : List UInt8 := if x = 0 then [48] else if 0 < x then digs 20 x.toNat else 45 :: digs 20 (-x).toNat
def isDig (c : UInt8) : Prop := 48 ≤ c.toNat ∧ c.toNat ≤ 57
/-- The number that digits say. -/
def val (l : List UInt8) : Nat := l.foldl (fun n c => n * 10 + (c.toNat - 48)) 0
theorem val_snoc (l : List UInt8) (c : UInt8) : val (l ++ [c]) = val l * 10 + (c.toNat - 48) := by simp [val]
theorem digs_zero (f : Nat) : digs f 0 = [] := by cases f <;> simp [digs]
theorem digs_pos (f m : Nat) (h : m ≠ 0) : digs (f + 1) m = digs f (m / 10) ++ [UInt8.ofNat (48 + m % 10)] := by simp [digs, h]
theorem ofNat48 (d : Nat) (h : d < 10) : (UInt8.ofNat (48 + d)).toNat = 48 + d := by simp; omega
theorem head_app (l m : List UInt8) (h : l ≠ []) : (l ++ m).head? = l.head? := by cases l with | nil => exact absurd rfl h | cons a l => rfl
theorem snoc_ind {P : List UInt8 → Prop} (h0 : P []) (h1 : ∀ l c, P l → P (l ++ [c])) (l : List UInt8) : P l := by
  have : ∀ r : List UInt8, P r.reverse := by
    intro r
    induction r with
    | nil => exact h0
    | cons c r ih => rw [List.reverse_cons]; exact h1 _ _ ih
  have h := this l.reverse
  rwa [List.reverse_reverse] at h
theorem digs_dig : ∀ (f m : Nat), ∀ c ∈ digs f m, isDig c
  | 0, _, c, h => by simp [digs] at h
  | f + 1, m, c, h => by
    by_cases hm : m = 0
    · subst hm; simp [digs] at h
    · rw [digs_pos f m hm] at h
      rcases List.mem_append.1 h with h | h
      · exact digs_dig f _ c h
      · rw [List.mem_singleton.1 h]
        unfold isDig
        rw [ofNat48 _ (by omega)]
        omega
theorem digs_len : ∀ (f m k : Nat), m < 10 ^ k → (digs f m).length ≤ k
  | 0, _, _, _ => by simp [digs]
  | f + 1, m, k, h => by
    by_cases hm : m = 0
    · subst hm; simp [digs]
    · rw [digs_pos f m hm]
      match k, h with
      | 0, h => simp at h; omega
      | k + 1, h =>
        rw [Nat.pow_succ] at h
        have := digs_len f (m / 10) k (by omega)
        simp; omega
theorem digs_len_fuel : ∀ (f m : Nat), (digs f m).length ≤ f
  | 0, _ => by simp [digs]
  | f + 1, m => by
    by_cases hm : m = 0
    · subst hm; simp [digs]
    · rw [digs_pos f m hm]
      have := digs_len_fuel f (m / 10)
      simp; omega
theorem digs_val : ∀ (f m : Nat), m < 10 ^ f → val (digs f m) = m
  | 0, m, h => by simp at h; subst h; rfl
  | f + 1, m, h => by
    by_cases hm : m = 0
    · subst hm; simp [digs, val]
    · rw [digs_pos f m hm, val_snoc, ofNat48 _ (by omega)]
      rw [Nat.pow_succ] at h
      rw [digs_val f (m / 10) (by omega)]
      omega
theorem digs_ne (f m : Nat) (h : m ≠ 0) : digs (f + 1) m ≠ [] := by rw [digs_pos f m h]; simp
theorem digs_head : ∀ (f m : Nat) (c : UInt8), m < 10 ^ f → (digs f m).head? = some c → c.toNat ≠ 48
  | 0, m, c, _, h => by simp [digs] at h
  | f + 1, m, c, hm, h => by
    by_cases h0 : m = 0
    · subst h0; simp [digs] at h
    · rw [digs_pos f m h0] at h
      rw [Nat.pow_succ] at hm
      by_cases h1 : m / 10 = 0
      · rw [h1, digs_zero] at h
        simp only [List.nil_append, List.head?_cons, Option.some.injEq] at h
        rw [← h, ofNat48 _ (by omega)]
        omega
      · match f, hm, h with
        | 0, hm, h => simp at hm; omega
        | g + 1, hm, h =>
          have hne := digs_ne g (m / 10) h1
          rw [head_app _ _ hne] at h
          exact digs_head (g + 1) (m / 10) c (by omega) h
theorem val_pos : ∀ (l : List UInt8), (∀ c ∈ l, isDig c) → (∀ c, l.head? = some c → c.toNat ≠ 48) → l ≠ [] → 0 < val l := by
  intro l
  induction l using snoc_ind with
  | h0 => intro _ _ h; exact absurd rfl h
  | h1 l c ih =>
    intro hd hh _
    rw [val_snoc]
    by_cases hl : l = []
    · subst hl
      have h1 := hd c (by simp)
      have h2 := hh c (by simp)
      unfold isDig at h1
      omega
    · have := ih (fun x hx => hd x (List.mem_append_left _ hx)) (fun x hx => hh x (by rw [head_app l _ hl]; exact hx)) hl
      omega
theorem digs_of_val : ∀ (l : List UInt8) (f : Nat), (∀ c ∈ l, isDig c) → (∀ c, l.head? = some c → c.toNat ≠ 48) → l.length ≤ f → digs f (val l) = l := by
  intro l
  induction l using snoc_ind with
  | h0 => intro f _ _ _; exact digs_zero f
  | h1 l c ih =>
    intro f hd hh hf
    have hp := val_pos (l ++ [c]) hd hh (by simp)
    match f, hf with
    | 0, hf => simp at hf
    | f + 1, hf =>
      rw [digs_pos f _ (by omega), val_snoc]
      have hc := hd c (by simp)
      unfold isDig at hc
      have e1 : (val l * 10 + (c.toNat - 48)) / 10 = val l := by omega
      have e2 : (val l * 10 + (c.toNat - 48)) % 10 = c.toNat - 48 := by omega
      rw [e1, e2, show 48 + (c.toNat - 48) = c.toNat by omega]
      have hih : digs f (val l) = l := by
        by_cases hl : l = []
        · subst hl; exact digs_zero f
        · exact ih f (fun x hx => hd x (List.mem_append_left _ hx)) (fun x hx => hh x (by rw [head_app l _ hl]; exact hx)) (by simpa using hf)
      rw [hih]
      simp
theorem val_lt (l : List UInt8) (h : ∀ c ∈ l, isDig c) : val l < 10 ^ l.length := by
  induction l using snoc_ind with
  | h0 => simp [val]
  | h1 l c ih =>
    have := ih (fun x hx => h x (List.mem_append_left _ hx))
    have hc := h c (by simp)
    unfold isDig at hc
    rw [val_snoc, List.length_append, List.length_singleton, Nat.pow_succ]
    omega
/-- What ReadDec answers of the text l. -/
def RdRes (l : List UInt8) (n : Int) (b : Bool) : Prop :=
  (b = true ∧ decL n = l ∧ -1000000000 < n ∧ n < 1000000000) ∨ (b = false ∧ n = 0 ∧ ∀ m : Int, -1000000000 < m → m < 1000000000 → decL m ≠ l)
theorem decL_pos (x : Int) (h : 0 < x) : decL x = digs 20 x.toNat := by
  have h0 : ¬ x = 0 := by omega
  simp [decL, h, h0]
theorem decL_neg (x : Int) (h : x < 0) : decL x = 45 :: digs 20 (-x).toNat := by
  have h0 : ¬ x = 0 := by omega
  have h1 : ¬ 0 < x := by omega
  simp [decL, h0, h1]
theorem head_digs (m : Nat) (h : m ≠ 0) (hm : m < 10 ^ 20) : ∃ c l, digs 20 m = c :: l ∧ 49 ≤ c.toNat ∧ c.toNat ≤ 57 := by
  have hne := digs_ne 19 m h
  match e : digs 20 m with
  | [] => exact absurd e hne
  | c :: l =>
    have h1 := digs_head 20 m c hm (by rw [e]; rfl)
    have h2 := digs_dig 20 m c (by rw [e]; simp)
    unfold isDig at h2
    exact ⟨c, l, rfl, by omega, by omega⟩
theorem decL_inj (x y : Int) (hx : -100000000000000000000 < x ∧ x < 100000000000000000000) (hy : -100000000000000000000 < y ∧ y < 100000000000000000000) (h : decL x = decL y) : x = y := by
  have e0 : decL 0 = [48] := rfl
  rcases Int.lt_trichotomy x 0 with hx0 | rfl | hx0 <;> rcases Int.lt_trichotomy y 0 with hy0 | rfl | hy0
  · rw [decL_neg x hx0, decL_neg y hy0] at h
    have h1 := congrArg val (List.cons.inj h).2
    rw [digs_val 20 _ (by omega), digs_val 20 _ (by omega)] at h1
    omega
  · rw [decL_neg x hx0, e0] at h
    simp at h
  · rw [decL_neg x hx0, decL_pos y hy0] at h
    obtain ⟨c, l, e, h1, h2⟩ := head_digs y.toNat (by omega) (by omega)
    rw [e] at h
    have := (List.cons.inj h).1
    rw [← this] at h1
    simp at h1
  · rw [decL_neg y hy0, e0] at h
    simp at h
  · rfl
  · rw [decL_pos y hy0, e0] at h
    obtain ⟨c, l, e, h1, h2⟩ := head_digs y.toNat (by omega) (by omega)
    rw [e] at h
    have := (List.cons.inj h).1
    rw [← this] at h1
    simp at h1
  · rw [decL_pos x hx0, decL_neg y hy0] at h
    obtain ⟨c, l, e, h1, h2⟩ := head_digs x.toNat (by omega) (by omega)
    rw [e] at h
    have := (List.cons.inj h).1
    rw [this] at h1
    simp at h1
  · rw [decL_pos x hx0, e0] at h
    obtain ⟨c, l, e, h1, h2⟩ := head_digs x.toNat (by omega) (by omega)
    rw [e] at h
    have := (List.cons.inj h).1
    rw [this] at h1
    simp at h1
  · rw [decL_pos x hx0, decL_pos y hy0] at h
    have h1 := congrArg val h
    rw [digs_val 20 _ (by omega), digs_val 20 _ (by omega)] at h1
    omega
theorem RdRes.unique {l : List UInt8} {n n' : Int} {b b' : Bool} (h : RdRes l n b) (h' : RdRes l n' b') : n = n' ∧ b = b' := by
  rcases h with ⟨rfl, a1, a2, a3⟩ | ⟨rfl, rfl, a⟩ <;> rcases h' with ⟨rfl, b1, b2, b3⟩ | ⟨rfl, rfl, b⟩
  · exact ⟨decL_inj n n' ⟨by omega, by omega⟩ ⟨by omega, by omega⟩ (by rw [a1, b1]), rfl⟩
  · exact absurd a1 (b n a2 a3)
  · exact absurd b1 (a n' b2 b3)
  · exact ⟨rfl, rfl⟩
end Go.Proofs.YtkbpnjigoipgeaaDoor
