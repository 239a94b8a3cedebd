/- The text of a value, as a relation: what it is, that there is one, that there is one alone. -/
import Derived.Test.YtkbpnjigoipgeaaDoorHov
import Derived.Test.YtkbpnjigoipgeaaDoorDeca
set_option linter.unusedVariables false
namespace Go.Proofs.YtkbpnjigoipgeaaDoor
/-- The text of a value that is no pair. -/
def flatT (h : List Cel) (v : Val) : List UInt8 :=
  if v.k = 1 then decL v.n
  else if v.k = 2 then (if v.n = 1 then [35, 116] else [35, 102])
  else if v.k = 3 then [40, 41]
  else if v.k = 4 then v.s.data.toList
  else if v.k = 6 then [102, 110]
  else 35 :: ((h[v.n.toNat]?).map (·.s.data.toList)).getD []
/-- The text of a value (false), or of the rest of a list (true). -/
inductive Tel (h : List Cel) : Bool → Val → List UInt8 → Prop
  | flat (v : Val) : v.k ≠ 5 → Tel h false v (flatT h v)
  | pair (v : Val) (c : Cel) (x y : Val) (tx ty : List UInt8) : v.k = 5 → h[v.n.toNat]? = some c → c.vals[0]? = some x → c.vals[1]? = some y → Tel h false x tx → Tel h true y ty → Tel h false v (40 :: (tx ++ (ty ++ [41])))
  | more (v : Val) (c : Cel) (x y : Val) (tx ty : List UInt8) : v.k = 5 → h[v.n.toNat]? = some c → c.vals[0]? = some x → c.vals[1]? = some y → Tel h false x tx → Tel h true y ty → Tel h true v (32 :: (tx ++ ty))
  | last (v : Val) : v.k = 3 → Tel h true v []
  | dot (v : Val) : v.k ≠ 5 → v.k ≠ 3 → Tel h true v (32 :: 46 :: 32 :: flatT h v)
theorem Tel.unique {h : List Cel} {b : Bool} {v : Val} {t : List UInt8} (h1 : Tel h b v t) : ∀ {t' : List UInt8}, Tel h b v t' → t = t' := by
  induction h1 with
  | flat v hk =>
    intro t' h2
    cases h2 with
    | flat => rfl
    | pair _ c x y tx ty hk' => exact absurd hk' hk
  | pair v c x y tx ty hk hc hx hy _ _ ih1 ih2 =>
    intro t' h2
    cases h2 with
    | flat _ hk' => exact absurd hk hk'
    | pair _ c' x' y' tx' ty' _ hc' hx' hy' h3 h4 =>
      obtain rfl := Option.some.inj (hc.symm.trans hc')
      obtain rfl := Option.some.inj (hx.symm.trans hx')
      obtain rfl := Option.some.inj (hy.symm.trans hy')
      rw [ih1 h3, ih2 h4]
  | more v c x y tx ty hk hc hx hy _ _ ih1 ih2 =>
    intro t' h2
    cases h2 with
    | more _ c' x' y' tx' ty' _ hc' hx' hy' h3 h4 =>
      obtain rfl := Option.some.inj (hc.symm.trans hc')
      obtain rfl := Option.some.inj (hx.symm.trans hx')
      obtain rfl := Option.some.inj (hy.symm.trans hy')
      rw [ih1 h3, ih2 h4]
    | last _ hk' => rw [hk] at hk'; exact absurd hk' (by decide)
    | dot _ hk' => exact absurd hk hk'
  | last v hk =>
    intro t' h2
    cases h2 with
    | more _ c' x' y' tx' ty' hk' => rw [hk] at hk'; exact absurd hk' (by decide)
    | last => rfl
    | dot _ _ hk' => exact absurd hk hk'
  | dot v hk hk3 =>
    intro t' h2
    cases h2 with
    | more _ c' x' y' tx' ty' hk' => exact absurd hk' hk
    | last _ hk' => exact absurd hk' hk3
    | dot => rfl
/-- What a right pair is in a right heap: its cell, two values, both right below it. -/
theorem pair_parts {h : List Cel} (hp : HeapP h) {v : Val} (hv : v.ok h = true) (hk : v.k = 5) :
    ∃ (n : Nat) (c : Cel) (x y : Val), v.n = n ∧ h[n]? = some c ∧ c.k = 1 ∧ c.vals = [x, y] ∧ x.ok (h.take n) = true ∧ y.ok (h.take n) = true := by
  have hs : v.s.size = 0 := by
    by_cases hq : v.s.size = 0
    · exact hq
    · rw [vokS (by rw [hk]; decide) hq] at hv; cases hv
  rw [vok5 hk hs] at hv
  unfold cellB at hv
  simp only [Bool.and_eq_true, decide_eq_true_eq, beq_iff_eq] at hv
  obtain ⟨h0, h1⟩ := hv
  cases hc : h[v.n.toNat]? with
  | none => rw [hc] at h1; cases h1
  | some c =>
    rw [hc] at h1
    have hck : c.k = 1 := by simpa using h1
    have hok := hp.2 _ _ hc
    unfold Cel.ok Cel.shape Cel.fits at hok
    rw [if_pos hck, if_neg (by rw [hck]; decide)] at hok
    simp only [Bool.and_eq_true, decide_eq_true_eq] at hok
    obtain ⟨⟨_, hl⟩, hf⟩ := hok
    match hcv : c.vals, hl with
    | [x, y], _ =>
      rw [hcv] at hf
      simp at hf
      exact ⟨v.n.toNat, c, x, y, by omega, hc, hck, hcv, hf.1, hf.2⟩
theorem ok_of_take {h : List Cel} {n : Nat} {v : Val} (hv : v.ok (h.take n) = true) : v.ok h = true := by
  rw [Val.ok_take, Bool.and_eq_true] at hv
  exact hv.1
theorem below_of_take {h : List Cel} {n : Nat} {v : Val} (hv : v.ok (h.take n) = true) (hk : v.k = 5) : v.n < n := by
  rw [Val.ok_take, Bool.and_eq_true] at hv
  have := hv.2
  unfold Val.points at this
  simp [hk] at this
  omega
/-- There is a text. -/
theorem Tel.exists {h : List Cel} (hp : HeapP h) : ∀ (n : Nat) (b : Bool) (v : Val), v.ok h = true → (v.k = 5 → v.n < n) → ∃ t, Tel h b v t := by
  intro n
  induction n with
  | zero =>
    intro b v hv hn
    by_cases hk : v.k = 5
    · obtain ⟨m, c, x, y, hm, _⟩ := pair_parts hp hv hk
      have := hn hk
      omega
    · cases b
      · exact ⟨_, .flat v hk⟩
      · by_cases h3 : v.k = 3
        · exact ⟨_, .last v h3⟩
        · exact ⟨_, .dot v hk h3⟩
  | succ n ih =>
    intro b v hv hn
    by_cases hk : v.k = 5
    · obtain ⟨m, c, x, y, hm, hc, hck, hcv, hx, hy⟩ := pair_parts hp hv hk
      have hmn := hn hk
      obtain ⟨tx, htx⟩ := ih false x (ok_of_take hx) fun hq => by have := below_of_take hx hq; omega
      obtain ⟨ty, hty⟩ := ih true y (ok_of_take hy) fun hq => by have := below_of_take hy hq; omega
      have hc' : h[v.n.toNat]? = some c := by rw [hm, Int.toNat_natCast]; exact hc
      cases b
      · exact ⟨_, .pair v c x y tx ty hk hc' (by rw [hcv]; rfl) (by rw [hcv]; rfl) htx hty⟩
      · exact ⟨_, .more v c x y tx ty hk hc' (by rw [hcv]; rfl) (by rw [hcv]; rfl) htx hty⟩
    · cases b
      · exact ⟨_, .flat v hk⟩
      · by_cases h3 : v.k = 3
        · exact ⟨_, .last v h3⟩
        · exact ⟨_, .dot v hk h3⟩
/-- Alike as far as MaxTell bytes go. -/
def Cut (x y : List UInt8) : Prop := x.take 100000 = y.take 100000
theorem Cut.refl (x : List UInt8) : Cut x x := rfl
theorem Cut.trans {x y z : List UInt8} (h : Cut x y) (h' : Cut y z) : Cut x z := Eq.trans h h'
theorem take_append_take (M : Nat) (a b : List UInt8) : (a ++ b).take M = ((a.take M) ++ b).take M := by
  rw [List.take_append, List.take_append, List.take_take, Nat.min_self, List.length_take]
  by_cases h : a.length ≤ M
  · rw [Nat.min_eq_right h]
  · have e1 : M - a.length = 0 := by omega
    have e2 : M - min M a.length = 0 := by omega
    rw [e1, e2]
theorem Cut.append {x y : List UInt8} (h : Cut x y) (z : List UInt8) : Cut (x ++ z) (y ++ z) := by
  unfold Cut at *
  rw [take_append_take, h, ← take_append_take]
/-- Behind MaxTell bytes nothing counts. -/
theorem Cut.over {x y : List UInt8} (h : Cut x y) (hx : 100000 ≤ x.length) (z z' : List UInt8) : Cut (x ++ z) (y ++ z') := by
  have hy : 100000 ≤ y.length := by
    have := congrArg List.length h
    rw [List.length_take, List.length_take] at this
    omega
  unfold Cut at *
  rw [List.take_append_of_le_length hx, List.take_append_of_le_length hy, h]
end Go.Proofs.YtkbpnjigoipgeaaDoor
