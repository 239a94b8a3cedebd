/- The text of a list is the text of what it has. -/
import Derived.Test.YtkbpnjigoipgeaaDoorTxd
import Derived.Test.YtkbpnjigoipgeaaDoorLsa
set_option linter.unusedVariables false
namespace Go.Proofs.YtkbpnjigoipgeaaDoor
/-- Texts, a blank ahead of each. -/
def tailT : List (List UInt8) → List UInt8
  | [] => []
  | s :: r => 32 :: (s ++ tailT r)
theorem tailT_app (a b : List (List UInt8)) : tailT (a ++ b) = tailT a ++ tailT b := by
  induction a with
  | nil => rfl
  | cons s r ih => simp [tailT, ih]
/-- Texts, a blank between them. -/
def bodyT (l : List (List UInt8)) : List UInt8 := (tailT l).drop 1
theorem bodyT_one (s : List UInt8) : bodyT ([] ++ [s]) = s := by simp [bodyT, tailT]
theorem bodyT_snoc {a : List (List UInt8)} (h : 0 < a.length) (s : List UInt8) : bodyT (a ++ [s]) = bodyT a ++ (32 :: s) := by
  match a, h with
  | x :: r, _ => simp [bodyT, tailT, tailT_app]
theorem tailT_len {l : List (List UInt8)} {s : List UInt8} (h : s ∈ l) : s.length + 1 ≤ (tailT l).length := by
  induction l with
  | nil => cases h
  | cons x r ih =>
    rcases List.mem_cons.1 h with rfl | h
    · simp [tailT]
    · have := ih h
      simp [tailT]; omega
/-- The texts of values, one each. -/
def Tels (h : List Cel) (L : List Val) (ts : List (List UInt8)) : Prop := ts.length = L.length ∧ ∀ (i : Nat) (x : Val), L[i]? = some x → ∃ s, ts[i]? = some s ∧ Tel h false x s
theorem Tels.cons {h : List Cel} {L : List Val} {ts : List (List UInt8)} {x : Val} {s : List UInt8} (h1 : Tel h false x s) (h2 : Tels h L ts) : Tels h (x :: L) (s :: ts) := by
  refine ⟨by simp [h2.1], fun i y hy => ?_⟩
  match i, hy with
  | 0, hy => simp at hy; subst hy; exact ⟨s, rfl, h1⟩
  | i + 1, hy => simp at hy; simpa using h2.2 i y hy
theorem lst_rest {h : List Cel} {v : Val} {L : List Val} {z : Val} (hl : Lst h v L z) (h3 : z.k = 3) : ∀ t, Tel h true v t → ∃ ts, Tels h L ts ∧ t = tailT ts := by
  induction hl with
  | @last v h5 =>
    intro t ht
    cases ht with
    | more _ c x y tx ty hk => exact absurd hk h5
    | last => exact ⟨[], ⟨rfl, fun i x hx => by simp at hx⟩, rfl⟩
    | dot _ _ hk => exact absurd h3 hk
  | @pair m s c x y l e hc hvs _ ih =>
    intro t ht
    cases ht with
    | more _ c' x' y' tx ty hk hc' hx hy h1 h2 =>
      simp only [Int.toNat_natCast] at hc'
      obtain rfl := Option.some.inj (hc.symm.trans hc')
      rw [hvs] at hx hy
      simp at hx hy
      subst hx hy
      obtain ⟨ts, hts, rfl⟩ := ih h3 ty h2
      exact ⟨tx :: ts, Tels.cons h1 hts, rfl⟩
    | last _ hk => simp at hk
    | dot _ hk => exact absurd rfl hk
theorem lst_text {h : List Cel} {v : Val} {L : List Val} {z : Val} (hl : Lst h v L z) (h3 : z.k = 3) {t : List UInt8} (ht : Tel h false v t) : ∃ ts, Tels h L ts ∧ t = 40 :: (bodyT ts ++ [41]) := by
  cases hl with
  | last h5 =>
    cases ht with
    | flat =>
      refine ⟨[], ⟨rfl, fun i x hx => by simp at hx⟩, ?_⟩
      unfold flatT
      rw [if_neg (by omega), if_neg (by omega), if_pos h3]
      rfl
    | pair _ c x y tx ty hk => exact absurd hk h5
  | @pair m s c x y l _ hc hvs hy =>
    cases ht with
    | flat _ hk => exact absurd rfl hk
    | pair _ c' x' y' tx ty hk hc' hx hy' h1 h2 =>
      simp only [Int.toNat_natCast] at hc'
      obtain rfl := Option.some.inj (hc.symm.trans hc')
      rw [hvs] at hx hy'
      simp at hx hy'
      subst hx hy'
      obtain ⟨ts, hts, rfl⟩ := lst_rest hy h3 ty h2
      refine ⟨tx :: ts, Tels.cons h1 hts, ?_⟩
      simp [bodyT, tailT]
/-- Where the whole is short no part was cut. -/
theorem cut_none {ts : List (List UInt8)} (h : (40 :: bodyT (ts.map (List.take 100000))).length < 100000) : ts.map (List.take 100000) = ts := by
  have h1 : (tailT (ts.map (List.take 100000))).length ≤ 100000 := by
    simp [bodyT] at h
    omega
  have h2 : ∀ s ∈ ts, s.take 100000 = s := by
    intro s hs
    have := tailT_len (List.mem_map_of_mem (f := List.take 100000) hs)
    rw [List.length_take] at this
    exact List.take_of_length_le (by omega)
  conv => rhs; rw [← List.map_id ts]
  exact List.map_congr_left fun s hs => h2 s hs
/-- What the law asks at its end. -/
theorem text_list {h : List Cel} {v : Val} {L : List Val} {z : Val} (hH : HeapP h) (hv : v.ok h = true) (hl : Lst h v L z) (h3 : z.k = 3) : ∃ ts, Tels h L ts ∧ ((40 :: bodyT (ts.map (List.take 100000))).length < 100000 → TextIs h v (40 :: bodyT (ts.map (List.take 100000)) ++ [41])) := by
  obtain ⟨t, ht⟩ := Tel.exists hH (h.length + 1) false v hv fun hk => by
    obtain ⟨m, c, _, _, hm, hc, _⟩ := pair_parts hH hv hk
    have := (List.getElem?_eq_some_iff.1 hc).1
    omega
  obtain ⟨ts, hts, rfl⟩ := lst_text hl h3 ht
  refine ⟨ts, hts, fun hs => ⟨fun _ => ⟨_, ht, ?_⟩, fun hn => absurd ⟨hH, hv⟩ hn⟩⟩
  have e := cut_none hs
  rw [e] at hs ⊢
  rw [List.take_of_length_le (by simp at hs ⊢; omega)]
  rfl
theorem decL_ne (x : Int) : decL x ≠ [] := by
  unfold decL
  split
  · simp
  · split
    · rename_i h0 h1
      intro e
      have : x.toNat ≠ 0 := by omega
      unfold digs at e
      simp [this] at e
    · simp
theorem flat_ne {h : List Cel} {v : Val} (hv : v.ok h = true) : flatT h v ≠ [] := by
  unfold flatT
  split
  · rename_i hk
    intro e
    have := decL_ne v.n
    exact this e
  · split
    · split <;> simp
    · split
      · simp
      · split
        · rename_i h4
          intro e
          unfold Val.ok at hv
          rw [if_pos h4] at hv
          unfold syL at hv
          simp [e] at hv
        · split <;> simp
/-- A text is empty where a value or its heap is not right, and there alone. -/
theorem TextIs.empty {h : List Cel} {v : Val} {s : List UInt8} (ht : TextIs h v s) : s = [] ↔ ¬ (HeapP h ∧ v.ok h = true) := by
  constructor
  · intro e hg
    obtain ⟨t, h1, h2⟩ := ht.1 hg
    have : t ≠ [] := by
      cases h1 with
      | flat _ hk => exact flat_ne hg.2
      | pair => simp
    rw [e] at h2
    have h3 := congrArg List.length h2
    rw [List.length_take] at h3
    simp only [List.length_nil] at h3
    have h4 : t.length = 0 := by omega
    exact this (List.eq_nil_of_length_eq_zero h4)
  · exact ht.2
end Go.Proofs.YtkbpnjigoipgeaaDoor
