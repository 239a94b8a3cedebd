/- The order of names: plain. Which comes next: plain. -/
import Derived.Sort.Walk0
import Derived.Lib.SlicesCompact
import Derived.Lib.SlicesS
set_option linter.unusedVariables false
namespace Go.Proofs.YtkkpiagchkdamaaGreatDoor
abbrev Nm := List UInt8
theorem nm_lt_of {a b : Nm} (h : a ≤ b) (hne : a ≠ b) : a < b := by
  apply Decidable.byContradiction
  intro hn
  exact hne (List.le_antisymm h (List.not_lt.1 hn))
theorem keeps_first (d : Array Nm) (x : Nm) : ∀ j, d[j]! = x → ∃ i, i ≤ j ∧ Lib.keeps d i = true ∧ d[i]! = x
  | 0, h => ⟨0, Nat.le_refl _, by simp [Lib.keeps], h⟩
  | j + 1, h => by
    by_cases he : d[j + 1]! = d[j]!
    · obtain ⟨i, hi, hk, hx⟩ := keeps_first d x j (he ▸ h)
      exact ⟨i, by omega, hk, hx⟩
    · exact ⟨j + 1, Nat.le_refl _, by simp only [Lib.keeps, Nat.add_sub_cancel]; simp [he], h⟩
theorem arr_at (zs : List Nm) (j : Nat) (h : j < zs.length) : zs.toArray[j]! = zs[j] := by
  rw [getElem!_pos _ j (by simpa using h)]
  simp
theorem compact_mem (zs : List Nm) (x : Nm) : x ∈ Lib.compact zs ↔ x ∈ zs := by
  unfold Lib.compact Lib.compactUpTo
  rw [List.mem_map]
  constructor
  · rintro ⟨j, hj, rfl⟩
    have hj' := List.mem_range.1 (List.mem_filter.1 hj).1
    rw [arr_at zs j hj']
    exact List.getElem_mem _
  · intro hx
    obtain ⟨j, hj, rfl⟩ := List.getElem_of_mem hx
    obtain ⟨i, hi, hk, he⟩ := keeps_first zs.toArray zs[j] j (arr_at zs j hj)
    exact ⟨i, List.mem_filter.2 ⟨List.mem_range.2 (by omega), hk⟩, he⟩
theorem le_at {zs : List Nm} (h : zs.Pairwise (· ≤ ·)) {i j : Nat} (hij : i ≤ j) (hj : j < zs.length) : zs[i]'(by omega) ≤ zs[j] := by
  by_cases he : i = j
  · subst he
    exact List.le_refl _
  · exact (List.pairwise_iff_getElem.1 h) i j _ hj (by omega)
theorem compact_lt (zs : List Nm) (h : zs.Pairwise (· ≤ ·)) : (Lib.compact zs).Pairwise (· < ·) := by
  unfold Lib.compact Lib.compactUpTo
  rw [List.pairwise_map]
  have h1 : ((List.range zs.length).filter (Lib.keeps zs.toArray)).Pairwise (· < ·) := List.Pairwise.filter _ List.pairwise_lt_range
  refine List.Pairwise.imp_of_mem ?_ h1
  intro i j hi hj hij
  have hjl := List.mem_range.1 (List.mem_filter.1 hj).1
  have hk := (List.mem_filter.1 hj).2
  have hk' : zs.toArray[j]! ≠ zs.toArray[j - 1]! := by
    simp only [Lib.keeps, decide_eq_true_eq] at hk
    rcases hk with h0 | h0
    · omega
    · exact h0
  rw [arr_at zs j hjl, arr_at zs (j - 1) (by omega)] at hk'
  rw [arr_at zs j hjl, arr_at zs i (by omega)]
  exact List.lt_of_le_of_lt (le_at h (i := i) (j := j - 1) (by omega) (by omega)) (nm_lt_of (le_at h (i := j - 1) (j := j) (by omega) hjl) (fun e => hk' e.symm))
def sortN (l : List Nm) : List Nm := l.mergeSort fun x y => decide (x ≤ y)
def rise (l : List Nm) : List Nm := Lib.compact (sortN l)
theorem sortN_le (l : List Nm) : (sortN l).Pairwise (· ≤ ·) := by
  have h := List.pairwise_mergeSort (le := fun x y : Nm => decide (x ≤ y)) (fun a b c h1 h2 => decide_eq_true (List.le_trans (of_decide_eq_true h1) (of_decide_eq_true h2))) (fun a b => by
    rcases List.le_total a b with h | h <;> simp [h]) l
  exact h.imp fun h => of_decide_eq_true h
theorem sortN_len (l : List Nm) : (sortN l).length = l.length := (List.mergeSort_perm l _).length_eq
theorem rise_lt (l : List Nm) : (rise l).Pairwise (· < ·) := compact_lt _ (sortN_le l)
theorem rise_mem (l : List Nm) (x : Nm) : x ∈ rise l ↔ x ∈ l := (compact_mem _ x).trans (List.mergeSort_perm l _).mem_iff
theorem lt_ne {a b : Nm} (h : a < b) : a ≠ b := fun e => List.lt_irrefl b (e ▸ h)
theorem nodup_of_lt {l : List Nm} (h : l.Pairwise (· < ·)) : l.Nodup := h.imp fun h => lt_ne h
theorem rise_len_le (l : List Nm) : (rise l).length ≤ l.length := by
  show ((((List.range (sortN l).length).filter (Lib.keeps (sortN l).toArray)).map _).length ≤ _)
  rw [List.length_map]
  refine Nat.le_trans (List.length_filter_le _ _) ?_
  rw [List.length_range, sortN_len]
  exact Nat.le_refl _
theorem range_map (zs : List Nm) : (List.range zs.length).map (zs.toArray[·]!) = zs := by
  apply List.ext_getElem
  · simp
  · intro i h1 h2
    simp only [List.getElem_map, List.getElem_range]
    exact arr_at zs i h2
theorem rise_nodup (l : List Nm) : (rise l).length = l.length ↔ l.Nodup := by
  have hp := List.mergeSort_perm l (fun x y => decide (x ≤ y))
  constructor
  · intro h
    have h1 : ((List.range (sortN l).length).filter (Lib.keeps (sortN l).toArray)).length = (List.range (sortN l).length).length := by
      have e : (rise l).length = ((List.range (sortN l).length).filter (Lib.keeps (sortN l).toArray)).length := List.length_map _
      rw [← e, h, List.length_range, sortN_len]
    have h2 : rise l = sortN l := by
      show ((List.range (sortN l).length).filter (Lib.keeps (sortN l).toArray)).map _ = _
      rw [List.filter_eq_self.2 (List.length_filter_eq_length_iff.1 h1)]
      exact range_map _
    have h3 := nodup_of_lt (rise_lt l)
    rw [h2] at h3
    exact hp.nodup_iff.1 h3
  · intro h
    have hs : (sortN l).Nodup := hp.nodup_iff.2 h
    show (((List.range (sortN l).length).filter (Lib.keeps (sortN l).toArray)).map _).length = _
    rw [List.length_map, List.filter_eq_self.2, List.length_range, sortN_len]
    intro j hj
    have hj' := List.mem_range.1 hj
    by_cases h0 : j = 0
    · simp [Lib.keeps, h0]
    · have hne : (sortN l)[j] ≠ (sortN l)[j - 1] := (List.pairwise_iff_getElem.1 hs (j - 1) j (by omega) hj' (by omega)).symm
      simp only [Lib.keeps, decide_eq_true_eq]
      right
      rw [arr_at _ j hj', arr_at _ (j - 1) (by omega)]
      exact hne
theorem nodup_len {α : Type} [BEq α] [LawfulBEq α] : ∀ {l s : List α}, l.Nodup → (∀ x ∈ l, x ∈ s) → l.length ≤ s.length
  | [], s, _, _ => by simp
  | a :: l, s, h, hs => by
    obtain ⟨ha, hl⟩ := List.nodup_cons.1 h
    have hm := hs a (List.mem_cons_self ..)
    have h1 := nodup_len (s := s.erase a) hl fun x hx => (List.mem_erase_of_ne (fun (e : x = a) => ha (e ▸ hx))).2 (hs x (List.mem_cons_of_mem _ hx))
    rw [List.length_erase_of_mem hm] at h1
    have := List.length_pos_of_mem hm
    simp only [List.length_cons]
    omega
/-- The sources: names, and what each imports. -/
abbrev Ps := List (Nm × List Nm)
def allN (p : Ps) : List Nm := p.flatMap fun s => s.1 :: s.2
def srt (p : Ps) : List Nm := rise (allN p)
theorem srt_lt (p : Ps) : (srt p).Pairwise (· < ·) := rise_lt _
theorem srt_name {p : Ps} {s : Nm × List Nm} (h : s ∈ p) : s.1 ∈ srt p := (rise_mem _ _).2 (List.mem_flatMap.2 ⟨s, h, List.mem_cons_self ..⟩)
theorem srt_imp {p : Ps} {s : Nm × List Nm} {x : Nm} (h : s ∈ p) (hx : x ∈ s.2) : x ∈ srt p := (rise_mem _ _).2 (List.mem_flatMap.2 ⟨s, h, List.mem_cons_of_mem _ hx⟩)
theorem srt_mem {p : Ps} {x : Nm} (h : x ∈ srt p) : ∃ s ∈ p, x = s.1 ∨ x ∈ s.2 := by
  obtain ⟨s, hs, hx⟩ := List.mem_flatMap.1 ((rise_mem _ _).1 h)
  exact ⟨s, hs, List.mem_cons.1 hx⟩
/-- All that is imported is there. -/
def closedP (p : Ps) : Prop := ∀ s ∈ p, ∀ x ∈ s.2, x ∈ p.map (·.1)
theorem srt_len {p : Ps} (h : (p.map (·.1)).Nodup) : (srt p).length = p.length ↔ closedP p := by
  have hN := nodup_of_lt (srt_lt p)
  have h1 : ∀ x ∈ p.map (·.1), x ∈ srt p := fun x hx => by
    obtain ⟨s, hs, rfl⟩ := List.mem_map.1 hx
    exact srt_name hs
  constructor
  · intro hl s hs x hx
    apply Decidable.byContradiction
    intro hn
    have := nodup_len (l := x :: p.map (·.1)) (s := srt p) (List.nodup_cons.2 ⟨hn, h⟩) (fun y hy => by
      rcases List.mem_cons.1 hy with rfl | hy
      · exact srt_imp hs hx
      · exact h1 y hy)
    simp at this
    omega
  · intro hc
    have a1 := nodup_len h h1
    have a2 := nodup_len hN (s := p.map (·.1)) fun x hx => by
      obtain ⟨s, hs, rfl | hx'⟩ := srt_mem hx
      · exact List.mem_map.2 ⟨s, hs, rfl⟩
      · exact hc s hs x hx'
    simp at a1 a2
    omega
/-- A name's number. -/
def num (S : List Nm) (x : Nm) : Nat := S.idxOf x
theorem num_lt {S : List Nm} {x : Nm} (h : x ∈ S) : num S x < S.length := List.idxOf_lt_length_of_mem h
theorem num_at {S : List Nm} {x : Nm} (h : x ∈ S) : S[num S x]? = some x := by
  rw [List.getElem?_eq_getElem (num_lt h)]
  exact congrArg some (List.getElem_idxOf (num_lt h))
theorem num_inj {S : List Nm} {x y : Nm} (hx : x ∈ S) (hy : y ∈ S) (h : num S x = num S y) : x = y := by
  have h1 := num_at hx
  have h2 := num_at hy
  rw [h, h2] at h1
  exact (Option.some.inj h1).symm
theorem num_of {S : List Nm} (h : S.Pairwise (· < ·)) {i : Nat} {x : Nm} (hi : S[i]? = some x) : num S x = i := by
  have hm : x ∈ S := List.mem_of_getElem? hi
  obtain ⟨hl, he⟩ := List.getElem?_eq_some_iff.1 hi
  have h2 := num_at hm
  obtain ⟨hl2, he2⟩ := List.getElem?_eq_some_iff.1 h2
  apply Decidable.byContradiction
  intro hne
  rcases Nat.lt_or_gt_of_ne hne with hlt | hlt
  · have := List.pairwise_iff_getElem.1 h _ _ hl2 hl hlt
    rw [he2, he] at this
    exact List.lt_irrefl _ this
  · have := List.pairwise_iff_getElem.1 h _ _ hl hl2 hlt
    rw [he2, he] at this
    exact List.lt_irrefl _ this
/-- Pairs by their first part. -/
def grp (N : Nat) (ps : List (Nat × Nat)) : List (List Nat) := (List.range N).map fun i => (ps.filter (·.1 = i)).map (·.2)
theorem grp_len (N : Nat) (ps : List (Nat × Nat)) : (grp N ps).length = N := by simp [grp]
theorem grp_at {N : Nat} (ps : List (Nat × Nat)) {i : Nat} (h : i < N) : (grp N ps)[i]? = some ((ps.filter (·.1 = i)).map (·.2)) := by
  simp [grp, h]
theorem grp_nil (N : Nat) : grp N [] = List.replicate N [] := by
  apply List.ext_getElem
  · simp [grp]
  · intro i h1 h2
    simp [grp]
theorem grp_snoc (N : Nat) (ps : List (Nat × Nat)) (i v : Nat) (row : List Nat) (h : (grp N ps)[i]? = some row) : grp N (ps ++ [(i, v)]) = (grp N ps).set i (row ++ [v]) := by
  have hi : i < N := by rw [← grp_len N ps]; exact (List.getElem?_eq_some_iff.1 h).1
  rw [grp_at ps hi] at h
  obtain rfl := Option.some.inj h
  apply List.ext_getElem?
  intro j
  rw [List.getElem?_set]
  by_cases hj : j < N
  · rw [grp_at _ hj]
    by_cases he : i = j
    · subst he
      simp [grp_len, hj, List.filter_append]
    · rw [if_neg he, grp_at _ hj]
      simp [List.filter_append, he]
  · have hne : i ≠ j := by omega
    rw [if_neg hne, List.getElem?_eq_none (by rw [grp_len]; omega), List.getElem?_eq_none (by rw [grp_len]; omega)]
theorem grp_mem {N : Nat} {ps : List (Nat × Nat)} {i v : Nat} {row : List Nat} (h : (grp N ps)[i]? = some row) : v ∈ row ↔ (i, v) ∈ ps := by
  have hi : i < N := by rw [← grp_len N ps]; exact (List.getElem?_eq_some_iff.1 h).1
  rw [grp_at ps hi] at h
  obtain rfl := Option.some.inj h
  rw [List.mem_map]
  constructor
  · rintro ⟨⟨a, b⟩, hm, rfl⟩
    obtain ⟨h1, h2⟩ := List.mem_filter.1 hm
    obtain rfl : a = i := of_decide_eq_true h2
    exact h1
  · intro hm
    exact ⟨(i, v), List.mem_filter.2 ⟨hm, by simp⟩, rfl⟩
def pairs1 (S : List Nm) (s : Nm × List Nm) : List (Nat × Nat) := s.2.map fun x => (num S s.1, num S x)
def pairsOf (S : List Nm) (p : Ps) : List (Nat × Nat) := p.flatMap (pairs1 S)
theorem pairsOf_take {S : List Nm} {p : Ps} {i : Nat} {s : Nm × List Nm} (h : p[i]? = some s) : pairsOf S (p.take (i + 1)) = pairsOf S (p.take i) ++ pairs1 S s := by
  rw [List.take_add_one, h]
  simp [pairsOf]
theorem pairs1_take {S : List Nm} {n : Nm} {xs : List Nm} {k : Nat} {x : Nm} (h : xs[k]? = some x) : pairs1 S (n, xs.take (k + 1)) = pairs1 S (n, xs.take k) ++ [(num S n, num S x)] := by
  simp [pairs1, List.take_add_one, h]
/-- Who imports each. -/
def turn1 (r : List Nat) (n : Nat) : List (Nat × Nat) := r.map fun i => (i, n)
def turned (II : List (List Nat)) : Nat → List (Nat × Nat)
  | 0 => []
  | n + 1 => turned II n ++ turn1 (II.getD n []) n
theorem turned_mem (II : List (List Nat)) (i v : Nat) : ∀ n, (i, v) ∈ turned II n ↔ v < n ∧ i ∈ II.getD v []
  | 0 => by simp [turned]
  | n + 1 => by
    rw [turned, List.mem_append, turned_mem II i v n]
    simp only [turn1, List.mem_map, Prod.mk.injEq]
    constructor
    · rintro (⟨h1, h2⟩ | ⟨a, h1, rfl, rfl⟩)
      · exact ⟨by omega, h2⟩
      · exact ⟨by omega, h1⟩
    · rintro ⟨h1, h2⟩
      by_cases he : v = n
      · subst he
        exact .inr ⟨i, h2, rfl, rfl⟩
      · exact .inl ⟨by omega, h2⟩
end Go.Proofs.YtkkpiagchkdamaaGreatDoor
set_option linter.unusedVariables false
namespace Go.Proofs.YtkkpiagchkdamaaGreatDoor
def candB (out : List Nm) (s : Nm × List Nm) : Bool := !out.contains s.1 && s.2.all fun x => out.contains x
def bestF (out : List Nm) (b : Nm) (s : Nm × List Nm) : Nm := if candB out s && (b == [] || decide (s.1 < b)) then s.1 else b
def bestP (p : Ps) (out : List Nm) : Nm := p.foldl (bestF out) []
theorem bestP_take {p : Ps} {out : List Nm} {i : Nat} {s : Nm × List Nm} (h : p[i]? = some s) : bestP (p.take (i + 1)) out = bestF out (bestP (p.take i) out) s := by
  rw [List.take_add_one, h]
  simp [bestP]
def BestI (out : List Nm) (pre : Ps) (b : Nm) : Prop := (b = [] ∧ ∀ s ∈ pre, candB out s = false) ∨ (b ≠ [] ∧ (∃ s ∈ pre, candB out s = true ∧ s.1 = b) ∧ ∀ t ∈ pre, candB out t = true → b ≤ t.1)
theorem bestI_fold (out : List Nm) : ∀ (p pre : Ps) (b : Nm), (∀ s ∈ p, s.1 ≠ []) → BestI out pre b → BestI out (pre ++ p) (p.foldl (bestF out) b)
  | [], pre, b, _, h => by simpa using h
  | s :: p, pre, b, hn, h => by
    have hs := hn s (List.mem_cons_self ..)
    have e : pre ++ s :: p = (pre ++ [s]) ++ p := by simp
    rw [e]
    refine bestI_fold out p (pre ++ [s]) _ (fun t ht => hn t (List.mem_cons_of_mem _ ht)) ?_
    unfold bestF
    cases hc : candB out s with
    | false =>
      simp only [Bool.false_and, Bool.false_eq_true, if_false]
      rcases h with ⟨h1, h2⟩ | ⟨h1, ⟨t, ht, h2, h3⟩, h4⟩
      · refine .inl ⟨h1, fun t ht => ?_⟩
        rcases List.mem_append.1 ht with ht | ht
        · exact h2 t ht
        · obtain rfl := List.mem_singleton.1 ht
          exact hc
      · refine .inr ⟨h1, ⟨t, List.mem_append_left _ ht, h2, h3⟩, fun u hu hcu => ?_⟩
        rcases List.mem_append.1 hu with hu | hu
        · exact h4 u hu hcu
        · obtain rfl := List.mem_singleton.1 hu
          rw [hc] at hcu
          cases hcu
    | true =>
      simp only [Bool.true_and]
      by_cases hb : b = []
      · subst hb
        simp only [beq_self_eq_true, Bool.true_or, if_true]
        refine .inr ⟨hs, ⟨s, by simp, hc, rfl⟩, fun u hu hcu => ?_⟩
        rcases h with ⟨_, h2⟩ | ⟨h1, _⟩
        · rcases List.mem_append.1 hu with hu | hu
          · rw [h2 u hu] at hcu
            cases hcu
          · obtain rfl := List.mem_singleton.1 hu
            exact List.le_refl _
        · exact absurd rfl h1
      · rcases h with ⟨h1, _⟩ | ⟨_, ⟨t, ht, h2, h3⟩, h4⟩
        · exact absurd h1 hb
        · by_cases hlt : s.1 < b
          · simp only [hlt, decide_true, Bool.or_true, if_true]
            refine .inr ⟨hs, ⟨s, by simp, hc, rfl⟩, fun u hu hcu => ?_⟩
            rcases List.mem_append.1 hu with hu | hu
            · exact List.le_trans (List.le_of_lt hlt) (h4 u hu hcu)
            · obtain rfl := List.mem_singleton.1 hu
              exact List.le_refl _
          · have : (b == [] || decide (s.1 < b)) = false := by simp [hb, hlt]
            rw [this]
            simp only [Bool.false_eq_true, if_false]
            refine .inr ⟨hb, ⟨t, List.mem_append_left _ ht, h2, h3⟩, fun u hu hcu => ?_⟩
            rcases List.mem_append.1 hu with hu | hu
            · exact h4 u hu hcu
            · obtain rfl := List.mem_singleton.1 hu
              exact List.not_lt.1 hlt
theorem bestP_spec {p : Ps} (out : List Nm) (hn : ∀ s ∈ p, s.1 ≠ []) : BestI out p (bestP p out) := by
  have := bestI_fold out p [] [] hn (.inl ⟨rfl, fun s hs => by cases hs⟩)
  exact (by simpa using this : BestI out p (p.foldl (bestF out) []))
def runO (p : Ps) : Nat → List Nm
  | 0 => []
  | k + 1 => if bestP p (runO p k) = [] then runO p k else runO p k ++ [bestP p (runO p k)]
theorem runO_stop {p : Ps} {k : Nat} (h : bestP p (runO p k) = []) : ∀ m, k ≤ m → runO p m = runO p k := by
  intro m hm
  induction m with
  | zero =>
    obtain rfl : k = 0 := by omega
    rfl
  | succ m ih =>
    by_cases he : k = m + 1
    · rw [he]
    · have e := ih (by omega)
      show (if bestP p (runO p m) = [] then runO p m else _) = _
      rw [e, if_pos h]
theorem runO_go {p : Ps} {k : Nat} (h : bestP p (runO p k) ≠ []) : runO p (k + 1) = runO p k ++ [bestP p (runO p k)] := if_neg h
theorem runO_len (p : Ps) : ∀ k, (runO p k).length ≤ k
  | 0 => Nat.le_refl _
  | k + 1 => by
    show (if bestP p (runO p k) = [] then runO p k else _).length ≤ _
    have := runO_len p k
    split
    · omega
    · simp
      omega
/-- By numbers: which can come next. -/
def rdy (N : Nat) (II : List (List Nat)) (o : List Nat) (k : Nat) : Bool := decide (k < N) && !o.contains k && (II.getD k []).all fun j => o.contains j
def nmO (S : List Nm) (o : List Nat) : List Nm := o.map fun i => S.getD i []
structure OdOk (p : Ps) : Prop where
  ne : ∀ s ∈ p, s.1 ≠ []
  nd : (p.map (·.1)).Nodup
  cl : closedP p
theorem nd_eq {p : Ps} (h : (p.map (·.1)).Nodup) {s t : Nm × List Nm} (hs : s ∈ p) (ht : t ∈ p) (he : s.1 = t.1) : s = t := by
  obtain ⟨i, hi, rfl⟩ := List.getElem_of_mem hs
  obtain ⟨j, hj, rfl⟩ := List.getElem_of_mem ht
  apply Decidable.byContradiction
  intro hne
  have hij : i ≠ j := fun e => hne (by subst e; rfl)
  have hp := List.pairwise_iff_getElem.1 h
  rcases Nat.lt_or_gt_of_ne hij with hlt | hlt
  · have := hp i j (by simpa using hi) (by simpa using hj) hlt
    simp at this
    exact this he
  · have := hp j i (by simpa using hj) (by simpa using hi) hlt
    simp at this
    exact this he.symm
theorem nmO_mem {S : List Nm} (hS : S.Pairwise (· < ·)) {o : List Nat} (ho : ∀ i ∈ o, i < S.length) {x : Nm} (hx : x ∈ S) : x ∈ nmO S o ↔ num S x ∈ o := by
  constructor
  · intro h
    obtain ⟨i, hi, rfl⟩ := List.mem_map.1 h
    have hl := ho i hi
    have : num S (S.getD i []) = i := num_of hS (by rw [List.getD_eq_getElem?_getD, List.getElem?_eq_getElem hl]; rfl)
    rw [this]
    exact hi
  · intro h
    exact List.mem_map.2 ⟨num S x, h, by rw [List.getD_eq_getElem?_getD, num_at hx]; rfl⟩
theorem rdy_cand {p : Ps} (h : OdOk p) {o : List Nat} (ho : ∀ i ∈ o, i < (srt p).length) {s : Nm × List Nm} (hs : s ∈ p) :
    rdy (srt p).length (grp (srt p).length (pairsOf (srt p) p)) o (num (srt p) s.1) = candB (nmO (srt p) o) s := by
  have hS := srt_lt p
  have hx := srt_name hs
  have hk := num_lt hx
  have hg := grp_at (pairsOf (srt p) p) hk
  have e1 : o.contains (num (srt p) s.1) = (nmO (srt p) o).contains s.1 := by
    rw [Bool.eq_iff_iff]
    simp only [List.contains_iff_mem]
    exact (nmO_mem hS ho hx).symm
  have e2 : ((grp (srt p).length (pairsOf (srt p) p)).getD (num (srt p) s.1) []).all (fun j => o.contains j) = s.2.all fun x => (nmO (srt p) o).contains x := by
    rw [Bool.eq_iff_iff]
    simp only [List.all_eq_true, List.contains_iff_mem]
    rw [List.getD_eq_getElem?_getD, hg]
    constructor
    · intro h1 x hx'
      rw [nmO_mem hS ho (srt_imp hs hx')]
      refine h1 _ ((grp_mem hg).2 (List.mem_flatMap.2 ⟨s, hs, List.mem_map.2 ⟨x, hx', rfl⟩⟩))
    · intro h1 j hj
      obtain ⟨t, ht, hjt⟩ := List.mem_flatMap.1 ((grp_mem hg).1 hj)
      obtain ⟨x, hx', he⟩ := List.mem_map.1 hjt
      injection he with he1 he2
      obtain rfl : t = s := nd_eq h.nd ht hs (num_inj (srt_name ht) hx he1)
      rw [← he2]
      exact (nmO_mem hS ho (srt_imp ht hx')).1 (h1 x hx')
  unfold rdy candB
  rw [e1, e2, decide_eq_true hk, Bool.true_and]
theorem srt_src {p : Ps} (h : OdOk p) {k : Nat} (hk : k < (srt p).length) : ∃ s ∈ p, (srt p)[k]? = some s.1 ∧ num (srt p) s.1 = k := by
  have hat : (srt p)[k]? = some (srt p)[k] := List.getElem?_eq_getElem hk
  have hm : (srt p)[k] ∈ srt p := List.getElem_mem _
  obtain ⟨s, hs, e | e⟩ := srt_mem hm
  · exact ⟨s, hs, by rw [← e]; exact hat, by rw [← e]; exact num_of (srt_lt p) hat⟩
  · obtain ⟨t, ht, e2⟩ := List.mem_map.1 (h.cl s hs _ e)
    exact ⟨t, ht, by rw [e2]; exact hat, by rw [e2]; exact num_of (srt_lt p) hat⟩
theorem best_first {p : Ps} (h : OdOk p) {o : List Nat} (ho : ∀ i ∈ o, i < (srt p).length) {n : Nat} (hn : rdy (srt p).length (grp (srt p).length (pairsOf (srt p) p)) o n = true) (hm : ∀ k, k < n → rdy (srt p).length (grp (srt p).length (pairsOf (srt p) p)) o k = false) :
    n < (srt p).length ∧ (srt p)[n]? = some (bestP p (nmO (srt p) o)) ∧ bestP p (nmO (srt p) o) ≠ [] := by
  have hnl : n < (srt p).length := by
    unfold rdy at hn
    simp only [Bool.and_eq_true, decide_eq_true_eq] at hn
    exact hn.1.1
  obtain ⟨s, hs, hat, hnum⟩ := srt_src h hnl
  have hc : candB (nmO (srt p) o) s = true := by rw [← rdy_cand h ho hs, hnum]; exact hn
  rcases bestP_spec (nmO (srt p) o) h.ne with ⟨_, h2⟩ | ⟨h1, ⟨t, ht, h2, h3⟩, h4⟩
  · rw [h2 s hs] at hc
    cases hc
  · refine ⟨hnl, ?_, h1⟩
    have hle := h4 s hs hc
    have hnt : ¬ num (srt p) t.1 < n := fun hlt => by
      have := hm _ hlt
      rw [rdy_cand h ho ht, h2] at this
      cases this
    have hle2 : s.1 ≤ t.1 := by
      have g1 := num_at (srt_name ht)
      obtain ⟨l1, g1'⟩ := List.getElem?_eq_some_iff.1 g1
      obtain ⟨l2, g2'⟩ := List.getElem?_eq_some_iff.1 hat
      by_cases he : n = num (srt p) t.1
      · have : s.1 = t.1 := num_inj (srt_name hs) (srt_name ht) (by rw [hnum]; exact he)
        rw [this]
        exact List.le_refl _
      · have := List.pairwise_iff_getElem.1 (srt_lt p) n (num (srt p) t.1) l2 l1 (by omega)
        rw [g1', g2'] at this
        exact List.le_of_lt this
    rw [h3] at hle2
    rw [hat, List.le_antisymm hle2 hle]
theorem best_none {p : Ps} (h : OdOk p) {o : List Nat} (ho : ∀ i ∈ o, i < (srt p).length) (hm : ∀ k, k < (srt p).length → rdy (srt p).length (grp (srt p).length (pairsOf (srt p) p)) o k = false) : bestP p (nmO (srt p) o) = [] := by
  rcases bestP_spec (nmO (srt p) o) h.ne with ⟨h1, _⟩ | ⟨_, ⟨t, ht, h2, _⟩, _⟩
  · exact h1
  · have := hm _ (num_lt (srt_name ht))
    rw [rdy_cand h ho ht, h2] at this
    cases this
/-- What is ready behind one more. -/
theorem rdy_snoc {N : Nat} {II : List (List Nat)} {o : List Nat} {n : Nat} (hl : II.length = N) (hcl : ∀ i ∈ o, ∀ j ∈ II.getD i [], j ∈ o) (hn : rdy N II o n = true) (k : Nat) :
    rdy N II (o ++ [n]) k = (rdy N II o k && decide (k ≠ n) || (decide (k < N ∧ n ∈ II.getD k []) && (II.getD k []).all fun j => (o ++ [n]).contains j)) := by
  unfold rdy at hn
  simp only [Bool.and_eq_true, decide_eq_true_eq, Bool.not_eq_true', List.all_eq_true, List.contains_iff_mem] at hn
  obtain ⟨⟨hnN, hno⟩, hall⟩ := hn
  have hno' : n ∉ o := by
    intro hm
    rw [List.contains_iff_mem.2 hm] at hno
    cases hno
  unfold rdy
  rw [Bool.eq_iff_iff]
  simp only [Bool.and_eq_true, Bool.or_eq_true, decide_eq_true_eq, Bool.not_eq_true', List.all_eq_true, List.contains_iff_mem, ← Bool.not_eq_true, List.mem_append, List.mem_singleton]
  constructor
  · rintro ⟨⟨hk, hko⟩, hka⟩
    by_cases hnk : n ∈ II.getD k []
    · exact .inr ⟨⟨hk, hnk⟩, hka⟩
    · refine .inl ⟨⟨⟨hk, fun h => hko (.inl h)⟩, fun j hj => ?_⟩, fun e => hko (.inr e)⟩
      rcases hka j hj with h | h
      · exact h
      · subst h
        exact absurd hj hnk
  · rintro (⟨⟨⟨hk, hko⟩, hka⟩, hne⟩ | ⟨⟨hk, hnk⟩, hka⟩)
    · exact ⟨⟨hk, fun h => h.elim hko hne⟩, fun j hj => .inl (hka j hj)⟩
    · refine ⟨⟨hk, fun h => ?_⟩, hka⟩
      rcases h with h | h
      · exact hno' (hcl k h n hnk)
      · subst h
        exact hno' (hall k hnk)
end Go.Proofs.YtkkpiagchkdamaaGreatDoor
