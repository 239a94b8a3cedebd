/- What is read is right: each cell is of a kind, its parts stand ahead of it. Reading hangs on the tokens alone: from a text to its tokens, and back. What is read stands in one order: a pair behind its parts, the left one first. The text that right data are shown as has tokens that tell the same data. Texts whole: their tokens, what these tell, and what blanks and remarks around change: nothing. Blanks and remarks around a text change nothing; where a reading fails. -/
import Derived.Test.YtgfkmppkeolckaaDoorPge
import Derived.Test.YtgfkmppkeolckaaDoorShp
set_option linter.unusedVariables false
namespace Go.Proofs.YtgfkmppkeolckaaDoor
/-- A right cell at a place. -/
def okD (i : Nat) (d : Dat) : Prop :=
  (d.k = 1 ∧ d.s = ⟨#[]⟩ ∧ -1000000 ≤ d.n ∧ d.n ≤ 1000000 ∧ d.l = 0 ∧ d.r = 0) ∨ (d.k = 2 ∧ d.s = ⟨#[]⟩ ∧ (d.n = 0 ∨ d.n = 1) ∧ d.l = 0 ∧ d.r = 0) ∨ (d.k = 3 ∧ syL d.s.data.toList = true ∧ d.n = 0 ∧ d.l = 0 ∧ d.r = 0) ∨ (d.k = 4 ∧ d.s = ⟨#[]⟩ ∧ d.n = 0 ∧ d.l = 0 ∧ d.r = 0) ∨ (d.k = 5 ∧ d.s = ⟨#[]⟩ ∧ d.n = 0 ∧ 0 ≤ d.l ∧ d.l < i ∧ 0 ≤ d.r ∧ d.r < i)
def okC (cs : List Dat) : Prop := ∀ (i : Nat) (d : Dat), cs[i]? = some d → okD i d
theorem okC.snoc {cs : List Dat} {d : Dat} (h : okC cs) (hd : okD cs.length d) : okC (cs ++ [d]) := by
  intro i x hx
  rcases Nat.lt_trichotomy i cs.length with hlt | heq | hgt
  · rw [List.getElem?_append_left hlt] at hx
    exact h i x hx
  · subst heq
    rw [List.getElem?_append_right (Nat.le_refl _)] at hx
    simp at hx
    subst hx
    exact hd
  · rw [List.getElem?_eq_none (by simp; omega)] at hx
    cases hx
theorem atom_ok {t : ByteArray} {d : Dat} (h : atomD t = some d) (i : Nat) : okD i d := by
  unfold atomD at h
  split at h
  · rename_i hc
    obtain rfl := Option.some.inj h
    exact .inl ⟨rfl, rfl, hc.2.1, hc.2.2, rfl, rfl⟩
  · split at h
    · obtain rfl := Option.some.inj h
      exact .inr (.inl ⟨rfl, rfl, .inr rfl, rfl, rfl⟩)
    · split at h
      · obtain rfl := Option.some.inj h
        exact .inr (.inl ⟨rfl, rfl, .inl rfl, rfl, rfl⟩)
      · split at h
        · rename_i hc
          obtain rfl := Option.some.inj h
          exact .inr (.inr (.inl ⟨rfl, hc, rfl, rfl, rfl⟩))
        · cases h
theorem quo_ok (i : Nat) : okD i quoD := .inr (.inr (.inl ⟨rfl, by decide +kernel, rfl, rfl, rfl⟩))
theorem nil_ok (i : Nat) : okD i nilD := .inr (.inr (.inr (.inl ⟨rfl, rfl, rfl, rfl, rfl⟩)))
theorem put_ok {st st' : St} {d : Dat} (h : putP st d = .ok st') (hc : okC st.cs) (hd : okD st.cs.length d) : okC st'.cs ∧ st'.cs.length = st.cs.length + 1 := by
  unfold putP at h
  split at h
  · obtain rfl := Except.ok.inj h
    exact ⟨hc.snoc hd, by simp⟩
  · cases h
theorem prS_ok {cs : List Dat} {ps : List Int} {e : Int} (hc : okC cs) (hp : ∀ p ∈ ps, 0 ≤ p ∧ p < cs.length) (he : 0 ≤ e ∧ e < cs.length) : ∀ k, k ≤ ps.length → okC (prS cs ps e k).1 ∧ 0 ≤ (prS cs ps e k).2 ∧ (prS cs ps e k).2 < (prS cs ps e k).1.length
  | 0, _ => ⟨hc, he⟩
  | k + 1, hk => by
    obtain ⟨h1, h2, h3⟩ := prS_ok hc hp he k (by omega)
    have hl := prS_length cs ps e k
    have hm : ps.getD (ps.length - 1 - k) 0 ∈ ps := by
      rw [List.getD_eq_getElem?_getD, List.getElem?_eq_getElem (by omega)]
      exact List.getElem_mem _
    obtain ⟨g1, g2⟩ := hp _ hm
    simp only [prS]
    refine ⟨h1.snoc (.inr (.inr (.inr (.inr ⟨rfl, rfl, rfl, g1, ?_, h2, h3⟩)))), ?_, ?_⟩
    · show ps.getD (ps.length - 1 - k) 0 < (((prS cs ps e k).1.length : Nat) : Int)
      rw [hl]
      omega
    · omega
    · simp
      omega
theorem prs_ok {st st' : St} {ps : List Int} (h : prsP st ps = .ok st') (hc : okC st.cs) (h1 : 1 ≤ st.cs.length) (hp : ∀ p ∈ ps, 0 ≤ p ∧ p < st.cs.length) : okC st'.cs ∧ st.cs.length ≤ st'.cs.length := by
  unfold prsP at h
  split at h
  · obtain rfl := Except.ok.inj h
    exact ⟨(prS_ok hc hp ⟨by omega, by omega⟩ _ (Nat.le_refl _)).1, by simp only [prS_length]; omega⟩
  · cases h
theorem rd_ok (s : ByteArray) : ∀ (f : Nat),
    (∀ deep b cs st', okC cs → datP s f deep b cs = .ok st' → okC st'.cs ∧ cs.length < st'.cs.length) ∧
    (∀ deep ps st st', okC st.cs → (∀ p ∈ ps, 0 ≤ p ∧ p < st.cs.length) → lstP s f deep ps st = .ok st' → okC st'.cs ∧ st.cs.length < st'.cs.length)
  | 0 => ⟨fun _ _ _ _ _ h => (by cases h), fun _ _ _ _ _ _ h => (by cases h)⟩
  | f + 1 => by
    obtain ⟨ihd, ihl⟩ := rd_ok s f
    constructor
    · intro deep b cs st' hc h
      rw [datP_succ] at h
      split at h
      · cases h
      · split at h
        · split at h
          · cases h
          · exact ihl _ _ _ _ hc (fun p hp => by cases hp) h
        · split at h
          · split at h
            · cases h
            · obtain ⟨y1, h1, h⟩ := bind_ok h
              obtain ⟨y2, h2, h⟩ := bind_ok h
              obtain ⟨y3, h3, h⟩ := bind_ok h
              obtain ⟨c1, l1⟩ := put_ok h1 hc (quo_ok _)
              obtain ⟨c2, l2⟩ := ihd _ _ _ _ c1 h2
              obtain ⟨c3, l3⟩ := put_ok h3 c2 (nil_ok _)
              have l1' : y1.cs.length = cs.length + 1 := l1
              obtain ⟨c4, l4⟩ := prs_ok h c3 (by omega) (by
                intro p hp
                simp only [List.mem_cons, List.not_mem_nil, or_false, St.top] at hp
                rcases hp with rfl | rfl
                · omega
                · omega)
              exact ⟨c4, by omega⟩
          · unfold atomP at h
            split at h
            · rename_i d hd
              obtain ⟨c1, l1⟩ := put_ok h hc (atom_ok hd _)
              have l1' : st'.cs.length = cs.length + 1 := l1
              exact ⟨c1, by omega⟩
            · cases h
    · intro deep ps st st' hc hp h
      rw [lstP_succ] at h
      split at h
      · obtain ⟨y1, h1, h⟩ := bind_ok h
        obtain ⟨c1, l1⟩ := put_ok h1 hc (nil_ok _)
        have l1' : y1.cs.length = st.cs.length + 1 := l1
        obtain ⟨c2, l2⟩ := prs_ok h c1 (by omega) (fun p hq => by have := hp p hq; omega)
        exact ⟨c2, by omega⟩
      · split at h
        · obtain ⟨y1, h1, h⟩ := bind_ok h
          obtain ⟨c1, l1⟩ := ihd _ _ _ _ hc h1
          split at h
          · obtain ⟨c2, l2⟩ := prs_ok h c1 (show 1 ≤ y1.cs.length by omega) (fun p hq => by have := hp p hq; show 0 ≤ p ∧ p < (y1.cs.length : Int); omega)
            exact ⟨c2, Nat.lt_of_lt_of_le l1 l2⟩
          · cases h
        · obtain ⟨y1, h1, h⟩ := bind_ok h
          obtain ⟨c1, l1⟩ := ihd _ _ _ _ hc h1
          obtain ⟨c2, l2⟩ := ihl _ _ _ _ c1 (by
            intro p hq
            rcases List.mem_append.1 hq with hq | hq
            · have := hp p hq; omega
            · simp only [List.mem_cons, List.not_mem_nil, or_false, St.top] at hq
              subst hq
              omega) h
          exact ⟨c2, by omega⟩
/-- All that is read of a text is right, and its tops are cells. -/
theorem top_ok (s : ByteArray) (F : Nat) : ∀ (f : Nat) (ts : List Int) (st st' : St) (ts' : List Int), okC st.cs → (∀ t ∈ ts, 0 ≤ t ∧ t < st.cs.length) → topP s F f ts st = .ok (st', ts') → okC st'.cs ∧ ∀ t ∈ ts', 0 ≤ t ∧ t < st'.cs.length
  | 0, _, _, _, _, _, _, h => by cases h
  | f + 1, ts, st, st', ts', hc, ht, h => by
    rw [topP] at h
    split at h
    · have := Except.ok.inj h
      injection this with h1 h2
      subst h1; subst h2
      exact ⟨hc, ht⟩
    · obtain ⟨y, h1, h2⟩ := bind_ok h
      obtain ⟨c1, l1⟩ := (rd_ok s F).1 _ _ _ _ hc h1
      refine top_ok s F f _ _ _ _ c1 (fun p hq => ?_) h2
      rcases List.mem_append.1 hq with hq | hq
      · have := ht p hq; omega
      · simp only [List.mem_cons, List.not_mem_nil, or_false, St.top] at hq
        subst hq
        omega
end Go.Proofs.YtgfkmppkeolckaaDoor
set_option linter.unusedVariables false
namespace Go.Proofs.YtgfkmppkeolckaaDoor
/-- The tokens from one place to another. -/
inductive Seg (s : ByteArray) : Nat → List ByteArray → Nat → Prop where
  | nil (p : Nat) : Seg s p [] p
  | cons {p q : Nat} {l : List ByteArray} (h : tkE s (skAt s p) ≠ skAt s p) (r : Seg s (tkE s (skAt s p)) l q) : Seg s p (tk s (skAt s p) :: l) q
/-- The tokens from a place to the end. -/
inductive TokS (s : ByteArray) : Nat → List ByteArray → Prop where
  | fin {p : Nat} (h : skAt s p = s.size) : TokS s p []
  | tok {p : Nat} {l : List ByteArray} (h : tkE s (skAt s p) ≠ skAt s p) (r : TokS s (tkE s (skAt s p)) l) : TokS s p (tk s (skAt s p) :: l)
theorem Seg.app {s : ByteArray} {p q u : Nat} {l m : List ByteArray} (h : Seg s p l q) (g : Seg s q m u) : Seg s p (l ++ m) u := by
  induction h with
  | nil p => exact g
  | cons h r ih => exact .cons h (ih g)
theorem Seg.fin {s : ByteArray} {p q : Nat} {l m : List ByteArray} (h : Seg s p l q) (g : TokS s q m) : TokS s p (l ++ m) := by
  induction h with
  | nil p => exact g
  | cons h r ih => exact .tok h (ih g)
/-- Reading, token by token: a datum (true), the rest of a list (false). -/
inductive RT : Bool → Nat → List Int → List ByteArray → List Dat → List ByteArray → List Dat → Prop where
  | atom {deep : Nat} {t : ByteArray} {l : List ByteArray} {cs : List Dat} {d : Dat} (h40 : (t.toList == [40]) = false) (h39 : (t.toList == [39]) = false) (hd : atomD t = some d) (hn : cs.length < 1000) : RT true deep [] (t :: l) cs l (cs ++ [d])
  | list {deep : Nat} {t : ByteArray} {l l' : List ByteArray} {cs cs' : List Dat} (h40 : (t.toList == [40]) = true) (hd : deep < 24) (h : RT false (deep + 1) [] l cs l' cs') : RT true deep [] (t :: l) cs l' cs'
  | quote {deep : Nat} {t : ByteArray} {l l' : List ByteArray} {cs cs' : List Dat} (h40 : (t.toList == [40]) = false) (h39 : (t.toList == [39]) = true) (hd : deep < 24) (hn : cs.length < 1000) (h : RT true (deep + 1) [] l (cs ++ [quoD]) l' cs') (hn2 : cs'.length + 3 ≤ 1000) : RT true deep [] (t :: l) cs l' (prS (cs' ++ [nilD]) [(cs.length : Int), (cs'.length : Int) - 1] (cs'.length : Int) 2).1
  | close {deep : Nat} {ps : List Int} {t : ByteArray} {l : List ByteArray} {cs : List Dat} (h41 : (t.toList == [41]) = true) (hn : cs.length + 1 + ps.length ≤ 1000) : RT false deep ps (t :: l) cs l (prS (cs ++ [nilD]) ps (cs.length : Int) ps.length).1
  | dot {deep : Nat} {ps : List Int} {t t2 : ByteArray} {l l' : List ByteArray} {cs cs' : List Dat} (h41 : (t.toList == [41]) = false) (h46 : (t.toList == [46]) = true) (hps : ps ≠ []) (h : RT true deep [] l cs (t2 :: l') cs') (h2 : (t2.toList == [41]) = true) (hn : cs'.length + ps.length ≤ 1000) : RT false deep ps (t :: l) cs l' (prS cs' ps ((cs'.length : Int) - 1) ps.length).1
  | more {deep : Nat} {ps : List Int} {t : ByteArray} {l l' l2 : List ByteArray} {cs cs' cs2 : List Dat} (h41 : (t.toList == [41]) = false) (h46 : ¬ ((t.toList == [46]) = true ∧ ps ≠ [])) (h : RT true deep [] (t :: l) cs l' cs') (h2 : RT false deep (ps ++ [(cs'.length : Int) - 1]) l' cs' l2 cs2) : RT false deep ps (t :: l) cs l2 cs2
theorem put_eq {st st' : St} {d : Dat} (h : putP st d = .ok st') : st.cs.length < 1000 ∧ st' = ⟨st.nx, st.la, st.cs ++ [d]⟩ := by
  unfold putP at h
  split at h
  · rename_i hc
    exact ⟨hc, (Except.ok.inj h).symm⟩
  · cases h
theorem prs_eq {st st' : St} {ps : List Int} (h : prsP st ps = .ok st') : st.cs.length + ps.length ≤ 1000 ∧ st' = ⟨st.nx, st.la, (prS st.cs ps ((st.cs.length : Int) - 1) ps.length).1⟩ := by
  unfold prsP at h
  split at h
  · rename_i hc
    exact ⟨hc, (Except.ok.inj h).symm⟩
  · cases h
/-- What was read was read of tokens. -/
theorem rd_tok (s : ByteArray) : ∀ (f : Nat),
    (∀ deep p cs st', datP s f deep (skAt s p) cs = .ok st' → ∃ l, Seg s p l st'.nx ∧ ∀ m, RT true deep [] (l ++ m) cs m st'.cs) ∧
    (∀ deep ps st st', lstP s f deep ps st = .ok st' → ∃ l, Seg s st.nx l st'.nx ∧ ∀ m, RT false deep ps (l ++ m) st.cs m st'.cs)
  | 0 => ⟨fun _ _ _ _ h => (by cases h), fun _ _ _ _ h => (by cases h)⟩
  | f + 1 => by
    obtain ⟨ihd, ihl⟩ := rd_tok s f
    constructor
    · intro deep p cs st' h
      rw [datP_succ] at h
      split at h
      · cases h
      · rename_i hN
        split at h
        · rename_i h40
          split at h
          · cases h
          · rename_i hd
            obtain ⟨l, h1, h2⟩ := ihl _ _ _ _ h
            exact ⟨_, .cons hN h1, fun m => .list h40 (by omega) (h2 m)⟩
        · rename_i h40
          split at h
          · rename_i h39
            split at h
            · cases h
            · rename_i hd
              obtain ⟨y1, e1, h⟩ := bind_ok h
              obtain ⟨y2, e2, h⟩ := bind_ok h
              obtain ⟨y3, e3, h⟩ := bind_ok h
              obtain ⟨n1, rfl⟩ := put_eq e1
              obtain ⟨l, h1, h2⟩ := ihd _ _ _ _ e2
              obtain ⟨n3, rfl⟩ := put_eq e3
              obtain ⟨n4, rfl⟩ := prs_eq h
              refine ⟨_, .cons hN h1, fun m => ?_⟩
              have := RT.quote (deep := deep) (t := tk s (skAt s p)) (by simpa using h40) h39 (by omega) n1 (h2 m) (by simp at n4; omega)
              simp only [St.top, List.length_append, List.length_cons, List.length_nil] at this ⊢
              have e4 : (((y2.cs.length + (0 + 1) : Nat) : Int) - 1) = (y2.cs.length : Int) := by omega
              have e5 : (((cs.length + (0 + 1) : Nat) : Int) - 1) = (cs.length : Int) := by omega
              rw [e4, e5]
              exact this
          · rename_i h39
            unfold atomP at h
            split at h
            · rename_i d hd
              obtain ⟨n1, rfl⟩ := put_eq h
              exact ⟨_, .cons hN (.nil _), fun m => .atom (by simpa using h40) (by simpa using h39) hd n1⟩
            · cases h
    · intro deep ps st st' h
      rw [lstP_succ] at h
      split at h
      · rename_i h41
        have hN : tkE s (skAt s st.nx) ≠ skAt s st.nx := by
          intro e
          rw [tk_nil e] at h41
          simp at h41
        obtain ⟨y1, e1, h⟩ := bind_ok h
        obtain ⟨n1, rfl⟩ := put_eq e1
        obtain ⟨n2, rfl⟩ := prs_eq h
        refine ⟨_, .cons hN (.nil _), fun m => ?_⟩
        have := RT.close (deep := deep) (ps := ps) (t := tk s (skAt s st.nx)) (l := m) (cs := st.cs) h41 (by simpa using n2)
        simp only [List.length_append, List.length_cons, List.length_nil] at this ⊢
        have e4 : (((st.cs.length + (0 + 1) : Nat) : Int) - 1) = (st.cs.length : Int) := by omega
        rw [e4]
        exact this
      · rename_i h41
        split at h
        · rename_i h46
          have hN : tkE s (skAt s st.nx) ≠ skAt s st.nx := by
            intro e
            rw [tk_nil e] at h46
            simp at h46
          obtain ⟨y1, e1, h⟩ := bind_ok h
          obtain ⟨l, h1, h2⟩ := ihd _ _ _ _ e1
          split at h
          · rename_i g41
            have hN2 : tkE s (skAt s y1.nx) ≠ skAt s y1.nx := by
              intro e
              rw [tk_nil e] at g41
              simp at g41
            obtain ⟨n2, rfl⟩ := prs_eq h
            refine ⟨_, .cons hN (h1.app (.cons hN2 (.nil _))), fun m => ?_⟩
            refine .dot (by simpa using h41) h46.1 h46.2 ?_ g41 n2
            have h3 := h2 (tk s (skAt s y1.nx) :: m)
            rw [show l ++ tk s (skAt s y1.nx) :: m = (l ++ [tk s (skAt s y1.nx)]) ++ m by simp] at h3
            exact h3
          · cases h
        · rename_i h46
          obtain ⟨y1, e1, h⟩ := bind_ok h
          obtain ⟨l, h1, h2⟩ := ihd _ _ _ _ e1
          obtain ⟨l2, g1, g2⟩ := ihl _ _ _ _ h
          cases l with
          | nil => 
            exfalso
            have := h2 []
            cases this
          | cons t l =>
            have ht : t = tk s (skAt s st.nx) := by cases h1; rfl
            refine ⟨_, h1.app g1, fun m => ?_⟩
            subst ht
            have h3 := h2 (l2 ++ m)
            rw [← List.append_assoc, List.cons_append] at h3
            exact .more (by simpa using h41) h46 h3 (g2 m)
/-- What tokens tell is read of each text that has them. -/
theorem tok_rd (s : ByteArray) {mode : Bool} {deep : Nat} {ps : List Int} {l l' : List ByteArray} {cs cs' : List Dat} (h : RT mode deep ps l cs l' cs') :
    ∀ p, p ≤ s.size → TokS s p l → match mode with
      | true => ∀ f, 2 * (s.size - skAt s p) + 1 ≤ f → ∃ nx la, datP s f deep (skAt s p) cs = .ok ⟨nx, la, cs'⟩ ∧ TokS s nx l' ∧ skAt s p < nx ∧ nx ≤ s.size
      | false => ∀ f la0, 2 * (s.size - p) + 2 ≤ f → ∃ nx la, lstP s f deep ps ⟨p, la0, cs⟩ = .ok ⟨nx, la, cs'⟩ ∧ TokS s nx l' ∧ p ≤ nx ∧ nx ≤ s.size := by
  induction h with
  | atom h40 h39 hd hn =>
    intro p hp ht
    cases ht with
    | tok hN r =>
    intro f hf
    obtain ⟨g, rfl⟩ : ∃ g, f = g + 1 := ⟨f - 1, by omega⟩
    have h1 := tkE_ge s (skAt s p)
    have h2 := tkE_le s (skAt s p) (skAt_le s p hp)
    refine ⟨tkE s (skAt s p), skAt s p, ?_, r, by omega, h2⟩
    rw [datP_succ, if_neg hN, if_neg (by rw [h40]; simp), if_neg (by rw [h39]; simp), atomP, hd]
    show putP _ _ = _
    rw [putP, if_pos hn]
  | list h40 hd h ih =>
    intro p hp ht
    cases ht with
    | tok hN r =>
    intro f hf
    obtain ⟨g, rfl⟩ : ∃ g, f = g + 1 := ⟨f - 1, by omega⟩
    have h1 := tkE_ge s (skAt s p)
    have h2 := tkE_le s (skAt s p) (skAt_le s p hp)
    obtain ⟨nx, la, e, t, n1, n2⟩ := ih _ h2 r g (skAt s p) (by omega)
    refine ⟨nx, la, ?_, t, by omega, n2⟩
    rw [datP_succ, if_neg hN, if_pos h40, if_neg (by omega)]
    exact e
  | @quote deep t l l' cs cs' h40 h39 hd hn h hn2 ih =>
    intro p hp ht
    cases ht with
    | tok hN r =>
    intro f hf
    obtain ⟨g, rfl⟩ : ∃ g, f = g + 1 := ⟨f - 1, by omega⟩
    have h1 := tkE_ge s (skAt s p)
    have h2 := tkE_le s (skAt s p) (skAt_le s p hp)
    have h3 := skAt_ge s (tkE s (skAt s p))
    obtain ⟨nx, la, e, t, n1, n2⟩ := ih _ h2 r g (by omega)
    refine ⟨nx, la, ?_, t, by omega, n2⟩
    rw [datP_succ, if_neg hN, if_neg (by rw [h40]; simp), if_pos h39, if_neg (by omega), putP, if_pos hn]
    simp only [Except.bind]
    rw [e]
    simp only [putP, prsP, St.top, List.length_append, List.length_cons, List.length_nil]
    rw [if_pos (by omega)]
    simp only [List.length_append, List.length_cons, List.length_nil]
    rw [if_pos (by omega)]
    have e4 : (((cs'.length + (0 + 1) : Nat) : Int) - 1) = (cs'.length : Int) := by omega
    have e5 : (((cs.length + (0 + 1) : Nat) : Int) - 1) = (cs.length : Int) := by omega
    rw [e4, e5]
  | @close deep ps t l cs h41 hn =>
    intro p hp ht
    cases ht with
    | tok hN r =>
    intro f la0 hf
    obtain ⟨g, rfl⟩ : ∃ g, f = g + 1 := ⟨f - 1, by omega⟩
    have h0 := skAt_ge s p
    have h1 := tkE_ge s (skAt s p)
    have h2 := tkE_le s (skAt s p) (skAt_le s p hp)
    refine ⟨tkE s (skAt s p), skAt s p, ?_, r, by omega, h2⟩
    rw [lstP_succ, if_pos h41]
    simp only [putP]
    rw [if_pos (by omega)]
    simp only [Except.bind, prsP, List.length_append, List.length_cons, List.length_nil]
    rw [if_pos (by omega)]
    have e4 : (((cs.length + (0 + 1) : Nat) : Int) - 1) = (cs.length : Int) := by omega
    rw [e4]
  | dot h41 h46 hps h h2' hn ih =>
    intro p hp ht
    cases ht with
    | tok hN r =>
    intro f la0 hf
    obtain ⟨g, rfl⟩ : ∃ g, f = g + 1 := ⟨f - 1, by omega⟩
    have h0 := skAt_ge s p
    have h1 := tkE_ge s (skAt s p)
    have h2 := tkE_le s (skAt s p) (skAt_le s p hp)
    have h3 := skAt_ge s (tkE s (skAt s p))
    obtain ⟨nx, la, e, t, n1, n2⟩ := ih _ h2 r g (by omega)
    cases t with
    | tok hN2 r2 =>
    have h4 := tkE_ge s (skAt s nx)
    have h5 := tkE_le s (skAt s nx) (skAt_le s nx n2)
    have h6 := skAt_ge s nx
    refine ⟨tkE s (skAt s nx), skAt s nx, ?_, r2, by omega, h5⟩
    rw [lstP_succ, if_neg (by rw [h41]; simp), if_pos ⟨h46, hps⟩]
    show (datP s g _ (skAt s (tkE s (skAt s p))) _).bind _ = _
    rw [e]
    simp only [Except.bind]
    rw [if_pos h2', prsP, if_pos hn]
  | more h41 h46 h h2' ih1 ih2 =>
    intro p hp ht
    have hN : tkE s (skAt s p) ≠ skAt s p := by cases ht; assumption
    have ht2 := ht
    cases ht2 with
    | tok hN r =>
    intro f la0 hf
    obtain ⟨g, rfl⟩ : ∃ g, f = g + 1 := ⟨f - 1, by omega⟩
    have h0 := skAt_ge s p
    obtain ⟨nx, la, e, t, n1, n2⟩ := ih1 p hp ht g (by omega)
    obtain ⟨nx2, la2, e2, t2, m1, m2⟩ := ih2 nx n2 t g la (by omega)
    refine ⟨nx2, la2, ?_, t2, by omega, m2⟩
    rw [lstP_succ, if_neg (by rw [h41]; simp), if_neg h46]
    show (datP s g _ (skAt s p) _).bind _ = _
    rw [e]
    exact e2
end Go.Proofs.YtgfkmppkeolckaaDoor
set_option linter.unusedVariables false
namespace Go.Proofs.YtgfkmppkeolckaaDoor
/-- Cells n to i are a datum (true), or the rest of a list (false), in order, with k levels to go. -/
inductive Can (cs : List Dat) : Bool → Nat → Nat → Nat → Prop where
  | atom {k n : Nat} {d : Dat} {b : Bool} (hd : cs[n]? = some d) (h4 : d.k ≠ 4) (h5 : d.k ≠ 5) : Can cs b k n n
  | nil {k n : Nat} {d : Dat} (hd : cs[n]? = some d) (h4 : d.k = 4) : Can cs false k n n
  | pair {k n l r : Nat} {d : Dat} (hd : cs[r + 1]? = some d) (h5 : d.k = 5) (hl : d.l = (l : Int)) (hr : d.r = (r : Int)) (h1 : Can cs true k n l) (h2 : Can cs false k (l + 1) r) : Can cs false k n (r + 1)
  | list {k n i : Nat} (h : Can cs false k n i) : Can cs true (k + 1) n i
theorem Can.le {cs : List Dat} {b : Bool} {k n i : Nat} (h : Can cs b k n i) : n ≤ i ∧ i < cs.length := by
  induction h with
  | atom hd h4 h5 => exact ⟨Nat.le_refl _, (List.getElem?_eq_some_iff.1 hd).1⟩
  | nil hd h4 => exact ⟨Nat.le_refl _, (List.getElem?_eq_some_iff.1 hd).1⟩
  | pair hd h5 hl hr h1 h2 ih1 ih2 => exact ⟨by omega, (List.getElem?_eq_some_iff.1 hd).1⟩
  | list h ih => exact ih
theorem Can.more {cs : List Dat} {b : Bool} {k n i : Nat} (h : Can cs b k n i) (x : List Dat) : Can (cs ++ x) b k n i := by
  have ap : ∀ (j : Nat) (d : Dat), cs[j]? = some d → (cs ++ x)[j]? = some d := fun j d hj => by
    rw [List.getElem?_append_left (List.getElem?_eq_some_iff.1 hj).1]; exact hj
  induction h with
  | atom hd h4 h5 => exact .atom (ap _ _ hd) h4 h5
  | nil hd h4 => exact .nil (ap _ _ hd) h4
  | pair hd h5 hl hr h1 h2 ih1 ih2 => exact .pair (ap _ _ hd) h5 hl hr ih1 ih2
  | list h ih => exact .list ih
theorem Can.up {cs : List Dat} {b : Bool} {k n i : Nat} (h : Can cs b k n i) : Can cs b (k + 1) n i := by
  induction h with
  | atom hd h4 h5 => exact .atom hd h4 h5
  | nil hd h4 => exact .nil hd h4
  | pair hd h5 hl hr h1 h2 ih1 ih2 => exact .pair hd h5 hl hr ih1 ih2
  | list h ih => exact .list ih
/-- A datum is the rest of a list too. -/
theorem Can.rest {cs : List Dat} {k n i : Nat} (h : Can cs true k n i) : Can cs false k n i := by
  cases h with
  | atom hd h4 h5 => exact .atom hd h4 h5
  | list h => exact h.up
theorem prS_snoc (cs : List Dat) (ps : List Int) (x e : Int) : ∀ k, k ≤ ps.length → prS cs (ps ++ [x]) e (k + 1) = prS (cs ++ [⟨5, 0, ⟨#[]⟩, x, e⟩]) ps (cs.length : Int) k
  | 0, _ => by
    simp only [prS]
    have : (ps ++ [x]).getD ((ps ++ [x]).length - 1 - 0) 0 = x := by simp [List.getD_eq_getElem?_getD]
    rw [this]
  | k + 1, hk => by
    have ih := prS_snoc cs ps x e k (by omega)
    have hg : (ps ++ [x]).getD ((ps ++ [x]).length - 1 - (k + 1)) 0 = ps.getD (ps.length - 1 - k) 0 := by
      simp only [List.length_append, List.length_cons, List.length_nil, List.getD_eq_getElem?_getD]
      rw [List.getElem?_append_left (by omega)]
      congr 2
      omega
    rw [prS, ih, hg]
    rfl
/-- The parts so far: one behind the other, from n to the last cell. -/
inductive Prt (cs : List Dat) (k : Nat) : Nat → List Int → Nat → Prop where
  | nil (n : Nat) : Prt cs k n [] n
  | snoc {n m i : Nat} {ps : List Int} (h : Prt cs k n ps m) (hc : Can cs true k m i) : Prt cs k n (ps ++ [(i : Int)]) (i + 1)
theorem Prt.more {cs : List Dat} {k n m : Nat} {ps : List Int} (h : Prt cs k n ps m) (x : List Dat) : Prt (cs ++ x) k n ps m := by
  induction h with
  | nil => exact .nil _
  | snoc h hc ih => exact .snoc ih (hc.more x)
/-- The pairs close a list. -/
theorem prt_close' {cs : List Dat} {k n m : Nat} {ps : List Int} (h : Prt cs k n ps m) : ∀ (X : List Dat), Can (cs ++ X) false k m ((cs ++ X).length - 1) → 1 ≤ (cs ++ X).length → Can (prS (cs ++ X) ps (((cs ++ X).length : Int) - 1) ps.length).1 false k n ((prS (cs ++ X) ps (((cs ++ X).length : Int) - 1) ps.length).1.length - 1) ∧ (cs ++ X) <+: (prS (cs ++ X) ps (((cs ++ X).length : Int) - 1) ps.length).1 := by
  induction h with
  | nil =>
    intro X hc h1
    exact ⟨hc, List.prefix_refl _⟩
  | @snoc m' i ps' h hci ih =>
    intro X hc h1
    have hle := hc.le
    obtain ⟨C, hC⟩ : ∃ C, C = cs ++ X := ⟨_, rfl⟩
    rw [← hC] at hc h1 hle ⊢
    rw [List.length_append, List.length_cons, List.length_nil, Nat.zero_add, prS_snoc C ps' _ _ ps'.length (Nat.le_refl _)]
    have e0 : C ++ [(⟨5, 0, ⟨#[]⟩, (i : Int), (C.length : Int) - 1⟩ : Dat)] = cs ++ (X ++ [(⟨5, 0, ⟨#[]⟩, (i : Int), (C.length : Int) - 1⟩ : Dat)]) := by rw [hC, List.append_assoc]
    have e1 : ((C.length : Nat) : Int) = (((C ++ [(⟨5, 0, ⟨#[]⟩, (i : Int), (C.length : Int) - 1⟩ : Dat)]).length : Nat) : Int) - 1 := by simp
    have hlast : (C ++ [(⟨5, 0, ⟨#[]⟩, (i : Int), (C.length : Int) - 1⟩ : Dat)])[(C.length - 1) + 1]? = some ⟨5, 0, ⟨#[]⟩, (i : Int), (C.length : Int) - 1⟩ := by
      rw [show C.length - 1 + 1 = C.length by omega]
      simp
    have hcan : Can (C ++ [(⟨5, 0, ⟨#[]⟩, (i : Int), (C.length : Int) - 1⟩ : Dat)]) false k m' ((C ++ [(⟨5, 0, ⟨#[]⟩, (i : Int), (C.length : Int) - 1⟩ : Dat)]).length - 1) := by
      have := Can.pair (k := k) (n := m') (l := i) (r := C.length - 1) hlast rfl rfl (by show (C.length : Int) - 1 = _; omega) (by rw [e0]; exact hci.more _) (hc.more _)
      rw [show C.length - 1 + 1 = (C ++ [(⟨5, 0, ⟨#[]⟩, (i : Int), (C.length : Int) - 1⟩ : Dat)]).length - 1 by simp; omega] at this
      exact this
    obtain ⟨D, hD⟩ : ∃ D, D = C ++ [(⟨5, 0, ⟨#[]⟩, (i : Int), (C.length : Int) - 1⟩ : Dat)] := ⟨_, rfl⟩
    have hpre : C <+: D := by rw [hD]; exact List.prefix_append _ _
    rw [← hD] at hcan e1 ⊢
    rw [← hD] at e0
    rw [e1]
    have g := ih (X ++ [(⟨5, 0, ⟨#[]⟩, (i : Int), (C.length : Int) - 1⟩ : Dat)])
    rw [← e0] at g
    obtain ⟨g1, g2⟩ := g hcan (by rw [hD]; simp)
    exact ⟨g1, hpre.trans g2⟩
theorem prt_close {k n : Nat} (ps : List Int) (cs : List Dat) (m : Nat) (h : Prt cs k n ps m) (hc : Can cs false k m (cs.length - 1)) (h1 : 1 ≤ cs.length) : Can (prS cs ps ((cs.length : Int) - 1) ps.length).1 false k n ((prS cs ps ((cs.length : Int) - 1) ps.length).1.length - 1) ∧ cs <+: (prS cs ps ((cs.length : Int) - 1) ps.length).1 := by
  have := prt_close' h []
  rw [List.append_nil] at this
  exact this hc h1
theorem atom_k {t : ByteArray} {d : Dat} (h : atomD t = some d) : d.k = 1 ∨ d.k = 2 ∨ d.k = 3 := by
  unfold atomD at h
  split at h
  · obtain rfl := Option.some.inj h; exact .inl rfl
  · split at h
    · obtain rfl := Option.some.inj h; exact .inr (.inl rfl)
    · split at h
      · obtain rfl := Option.some.inj h; exact .inr (.inl rfl)
      · split at h
        · obtain rfl := Option.some.inj h; exact .inr (.inr rfl)
        · cases h
/-- What tokens tell stands in order. -/
theorem rt_can {mode : Bool} {deep : Nat} {ps : List Int} {l l' : List ByteArray} {cs cs' : List Dat} (h : RT mode deep ps l cs l' cs') : deep ≤ 24 → match mode with
    | true => Can cs' true (24 - deep) cs.length (cs'.length - 1) ∧ cs <+: cs' ∧ cs.length < cs'.length
    | false => ∀ n, Prt cs (24 - deep) n ps cs.length → Can cs' false (24 - deep) n (cs'.length - 1) ∧ cs <+: cs' ∧ cs.length < cs'.length := by
  induction h with
  | @atom deep t l cs d h40 h39 hd hn =>
    intro _
    have hk : d.k ≠ 4 ∧ d.k ≠ 5 := by
      rcases atom_k hd with h | h | h <;> exact ⟨by omega, by omega⟩
    refine ⟨?_, List.prefix_append _ _, by simp⟩
    have : (cs ++ [d]).length - 1 = cs.length := by simp
    rw [this]
    exact .atom (by simp) hk.1 hk.2
  | @list deep t l l' cs cs' h40 hd h ih =>
    intro _
    obtain ⟨g1, g2, g3⟩ := ih (by omega) cs.length (.nil _)
    refine ⟨?_, g2, g3⟩
    have := Can.list g1
    rw [show 24 - (deep + 1) + 1 = 24 - deep by omega] at this
    exact this
  | @quote deep t l l' cs cs' h40 h39 hd hn h hn2 ih =>
    intro _
    obtain ⟨g1, g2, g3⟩ := ih (by omega)
    have hq : Can cs' true (24 - (deep + 1)) cs.length cs.length := by
      refine .atom (d := quoD) ?_ (by decide) (by decide)
      obtain ⟨x, hx⟩ := g2
      rw [← hx, List.append_assoc, List.getElem?_append_right (Nat.le_refl _)]
      simp
    have e0 : (cs ++ [quoD]).length = cs.length + 1 := by simp
    rw [e0] at g1 g3
    have hp : Prt (cs' ++ [nilD]) (24 - (deep + 1)) cs.length ([] ++ [(cs.length : Int)] ++ [((cs'.length - 1 : Nat) : Int)]) (cs'.length - 1 + 1) := .snoc (.snoc (.nil _) (hq.more _)) (g1.more _)
    have hc : Can (cs' ++ [nilD]) false (24 - (deep + 1)) (cs'.length - 1 + 1) ((cs' ++ [nilD]).length - 1) := by
      rw [show cs'.length - 1 + 1 = cs'.length by omega, show (cs' ++ [nilD]).length - 1 = cs'.length by simp]
      exact .nil (d := nilD) (by simp) rfl
    obtain ⟨k1, k2⟩ := prt_close _ _ _ hp hc (by simp)
    have e1 : (((cs' ++ [nilD]).length : Nat) : Int) - 1 = (cs'.length : Int) := by simp
    have e2 : ([] ++ [(cs.length : Int)] ++ [((cs'.length - 1 : Nat) : Int)]) = [(cs.length : Int), (cs'.length : Int) - 1] := by
      simp
      omega
    rw [e1, e2] at k1 k2
    have hl := prS_length (cs' ++ [nilD]) [(cs.length : Int), (cs'.length : Int) - 1] (cs'.length : Int) 2
    refine ⟨?_, (List.prefix_append _ _).trans (g2.trans ((List.prefix_append _ _).trans k2)), by rw [hl]; simp; omega⟩
    have := Can.list k1
    rw [show 24 - (deep + 1) + 1 = 24 - deep by omega] at this
    exact this
  | @close deep ps t l cs h41 hn =>
    intro _ n hp
    have hc : Can (cs ++ [nilD]) false (24 - deep) cs.length ((cs ++ [nilD]).length - 1) := by
      rw [show (cs ++ [nilD]).length - 1 = cs.length by simp]
      exact .nil (d := nilD) (by simp) rfl
    obtain ⟨k1, k2⟩ := prt_close _ _ _ (hp.more [nilD]) hc (by simp)
    have e1 : (((cs ++ [nilD]).length : Nat) : Int) - 1 = (cs.length : Int) := by simp
    rw [e1] at k1 k2
    have hl := prS_length (cs ++ [nilD]) ps (cs.length : Int) ps.length
    exact ⟨k1, (List.prefix_append _ _).trans k2, by rw [hl]; simp; omega⟩
  | @dot deep ps t t2 l l' cs cs' h41 h46 hps h h2 hn ih =>
    intro hdp n hp
    obtain ⟨g1, g2, g3⟩ := ih hdp
    obtain ⟨x, hx⟩ := g2
    have hp' : Prt cs' (24 - deep) n ps cs.length := by rw [← hx]; exact hp.more x
    obtain ⟨k1, k2⟩ := prt_close _ _ _ hp' g1.rest (by omega)
    have hl := prS_length cs' ps ((cs'.length : Int) - 1) ps.length
    exact ⟨k1, (show cs <+: cs' from ⟨x, hx⟩).trans k2, by rw [hl]; omega⟩
  | @more deep ps t l l' l2 cs cs' cs2 h41 h46 h h2 ih1 ih2 =>
    intro hdp n hp
    obtain ⟨g1, g2, g3⟩ := ih1 hdp
    obtain ⟨x, hx⟩ := g2
    have hp' : Prt cs' (24 - deep) n ps cs.length := by rw [← hx]; exact hp.more x
    have hs := Prt.snoc hp' g1
    have e1 : ((cs'.length - 1 : Nat) : Int) = (cs'.length : Int) - 1 := by omega
    rw [show cs'.length - 1 + 1 = cs'.length by omega, e1] at hs
    obtain ⟨k1, k2, k3⟩ := ih2 hdp n hs
    exact ⟨k1, (show cs <+: cs' from ⟨x, hx⟩).trans k2, by omega⟩
end Go.Proofs.YtgfkmppkeolckaaDoor
set_option linter.unusedVariables false
namespace Go.Proofs.YtgfkmppkeolckaaDoor
/-- Nothing follows, or a byte that is in no word. -/
def Dl (l : List UInt8) : Prop := ∀ c r, l = c :: r → wdB c = false
/-- A byte that is not passed over. -/
theorem skp_solid {c : UInt8} {r : List UInt8} (h1 : c.toNat ≠ 10) (h2 : ¬ (c.toNat = 9 ∨ c.toNat = 32)) (h3 : c.toNat ≠ 59) : skp false (c :: r) = 0 := by
  simp only [skp]
  rw [if_neg h1, if_neg (by simp), if_neg h2, if_neg h3]
theorem skAt_solid {s : ByteArray} {p : Nat} {c : UInt8} {r : List UInt8} (h : dr s p = c :: r) (h1 : c.toNat ≠ 10) (h2 : ¬ (c.toNat = 9 ∨ c.toNat = 32)) (h3 : c.toNat ≠ 59) : skAt s p = p := by
  unfold skAt
  rw [h, skp_solid h1 h2 h3]
  rfl
theorem dr_next {s : ByteArray} {p : Nat} {c : UInt8} {r : List UInt8} (h : dr s p = c :: r) : dr s (p + 1) = r := by
  have : dr s (p + 1) = (dr s p).drop 1 := by unfold dr; rw [List.drop_drop]
  rw [this, h]
  rfl
theorem dr_app {s : ByteArray} {p : Nat} {u v : List UInt8} (h : dr s p = u ++ v) : dr s (p + u.length) = v := by
  have : dr s (p + u.length) = (dr s p).drop u.length := by unfold dr; rw [List.drop_drop]
  rw [this, h]
  simp
theorem skAt_blank {s : ByteArray} {p : Nat} {c : UInt8} {r : List UInt8} (h : dr s p = c :: r) (hc : c.toNat = 10 ∨ c.toNat = 9 ∨ c.toNat = 32) : skAt s p = skAt s (p + 1) := by
  have hn := dr_next h
  unfold skAt
  rw [h, hn]
  have : skp false (c :: r) = 1 + skp false r := by
    simp only [skp]
    by_cases h1 : c.toNat = 10
    · rw [if_pos h1]
    · rw [if_neg h1, if_neg (by simp), if_pos (by omega)]
  omega
theorem wd_facts : ∀ n : Nat, n < 256 → wdB (UInt8.ofNat n) = true → n ≠ 10 ∧ n ≠ 9 ∧ n ≠ 32 ∧ n ≠ 59 ∧ parB (UInt8.ofNat n) = false := by decide +kernel
theorem wd_fact {c : UInt8} (h : wdB c = true) : c.toNat ≠ 10 ∧ c.toNat ≠ 9 ∧ c.toNat ≠ 32 ∧ c.toNat ≠ 59 ∧ parB c = false := by
  have h1 := wd_facts c.toNat c.toNat_lt
  have h2 : UInt8.ofNat c.toNat = c := by simp
  rw [h2] at h1
  exact h1 h
theorem twl_word {t rest : List UInt8} (ht : t.all wdB = true) (hr : Dl rest) : twl (t ++ rest) = t.length := by
  induction t with
  | nil =>
    cases rest with
    | nil => rfl
    | cons c r =>
      show twl (c :: r) = 0
      rw [twl_cons, hr c r rfl]
      rfl
  | cons c t ih =>
    simp only [List.all_cons, Bool.and_eq_true] at ht
    rw [List.cons_append, twl_cons, if_pos ht.1, ih ht.2]
    simp
    omega
theorem ext_toList {s : ByteArray} {p n : Nat} {t rest : List UInt8} (h : dr s p = t ++ rest) (hn : n = p + t.length) : s.extract p n = ⟨t.toArray⟩ := by
  apply ByteArray.ext
  apply Array.toList_inj.1
  simp only [ByteArray.data_extract, Array.toList_extract, List.extract_eq_take_drop]
  have : List.drop p s.data.toList = t ++ rest := h
  rw [this, hn]
  simp
/-- A word at a place. -/
theorem at_word {s : ByteArray} {p : Nat} {c : UInt8} {t rest : List UInt8} (h : dr s p = (c :: t) ++ rest) (ht : (c :: t).all wdB = true) (hr : Dl rest) : skAt s p = p ∧ tkE s p = p + (c :: t).length ∧ tk s p = ⟨(c :: t).toArray⟩ := by
  have hc : wdB c = true := by simp only [List.all_cons, Bool.and_eq_true] at ht; exact ht.1
  obtain ⟨f1, f2, f3, f4, f5⟩ := wd_fact hc
  have h0 : dr s p = c :: (t ++ rest) := h
  have e : tkE s p = p + (c :: t).length := by
    unfold tkE
    rw [h0]
    simp only [f5]
    rw [show c :: (t ++ rest) = (c :: t) ++ rest from rfl, twl_word ht hr]
    simp
  refine ⟨skAt_solid h0 f1 (by omega) f4, e, ?_⟩
  unfold tk
  exact ext_toList h e
theorem at_par {s : ByteArray} {p : Nat} {c : UInt8} {rest : List UInt8} (h : dr s p = c :: rest) (hc : c.toNat = 40 ∨ c.toNat = 41 ∨ c.toNat = 39) : skAt s p = p ∧ tkE s p = p + 1 ∧ tk s p = ⟨#[c]⟩ := by
  have e : tkE s p = p + 1 := by
    unfold tkE
    rw [h]
    simp [(par_iff c).2 hc]
  refine ⟨skAt_solid h (by omega) (by omega) (by omega), e, ?_⟩
  unfold tk
  exact ext_toList (t := [c]) (by rw [h]; rfl) e
theorem Seg.from {s : ByteArray} {p p' q : Nat} {l : List ByteArray} (h : Seg s p' l q) (hl : l ≠ []) (he : skAt s p = skAt s p') : Seg s p l q := by
  cases h with
  | nil => exact absurd rfl hl
  | cons h r =>
    rw [← he] at h r ⊢
    exact .cons h r
theorem seg_word {s : ByteArray} {p : Nat} {c : UInt8} {t rest : List UInt8} (h : dr s p = (c :: t) ++ rest) (ht : (c :: t).all wdB = true) (hr : Dl rest) : Seg s p [⟨(c :: t).toArray⟩] (p + (c :: t).length) := by
  obtain ⟨e1, e2, e3⟩ := at_word h ht hr
  have := Seg.cons (s := s) (p := p) (q := p + (c :: t).length) (l := []) (by rw [e1, e2]; simp) (by rw [e1, e2]; exact .nil _)
  rw [e1, e3] at this
  exact this
theorem seg_par {s : ByteArray} {p q : Nat} {c : UInt8} {l : List ByteArray} {rest : List UInt8} (h : dr s p = c :: rest) (hc : c.toNat = 40 ∨ c.toNat = 41 ∨ c.toNat = 39) (g : Seg s (p + 1) l q) : Seg s p (⟨#[c]⟩ :: l) q := by
  obtain ⟨e1, e2, e3⟩ := at_par h hc
  have := Seg.cons (s := s) (p := p) (q := q) (l := l) (by rw [e1, e2]; omega) (by rw [e1, e2]; exact g)
  rw [e1, e3] at this
  exact this
/-- A datum's text has tokens that tell it. -/
def DatS (cs : List Dat) (deep n i : Nat) : Prop := ∃ toks : List ByteArray, toks ≠ [] ∧ (∀ m, RT true deep [] (toks ++ m) (cs.take n) m (cs.take (i + 1))) ∧ ∀ (s : ByteArray) (p : Nat) (rest : List UInt8), dr s p = sh cs i ++ rest → Dl rest → Seg s p toks (p + (sh cs i).length)
/-- So has the rest of a list, with its end. -/
def TailS (cs : List Dat) (deep n i : Nat) : Prop := ∀ ps : List Int, ps ≠ [] → i + 1 + ps.length ≤ 1000 → ∃ toks : List ByteArray, toks ≠ [] ∧ (∀ m, RT false deep ps (toks ++ m) (cs.take n) m (prS (cs.take (i + 1)) ps (i : Int) ps.length).1) ∧ ∀ (s : ByteArray) (p : Nat) (rest : List UInt8), dr s p = rst cs i ++ 41 :: rest → Seg s p toks (p + (rst cs i).length + 1)
/-- So has what stands in brackets. -/
def OpenS (cs : List Dat) (deep n i : Nat) : Prop := ∃ (toks : List ByteArray) (inner : List UInt8), sh cs i = 40 :: (inner ++ [41]) ∧ (∀ m, RT false deep [] (toks ++ m) (cs.take n) m (cs.take (i + 1))) ∧ ∀ (s : ByteArray) (p : Nat) (rest : List UInt8), dr s p = inner ++ 41 :: rest → Seg s p toks (p + inner.length + 1)
theorem take_one {cs : List Dat} {n : Nat} {d : Dat} (h : cs[n]? = some d) : cs.take (n + 1) = cs.take n ++ [d] := by
  rw [List.take_add_one, h]
  rfl
theorem sg_wd {l : List UInt8} (h : l.all sgB = true) : l.all wdB = true := by
  rw [List.all_eq_true] at h ⊢
  intro x hx
  simp [wdB, h x hx]
theorem dig_sg : ∀ n : Nat, n < 256 → 48 ≤ n → n ≤ 57 → sgB (UInt8.ofNat n) = true := by decide +kernel
theorem dig_sg' {c : UInt8} (h : isDig c) : sgB c = true := by
  have h1 := dig_sg c.toNat c.toNat_lt h.1 h.2
  have h2 : UInt8.ofNat c.toNat = c := by simp
  rw [h2] at h1
  exact h1
/-- The text of a number is of bytes of a word. -/
theorem dec_sg (x : Int) : (decL x).all sgB = true := by
  have hd : ∀ m, (digs 20 m).all sgB = true := fun m => by
    rw [List.all_eq_true]
    exact fun c hc => dig_sg' (digs_dig 20 m c hc)
  unfold decL
  split
  · decide
  · split
    · exact hd _
    · rw [List.all_cons, hd, Bool.and_true]; decide
theorem dec_ne (x : Int) : decL x ≠ [] := by
  unfold decL
  split
  · simp
  · split
    · exact digs_ne 19 _ (by omega)
    · simp
theorem atom_num {x : Int} (h1 : -1000000 ≤ x) (h2 : x ≤ 1000000) : atomD ⟨(decL x).toArray⟩ = some (numD x) := by
  obtain ⟨_, g2, g3⟩ := of_dec x (by omega) (by omega)
  have hd : deB (decL x) = true := by
    unfold deB
    rw [g3]
    simp [g2]
  unfold atomD
  simp only [g3]
  rw [if_pos ⟨hd, h1, h2⟩]
theorem atom_sym {t : ByteArray} (h : syL t.data.toList = true) : atomD t = some (symD t) := by
  have h' := h
  simp only [syL, Bool.and_eq_true, Bool.not_eq_true', decide_eq_true_eq] at h
  obtain ⟨⟨⟨⟨a1, a2⟩, a3⟩, a4⟩, a5⟩ := h
  unfold atomD
  rw [if_neg (by rw [a5]; simp)]
  have hn : ∀ l : List UInt8, l.all sgB = false → (t.toList == l) = true → False := fun l hl he => by
    rw [ByteArray.toList_eq, beq_iff_eq] at he
    rw [he, hl] at a4
    cases a4
  rw [if_neg (hn _ (by decide)), if_neg (hn _ (by decide)), if_pos h']
/-- A cell that is no pair and no nil: its text is one word, which tells it. -/
theorem atom_text {cs : List Dat} {n : Nat} {d : Dat} (hc : okC cs) (hd : cs[n]? = some d) (h4 : d.k ≠ 4) (h5 : d.k ≠ 5) : ∃ c t, sh cs n = c :: t ∧ (c :: t).all wdB = true ∧ atomD ⟨(c :: t).toArray⟩ = some d := by
  have hs := sh_flat hd h5
  rcases hc n d hd with ⟨k, s, n1, n2, l, r⟩ | ⟨k, s, n1, l, r⟩ | ⟨k, s, n1, l, r⟩ | ⟨k, _⟩ | ⟨k, _⟩
  · rw [hs, if_pos k]
    have he : numD d.n = d := by cases d; simp_all [numD]
    cases hl : decL d.n with
    | nil => exact absurd hl (dec_ne _)
    | cons c t =>
      refine ⟨c, t, rfl, ?_, ?_⟩
      · rw [← hl]; exact sg_wd (dec_sg _)
      · rw [← hl, atom_num n1 n2, he]
  · rw [hs, if_neg (by omega), if_pos k]
    rcases n1 with n1 | n1
    · rw [if_neg (by omega)]
      have he : boolD 0 = d := by cases d; simp_all [boolD]
      refine ⟨35, [102], rfl, by decide, ?_⟩
      rw [← he]
      unfold atomD
      rw [if_neg (by decide), if_neg (by rw [ByteArray.toList_eq]; decide), if_pos (by rw [ByteArray.toList_eq]; decide)]
    · rw [if_pos n1]
      have he : boolD 1 = d := by cases d; simp_all [boolD]
      refine ⟨35, [116], rfl, by decide, ?_⟩
      rw [← he]
      unfold atomD
      rw [if_neg (by decide), if_pos (by rw [ByteArray.toList_eq]; decide)]
  · rw [hs, if_neg (by omega), if_neg (by omega), if_pos k]
    have he : symD d.s = d := by cases d; simp_all [symD]
    cases hl : d.s.data.toList with
    | nil =>
      rw [hl] at s
      simp [syL] at s
    | cons c t =>
      refine ⟨c, t, rfl, ?_, ?_⟩
      · have s' := s
        simp only [syL, Bool.and_eq_true] at s'
        rw [← hl]
        exact sg_wd s'.1.2
      · rw [← hl]
        have e : (⟨d.s.data.toList.toArray⟩ : ByteArray) = d.s := by
          apply ByteArray.ext
          simp
        rw [e, atom_sym s, he]
  · exact absurd k h4
  · exact absurd k h5
theorem atom_S {cs : List Dat} {n : Nat} {d : Dat} (hc : okC cs) (hd : cs[n]? = some d) (h4 : d.k ≠ 4) (h5 : d.k ≠ 5) (hn : n + 1 ≤ 1000) (deep : Nat) : DatS cs deep n n := by
  obtain ⟨c, t, hs, hw, ha⟩ := atom_text hc hd h4 h5
  refine ⟨[⟨(c :: t).toArray⟩], by simp, fun m => ?_, fun s p rest h hr => ?_⟩
  · rw [take_one hd]
    have hne : ∀ x : UInt8, wdB x = false → ((⟨(c :: t).toArray⟩ : ByteArray).toList == [x]) = false := fun x hx => by
      rw [ByteArray.toList_eq, beq_eq_false_iff_ne]
      intro e
      have e' : c :: t = [x] := by simpa using e
      rw [e'] at hw
      simp [hx] at hw
    have hlt : n < cs.length := (List.getElem?_eq_some_iff.1 hd).1
    exact .atom (hne 40 (by decide)) (hne 39 (by decide)) ha (by rw [List.length_take]; omega)
  · rw [hs] at h ⊢
    exact seg_word h hw hr
/-- No datum begins with ) or a point. -/
theorem rt_head {deep : Nat} {t : ByteArray} {l l' : List ByteArray} {cs cs' : List Dat} (h : RT true deep [] (t :: l) cs l' cs') : (t.toList == [41]) = false ∧ (t.toList == [46]) = false := by
  have hn : ∀ x : UInt8, atomD ⟨#[x]⟩ = none → ∀ d, atomD t = some d → (t.toList == [x]) = false := fun x hx d hd => by
    rw [ByteArray.toList_eq, beq_eq_false_iff_ne]
    intro e
    have e' : t = ⟨#[x]⟩ := by
      apply ByteArray.ext
      apply Array.toList_inj.1
      simpa using e
    rw [e', hx] at hd
    cases hd
  have n41 : atomD ⟨#[41]⟩ = none := by
    unfold atomD
    rw [if_neg (by decide), if_neg (by rw [ByteArray.toList_eq]; decide), if_neg (by rw [ByteArray.toList_eq]; decide), if_neg (by decide)]
  have n46 : atomD ⟨#[46]⟩ = none := by
    unfold atomD
    rw [if_neg (by decide), if_neg (by rw [ByteArray.toList_eq]; decide), if_neg (by rw [ByteArray.toList_eq]; decide), if_neg (by decide)]
  cases h with
  | atom h40 h39 hd hn' => exact ⟨hn 41 n41 _ hd, hn 46 n46 _ hd⟩
  | list h40 hd h =>
    rw [beq_iff_eq] at h40
    rw [h40]
    exact ⟨by decide, by decide⟩
  | quote h40 h39 hd hn h hn2 =>
    rw [beq_iff_eq] at h39
    rw [h39]
    exact ⟨by decide, by decide⟩
theorem one_list (x : UInt8) : (⟨#[x]⟩ : ByteArray).toList = [x] := by rw [ByteArray.toList_eq]
theorem nil_is {cs : List Dat} {n : Nat} {d : Dat} (hc : okC cs) (hd : cs[n]? = some d) (h4 : d.k = 4) : d = nilD := by
  rcases hc n d hd with ⟨k, _⟩ | ⟨k, _⟩ | ⟨k, _⟩ | ⟨k, s, n1, l, r⟩ | ⟨k, _⟩
  · omega
  · omega
  · omega
  · cases d; simp_all [nilD]
  · omega
theorem pair_is {cs : List Dat} {n l r : Nat} {d : Dat} (hc : okC cs) (hd : cs[n]? = some d) (h5 : d.k = 5) (hl : d.l = (l : Int)) (hr : d.r = (r : Int)) : d = ⟨5, 0, ⟨#[]⟩, (l : Int), (r : Int)⟩ := by
  rcases hc n d hd with ⟨k, _⟩ | ⟨k, _⟩ | ⟨k, _⟩ | ⟨k, _⟩ | ⟨k, s, n1, _⟩
  · omega
  · omega
  · omega
  · omega
  · cases d; simp_all
theorem pairOk_of {cs : List Dat} (hc : okC cs) : PairOk cs := by
  intro i d hd h5
  rcases hc i d hd with ⟨k, _⟩ | ⟨k, _⟩ | ⟨k, _⟩ | ⟨k, _⟩ | ⟨k, s, n1, a, b, c, e⟩
  · omega
  · omega
  · omega
  · omega
  · exact ⟨a, b, c, e⟩
theorem dl_par {c : UInt8} {r : List UInt8} (h : wdB c = false) : Dl (c :: r) := by
  intro x y e
  injection e with e1 e2
  rw [← e1]
  exact h
theorem rst_dl {cs : List Dat} (hp : PairOk cs) {r : Nat} (hr : r < cs.length) (rest : List UInt8) : Dl (rst cs r ++ 41 :: rest) := by
  obtain ⟨d, hd⟩ : ∃ d, cs[r]? = some d := ⟨_, List.getElem?_eq_getElem hr⟩
  by_cases h5 : d.k = 5
  · rw [rst_pair hp hd h5, List.cons_append]
    exact dl_par (by decide)
  · by_cases h4 : d.k = 4
    · rw [rst_nil hd h4]
      exact dl_par (by decide)
    · rw [rst_other hd h5 h4]
      exact dl_par (by decide)
/-- What stands in order is shown as a text whose tokens tell it. -/
theorem can_show {cs : List Dat} (hc : okC cs) {b : Bool} {k n i : Nat} (h : Can cs b k n i) : ∀ deep, deep + k ≤ 24 → i + 1 ≤ 1000 → match b with
    | true => DatS cs deep n i
    | false => TailS cs deep n i ∧ (∀ d, cs[i]? = some d → (d.k = 4 ∨ d.k = 5) → OpenS cs deep n i) := by
  have hp := pairOk_of hc
  induction h with
  | @atom k n d b hd h4 h5 =>
    intro deep hk hn
    have hS := atom_S hc hd h4 h5 hn deep
    cases b with
    | true => exact hS
    | false =>
      refine ⟨fun ps hps hl => ?_, fun d' hd' hk' => ?_⟩
      · obtain ⟨toks, t1, t2, t3⟩ := hS
        refine ⟨⟨#[46]⟩ :: (toks ++ [⟨#[41]⟩]), by simp, fun m => ?_, fun s p rest h => ?_⟩
        · have h1 := t2 (⟨#[41]⟩ :: m)
          have hlt : n < cs.length := (List.getElem?_eq_some_iff.1 hd).1
          have hlen : (cs.take (n + 1)).length = n + 1 := by rw [List.length_take]; omega
          have h2 := RT.dot (deep := deep) (ps := ps) (t := ⟨#[46]⟩) (t2 := ⟨#[41]⟩) (l' := m) (by rw [one_list]; decide) (by rw [one_list]; decide) hps h1 (by rw [one_list]; decide) (by rw [hlen]; exact hl)
          rw [hlen, show ((n + 1 : Nat) : Int) - 1 = (n : Int) by omega] at h2
          rw [show ⟨#[46]⟩ :: (toks ++ [⟨#[41]⟩]) ++ m = ⟨#[46]⟩ :: (toks ++ ⟨#[41]⟩ :: m) by simp]
          exact h2
        · rw [rst_other hd h5 h4] at h ⊢
          have d1 := dr_next (c := 32) (r := 46 :: 32 :: (sh cs n ++ 41 :: rest)) (by rw [h]; simp)
          have d2 := dr_next d1
          have d3 := dr_next d2
          have sg3 := t3 s (p + 1 + 1 + 1) (41 :: rest) d3 (dl_par (by decide))
          have d4 := dr_app d3
          have sg4 := seg_par d4 (.inr (.inl rfl)) (.nil _)
          have sg5 := (sg3.app sg4).from (p := p + 1 + 1) (by simp) (skAt_blank d2 (.inr (.inr rfl)))
          have sg6 : Seg s (p + 1) [⟨#[46]⟩] (p + 1 + 1) := seg_word (t := []) (by rw [d1]; rfl) (by decide) (dl_par (by decide))
          have sg7 := (sg6.app sg5).from (p := p) (by simp) (skAt_blank (c := 32) (r := 46 :: 32 :: (sh cs n ++ 41 :: rest)) (by rw [h]; simp) (.inr (.inr rfl)))
          have e : p + 1 + 1 + 1 + (sh cs n).length + 1 = p + ([32, 46, 32] ++ sh cs n).length + 1 := by simp; omega
          rw [e] at sg7
          exact sg7
      · have := Option.some.inj (hd'.symm.trans hd)
        subst this
        rcases hk' with h | h
        · exact absurd h h4
        · exact absurd h h5
  | @nil k n d hd h4 =>
    intro deep hk hn
    have hnil := nil_is hc hd h4
    have hlt : n < cs.length := (List.getElem?_eq_some_iff.1 hd).1
    have hln : (cs.take n).length = n := by rw [List.length_take]; omega
    have close : ∀ (ps : List Int), n + 1 + ps.length ≤ 1000 → ∀ m, RT false deep ps (⟨#[41]⟩ :: m) (cs.take n) m (prS (cs.take (n + 1)) ps (n : Int) ps.length).1 := fun ps hl m => by
      have := RT.close (deep := deep) (ps := ps) (t := ⟨#[41]⟩) (l := m) (cs := cs.take n) (by rw [one_list]; decide) (by rw [hln]; exact hl)
      rw [hln] at this
      rw [take_one hd, hnil]
      exact this
    refine ⟨fun ps hps hl => ⟨[⟨#[41]⟩], by simp, close ps hl, fun s p rest h => ?_⟩, fun d' hd' hk' => ?_⟩
    · rw [rst_nil hd h4] at h ⊢
      exact seg_par h (.inr (.inl rfl)) (.nil _)
    · refine ⟨[⟨#[41]⟩], [], ?_, fun m => ?_, fun s p rest h => seg_par h (.inr (.inl rfl)) (.nil _)⟩
      · rw [sh_flat hd (by omega), if_neg (by omega), if_neg (by omega), if_neg (by omega), if_pos h4]
        rfl
      · exact close [] (by simpa using hn) m
  | @pair k n l r d hd h5 hl hr h1 h2 ih1 ih2 =>
    intro deep hk hn
    have hd' := pair_is hc hd h5 hl hr
    obtain ⟨toks, t1, t2, t3⟩ := ih1 deep hk (by have := h1.le; have := h2.le; omega)
    obtain ⟨tail, _⟩ := ih2 deep hk (by omega)
    have hr1 := h2.le
    have hl1 := h1.le
    have hlt : r + 1 < cs.length := (List.getElem?_eq_some_iff.1 hd).1
    have hlen : (cs.take (l + 1)).length = l + 1 := by rw [List.length_take]; omega
    have hlen2 : (cs.take (r + 1)).length = r + 1 := by rw [List.length_take]; omega
    have hlT : d.l.toNat = l := by omega
    have hrT : d.r.toNat = r := by omega
    cases toks with
    | nil => exact absurd rfl t1
    | cons t toks =>
    have more : ∀ (ps : List Int) (toks2 : List ByteArray), (∀ m, RT false deep (ps ++ [(l : Int)]) (toks2 ++ m) (cs.take (l + 1)) m (prS (cs.take (r + 1)) (ps ++ [(l : Int)]) (r : Int) (ps ++ [(l : Int)]).length).1) → ∀ m, RT false deep ps (((t :: toks) ++ toks2) ++ m) (cs.take n) m (prS (cs.take (r + 1 + 1)) ps ((r + 1 : Nat) : Int) ps.length).1 := fun ps toks2 h m => by
      have g1 := t2 (toks2 ++ m)
      rw [List.cons_append] at g1
      obtain ⟨n1, n2⟩ := rt_head g1
      have g2 := h m
      have e1 : (((cs.take (l + 1)).length : Nat) : Int) - 1 = (l : Int) := by rw [hlen]; omega
      have g3 := RT.more (deep := deep) (ps := ps) n1 (fun x => by rw [n2] at x; exact absurd x.1 (by simp)) g1 (by rw [e1]; exact g2)
      rw [List.length_append, List.length_cons, List.length_nil, Nat.zero_add, prS_snoc _ ps _ _ ps.length (Nat.le_refl _), hlen2] at g3
      rw [take_one hd, hd', List.append_assoc, List.cons_append]
      exact g3
    refine ⟨fun ps hps hpl => ?_, fun d2 hd2 hk2 => ?_⟩
    · obtain ⟨toks2, u1, u2, u3⟩ := tail (ps ++ [(l : Int)]) (by simp) (by simp; omega)
      refine ⟨(t :: toks) ++ toks2, by simp, more ps toks2 u2, fun s p rest h => ?_⟩
      rw [rst_pair hp hd h5, hlT, hrT] at h ⊢
      have d1 := dr_next (c := 32) (r := sh cs l ++ (rst cs r ++ 41 :: rest)) (by rw [h]; simp)
      have dl : Dl (rst cs r ++ 41 :: rest) := rst_dl hp (by omega) rest
      have s1 := t3 s (p + 1) _ d1 dl
      have s2 := u3 s _ rest (dr_app d1)
      have s3 := (s1.app s2).from (p := p) (by simp) (skAt_blank (c := 32) (r := sh cs l ++ (rst cs r ++ 41 :: rest)) (by rw [h]; simp) (.inr (.inr rfl)))
      have e : p + 1 + (sh cs l).length + (rst cs r).length + 1 = p + (32 :: (sh cs l ++ rst cs r)).length + 1 := by simp; omega
      rw [e] at s3
      exact s3
    · obtain ⟨toks2, u1, u2, u3⟩ := tail [(l : Int)] (by simp) (by simp; omega)
      refine ⟨(t :: toks) ++ toks2, sh cs l ++ rst cs r, ?_, more [] toks2 u2, fun s p rest h => ?_⟩
      · rw [sh_pair hp hd h5, hlT, hrT]
      · have d1 : dr s p = sh cs l ++ (rst cs r ++ 41 :: rest) := by rw [h]; simp
        have dl : Dl (rst cs r ++ 41 :: rest) := rst_dl hp (by omega) rest
        have s1 := t3 s p _ d1 dl
        have s2 := u3 s _ rest (dr_app d1)
        have s3 := s1.app s2
        have e : p + (sh cs l).length + (rst cs r).length + 1 = p + (sh cs l ++ rst cs r).length + 1 := by simp; omega
        rw [e] at s3
        exact s3
  | @list k n i h ih =>
    intro deep hk hn
    obtain ⟨_, op⟩ := ih (deep + 1) (by omega) hn
    have hle := h.le
    obtain ⟨d, hd⟩ : ∃ d, cs[i]? = some d := ⟨_, List.getElem?_eq_getElem hle.2⟩
    by_cases hk2 : d.k = 4 ∨ d.k = 5
    · obtain ⟨toks, inner, e1, e2, e3⟩ := op d hd hk2
      refine ⟨⟨#[40]⟩ :: toks, by simp, fun m => .list (by rw [one_list]; decide) (by omega) (e2 m), fun s p rest h hr => ?_⟩
      rw [e1] at h ⊢
      have h' : dr s p = 40 :: (inner ++ 41 :: rest) := by rw [h]; simp
      have s1 := e3 s (p + 1) rest (dr_next h')
      have s2 := seg_par h' (.inl rfl) s1
      have e : p + 1 + inner.length + 1 = p + (40 :: (inner ++ [41])).length := by simp; omega
      rw [e] at s2
      exact s2
    · cases h with
      | atom hd' h4 h5 => exact atom_S hc hd' h4 h5 hn deep
      | nil hd' h4 =>
        have := Option.some.inj (hd'.symm.trans hd)
        subst this
        exact absurd (.inl h4) hk2
      | pair hd' h5 hl hr h1 h2 =>
        have := Option.some.inj (hd'.symm.trans hd)
        subst this
        exact absurd (.inr h5) hk2
end Go.Proofs.YtgfkmppkeolckaaDoor
set_option linter.unusedVariables false
namespace Go.Proofs.YtgfkmppkeolckaaDoor
/-- Data side by side, token by token. -/
inductive TT : List ByteArray → List Dat → List Int → List Dat → List Int → Prop where
  | fin {cs : List Dat} {ts : List Int} : TT [] cs ts cs ts
  | more {l l' : List ByteArray} {cs cs' cs2 : List Dat} {ts ts2 : List Int} (h : RT true 0 [] l cs l' cs') (r : TT l' cs' (ts ++ [(cs'.length : Int) - 1]) cs2 ts2) : TT l cs ts cs2 ts2
theorem top_tok (s : ByteArray) (F : Nat) : ∀ (f : Nat) (ts : List Int) (st st' : St) (ts' : List Int), topP s F f ts st = .ok (st', ts') → ∃ l, TokS s st.nx l ∧ TT l st.cs ts st'.cs ts'
  | 0, _, _, _, _, h => by cases h
  | f + 1, ts, st, st', ts', h => by
    rw [topP] at h
    split at h
    · rename_i he
      have := Except.ok.inj h
      injection this with h1 h2
      subst h1; subst h2
      exact ⟨[], .fin he, .fin⟩
    · obtain ⟨y, h1, h2⟩ := bind_ok h
      obtain ⟨l1, g1, g2⟩ := (rd_tok s F).1 _ _ _ _ h1
      obtain ⟨l2, k1, k2⟩ := top_tok s F f _ _ _ _ h2
      exact ⟨l1 ++ l2, g1.fin k1, .more (g2 l2) k2⟩
theorem tok_top {l : List ByteArray} {cs cs' : List Dat} {ts ts' : List Int} (h : TT l cs ts cs' ts') : ∀ (s : ByteArray) (p la F f : Nat), TokS s p l → p ≤ s.size → 2 * s.size + 2 ≤ F → s.size - skAt s p + 1 ≤ f → ∃ st', topP s F f ts ⟨p, la, cs⟩ = .ok (st', ts') ∧ st'.cs = cs' := by
  induction h with
  | @fin cs ts =>
    intro s p la F f ht hp hF hf
    obtain ⟨g, rfl⟩ : ∃ g, f = g + 1 := ⟨f - 1, by omega⟩
    cases ht with
    | fin he =>
      refine ⟨⟨p, la, cs⟩, ?_, rfl⟩
      rw [topP, if_pos he]
  | @more l l' cs cs' cs2 ts ts2 h r ih =>
    intro s p la F f ht hp hF hf
    obtain ⟨g, rfl⟩ : ∃ g, f = g + 1 := ⟨f - 1, by omega⟩
    obtain ⟨nx, la2, e, t, n1, n2⟩ := tok_rd s h p hp ht F (by omega)
    have h3 := skAt_ge s nx
    obtain ⟨st', e2, e3⟩ := ih s nx la2 F g t n2 hF (by omega)
    refine ⟨st', ?_, e3⟩
    rw [topP, if_neg (by show ¬ skAt s p = s.size; omega)]
    show (datP s F 0 (skAt s p) cs).bind _ = _
    rw [e]
    exact e2
theorem rt_len {mode : Bool} {deep : Nat} {ps : List Int} {l l' : List ByteArray} {cs cs' : List Dat} (h : RT mode deep ps l cs l' cs') : cs'.length ≤ 1000 := by
  induction h with
  | atom h40 h39 hd hn => simp; omega
  | list h40 hd h ih => exact ih
  | quote h40 h39 hd hn h hn2 ih => rw [prS_length]; simp; omega
  | close h41 hn => rw [prS_length]; simp; omega
  | dot h41 h46 hps h h2 hn ih => rw [prS_length]; exact hn
  | more h41 h46 h h2 ih1 ih2 => exact ih2
/-- What is told stands in order: the tops one behind the other. -/
theorem tt_can {l : List ByteArray} {cs cs' : List Dat} {ts ts' : List Int} (h : TT l cs ts cs' ts') : Prt cs 24 0 ts cs.length → cs.length ≤ 1000 → Prt cs' 24 0 ts' cs'.length ∧ cs'.length ≤ 1000 := by
  induction h with
  | fin => exact fun h1 h2 => ⟨h1, h2⟩
  | @more l l' cs cs' cs2 ts ts2 h r ih =>
    intro h1 h2
    obtain ⟨g1, g2, g3⟩ := rt_can h (by omega)
    obtain ⟨x, hx⟩ := g2
    have hp : Prt cs' 24 0 ts cs.length := by rw [← hx]; exact h1.more x
    have hs := Prt.snoc hp g1
    rw [show cs'.length - 1 + 1 = cs'.length by omega, show ((cs'.length - 1 : Nat) : Int) = (cs'.length : Int) - 1 by omega] at hs
    exact ih hs (rt_len h)
/-- The whole text of right data: its tokens tell them. -/
theorem all_show {cs : List Dat} (hc : okC cs) (hn : cs.length ≤ 1000) {ts : List Int} {m : Nat} (h : Prt cs 24 0 ts m) : ∃ toks : List ByteArray, (∀ l X Y, TT l (cs.take m) ts X Y → TT (toks ++ l) [] [] X Y) ∧ ∀ (s : ByteArray) (p : Nat) (rest : List UInt8), dr s p = shAll cs ts ++ rest → ∃ q, Seg s p toks q ∧ skAt s q = skAt s (p + (shAll cs ts).length) := by
  induction h with
  | nil => exact ⟨[], fun l X Y h => by simpa using h, fun s p rest h => ⟨p, .nil p, by simp [shAll]⟩⟩
  | @snoc m i ts h hci ih =>
    obtain ⟨toks, t1, t2⟩ := ih
    have hle := hci.le
    obtain ⟨u, u1, u2, u3⟩ := can_show hc hci 0 (by omega) (by omega)
    have hlen : (cs.take (i + 1)).length = i + 1 := by rw [List.length_take]; omega
    refine ⟨toks ++ u, fun l X Y g => ?_, fun s p rest g => ?_⟩
    · rw [List.append_assoc]
      refine t1 _ _ _ (.more (u2 l) ?_)
      rw [hlen, show ((i + 1 : Nat) : Int) - 1 = (i : Int) by omega]
      exact g
    · have e : shAll cs (ts ++ [(i : Int)]) = shAll cs ts ++ (sh cs i ++ [10]) := by simp [shAll]
      rw [e] at g ⊢
      rw [List.append_assoc] at g
      obtain ⟨q, s1, s2⟩ := t2 s p _ g
      have d1 := dr_app g
      have d2 : dr s (p + (shAll cs ts).length) = sh cs i ++ (10 :: rest) := by rw [d1]; simp
      have s3 := u3 s _ (10 :: rest) d2 (dl_par (by decide))
      have s4 := s3.from (p := q) u1 s2
      refine ⟨_, s1.app s4, ?_⟩
      have d3 := dr_app d2
      rw [skAt_blank d3 (.inl rfl)]
      congr 1
      simp
      omega
/-- The cells from n to i. -/
def rng (cs : List Dat) (n i : Nat) : List Dat := (cs.take (i + 1)).drop n
def ints (n i : Nat) : List Int := (List.range' n (i - n)).map fun (j : Nat) => (j : Int)
theorem ints_split {n l r : Nat} (h1 : n ≤ l) (h2 : l ≤ r) : ints n r = ints n l ++ ints l r := by
  unfold ints
  rw [← List.map_append]
  congr 1
  rw [show r - n = (l - n) + (r - l) by omega, ← List.range'_append_1]
  rw [show n + (l - n) = l by omega]
theorem ints_one (n : Nat) : ints n (n + 1) = [(n : Int)] := by
  unfold ints
  rw [show n + 1 - n = 1 by omega]
  rfl
theorem ints_nil (n : Nat) : ints n n = [] := by simp [ints]
theorem rng_one {cs : List Dat} {n : Nat} {d : Dat} (hd : cs[n]? = some d) : rng cs n n = [d] := by
  unfold rng
  have hlt : n < cs.length := (List.getElem?_eq_some_iff.1 hd).1
  rw [take_one hd, List.drop_append_of_le_length (by rw [List.length_take]; omega)]
  rw [List.drop_eq_nil_of_le (by rw [List.length_take]; omega)]
  rfl
theorem rng_split {cs : List Dat} {n l r : Nat} (h1 : n ≤ l + 1) (h2 : l ≤ r) (h3 : r < cs.length) : rng cs n r = rng cs n l ++ rng cs (l + 1) r := by
  unfold rng
  have e : cs.take (r + 1) = cs.take (l + 1) ++ (cs.take (r + 1)).drop (l + 1) := by
    have := List.take_append_drop (l + 1) (cs.take (r + 1))
    rw [List.take_take, Nat.min_eq_left (by omega)] at this
    exact this.symm
  conv => lhs; rw [e]
  rw [List.drop_append_of_le_length (by rw [List.length_take]; omega)]
/-- In a range each cell but the last one is a part just once. -/
theorem can_uses {cs : List Dat} {b : Bool} {k n i : Nat} (h : Can cs b k n i) : List.Perm ((rng cs n i).flatMap partsOf) (ints n i) := by
  induction h with
  | @atom k n d b hd h4 h5 =>
    rw [rng_one hd, ints_nil]
    simp [partsOf, h5]
  | @nil k n d hd h4 =>
    rw [rng_one hd, ints_nil]
    simp [partsOf, h4]
  | @pair k n l r d hd h5 hl hr h1 h2 ih1 ih2 =>
    have a1 := h1.le
    have a2 := h2.le
    have a3 : r + 1 < cs.length := (List.getElem?_eq_some_iff.1 hd).1
    rw [rng_split (l := r) (by omega) (by omega) a3, rng_split (l := l) (by omega) (by omega) (by omega), rng_one hd, List.flatMap_append, List.flatMap_append]
    have e1 : [d].flatMap partsOf = [(l : Int), (r : Int)] := by simp [partsOf, h5, hl, hr]
    rw [e1, ints_split (l := l) (by omega) (by omega), ints_split (n := l) (l := l + 1) (by omega) (by omega), ints_split (n := l + 1) (l := r) (by omega) (by omega), ints_one, ints_one]
    have p1 := (ih1.append ih2).append_right [(l : Int), (r : Int)]
    refine p1.trans ?_
    rw [List.append_assoc]
    refine List.Perm.append_left _ ?_
    rw [show ints (l + 1) r ++ [(l : Int), (r : Int)] = ints (l + 1) r ++ ([(l : Int)] ++ [(r : Int)]) from rfl, ← List.append_assoc]
    rw [← List.append_assoc]
    exact List.Perm.append_right _ List.perm_append_comm
  | list h ih => exact ih
theorem prt_le {cs : List Dat} {k n m : Nat} {ps : List Int} (h : Prt cs k n ps m) : n ≤ m ∧ (m = n ∨ m ≤ cs.length) := by
  induction h with
  | nil => exact ⟨Nat.le_refl _, .inl rfl⟩
  | snoc h hc ih =>
    have := hc.le
    exact ⟨by omega, .inr (by omega)⟩
theorem prt_uses {cs : List Dat} {ps : List Int} {m : Nat} (h : Prt cs 24 0 ps m) : List.Perm ((cs.take m).flatMap partsOf ++ ps) (ints 0 m) := by
  induction h with
  | nil => simp [ints]
  | @snoc m i ps h hci ih =>
    have a := hci.le
    have e : cs.take (i + 1) = cs.take m ++ rng cs m i := by
      unfold rng
      have := List.take_append_drop m (cs.take (i + 1))
      rw [List.take_take, Nat.min_eq_left (by omega)] at this
      exact this.symm
    rw [e, List.flatMap_append, ints_split (l := m) (by omega) (show m ≤ i + 1 by omega), ints_split (n := m) (l := i) (by omega) (by omega), ints_one]
    have p1 := ih.append ((can_uses hci).append_right [(i : Int)])
    refine List.Perm.trans ?_ p1
    rw [List.append_assoc, List.append_assoc]
    refine List.Perm.append_left _ ?_
    rw [← List.append_assoc, ← List.append_assoc]
    exact List.Perm.append_right _ List.perm_append_comm
theorem prt_tops {cs : List Dat} {k n m : Nat} {ps : List Int} (h : Prt cs k n ps m) : ∀ t ∈ ps, 0 ≤ t ∧ t < cs.length := by
  induction h with
  | nil => intro t ht; cases ht
  | @snoc m i ps h hci ih =>
    intro t ht
    have a := hci.le
    rcases List.mem_append.1 ht with ht | ht
    · exact ih t ht
    · simp at ht
      subst ht
      omega
theorem count_ints {m i : Nat} (h : i < m) : (ints 0 m).count (i : Int) = 1 := by
  have e : ints 0 m = ints 0 i ++ [(i : Int)] ++ ints (i + 1) m := by
    rw [ints_split (l := i) (by omega) (show i ≤ m by omega), ints_split (n := i) (l := i + 1) (by omega) (by omega), ints_one, List.append_assoc]
  have z1 : (ints 0 i).count (i : Int) = 0 := by
    rw [List.count_eq_zero]
    intro hm
    simp [ints] at hm
    omega
  have z2 : (ints (i + 1) m).count (i : Int) = 0 := by
    rw [List.count_eq_zero]
    intro hm
    simp [ints] at hm
    omega
  rw [e, List.count_append, List.count_append, z1, z2]
  simp
/-- What stands in order is a row of trees. -/
theorem prt_tree {cs : List Dat} {ts : List Int} (hc : okC cs) (h : Prt cs 24 0 ts cs.length) : TreeP cs ts := by
  refine ⟨pairOk_of hc, prt_tops h, fun i hi => ?_⟩
  have p := prt_uses h
  rw [List.take_length] at p
  show (cs.flatMap partsOf ++ ts).count (i : Int) = 1
  rw [p.count_eq]
  exact count_ints hi
/-- READ OF SHOW OF WHAT IS READ IS IT. -/
theorem trip {s : ByteArray} {F f : Nat} {st : St} {ts : List Int} (h : topP s F f [] ⟨0, 0, []⟩ = .ok (st, ts)) : TreeP st.cs ts ∧ ∀ F' f', 2 * (shAll st.cs ts).length + 2 ≤ F' → (shAll st.cs ts).length + 1 ≤ f' → ∃ st', topP ⟨(shAll st.cs ts).toArray⟩ F' f' [] ⟨0, 0, []⟩ = .ok (st', ts) ∧ st'.cs = st.cs := by
  obtain ⟨l, t1, t2⟩ := top_tok s F f _ _ _ _ h
  obtain ⟨hc, _⟩ := top_ok s F f _ _ _ _ (fun i d hd => by simp at hd) (fun t ht => by cases ht) h
  obtain ⟨hp, hn⟩ := tt_can t2 (.nil _) (by simp)
  refine ⟨prt_tree hc hp, fun F' f' hF hf => ?_⟩
  obtain ⟨toks, u1, u2⟩ := all_show hc hn hp
  have hsz : (⟨(shAll st.cs ts).toArray⟩ : ByteArray).size = (shAll st.cs ts).length := by
    show (shAll st.cs ts).toArray.size = _
    simp
  obtain ⟨q, s1, s2⟩ := u2 ⟨(shAll st.cs ts).toArray⟩ 0 [] (by simp [dr])
  have hend : skAt ⟨(shAll st.cs ts).toArray⟩ q = (⟨(shAll st.cs ts).toArray⟩ : ByteArray).size := by
    rw [s2, Nat.zero_add, ← hsz]
    unfold skAt
    rw [dr_end _ _ (Nat.le_refl _)]
    simp [skp]
  have ht := s1.fin (.fin hend)
  rw [List.append_nil] at ht
  have htt := u1 [] st.cs ts (by rw [List.take_length]; exact .fin)
  rw [List.append_nil] at htt
  exact tok_top htt _ 0 0 F' f' ht (Nat.zero_le _) (by rw [hsz]; exact hF) (by rw [hsz]; omega)
end Go.Proofs.YtgfkmppkeolckaaDoor
set_option linter.unusedVariables false
namespace Go.Proofs.YtgfkmppkeolckaaDoor
theorem skp_in : ∀ (rem : Bool) (l x : List UInt8), skp rem l < l.length → skp rem (l ++ x) = skp rem l
  | _, [], x, h => by simp at h
  | rem, c :: r, x, h => by
    have i1 := skp_in false r x
    have i2 := skp_in true r x
    simp only [skp, List.length_cons, List.cons_append] at h ⊢
    by_cases h1 : c.toNat = 10
    · rw [if_pos h1] at h ⊢
      rw [if_pos h1, i1 (by omega)]
    · rw [if_neg h1] at h ⊢
      rw [if_neg h1]
      by_cases h2 : rem = true
      · rw [if_pos h2] at h ⊢
        rw [if_pos h2, i2 (by omega)]
      · rw [if_neg h2] at h ⊢
        rw [if_neg h2]
        by_cases h3 : c.toNat = 9 ∨ c.toNat = 32
        · rw [if_pos h3] at h ⊢
          rw [if_pos h3, i1 (by omega)]
        · rw [if_neg h3] at h ⊢
          rw [if_neg h3]
          by_cases h4 : c.toNat = 59
          · rw [if_pos h4] at h ⊢
            rw [if_pos h4, i2 (by omega)]
          · rw [if_neg h4, if_neg h4]
theorem skp_over : ∀ (rem : Bool) (l x : List UInt8), skp rem l = l.length → skp rem (l ++ 10 :: x) = l.length + 1 + skp false x
  | rem, [], x, _ => by
    show skp rem (10 :: x) = 0 + 1 + skp false x
    simp only [skp]
    rw [if_pos (by decide)]
  | rem, c :: r, x, h => by
    have i1 := skp_over false r x
    have i2 := skp_over true r x
    simp only [skp, List.length_cons, List.cons_append] at h ⊢
    by_cases h1 : c.toNat = 10
    · rw [if_pos h1] at h ⊢
      rw [i1 (by omega)]
      omega
    · rw [if_neg h1] at h ⊢
      by_cases h2 : rem = true
      · rw [if_pos h2] at h ⊢
        rw [i2 (by omega)]
        omega
      · rw [if_neg h2] at h ⊢
        by_cases h3 : c.toNat = 9 ∨ c.toNat = 32
        · rw [if_pos h3] at h ⊢
          rw [i1 (by omega)]
          omega
        · rw [if_neg h3] at h ⊢
          by_cases h4 : c.toNat = 59
          · rw [if_pos h4] at h ⊢
            rw [i2 (by omega)]
            omega
          · rw [if_neg h4] at h
            omega
theorem twl_app : ∀ (l x : List UInt8), Dl x → twl (l ++ x) = twl l
  | [], x, h => by
    cases x with
    | nil => rfl
    | cons c r => show twl (c :: r) = 0; rw [twl_cons, h c r rfl]; rfl
  | c :: l, x, h => by
    rw [List.cons_append, twl_cons, twl_cons, twl_app l x h]
theorem TokS.from {s : ByteArray} {p p' : Nat} {l : List ByteArray} (h : TokS s p' l) (he : skAt s p = skAt s p') : TokS s p l := by
  cases h with
  | fin h => exact .fin (he.trans h)
  | tok h r =>
    rw [← he] at h r ⊢
    exact .tok h r
/-- The tokens of a text in a greater one, a new row behind it. -/
theorem tok_in {s s' : ByteArray} {k : Nat} {x : List UInt8} (hx : skp false x = x.length) (hs : ∀ p, p ≤ s.size → dr s' (k + p) = dr s p ++ 10 :: x) (hz : s'.size = k + s.size + (x.length + 1)) {p : Nat} {l : List ByteArray} (h : TokS s p l) : p ≤ s.size → TokS s' (k + p) l := by
  induction h with
  | @fin p he =>
    intro hp
    refine .fin ?_
    have hl := dr_len s p
    unfold skAt at he ⊢
    rw [hs p hp, skp_over false _ x (by rw [hl]; omega), hx, hl, hz]
    omega
  | @tok p l hN r ih =>
    intro hp
    have hb := skAt_le s p hp
    have hbl : skAt s p < s.size := by
      rcases Nat.lt_or_ge (skAt s p) s.size with h | h
      · exact h
      · exact absurd (by rw [show skAt s p = s.size by omega]; exact tkE_fin s) hN
    have hl := dr_len s p
    have e1 : skAt s' (k + p) = k + skAt s p := by
      unfold skAt at hbl ⊢
      rw [hs p hp, skp_in false _ _ (by rw [hl]; omega)]
      omega
    have d := hs (skAt s p) hb
    have e2 : tkE s' (k + skAt s p) = k + tkE s (skAt s p) := by
      unfold tkE
      rw [d]
      cases hd : dr s (skAt s p) with
      | nil =>
        have := dr_len s (skAt s p)
        rw [hd] at this
        simp at this
        omega
      | cons c u =>
        simp only [List.cons_append]
        cases hpb : parB c with
        | true => simp; omega
        | false =>
          simp only [Bool.false_eq_true, if_false]
          rw [show c :: (u ++ 10 :: x) = (c :: u) ++ 10 :: x from rfl, twl_app _ _ (dl_par (by decide))]
          omega
    have hE := tkE_le s (skAt s p) hb
    have hG := tkE_ge s (skAt s p)
    have e3 : tk s' (k + skAt s p) = tk s (skAt s p) := by
      have hsp : dr s (skAt s p) = (dr s (skAt s p)).take (tkE s (skAt s p) - skAt s p) ++ (dr s (skAt s p)).drop (tkE s (skAt s p) - skAt s p) := (List.take_append_drop _ _).symm
      have hln : ((dr s (skAt s p)).take (tkE s (skAt s p) - skAt s p)).length = tkE s (skAt s p) - skAt s p := by
        rw [List.length_take, dr_len]
        omega
      unfold tk
      rw [e2, ext_toList hsp (by rw [hln]; omega)]
      refine ext_toList (rest := (dr s (skAt s p)).drop (tkE s (skAt s p) - skAt s p) ++ 10 :: x) ?_ (by rw [hln]; omega)
      rw [d, ← List.append_assoc, List.take_append_drop]
    have := TokS.tok (s := s') (p := k + p) (l := l) (by rw [e1, e2]; omega) (by rw [e1, e2]; exact ih hE)
    rw [e1, e3] at this
    exact this
/-- Where reading fails is in the text. -/
theorem bind_err {α β : Type} {r : Except Nat α} {G : α → Except Nat β} {p : Nat} (h : r.bind G = .error p) : r = .error p ∨ ∃ y, r = .ok y ∧ G y = .error p := by
  cases r with
  | error e => exact .inl (congrArg Except.error (Except.error.inj (show (Except.error e : Except Nat β) = .error p from h)))
  | ok y => exact .inr ⟨y, rfl, h⟩
theorem put_err {st : St} {d : Dat} {p : Nat} (h : putP st d = .error p) : p = st.la := by
  unfold putP at h
  split at h
  · cases h
  · exact (Except.error.inj h).symm
theorem prs_err {st : St} {ps : List Int} {p : Nat} (h : prsP st ps = .error p) : p = st.la := by
  unfold prsP at h
  split at h
  · cases h
  · exact (Except.error.inj h).symm
theorem put_la {st st' : St} {d : Dat} (h : putP st d = .ok st') : st'.la = st.la := by
  obtain ⟨_, rfl⟩ := put_eq h
  rfl
theorem prs_la {st st' : St} {ps : List Int} (h : prsP st ps = .ok st') : st'.la = st.la := by
  obtain ⟨_, rfl⟩ := prs_eq h
  rfl
theorem rd_err (s : ByteArray) : ∀ (f : Nat),
    (∀ deep b cs, b ≤ s.size → (∀ p, datP s f deep b cs = .error p → p ≤ s.size) ∧ ∀ st', datP s f deep b cs = .ok st' → st'.la ≤ s.size) ∧
    (∀ deep ps st, st.nx ≤ s.size → (∀ p, lstP s f deep ps st = .error p → p ≤ s.size) ∧ ∀ st', lstP s f deep ps st = .ok st' → st'.la ≤ s.size)
  | 0 => ⟨fun _ b _ hb => ⟨fun p h => by have : b = p := Except.error.inj h; omega, fun _ h => (by cases h)⟩, fun _ _ st hb => ⟨fun p h => by have : st.nx = p := Except.error.inj h; omega, fun _ h => (by cases h)⟩⟩
  | f + 1 => by
    obtain ⟨ihd, ihl⟩ := rd_err s f
    have pg := rd_prog s f
    constructor
    · intro deep b cs hb
      have hE := tkE_le s b hb
      rw [datP_succ]
      split
      · exact ⟨fun p h => by have := Except.error.inj h; omega, fun _ h => (by cases h)⟩
      · split
        · split
          · exact ⟨fun p h => by have := Except.error.inj h; omega, fun _ h => (by cases h)⟩
          · exact ihl _ _ _ hE
        · split
          · split
            · exact ⟨fun p h => by have := Except.error.inj h; omega, fun _ h => (by cases h)⟩
            · constructor
              · intro p h
                rcases bind_err h with h | ⟨y1, e1, h⟩
                · have := put_err h; simp only at this; omega
                · have n1 := putP_nx e1
                  simp only at n1
                  rcases bind_err h with h | ⟨y2, e2, h⟩
                  · exact (ihd _ _ _ (skAt_le s _ (by omega))).1 _ h
                  · have l2 := (ihd _ _ _ (skAt_le s _ (by omega))).2 _ e2
                    rcases bind_err h with h | ⟨y3, e3, h⟩
                    · have := put_err h; omega
                    · have l3 := put_la e3
                      have := prs_err h
                      omega
              · intro st' h
                obtain ⟨y1, e1, h⟩ := bind_ok h
                obtain ⟨y2, e2, h⟩ := bind_ok h
                obtain ⟨y3, e3, h⟩ := bind_ok h
                have n1 := putP_nx e1
                simp only at n1
                have l2 := (ihd _ _ _ (skAt_le s _ (by omega))).2 _ e2
                have l3 := put_la e3
                have l4 := prs_la h
                omega
          · unfold atomP
            split
            · exact ⟨fun p h => by have := put_err h; simp only at this; omega, fun st' h => by have := put_la h; simp only at this; omega⟩
            · exact ⟨fun p h => by have := Except.error.inj h; simp only at this; omega, fun _ h => (by cases h)⟩
    · intro deep ps st hb
      have hA := skAt_le s st.nx hb
      have hE := tkE_le s _ hA
      rw [lstP_succ]
      split
      · constructor
        · intro p h
          rcases bind_err h with h | ⟨y1, e1, h⟩
          · have := put_err h; simp only at this; omega
          · have l1 := put_la e1
            simp only at l1
            have := prs_err h
            omega
        · intro st' h
          obtain ⟨y1, e1, h⟩ := bind_ok h
          have l1 := put_la e1
          simp only at l1
          have := prs_la h
          omega
      · split
        · have hB := skAt_le s _ hE
          constructor
          · intro p h
            rcases bind_err h with h | ⟨y1, e1, h⟩
            · exact (ihd _ _ _ hB).1 _ h
            · have n1 := (pg.1 _ _ _ _ hB e1).2
              have n2 := skAt_le s _ n1
              split at h
              · have := prs_err h; simp only at this; omega
              · have := Except.error.inj h; omega
          · intro st' h
            obtain ⟨y1, e1, h⟩ := bind_ok h
            have n1 := (pg.1 _ _ _ _ hB e1).2
            have n2 := skAt_le s _ n1
            split at h
            · have := prs_la h; simp only at this; omega
            · cases h
        · constructor
          · intro p h
            rcases bind_err h with h | ⟨y1, e1, h⟩
            · exact (ihd _ _ _ hA).1 _ h
            · exact (ihl _ _ _ (pg.1 _ _ _ _ hA e1).2).1 _ h
          · intro st' h
            obtain ⟨y1, e1, h⟩ := bind_ok h
            exact (ihl _ _ _ (pg.1 _ _ _ _ hA e1).2).2 _ h
theorem top_err (s : ByteArray) (F : Nat) : ∀ (f : Nat) (ts : List Int) (st : St) (p : Nat), st.nx ≤ s.size → topP s F f ts st = .error p → p ≤ s.size
  | 0, _, st, p, hn, h => by have : st.nx = p := Except.error.inj h; omega
  | f + 1, ts, st, p, hn, h => by
    rw [topP] at h
    split at h
    · cases h
    · have hA := skAt_le s st.nx hn
      rcases bind_err h with h | ⟨y, e, h⟩
      · exact ((rd_err s F).1 _ _ _ hA).1 _ h
      · exact top_err s F f _ _ _ (datP_prog hA e).2 h
end Go.Proofs.YtgfkmppkeolckaaDoor
