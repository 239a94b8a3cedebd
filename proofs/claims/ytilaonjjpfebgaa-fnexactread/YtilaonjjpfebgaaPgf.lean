/- The program's reader: a datum. -/
import Derived.Test.YtilaonjjpfebgaaPge
set_option linter.unusedVariables false
namespace Go.Proofs.Ytilaonjjpfebgaa
open Go.ChangeShapes Go.WideShapes Go.ChangeAt Go.RowKit
theorem atomP_none (st : St) : atomP st ⟨#[]⟩ = .error st.la := by
  have h : atomD ⟨#[]⟩ = none := by
    unfold atomD
    rw [if_neg (by decide), if_neg (by rw [ByteArray.toList_eq]; decide), if_neg (by rw [ByteArray.toList_eq]; decide), if_neg (by decide)]
  simp only [atomP, h]
theorem tk_size (t : ByteArray) (b : Nat) (hs : t.size ≤ 1048576) : (tk t b).size ≤ 1048576 := by
  unfold tk
  rw [ByteArray.size_extract]
  omega
set_option maxRecDepth 100000 in
set_option maxHeartbeats 1000000 in
theorem datum_list (R : Nat) (s : ByteArray) (w : World) (P : Ending → World → Prop) (q40 : (s.toList == [40]) = true) (h : Calls Try.prog 29 #[.pointer (some ⟨R, 0, none⟩)] w P) (hP : ∀ e w', P e w' → (∃ x, e = .returned (.int .i64 x)) ∨ ∃ p, e = bad p) :
    Calls Try.prog 13 #[.pointer (some ⟨R, 0, none⟩), .string s] w P := by
  have H : Hid (Calls Try.prog 29 #[.pointer (some ⟨R, 0, none⟩)] w P) := h
  have HP : Hid (∀ e w', P e w' → (∃ x, e = .returned (.int .i64 x)) ∨ ∃ p, e = bad p) := hP
  clear h hP
  go_enter Try.func13, Try.ntmps13
  go_wp2_with fail
  refine H.out.mono ?_
  intro e w2 hp
  rcases HP.out e w2 hp with ⟨v, rfl⟩ | ⟨p, rfl⟩
  · go_wp2
    exact hp
  · simp only [bad] at hp ⊢
    go_wp2
    exact ⟨rfl, hp⟩
set_option maxRecDepth 100000 in
set_option maxHeartbeats 1000000 in
theorem datum_quote (R : Nat) (s : ByteArray) (w : World) (P : Ending → World → Prop) (q40 : (s.toList == [40]) = false) (q39 : (s.toList == [39]) = true) (h : Calls Try.prog 30 #[.pointer (some ⟨R, 0, none⟩)] w P) (hP : ∀ e w', P e w' → (∃ x, e = .returned (.int .i64 x)) ∨ ∃ p, e = bad p) :
    Calls Try.prog 13 #[.pointer (some ⟨R, 0, none⟩), .string s] w P := by
  have H : Hid (Calls Try.prog 30 #[.pointer (some ⟨R, 0, none⟩)] w P) := h
  have HP : Hid (∀ e w', P e w' → (∃ x, e = .returned (.int .i64 x)) ∨ ∃ p, e = bad p) := hP
  clear h hP
  go_enter Try.func13, Try.ntmps13
  go_wp2_with fail
  refine H.out.mono ?_
  intro e w2 hp
  rcases HP.out e w2 hp with ⟨v, rfl⟩ | ⟨p, rfl⟩
  · go_wp2
    exact hp
  · simp only [bad] at hp ⊢
    go_wp2
    exact ⟨rfl, hp⟩
set_option maxRecDepth 100000 in
set_option maxHeartbeats 1000000 in
theorem datum_word (R : Nat) (s : ByteArray) (w : World) (P : Ending → World → Prop) (q40 : (s.toList == [40]) = false) (q39 : (s.toList == [39]) = false) (h : Calls Try.prog 31 #[.pointer (some ⟨R, 0, none⟩), .string s] w P) (hP : ∀ e w', P e w' → (∃ x, e = .returned (.int .i64 x)) ∨ ∃ p, e = bad p) :
    Calls Try.prog 13 #[.pointer (some ⟨R, 0, none⟩), .string s] w P := by
  have H : Hid (Calls Try.prog 31 #[.pointer (some ⟨R, 0, none⟩), .string s] w P) := h
  have HP : Hid (∀ e w', P e w' → (∃ x, e = .returned (.int .i64 x)) ∨ ∃ p, e = bad p) := hP
  clear h hP
  go_enter Try.func13, Try.ntmps13
  go_wp2_with fail
  refine H.out.mono ?_
  intro e w2 hp
  rcases HP.out e w2 hp with ⟨v, rfl⟩ | ⟨p, rfl⟩
  · go_wp2
    exact hp
  · simp only [bad] at hp ⊢
    go_wp2
    exact ⟨rfl, hp⟩
theorem PgPost.two {R B : Nat} {t : ByteArray} {deep : Nat} {r : Except Nat St} {w : World} : ∀ e w', PgPost R B t deep r w e w' → (∃ x, e = .returned (.int .i64 x)) ∨ ∃ p, e = bad p := by
  rintro e w' (⟨st, a1, a2, a3, a4, a5⟩ | ⟨p, a1, a2, a3⟩)
  · exact .inl ⟨_, a2⟩
  · exact .inr ⟨_, a2⟩
theorem datum_any (R B : Nat) (t : ByteArray) (hs : t.size ≤ 1048576) (hB : B ≤ R) (f : Nat) : ∀ deep, deep ≤ 24 → DatQ R B t f deep := by
  induction f using Nat.strongRecOn with
  | ind f ih =>
    intro deep hdeep b cs w hb hbt hf hrs
    cases f with
    | zero => omega
    | succ f =>
      rw [datP_succ]
      by_cases hN : tkE t b = b
      · rw [if_pos hN]
        have hbs : b = t.size := by
          rcases hbt with h | h
          · exact h
          · exact absurd hN h
        have htk : tk t b = ⟨#[]⟩ := by rw [hbs]; exact tk_end t
        rw [htk]
        have hw := word_any R B t deep ⟨tkE t b, b, cs⟩ ⟨#[]⟩ w (by decide) hB hrs
        rw [atomP_none] at hw
        exact datum_word R _ w _ (by rw [ByteArray.toList_eq]; decide) (by rw [ByteArray.toList_eq]; decide) hw PgPost.two
      · rw [if_neg hN]
        have h1 := tkE_ge t b
        have h2 := tkE_le t b hb
        by_cases q40 : ((tk t b).toList == [40]) = true
        · rw [if_pos q40]
          exact datum_list R _ w _ q40 (list_any R B t f deep ⟨tkE t b, b, cs⟩ w hs hB hdeep (by show 2 * (t.size - tkE t b) + 2 ≤ f; omega) (fun g hg deep hd => ih g (by omega) deep hd) hrs) PgPost.two
        · rw [if_neg q40]
          by_cases q39 : ((tk t b).toList == [39]) = true
          · rw [if_pos q39]
            have hbl : b < t.size := by
              rcases Nat.lt_or_ge b t.size with h | h
              · exact h
              · exact absurd (by have : b = t.size := by omega
                                 rw [this]; exact tkE_fin t) hN
            exact datum_quote R _ w _ (by simpa using q40) q39 (quoted_any R B t f deep ⟨tkE t b, b, cs⟩ w hs hB hdeep (by show 2 * (t.size - tkE t b) + 1 ≤ f; omega) (fun deep hd => ih f (by omega) deep hd) hrs) PgPost.two
          · rw [if_neg q39]
            exact datum_word R _ w _ (by simpa using q40) (by simpa using q39) (word_any R B t deep ⟨tkE t b, b, cs⟩ _ w (tk_size t b hs) hB hrs) PgPost.two
end Go.Proofs.Ytilaonjjpfebgaa
