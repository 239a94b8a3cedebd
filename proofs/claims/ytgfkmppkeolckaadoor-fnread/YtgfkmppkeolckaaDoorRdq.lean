/- The two Reads: what they tell, of the text shown and of the text in a frame too. -/
import Derived.Test.YtgfkmppkeolckaaDoorRdo
import Derived.Test.YtgfkmppkeolckaaDoorPtx
set_option linter.unusedVariables false
namespace Go.Proofs.YtgfkmppkeolckaaDoor
open Go.ChangeShapes Go.WideShapes Go.ChangeAt Go.RowKit
/-- Both Reads of a text, off the plain reading. -/
theorem reads_of (s : ByteArray) (hs : s.size ≤ 33554432) (L : Except Nat (St × List Int)) (hL : topP s (2 * s.size + 2) (s.size + 1) [] ⟨0, 0, []⟩ = L) : (∀ w, Calls Tryd.prog 9 #[.string s] w fun e w' => RdO (oC L) (oT L) (oP L) w e w') ∧ (∀ w, Calls Tryd.prog 8 #[.string s] w fun e w' => RdO (oC L) (oT L) (oP L) w e w') := by
  refine ⟨fun w => ?_, fun w => ?_⟩
  · have := specRead_any s w hs (2 * s.size + 2) (by omega) (s.size + 1) (by omega)
    rw [hL] at this
    refine this.mono fun e w' h => ?_
    obtain ⟨ao, bo, ca, cb, h1, h2, h3, h4, h5⟩ := RdS.out h
    exact ⟨ao, bo, ca, cb, h1, h3, h4, h5, h2⟩
  · have := implRead_any s (2 * s.size + 2) (s.size + 1) w hs (by omega) (by omega)
    rw [hL] at this
    refine this.mono fun e w' h => ?_
    obtain ⟨ao, bo, ca, cb, h1, h2, h3, h4, h5⟩ := RdS.out h
    exact ⟨ao, bo, ca, cb, h1, h3, h4, h5, h2⟩
def preB : List UInt8 := [32, 59, 32, 120, 10, 9]
def postB : List UInt8 := [32, 59, 32, 101, 110, 100]
theorem post_skp : skp false postB = postB.length := by decide
/-- The text in its frame. -/
def frm (s : ByteArray) : ByteArray := ⟨(preB ++ (s.data.toList ++ 10 :: postB)).toArray⟩
theorem frm_size (s : ByteArray) : (frm s).size = 6 + s.size + (postB.length + 1) := by
  show (preB ++ (s.data.toList ++ 10 :: postB)).toArray.size = _
  simp [preB, postB]
  omega
theorem frm_dr (s : ByteArray) (p : Nat) (hp : p ≤ s.size) : dr (frm s) (6 + p) = dr s p ++ 10 :: postB := by
  show List.drop (6 + p) (preB ++ (s.data.toList ++ 10 :: postB)) = List.drop p s.data.toList ++ 10 :: postB
  have h1 : List.drop (6 + p) preB = [] := List.drop_eq_nil_of_le (by show 6 ≤ 6 + p; omega)
  have h2 : 6 + p - preB.length = p := by show 6 + p - 6 = p; omega
  rw [List.drop_append, h1, h2, List.nil_append, List.drop_append_of_le_length (by simpa using hp)]
theorem framed {s : ByteArray} {F f : Nat} {st : St} {ts : List Int} (h : topP s F f [] ⟨0, 0, []⟩ = .ok (st, ts)) : ∃ st', topP (frm s) (2 * (frm s).size + 2) ((frm s).size + 1) [] ⟨0, 0, []⟩ = .ok (st', ts) ∧ st'.cs = st.cs := by
  obtain ⟨l, t1, t2⟩ := top_tok s F f _ _ _ _ h
  have g := tok_in (s := s) (s' := frm s) (k := 6) (x := postB) post_skp (frm_dr s) (frm_size s) t1 (Nat.zero_le _)
  have e : skAt (frm s) 0 = skAt (frm s) (6 + 0) := by
    have d0 := frm_dr s 0 (Nat.zero_le _)
    have dz : dr (frm s) 0 = preB ++ dr (frm s) (6 + 0) := by
      rw [d0]
      rfl
    unfold skAt
    rw [dz]
    obtain ⟨r, hr⟩ : ∃ r, r = dr (frm s) (6 + 0) := ⟨_, rfl⟩
    rw [← hr]
    have : skp false (preB ++ r) = 6 + skp false r := by
      simp [preB, skp]
      omega
    rw [this]
    omega
  exact tok_top t2 (frm s) 0 0 _ _ (g.from e) (Nat.zero_le _) (Nat.le_refl _) (by omega)
theorem ok_size {cs : List Dat} (h : okC cs) : ∀ d ∈ cs, d.s.size ≤ 16 := by
  intro d hd
  obtain ⟨i, hi⟩ := List.mem_iff_getElem?.1 hd
  rcases h i d hi with ⟨_, s, _⟩ | ⟨_, s, _⟩ | ⟨_, s, _⟩ | ⟨_, s, _⟩ | ⟨_, s, _⟩
  · rw [s]; decide
  · rw [s]; decide
  · simp only [syL, Bool.and_eq_true, decide_eq_true_eq] at s
    have := s.1.1.1.2
    simpa using this
  · rw [s]; decide
  · rw [s]; decide
theorem bulk_le : ∀ (cs : List Dat), (∀ d ∈ cs, d.s.size ≤ 16) → bulkD cs ≤ 17 * cs.length
  | [], _ => by simp [bulkD]
  | d :: cs, h => by
    have h1 := h d (by simp)
    have h2 := bulk_le cs fun x hx => h x (by simp [hx])
    simp only [bulkD, List.length_cons]
    omega
/-- All that the law of Read asks of a text. -/
theorem reads_all (s : ByteArray) (hs : s.size ≤ 30000) : ∃ (cs : List Dat) (ts : List Int) (p : Int), ts.length ≤ 33554432 ∧ (∀ w, Calls Tryd.prog 9 #[.string s] w fun e w' => RdO cs ts p w e w') ∧ (∀ w, Calls Tryd.prog 8 #[.string s] w fun e w' => RdO cs ts p w e w') ∧
    ((p = -1 ∧ okC cs ∧ cs.length ≤ 1000 ∧ ts.length ≤ s.size ∧ TreeP cs ts ∧ (∀ w, Calls Tryd.prog 9 #[.string ⟨(shAll cs ts).toArray⟩] w fun e w' => RdO cs ts (-1) w e w') ∧ (∀ w, Calls Tryd.prog 8 #[.string ⟨(shAll cs ts).toArray⟩] w fun e w' => RdO cs ts (-1) w e w') ∧ (∀ w, Calls Tryd.prog 8 #[.string (frm s)] w fun e w' => RdO cs ts (-1) w e w')) ∨ (0 ≤ p ∧ p ≤ s.size ∧ cs = [] ∧ ts = [])) := by
  obtain ⟨L, hL⟩ : ∃ L, topP s (2 * s.size + 2) (s.size + 1) [] ⟨0, 0, []⟩ = L := ⟨_, rfl⟩
  obtain ⟨r1, r2⟩ := reads_of s (by omega) L hL
  have hT : (oT L).length ≤ s.size := by rw [← hL]; exact oT_len s _ _
  refine ⟨oC L, oT L, oP L, by omega, r1, r2, ?_⟩
  match L, hL, hT with
  | .error p, hL, hT =>
    have := top_err s _ _ _ _ _ (Nat.zero_le _) hL
    exact .inr ⟨by simp [oP], by simp only [oP]; omega, rfl, rfl⟩
  | .ok (st, ts), hL, hT =>
    obtain ⟨hc, _⟩ := top_ok s _ _ _ _ _ _ (fun i d hd => by simp at hd) (fun t ht => by cases ht) hL
    obtain ⟨l, t1, t2⟩ := top_tok s _ _ _ _ _ _ hL
    obtain ⟨hp, hn⟩ := tt_can t2 (.nil _) (by simp)
    obtain ⟨tr, sh'⟩ := trip hL
    have hb : bulkD st.cs + ts.length ≤ 1048576 := by
      have h1 := bulk_le _ (ok_size hc)
      have h2 : ts.length ≤ s.size := hT
      omega
    have hsz := shAll_bound tr hb
    have hsz' : (⟨(shAll st.cs ts).toArray⟩ : ByteArray).size = (shAll st.cs ts).length := by
      show (shAll st.cs ts).toArray.size = _
      simp
    obtain ⟨st1, e1, e2⟩ := sh' (2 * (⟨(shAll st.cs ts).toArray⟩ : ByteArray).size + 2) ((⟨(shAll st.cs ts).toArray⟩ : ByteArray).size + 1) (by omega) (by omega)
    obtain ⟨st2, e3, e4⟩ := framed hL
    obtain ⟨q1, q2⟩ := reads_of ⟨(shAll st.cs ts).toArray⟩ (by omega) _ e1
    have hf := frm_size s
    obtain ⟨q3, q4⟩ := reads_of (frm s) (by rw [hf]; simp [postB]; omega) _ e3
    refine .inl ⟨rfl, hc, hn, hT, tr, ?_, ?_, ?_⟩
    · have : oC (.ok (st1, ts)) = st.cs := e2
      rw [this] at q1
      exact q1
    · have : oC (.ok (st1, ts)) = st.cs := e2
      rw [this] at q2
      exact q2
    · have : oC (.ok (st2, ts)) = st.cs := e4
      rw [this] at q4
      exact q4
end Go.Proofs.YtgfkmppkeolckaaDoor
