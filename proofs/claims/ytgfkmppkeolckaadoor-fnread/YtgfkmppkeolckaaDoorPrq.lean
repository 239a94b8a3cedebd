/- Reading goes forward. -/
import Derived.Test.YtgfkmppkeolckaaDoorRex
set_option linter.unusedVariables false
namespace Go.Proofs.YtgfkmppkeolckaaDoor
theorem bind_ok {α β : Type} {r : Except Nat α} {F : α → Except Nat β} {x : β} (h : r.bind F = .ok x) : ∃ y, r = .ok y ∧ F y = .ok x := by
  cases r with
  | error e => cases h
  | ok y => exact ⟨y, rfl, h⟩
theorem putP_nx {st st' : St} {d : Dat} (h : putP st d = .ok st') : st'.nx = st.nx := by
  unfold putP at h
  split at h
  · obtain rfl := Except.ok.inj h; rfl
  · cases h
theorem prsP_nx {st st' : St} {ps : List Int} (h : prsP st ps = .ok st') : st'.nx = st.nx := by
  unfold prsP at h
  split at h
  · obtain rfl := Except.ok.inj h; rfl
  · cases h
theorem atomP_nx {st st' : St} {t : ByteArray} (h : atomP st t = .ok st') : st'.nx = st.nx := by
  unfold atomP at h
  split at h
  · exact putP_nx h
  · cases h
theorem rd_prog (s : ByteArray) : ∀ (f : Nat),
    (∀ deep b cs st', b ≤ s.size → datP s f deep b cs = .ok st' → b < st'.nx ∧ st'.nx ≤ s.size) ∧
    (∀ deep ps st st', st.nx ≤ s.size → lstP s f deep ps st = .ok st' → st.nx ≤ st'.nx ∧ st'.nx ≤ s.size)
  | 0 => ⟨fun _ _ _ _ _ h => (by cases h), fun _ _ _ _ _ h => (by cases h)⟩
  | f + 1 => by
    obtain ⟨ihd, ihl⟩ := rd_prog s f
    constructor
    · intro deep b cs st' hb h
      rw [datP_succ] at h
      have h1 := tkE_ge s b
      have h2 := tkE_le s b hb
      split at h
      · cases h
      · split at h
        · split at h
          · cases h
          · have := ihl _ _ _ _ h2 h
            simp only at this
            omega
        · split at h
          · split at h
            · cases h
            · obtain ⟨s1, e1, h⟩ := bind_ok h
              obtain ⟨s2, e2, h⟩ := bind_ok h
              obtain ⟨s3, e3, h⟩ := bind_ok h
              have a1 := putP_nx e1
              simp only at a1
              have a0 := skAt_ge s s1.nx
              have a2 := ihd _ _ _ _ (skAt_le s s1.nx (by omega)) e2
              have a3 := putP_nx e3
              have a4 := prsP_nx h
              omega
          · have := atomP_nx h
            simp only at this
            omega
    · intro deep ps st st' hb h
      rw [lstP_succ] at h
      have h0 := skAt_ge s st.nx
      have h0' := skAt_le s st.nx hb
      have h1 := tkE_ge s (skAt s st.nx)
      have h2 := tkE_le s (skAt s st.nx) h0'
      split at h
      · obtain ⟨s1, e1, h⟩ := bind_ok h
        have a1 := putP_nx e1
        have a4 := prsP_nx h
        simp only at a1
        omega
      · split at h
        · obtain ⟨s1, e1, h⟩ := bind_ok h
          have a0 := skAt_ge s (tkE s (skAt s st.nx))
          have a2 := ihd _ _ _ _ (skAt_le s _ h2) e1
          split at h
          · have a4 := prsP_nx h
            simp only at a4
            have b1 := skAt_ge s s1.nx
            have b2 := tkE_ge s (skAt s s1.nx)
            have b3 := tkE_le s (skAt s s1.nx) (skAt_le s s1.nx a2.2)
            omega
          · cases h
        · obtain ⟨s1, e1, h⟩ := bind_ok h
          have a2 := ihd _ _ _ _ h0' e1
          have a3 := ihl _ _ _ _ a2.2 h
          omega
theorem datP_prog {s : ByteArray} {f deep b : Nat} {cs : List Dat} {st' : St} (hb : b ≤ s.size) (h : datP s f deep b cs = .ok st') : b < st'.nx ∧ st'.nx ≤ s.size := (rd_prog s f).1 _ _ _ _ hb h
end Go.Proofs.YtgfkmppkeolckaaDoor
