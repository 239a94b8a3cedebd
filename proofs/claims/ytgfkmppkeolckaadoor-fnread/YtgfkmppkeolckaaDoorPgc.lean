/- The program's reader: a word. -/
import Derived.Test.YtgfkmppkeolckaaDoorPgb
import Derived.Test.YtgfkmppkeolckaaDoorSpx
set_option linter.unusedVariables false
namespace Go.Proofs.YtgfkmppkeolckaaDoor
open Go.ChangeShapes Go.WideShapes Go.ChangeAt Go.RowKit
theorem PgPost.pre {R B : Nat} {t : ByteArray} {deep : Nat} {r : Except Nat St} {w w1 w' : World} {e : Ending} (hb : Below B w w1) (hk : Lib.OthersKept 67 (some R) w w1) (h : PgPost R B t deep r w1 e w') : PgPost R B t deep r w e w' := by
  rcases h with ⟨st, a1, a2, a3, a4, a5⟩ | ⟨p, a1, a2, a3⟩
  · exact .inl ⟨st, a1, a2, a3, hb.trans a4, hk.trans a5⟩
  · exact .inr ⟨p, a1, a2, hb.trans a3⟩
set_option maxRecDepth 100000 in
set_option maxHeartbeats 1000000 in
theorem word_any (R B : Nat) (t : ByteArray) (deep : Nat) (st : St) (s : ByteArray) (w : World) (hs : s.size ≤ 33554432) (hB : B ≤ R) (h : RS R B t deep st w) :
    Calls Tryd.prog 56 #[.pointer (some ⟨R, 0, none⟩), .string s] w fun e w' => PgPost R B t deep (atomP st s) w e w' := by
  have HF : Hid (RS R B t deep st w) := h
  have hRl := h.lt
  clear h
  go_enter Tryd.func56, Tryd.ntmps56
  go_wp2_with fail
  refine (implRd_any s _ hs).mono ?_
  rintro e w1 ⟨x, b, rfl, hr, hb1⟩
  have HR : Hid (RS R B t deep st w1) := HF.out.below hb1
  have HB : Hid (Below B w w1) := hb1.mono (by omega)
  have HK : Hid (Lib.OthersKept 67 (some R) w w1) := fun k o hk _ _ => (hb1.block k (Array.getElem?_eq_some_iff.1 hk).1).trans hk
  have HV : Hid (RdRes s.data.toList x b) := hr
  clear hr hb1 HF
  by_cases hA : b = true ∧ -1000000 ≤ x ∧ x ≤ 1000000
  · obtain ⟨rfl, h1, h2⟩ := hA
    obtain hx := rd_val HV.out
    have hd := HV.out.deB.symm
    have HE : Hid (putP st (numD x) = atomP st s) := by
      show _ = _
      simp only [atomP, atomD]
      rw [if_pos ⟨hd, by rw [← hx]; exact h1, by rw [← hx]; exact h2⟩, ← hx]
    clear hx hd
    go_wp2_with fail
    refine (add_any R B t deep st (numD x) _ hB HR.out).mono ?_
    intro e w2 hp
    have HP : Hid (PgPost R B t deep (putP st (numD x)) w1 e w2) := hp
    rcases hp with ⟨st2, a1, rfl, a3, a4, a5⟩ | ⟨p, a1, rfl, a3⟩
    · clear a1 a3 a4 a5
      go_wp2
      go_ret
      rw [← HE.out]
      exact HP.out.pre HB.out HK.out
    · clear a1 a3
      simp only [bad] at HP ⊢
      go_wp2
      refine ⟨rfl, ?_⟩
      rw [← HE.out]
      exact HP.out.pre HB.out HK.out
  · have HN : Hid (¬ (deB s.data.toList = true ∧ -1000000 ≤ rdX s.data.toList ∧ rdX s.data.toList ≤ 1000000)) := by
      show ¬ _
      rintro ⟨hd, h1, h2⟩
      obtain rfl : b = true := HV.out.deB.trans hd
      rw [← rd_val HV.out] at h1 h2
      exact hA ⟨rfl, h1, h2⟩
    clear HV
    cases b
    · clear hA
      by_cases q1 : (s.toList == [35, 116]) = true
      · have HE : Hid (putP st (boolD 1) = atomP st s) := by
          show _ = _
          simp only [atomP, atomD]
          rw [if_neg HN.out, if_pos q1]
        go_wp2_with fail
        refine (add_any R B t deep st (boolD 1) _ hB HR.out).mono ?_
        intro e w2 hp
        have HP : Hid (PgPost R B t deep (putP st (boolD 1)) w1 e w2) := hp
        rcases hp with ⟨st2, a1, rfl, a3, a4, a5⟩ | ⟨p, a1, rfl, a3⟩
        · clear a1 a3 a4 a5
          go_wp2
          go_ret
          rw [← HE.out]
          exact HP.out.pre HB.out HK.out
        · clear a1 a3
          simp only [bad] at HP ⊢
          go_wp2
          refine ⟨rfl, ?_⟩
          rw [← HE.out]
          exact HP.out.pre HB.out HK.out
      · have Q1 : (s.toList == [35, 116]) = false := by simpa using q1
        by_cases q2 : (s.toList == [35, 102]) = true
        · have HE : Hid (putP st (boolD 0) = atomP st s) := by
            show _ = _
            simp only [atomP, atomD]
            rw [if_neg HN.out, if_neg q1, if_pos q2]
          clear q1
          go_wp2_with fail
          refine (add_any R B t deep st (boolD 0) _ hB HR.out).mono ?_
          intro e w2 hp
          have HP : Hid (PgPost R B t deep (putP st (boolD 0)) w1 e w2) := hp
          rcases hp with ⟨st2, a1, rfl, a3, a4, a5⟩ | ⟨p, a1, rfl, a3⟩
          · clear a1 a3 a4 a5
            go_wp2
            go_ret
            rw [← HE.out]
            exact HP.out.pre HB.out HK.out
          · clear a1 a3
            simp only [bad] at HP ⊢
            go_wp2
            refine ⟨rfl, ?_⟩
            rw [← HE.out]
            exact HP.out.pre HB.out HK.out
        · have Q2 : (s.toList == [35, 102]) = false := by simpa using q2
          cases hsy : syL s.data.toList with
          | false =>
            have HE : Hid ((Except.error st.la : Except Nat St) = atomP st s) := by
              show _ = _
              simp only [atomP, atomD]
              rw [if_neg HN.out, if_neg q1, if_neg q2, hsy, if_neg (by simp)]
            have HS : Hid (Calls Tryd.prog 78 #[.string s] w1 fun e w' => e = .returned (.bool false) ∧ Below w1.heap.size w1 w') := by
              have := isSymbol_any s w1 hs
              rw [hsy] at this
              exact this
            clear q1 q2 hsy
            go_wp2_with fail
            refine HS.out.mono ?_
            rintro e w2 ⟨rfl, hb2⟩
            have HR2 : Hid (RS R B t deep st w2) := HR.out.below hb2
            have hRl2 := HR.out.lt
            have HB2 : Hid (Below B w w2) := HB.out.trans (hb2.mono (by omega))
            clear hb2
            go_wp2_with fail
            refine (fail_rs R B t deep st _ HR2.out).mono ?_
            rintro e w3 ⟨rfl, rfl⟩
            simp only [bad]
            go_wp2
            refine ⟨rfl, ?_⟩
            rw [← HE.out]
            exact .inr ⟨_, rfl, rfl, HB2.out⟩
          | true =>
            have HE : Hid (putP st (symD s) = atomP st s) := by
              show _ = _
              simp only [atomP, atomD]
              rw [if_neg HN.out, if_neg q1, if_neg q2, if_pos hsy]
            have HS : Hid (Calls Tryd.prog 78 #[.string s] w1 fun e w' => e = .returned (.bool true) ∧ Below w1.heap.size w1 w') := by
              have := isSymbol_any s w1 hs
              rw [hsy] at this
              exact this
            clear q1 q2 hsy
            go_wp2_with fail
            refine HS.out.mono ?_
            rintro e w2 ⟨rfl, hb2⟩
            have hRl2 := HR.out.lt
            have HR2 : Hid (RS R B t deep st w2) := HR.out.below hb2
            have HB2 : Hid (Below B w w2) := HB.out.trans (hb2.mono (by omega))
            have HK2 : Hid (Lib.OthersKept 67 (some R) w w2) := HK.out.trans fun k o hk _ _ => (hb2.block k (Array.getElem?_eq_some_iff.1 hk).1).trans hk
            clear hb2
            go_wp2_with fail
            refine (clone_any s _ hs).mono ?_
            rintro e w3 ⟨rfl, hb3⟩
            have hRl3 := HR2.out.lt
            have HR3 : Hid (RS R B t deep st w3) := HR2.out.below hb3
            have HB3 : Hid (Below B w w3) := HB2.out.trans (hb3.mono (by omega))
            have HK3 : Hid (Lib.OthersKept 67 (some R) w w3) := HK2.out.trans fun k o hk _ _ => (hb3.block k (Array.getElem?_eq_some_iff.1 hk).1).trans hk
            clear hb3
            go_wp2_with fail
            refine (add_any R B t deep st (symD s) _ hB HR3.out).mono ?_
            intro e w4 hp
            have HP : Hid (PgPost R B t deep (putP st (symD s)) w3 e w4) := hp
            rcases hp with ⟨st2, a1, rfl, a3, a4, a5⟩ | ⟨p, a1, rfl, a3⟩
            · clear a1 a3 a4 a5
              go_wp2
              go_ret
              rw [← HE.out]
              exact HP.out.pre HB3.out HK3.out
            · clear a1 a3
              simp only [bad] at HP ⊢
              go_wp2
              refine ⟨rfl, ?_⟩
              rw [← HE.out]
              exact HP.out.pre HB3.out HK3.out
    · by_cases hx : -1000000 ≤ x
      · have d1 : decide ((-1000000 : Int) ≤ x) = true := by simp [hx]
        have d2 : decide (x ≤ (1000000 : Int)) = false := by
          simp only [decide_eq_false_iff_not]
          exact fun h => hA ⟨rfl, hx, h⟩
        clear hA hx
        by_cases q1 : (s.toList == [35, 116]) = true
        · have HE : Hid (putP st (boolD 1) = atomP st s) := by
            show _ = _
            simp only [atomP, atomD]
            rw [if_neg HN.out, if_pos q1]
          go_wp2_with fail
          refine (add_any R B t deep st (boolD 1) _ hB HR.out).mono ?_
          intro e w2 hp
          have HP : Hid (PgPost R B t deep (putP st (boolD 1)) w1 e w2) := hp
          rcases hp with ⟨st2, a1, rfl, a3, a4, a5⟩ | ⟨p, a1, rfl, a3⟩
          · clear a1 a3 a4 a5
            go_wp2
            go_ret
            rw [← HE.out]
            exact HP.out.pre HB.out HK.out
          · clear a1 a3
            simp only [bad] at HP ⊢
            go_wp2
            refine ⟨rfl, ?_⟩
            rw [← HE.out]
            exact HP.out.pre HB.out HK.out
        · have Q1 : (s.toList == [35, 116]) = false := by simpa using q1
          by_cases q2 : (s.toList == [35, 102]) = true
          · have HE : Hid (putP st (boolD 0) = atomP st s) := by
              show _ = _
              simp only [atomP, atomD]
              rw [if_neg HN.out, if_neg q1, if_pos q2]
            clear q1
            go_wp2_with fail
            refine (add_any R B t deep st (boolD 0) _ hB HR.out).mono ?_
            intro e w2 hp
            have HP : Hid (PgPost R B t deep (putP st (boolD 0)) w1 e w2) := hp
            rcases hp with ⟨st2, a1, rfl, a3, a4, a5⟩ | ⟨p, a1, rfl, a3⟩
            · clear a1 a3 a4 a5
              go_wp2
              go_ret
              rw [← HE.out]
              exact HP.out.pre HB.out HK.out
            · clear a1 a3
              simp only [bad] at HP ⊢
              go_wp2
              refine ⟨rfl, ?_⟩
              rw [← HE.out]
              exact HP.out.pre HB.out HK.out
          · have Q2 : (s.toList == [35, 102]) = false := by simpa using q2
            cases hsy : syL s.data.toList with
            | false =>
              have HE : Hid ((Except.error st.la : Except Nat St) = atomP st s) := by
                show _ = _
                simp only [atomP, atomD]
                rw [if_neg HN.out, if_neg q1, if_neg q2, hsy, if_neg (by simp)]
              have HS : Hid (Calls Tryd.prog 78 #[.string s] w1 fun e w' => e = .returned (.bool false) ∧ Below w1.heap.size w1 w') := by
                have := isSymbol_any s w1 hs
                rw [hsy] at this
                exact this
              clear q1 q2 hsy
              go_wp2_with fail
              refine HS.out.mono ?_
              rintro e w2 ⟨rfl, hb2⟩
              have HR2 : Hid (RS R B t deep st w2) := HR.out.below hb2
              have hRl2 := HR.out.lt
              have HB2 : Hid (Below B w w2) := HB.out.trans (hb2.mono (by omega))
              clear hb2
              go_wp2_with fail
              refine (fail_rs R B t deep st _ HR2.out).mono ?_
              rintro e w3 ⟨rfl, rfl⟩
              simp only [bad]
              go_wp2
              refine ⟨rfl, ?_⟩
              rw [← HE.out]
              exact .inr ⟨_, rfl, rfl, HB2.out⟩
            | true =>
              have HE : Hid (putP st (symD s) = atomP st s) := by
                show _ = _
                simp only [atomP, atomD]
                rw [if_neg HN.out, if_neg q1, if_neg q2, if_pos hsy]
              have HS : Hid (Calls Tryd.prog 78 #[.string s] w1 fun e w' => e = .returned (.bool true) ∧ Below w1.heap.size w1 w') := by
                have := isSymbol_any s w1 hs
                rw [hsy] at this
                exact this
              clear q1 q2 hsy
              go_wp2_with fail
              refine HS.out.mono ?_
              rintro e w2 ⟨rfl, hb2⟩
              have hRl2 := HR.out.lt
              have HR2 : Hid (RS R B t deep st w2) := HR.out.below hb2
              have HB2 : Hid (Below B w w2) := HB.out.trans (hb2.mono (by omega))
              have HK2 : Hid (Lib.OthersKept 67 (some R) w w2) := HK.out.trans fun k o hk _ _ => (hb2.block k (Array.getElem?_eq_some_iff.1 hk).1).trans hk
              clear hb2
              go_wp2_with fail
              refine (clone_any s _ hs).mono ?_
              rintro e w3 ⟨rfl, hb3⟩
              have hRl3 := HR2.out.lt
              have HR3 : Hid (RS R B t deep st w3) := HR2.out.below hb3
              have HB3 : Hid (Below B w w3) := HB2.out.trans (hb3.mono (by omega))
              have HK3 : Hid (Lib.OthersKept 67 (some R) w w3) := HK2.out.trans fun k o hk _ _ => (hb3.block k (Array.getElem?_eq_some_iff.1 hk).1).trans hk
              clear hb3
              go_wp2_with fail
              refine (add_any R B t deep st (symD s) _ hB HR3.out).mono ?_
              intro e w4 hp
              have HP : Hid (PgPost R B t deep (putP st (symD s)) w3 e w4) := hp
              rcases hp with ⟨st2, a1, rfl, a3, a4, a5⟩ | ⟨p, a1, rfl, a3⟩
              · clear a1 a3 a4 a5
                go_wp2
                go_ret
                rw [← HE.out]
                exact HP.out.pre HB3.out HK3.out
              · clear a1 a3
                simp only [bad] at HP ⊢
                go_wp2
                refine ⟨rfl, ?_⟩
                rw [← HE.out]
                exact HP.out.pre HB3.out HK3.out
      · have d1 : decide ((-1000000 : Int) ≤ x) = false := by simp; omega
        clear hA hx
        by_cases q1 : (s.toList == [35, 116]) = true
        · have HE : Hid (putP st (boolD 1) = atomP st s) := by
            show _ = _
            simp only [atomP, atomD]
            rw [if_neg HN.out, if_pos q1]
          go_wp2_with fail
          refine (add_any R B t deep st (boolD 1) _ hB HR.out).mono ?_
          intro e w2 hp
          have HP : Hid (PgPost R B t deep (putP st (boolD 1)) w1 e w2) := hp
          rcases hp with ⟨st2, a1, rfl, a3, a4, a5⟩ | ⟨p, a1, rfl, a3⟩
          · clear a1 a3 a4 a5
            go_wp2
            go_ret
            rw [← HE.out]
            exact HP.out.pre HB.out HK.out
          · clear a1 a3
            simp only [bad] at HP ⊢
            go_wp2
            refine ⟨rfl, ?_⟩
            rw [← HE.out]
            exact HP.out.pre HB.out HK.out
        · have Q1 : (s.toList == [35, 116]) = false := by simpa using q1
          by_cases q2 : (s.toList == [35, 102]) = true
          · have HE : Hid (putP st (boolD 0) = atomP st s) := by
              show _ = _
              simp only [atomP, atomD]
              rw [if_neg HN.out, if_neg q1, if_pos q2]
            clear q1
            go_wp2_with fail
            refine (add_any R B t deep st (boolD 0) _ hB HR.out).mono ?_
            intro e w2 hp
            have HP : Hid (PgPost R B t deep (putP st (boolD 0)) w1 e w2) := hp
            rcases hp with ⟨st2, a1, rfl, a3, a4, a5⟩ | ⟨p, a1, rfl, a3⟩
            · clear a1 a3 a4 a5
              go_wp2
              go_ret
              rw [← HE.out]
              exact HP.out.pre HB.out HK.out
            · clear a1 a3
              simp only [bad] at HP ⊢
              go_wp2
              refine ⟨rfl, ?_⟩
              rw [← HE.out]
              exact HP.out.pre HB.out HK.out
          · have Q2 : (s.toList == [35, 102]) = false := by simpa using q2
            cases hsy : syL s.data.toList with
            | false =>
              have HE : Hid ((Except.error st.la : Except Nat St) = atomP st s) := by
                show _ = _
                simp only [atomP, atomD]
                rw [if_neg HN.out, if_neg q1, if_neg q2, hsy, if_neg (by simp)]
              have HS : Hid (Calls Tryd.prog 78 #[.string s] w1 fun e w' => e = .returned (.bool false) ∧ Below w1.heap.size w1 w') := by
                have := isSymbol_any s w1 hs
                rw [hsy] at this
                exact this
              clear q1 q2 hsy
              go_wp2_with fail
              refine HS.out.mono ?_
              rintro e w2 ⟨rfl, hb2⟩
              have HR2 : Hid (RS R B t deep st w2) := HR.out.below hb2
              have hRl2 := HR.out.lt
              have HB2 : Hid (Below B w w2) := HB.out.trans (hb2.mono (by omega))
              clear hb2
              go_wp2_with fail
              refine (fail_rs R B t deep st _ HR2.out).mono ?_
              rintro e w3 ⟨rfl, rfl⟩
              simp only [bad]
              go_wp2
              refine ⟨rfl, ?_⟩
              rw [← HE.out]
              exact .inr ⟨_, rfl, rfl, HB2.out⟩
            | true =>
              have HE : Hid (putP st (symD s) = atomP st s) := by
                show _ = _
                simp only [atomP, atomD]
                rw [if_neg HN.out, if_neg q1, if_neg q2, if_pos hsy]
              have HS : Hid (Calls Tryd.prog 78 #[.string s] w1 fun e w' => e = .returned (.bool true) ∧ Below w1.heap.size w1 w') := by
                have := isSymbol_any s w1 hs
                rw [hsy] at this
                exact this
              clear q1 q2 hsy
              go_wp2_with fail
              refine HS.out.mono ?_
              rintro e w2 ⟨rfl, hb2⟩
              have hRl2 := HR.out.lt
              have HR2 : Hid (RS R B t deep st w2) := HR.out.below hb2
              have HB2 : Hid (Below B w w2) := HB.out.trans (hb2.mono (by omega))
              have HK2 : Hid (Lib.OthersKept 67 (some R) w w2) := HK.out.trans fun k o hk _ _ => (hb2.block k (Array.getElem?_eq_some_iff.1 hk).1).trans hk
              clear hb2
              go_wp2_with fail
              refine (clone_any s _ hs).mono ?_
              rintro e w3 ⟨rfl, hb3⟩
              have hRl3 := HR2.out.lt
              have HR3 : Hid (RS R B t deep st w3) := HR2.out.below hb3
              have HB3 : Hid (Below B w w3) := HB2.out.trans (hb3.mono (by omega))
              have HK3 : Hid (Lib.OthersKept 67 (some R) w w3) := HK2.out.trans fun k o hk _ _ => (hb3.block k (Array.getElem?_eq_some_iff.1 hk).1).trans hk
              clear hb3
              go_wp2_with fail
              refine (add_any R B t deep st (symD s) _ hB HR3.out).mono ?_
              intro e w4 hp
              have HP : Hid (PgPost R B t deep (putP st (symD s)) w3 e w4) := hp
              rcases hp with ⟨st2, a1, rfl, a3, a4, a5⟩ | ⟨p, a1, rfl, a3⟩
              · clear a1 a3 a4 a5
                go_wp2
                go_ret
                rw [← HE.out]
                exact HP.out.pre HB3.out HK3.out
              · clear a1 a3
                simp only [bad] at HP ⊢
                go_wp2
                refine ⟨rfl, ?_⟩
                rw [← HE.out]
                exact HP.out.pre HB3.out HK3.out
end Go.Proofs.YtgfkmppkeolckaaDoor
