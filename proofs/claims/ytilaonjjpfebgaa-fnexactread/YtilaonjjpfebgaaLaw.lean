/- The law of Read: the walk. -/
import Derived.Test.YtilaonjjpfebgaaMke
set_option linter.unusedVariables false
namespace Go.Proofs.Ytilaonjjpfebgaa
open Go.ChangeShapes Go.WideShapes Go.ChangeAt Go.RowKit
/-- The cells, the tops and the place that are told. -/
def oC : Except Nat (St × List Int) → List Dat
  | .ok (st, _) => st.cs
  | .error _ => []
def oT : Except Nat (St × List Int) → List Int
  | .ok (_, ts) => ts
  | .error _ => []
def oP : Except Nat (St × List Int) → Int
  | .ok _ => -1
  | .error p => p
theorem RdS.out {w w' : World} {L : Except Nat (St × List Int)} {e : Ending} (h : RdS w L e w') : ∃ (ao bo : Option Addr) (ca cb : Nat), e = .returned (.tuple #[.agg #[.slice ao (oC L).length ca, .slice bo (oT L).length cb], .int .i64 (oP L)]) ∧ (oC L).length ≤ 1000 ∧ w'.ownsRow w.heap.size 49 5 (.slice ao (oC L).length ca) (oC L).length (flatD (oC L)) ∧ w'.ownsRow w.heap.size 3 1 (.slice bo (oT L).length cb) (oT L).length ((oT L).map (Value.int .i64 ·)) ∧ Below w.heap.size w w' := by
  match L, h with
  | .ok (st, ts), h =>
    obtain ⟨ao, bo, ca, cb, h1, h2, h3, h4, h5⟩ := h
    exact ⟨ao, bo, ca, cb, h1, h2, h3, h4, h5⟩
  | .error p, h =>
    obtain ⟨h1, h2⟩ := h
    exact ⟨none, none, 0, 0, h1, by simp [oC], ⟨rfl, .inl ⟨rfl, rfl⟩⟩, ⟨rfl, .inl ⟨rfl, rfl⟩⟩, h2⟩
theorem top_len (s : ByteArray) (F : Nat) : ∀ (f : Nat) (ts : List Int) (st st' : St) (ts' : List Int), st.nx ≤ s.size → topP s F f ts st = .ok (st', ts') → ts'.length ≤ ts.length + (s.size - st.nx)
  | 0, ts, st, st', ts', _, h => by cases h
  | f + 1, ts, st, st', ts', hn, h => by
    rw [topP] at h
    split at h
    · have := Except.ok.inj h
      injection this with _ h2
      subst h2
      omega
    · obtain ⟨y, h1, h2⟩ := bind_ok h
      obtain ⟨n1, n2⟩ := datP_prog (skAt_le s st.nx hn) h1
      have := top_len s F f _ _ _ _ n2 h2
      have := skAt_ge s st.nx
      simp at *
      omega
theorem oT_len (s : ByteArray) (F f : Nat) : (oT (topP s F f [] ⟨0, 0, []⟩)).length ≤ s.size := by
  cases h : topP s F f [] ⟨0, 0, []⟩ with
  | error p => simp [oT]
  | ok x =>
    obtain ⟨st', ts'⟩ := x
    have := top_len s F f _ _ _ _ (Nat.zero_le _) h
    simpa [oT] using this
/-- What a Read answers: these cells, tops and place, in rows of its own. -/
def RdO (cs : List Dat) (ts : List Int) (p : Int) (w : World) (e : Ending) (w' : World) : Prop :=
  ∃ (ao bo : Option Addr) (ca cb : Nat), e = .returned (.tuple #[.agg #[.slice ao cs.length ca, .slice bo ts.length cb], .int .i64 p]) ∧ w'.ownsRow w.heap.size 49 5 (.slice ao cs.length ca) cs.length (flatD cs) ∧ w'.ownsRow w.heap.size 3 1 (.slice bo ts.length cb) ts.length (ts.map (Value.int .i64 ·)) ∧ Below w.heap.size w w' ∧ cs.length ≤ 1000
/-- The program's Read and the model's answer alike. -/
theorem reads (s : ByteArray) (hs : s.size ≤ 1048576) : ∃ (cs : List Dat) (ts : List Int) (p : Int), ts.length ≤ 1048576 ∧ (∀ w, Calls Try.prog 4 #[.string s] w fun e w' => RdO cs ts p w e w') ∧ (∀ w, Calls Try.prog 5 #[.string s] w fun e w' => RdO cs ts p w e w') := by
  obtain ⟨L, hL⟩ : ∃ L, L = topP s (2 * s.size + 2) (s.size + 1) [] ⟨0, 0, []⟩ := ⟨_, rfl⟩
  have hT : (oT L).length ≤ s.size := by rw [hL]; exact oT_len s _ _
  refine ⟨oC L, oT L, oP L, by omega, fun w => ?_, fun w => ?_⟩
  · have := specRead_any s w hs (2 * s.size + 2) (by omega) (s.size + 1) (by omega)
    rw [← hL] at this
    refine this.mono fun e w' h => ?_
    obtain ⟨ao, bo, ca, cb, h1, h2, h3, h4, h5⟩ := RdS.out h
    exact ⟨ao, bo, ca, cb, h1, h3, h4, h5, h2⟩
  · have := implRead_any s (2 * s.size + 2) (s.size + 1) w hs (by omega) (by omega)
    rw [← hL] at this
    refine this.mono fun e w' h => ?_
    obtain ⟨ao, bo, ca, cb, h1, h2, h3, h4, h5⟩ := RdS.out h
    exact ⟨ao, bo, ca, cb, h1, h3, h4, h5, h2⟩
set_option maxRecDepth 100000 in
set_option maxHeartbeats 1000000 in
theorem walk (s : ByteArray) (hs0 : s.size ≤ 9223372036854775807) (w : World) : Calls Try.prog 3 #[.string s] w fun e w' => e = .returned (.bool true) ∧ Below w.heap.size w w' := by
  by_cases hs : s.size ≤ 1048576
  · have hq : decide ((1048576 : Int) < (s.size : Int)) = false := by simp; omega
    go_enter Try.func3, Try.ntmps3
    obtain ⟨cs, ts, p, hm, hsp, him⟩ := reads s hs
    have HSP : Hid (∀ w, Calls Try.prog 4 #[.string s] w fun e w' => RdO cs ts p w e w') := hsp
    have HIM : Hid (∀ w, Calls Try.prog 5 #[.string s] w fun e w' => RdO cs ts p w e w') := him
    clear hsp him
    go_wp2_with fail
    refine (HSP.out w).mono ?_
    rintro e w1 ⟨a1, b1, ca1, cb1, rfl, o1, i1, hb1, hn⟩
    have HD1 : Hid (RowD w1 w1.heap.size a1 cs) := own_rowD o1
    have HI1 : Hid (RowI w1 w1.heap.size b1 ts) := own_rowI i1
    have HB1 : Hid (Below w.heap.size w w1) := hb1
    clear o1 i1 hb1
    go_wp2_with fail
    refine (HIM.out _).mono ?_
    rintro e w2 ⟨a2, b2, ca2, cb2, rfl, o2, i2, hb2, _⟩
    obtain ⟨v1, hv1⟩ : ∃ v1, v1 = w1.alloc (Obj.cells #[Value.slice a1 cs.length ca1, Value.slice b1 ts.length cb1] 25) := ⟨_, rfl⟩
    have kv1 : v1.heap[w1.heap.size]? = some (Obj.cells #[Value.slice a1 cs.length ca1, Value.slice b1 ts.length cb1] 25) := by rw [hv1]; exact blk_at _ _ _ rfl
    have hbv1 : Below w1.heap.size w1 v1 := by rw [hv1]; exact (Below.refl _ _).alloc (Nat.le_refl _) _
    have hz1 : v1.heap.size = w1.heap.size + 1 := by rw [hv1]; simp
    rw [← hv1] at hb2 o2 i2
    clear hv1
    obtain ⟨v2, hv2⟩ : ∃ v2, v2 = w2.alloc (Obj.cells #[Value.slice a2 cs.length ca2, Value.slice b2 ts.length cb2] 25) := ⟨_, rfl⟩
    have kv2 : v2.heap[w2.heap.size]? = some (Obj.cells #[Value.slice a2 cs.length ca2, Value.slice b2 ts.length cb2] 25) := by rw [hv2]; exact blk_at _ _ _ rfl
    have hbv2 : Below w2.heap.size w2 v2 := by rw [hv2]; exact (Below.refl _ _).alloc (Nat.le_refl _) _
    have hz2 : v2.heap.size = w2.heap.size + 1 := by rw [hv2]; simp
    have hs2 := hb2.size
    have hB2 : Below v1.heap.size v1 v2 := hb2.trans (hbv2.mono hs2)
    have ka2 : v2.heap[w1.heap.size]? = some (Obj.cells #[Value.slice a1 cs.length ca1, Value.slice b1 ts.length cb1] 25) := (hB2.block _ (by omega)).trans kv1
    have hB12 : Below w1.heap.size w1 v2 := hbv1.trans (hB2.mono (by omega))
    have HWV : Hid (w.heap.size ≤ v1.heap.size) := by show _ ≤ _; have := HB1.out.size; omega
    have HBV : Hid (Below w.heap.size w v2) := HB1.out.trans (hB12.mono HB1.out.size)
    have HD1' : Hid (RowD v2 w1.heap.size a1 cs) := HD1.out.below hB12
    have HI1' : Hid (RowI v2 w1.heap.size b1 ts) := HI1.out.below hB12
    have HD2 : Hid (RowD v2 v2.heap.size a2 cs) := ((own_rowD o2).below hbv2).mono (by omega)
    have HI2 : Hid (RowI v2 v2.heap.size b2 ts) := ((own_rowI i2).below hbv2).mono (by omega)
    have HO2 : Hid (OwnR v1.heap.size 49 5 a2 cs.length ca2 v2) := (OwnR.of o2).keep fun c X h => (hbv2.block c (Array.getElem?_eq_some_iff.1 h).1).trans h
    have HO3 : Hid (OwnR v1.heap.size 3 1 b2 ts.length cb2 v2) := (OwnR.of i2).keep fun c X h => (hbv2.block c (Array.getElem?_eq_some_iff.1 h).1).trans h
    have HE : Hid (Calls Try.prog 6 #[.agg #[.slice a2 cs.length ca2, .slice b2 ts.length cb2], .agg #[.slice a1 cs.length ca1, .slice b1 ts.length cb1]] v2 fun e w' => Ans v2 (.bool true) e w') := eqData_same a2 b2 a1 b1 cs ts ca2 cb2 ca1 cb1 v2 (by omega) (by omega) HD2.out HI2.out (HD1'.out.mono (by omega)) (HI1'.out.mono (by omega))
    have c0 : (w2.alloc (Obj.cells #[Value.slice a2 cs.length ca2, Value.slice b2 ts.length cb2] 25)).cell? ⟨w1.heap.size, 0, none⟩ = some (Value.slice a1 cs.length ca1) := by rw [← hv2]; exact cell_blk (j := 0) ka2 rfl
    have c1 : (w2.alloc (Obj.cells #[Value.slice a2 cs.length ca2, Value.slice b2 ts.length cb2] 25)).cell? ⟨w1.heap.size, 1, none⟩ = some (Value.slice b1 ts.length cb1) := by rw [← hv2]; exact cell_blk (j := 1) ka2 rfl
    have KA : Hid (v2.heap[w1.heap.size]? = some (Obj.cells #[Value.slice a1 cs.length ca1, Value.slice b1 ts.length cb1] 25)) := ka2
    have KG : Hid (v2.heap[w2.heap.size]? = some (Obj.cells #[Value.slice a2 cs.length ca2, Value.slice b2 ts.length cb2] 25)) := kv2
    have HV2 : Hid (v2 = w2.alloc (Obj.cells #[Value.slice a2 cs.length ca2, Value.slice b2 ts.length cb2] 25)) := hv2
    have hG : w1.heap.size < v1.heap.size := by omega
    have hG2 : v1.heap.size ≤ w2.heap.size := hs2
    have hG3 : w2.heap.size < v2.heap.size := by omega
    clear kv1 hbv1 hb2 o2 i2 kv2 hbv2 hB2 ka2 hB12 hv2 HB1 HD1 HI1 hz1 hz2 hs2
    go_wp2_with fail
    rw [← HV2.out]
    refine HE.out.mono ?_
    rintro e w3 ⟨rfl, hb3⟩
    have hs3 := hb3.size
    have ka3 : w3.heap[w1.heap.size]? = some (Obj.cells #[Value.slice a1 cs.length ca1, Value.slice b1 ts.length cb1] 25) := (hb3.block _ (by omega)).trans KA.out
    have kg3 : w3.heap[w2.heap.size]? = some (Obj.cells #[Value.slice a2 cs.length ca2, Value.slice b2 ts.length cb2] 25) := (hb3.block _ (by omega)).trans KG.out
    have HB3 : Hid (Below w.heap.size w w3) := HBV.out.trans (hb3.mono HBV.out.size)
    have kp3 : ∀ (T : TypeId) (c : Nat) (X : Array Value), v2.heap[c]? = some (.cells X T (0, 0)) → w3.heap[c]? = some (.cells X T (0, 0)) := fun T c X h => (hb3.block c (Array.getElem?_eq_some_iff.1 h).1).trans h
    have HMK : Hid (Calls Try.prog 7 #[.agg #[.slice a2 cs.length ca2, .slice b2 ts.length cb2], .int .i64 1] w3 fun e w' => e = .returned (.int .i64 ((1 + cs.length * 5 + ts.length : Nat) : Int)) ∧ Below v1.heap.size w3 w' ∧ RowD w' w'.heap.size a2 (mkD 1 cs.length) ∧ RowI w' w'.heap.size b2 (mkI (1 + cs.length * 5) ts.length) ∧ (∀ (c : Nat) (X : Array Value), w3.heap[c]? = some (.cells X 25 (0, 0)) → w'.heap[c]? = some (.cells X 25 (0, 0)))) := markData_any a2 b2 cs.length ts.length ca2 cb2 v1.heap.size w3 (HO2.out.keep (kp3 49)) (HO3.out.keep (kp3 3)) hn hm (by omega)
    have HD3 : Hid (RowD w3 w1.heap.size a1 cs) := HD1'.out.keep fun b hb => hb3.block b (by omega)
    have HI3 : Hid (RowI w3 w1.heap.size b1 ts) := HI1'.out.keep fun b hb => hb3.block b (by omega)
    have KA3 : Hid (w3.heap[w1.heap.size]? = some (Obj.cells #[Value.slice a1 cs.length ca1, Value.slice b1 ts.length cb1] 25)) := ka3
    have KG3 : Hid (w3.heap[w2.heap.size]? = some (Obj.cells #[Value.slice a2 cs.length ca2, Value.slice b2 ts.length cb2] 25)) := kg3
    have d0 := cell_blk (j := 0) kg3 rfl
    have d1 := cell_blk (j := 1) kg3 rfl
    clear c0 c1 hb3 ka3 kg3 kp3 HO2 HO3 HD2 HI2 HD1' HI1' KA KG HE HBV HV2
    obtain ⟨M, hM⟩ : ∃ M, M = 1 + cs.length * 5 + ts.length := ⟨_, rfl⟩
    rw [← hM] at HMK
    go_wp2_with fail
    refine HMK.out.mono ?_
    rintro e w4 ⟨rfl, hb4, hd4, hi4, hk4⟩
    have hs4 := hb4.size
    have kg4 := hk4 _ _ KG3.out
    have HH4 : Hid (Calls Try.prog 8 #[.agg #[.slice a2 cs.length ca2, .slice b2 ts.length cb2], .int .i64 1] w4 fun e w' => Ans w4 (.int .i64 (M : Int)) e w') := by rw [hM]; exact heldData_any a2 b2 cs.length ts.length ca2 cb2 w4 hd4 hi4 hn hm
    have HD4 : Hid (RowD w4 w1.heap.size a1 cs) := HD3.out.keep fun b hb => hb4.block b (by omega)
    have HI4 : Hid (RowI w4 w1.heap.size b1 ts) := HI3.out.keep fun b hb => hb4.block b (by omega)
    have KA4 : Hid (w4.heap[w1.heap.size]? = some (Obj.cells #[Value.slice a1 cs.length ca1, Value.slice b1 ts.length cb1] 25)) := (hb4.block _ (by omega)).trans KA3.out
    have KG4 : Hid (w4.heap[w2.heap.size]? = some (Obj.cells #[Value.slice a2 cs.length ca2, Value.slice b2 ts.length cb2] 25)) := kg4
    have HG4 : Hid (RowD w4 w4.heap.size a2 (mkD 1 cs.length)) := hd4
    have HJ4 : Hid (RowI w4 w4.heap.size b2 (mkI (1 + cs.length * 5) ts.length)) := hi4
    have HB4 : Hid (Below w.heap.size w w4) := HB3.out.trans (hb4.mono (by have := HWV.out; omega))
    have HMM : Hid (M = 1 + cs.length * 5 + ts.length) := hM
    have e0 := cell_blk (j := 0) kg4 rfl
    have e1 := cell_blk (j := 1) kg4 rfl
    have hMd : decide ((M : Int) < 0) = false := by simp
    have hMM : ((M : Int) != (M : Int)) = false := by simp
    clear d0 d1 hb4 hd4 hi4 hk4 kg4 HD3 HI3 KA3 KG3 HMK HB3 hM
    go_wp2_with fail
    refine HH4.out.mono ?_
    rintro e w5 ⟨rfl, hb5⟩
    have hs5 := hb5.size
    have HD5 : Hid (RowD w5 w1.heap.size a1 cs) := HD4.out.keep fun b hb => hb5.block b (by omega)
    have HI5 : Hid (RowI w5 w1.heap.size b1 ts) := HI4.out.keep fun b hb => hb5.block b (by omega)
    have KA5 : Hid (w5.heap[w1.heap.size]? = some (Obj.cells #[Value.slice a1 cs.length ca1, Value.slice b1 ts.length cb1] 25)) := (hb5.block _ (by omega)).trans KA4.out
    have KG5 : Hid (w5.heap[w2.heap.size]? = some (Obj.cells #[Value.slice a2 cs.length ca2, Value.slice b2 ts.length cb2] 25)) := (hb5.block _ (by omega)).trans KG4.out
    have HG5 : Hid (RowD w5 w5.heap.size a2 (mkD 1 cs.length)) := (HG4.out.below hb5).mono hs5
    have HJ5 : Hid (RowI w5 w5.heap.size b2 (mkI (1 + cs.length * 5) ts.length)) := (HJ4.out.below hb5).mono hs5
    have HB5 : Hid (Below w.heap.size w w5) := HB4.out.trans (hb5.mono HB4.out.size)
    clear e0 e1 hb5 HD4 HI4 KA4 KG4 HG4 HJ4 HH4 HB4
    go_wp2_with fail
    refine (HIM.out w5).mono ?_
    rintro e w6 ⟨a3, b3, ca3, cb3, rfl, o6, i6, hb6, _⟩
    have hs6 := hb6.size
    obtain ⟨v6, hv6⟩ : ∃ v6, v6 = w6.alloc (Obj.cells #[Value.slice a3 cs.length ca3, Value.slice b3 ts.length cb3] 25) := ⟨_, rfl⟩
    have hz6 : v6.heap.size = w6.heap.size + 1 := by rw [hv6]; simp
    have hbv6 : Below w6.heap.size w6 v6 := by rw [hv6]; exact (Below.refl _ _).alloc (Nat.le_refl _) _
    have hB6 : Below w5.heap.size w5 v6 := hb6.trans (hbv6.mono hs6)
    have HD6 : RowD v6 v6.heap.size a1 cs := (HD5.out.keep fun b hb => hB6.block b (by omega)).mono (by omega)
    have HI6 : RowI v6 v6.heap.size b1 ts := (HI5.out.keep fun b hb => hB6.block b (by omega)).mono (by omega)
    have KA6 : v6.heap[w1.heap.size]? = some (Obj.cells #[Value.slice a1 cs.length ca1, Value.slice b1 ts.length cb1] 25) := (hB6.block _ (by omega)).trans KA5.out
    have KG6 : Hid (v6.heap[w2.heap.size]? = some (Obj.cells #[Value.slice a2 cs.length ca2, Value.slice b2 ts.length cb2] 25)) := (hB6.block _ (by omega)).trans KG5.out
    have HG6 : Hid (RowD v6 v6.heap.size a2 (mkD 1 cs.length)) := (HG5.out.below hB6).mono (by omega)
    have HJ6 : Hid (RowI v6 v6.heap.size b2 (mkI (1 + cs.length * 5) ts.length)) := (HJ5.out.below hB6).mono (by omega)
    have HB6 : Hid (Below w.heap.size w v6) := HB5.out.trans (hB6.mono HB5.out.size)
    have HE6 : Hid (Calls Try.prog 6 #[.agg #[.slice a3 cs.length ca3, .slice b3 ts.length cb3], .agg #[.slice a1 cs.length ca1, .slice b1 ts.length cb1]] v6 fun e w' => Ans v6 (.bool true) e w') := eqData_same a3 b3 a1 b1 cs ts ca3 cb3 ca1 cb1 v6 (by omega) (by omega) (((own_rowD o6).below hbv6).mono (by omega)) (((own_rowI i6).below hbv6).mono (by omega)) HD6 HI6
    have c0 : (w6.alloc (Obj.cells #[Value.slice a3 cs.length ca3, Value.slice b3 ts.length cb3] 25)).cell? ⟨w1.heap.size, 0, none⟩ = some (Value.slice a1 cs.length ca1) := by rw [← hv6]; exact cell_blk (j := 0) KA6 rfl
    have c1 : (w6.alloc (Obj.cells #[Value.slice a3 cs.length ca3, Value.slice b3 ts.length cb3] 25)).cell? ⟨w1.heap.size, 1, none⟩ = some (Value.slice b1 ts.length cb1) := by rw [← hv6]; exact cell_blk (j := 1) KA6 rfl
    have HV6 : Hid (v6 = w6.alloc (Obj.cells #[Value.slice a3 cs.length ca3, Value.slice b3 ts.length cb3] 25)) := hv6
    have hG6 : w2.heap.size < v6.heap.size := by omega
    clear hv6 hz6 hbv6 hB6 HD6 HI6 KA6 HD5 HI5 KA5 KG5 HG5 HJ5 HB5 o6 i6 hb6
    go_wp2_with fail
    rw [← HV6.out]
    refine HE6.out.mono ?_
    rintro e w7 ⟨rfl, hb7⟩
    have hs7 := hb7.size
    have kg7 : w7.heap[w2.heap.size]? = some (Obj.cells #[Value.slice a2 cs.length ca2, Value.slice b2 ts.length cb2] 25) := (hb7.block _ (by omega)).trans KG6.out
    have HH7 : Hid (Calls Try.prog 8 #[.agg #[.slice a2 cs.length ca2, .slice b2 ts.length cb2], .int .i64 1] w7 fun e w' => Ans w7 (.int .i64 (M : Int)) e w') := by rw [HMM.out]; exact heldData_any a2 b2 cs.length ts.length ca2 cb2 w7 ((HG6.out.below hb7).mono hs7) ((HJ6.out.below hb7).mono hs7) hn hm
    have HB7 : Hid (Below w.heap.size w w7) := HB6.out.trans (hb7.mono HB6.out.size)
    have d0 := cell_blk (j := 0) kg7 rfl
    have d1 := cell_blk (j := 1) kg7 rfl
    clear c0 c1 hb7 kg7
    go_wp2_with fail
    refine HH7.out.mono ?_
    rintro e w8 ⟨rfl, hb8⟩
    have HB8 : Hid (Below w.heap.size w w8) := HB7.out.trans (hb8.mono HB7.out.size)
    clear hb8 d0 d1
    go_wp2
    go_ret
    exact ⟨rfl, HB8.out⟩
  · have hq : (1048576 : Int) < (s.size : Int) := by omega
    go_enter Try.func3, Try.ntmps3
    go_wp2
    go_ret
    exact ⟨rfl, Below.refl _ _⟩
end Go.Proofs.Ytilaonjjpfebgaa
