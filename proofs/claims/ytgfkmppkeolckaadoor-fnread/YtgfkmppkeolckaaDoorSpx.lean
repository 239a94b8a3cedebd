/- The model's reader: failing, a cell, the pairs, at any state. The model's reader: an atom. The model's reader: its state on the way through a datum. The model's reader: a datum that fails at once, an atom. The model's reader: a quoted datum. -/
import Derived.Test.YtgfkmppkeolckaaDoorSpd
set_option linter.unusedVariables false
namespace Go.Proofs.YtgfkmppkeolckaaDoor
open Go.ChangeShapes Go.WideShapes Go.ChangeAt Go.RowKit
/-- The six cells as a value. -/
theorem spPost_below {s : ByteArray} {bo : Option Addr} {m cb B : Nat} {w : World} {i : Nat} {la bd : Int} {ao : Option Addr} {n ca : Nat} {p : Nat} (hB : B ≤ w.heap.size) (hi : i ≤ s.size) (hn : n ≤ 1000) (hbd : bd = (p : Int)) {e : Ending} {w' : World} (h : Ans w (.agg #[.string s, .int .i64 i, .int .i64 la, .int .i64 bd, .slice ao n ca, .slice bo m cb]) e w') : SpPost s bo m cb B (.error p) w e w' := by
  obtain ⟨rfl, hb⟩ := h
  exact ⟨_, rfl, ⟨i, la, bd, ao, n, ca, rfl, hi, hn, hbd⟩, hb.mono hB, ok_below hb⟩
theorem l2Fail_any (s : ByteArray) (bo : Option Addr) (m cb B : Nat) (r : Except Nat St) (i : Nat) (la bd : Int) (ao : Option Addr) (n ca p : Nat) (w : World) (hB : B ≤ w.heap.size) (h : RepF s B r i la bd ao n ca w) :
    Calls Tryd.prog 59 #[.agg #[.string s, .int .i64 i, .int .i64 la, .int .i64 bd, .slice ao n ca, .slice bo m cb], .int .i64 p] w fun e w' => SpPost s bo m cb B (r.bind fun _ => .error p) w e w' := by
  obtain ⟨h1, h2, h3⟩ := h
  cases r with
  | error q =>
    refine (l2Fail_pos s i la p bd ao bo n ca m cb w (by rw [h3]; omega)).mono fun e w' he => ?_
    exact spPost_below hB h1 h2 h3 he
  | ok st =>
    obtain ⟨e1, e2, e3, e4, e5⟩ := h3
    rw [e3]
    exact (l2Fail_neg s i la p ao bo n ca m cb w).mono fun e w' he => spPost_below hB h1 h2 rfl he
theorem l2Put_any (s : ByteArray) (bo : Option Addr) (m cb B : Nat) (r : Except Nat St) (i : Nat) (la bd : Int) (ao : Option Addr) (n ca : Nat) (d : Dat) (w : World) (hB : B ≤ w.heap.size) (h : RepF s B r i la bd ao n ca w) :
    Calls Tryd.prog 60 #[.agg #[.string s, .int .i64 i, .int .i64 la, .int .i64 bd, .slice ao n ca, .slice bo m cb], .agg #[.int .i64 d.k, .int .i64 d.n, .string d.s, .int .i64 d.l, .int .i64 d.r]] w fun e w' => SpPost s bo m cb B (r.bind fun st => putP st d) w e w' := by
  obtain ⟨h1, h2, h3⟩ := h
  cases r with
  | error q =>
    refine (l2Put_bad s i la bd ao bo n ca m cb d w (by rw [h3]; omega)).mono fun e w' he => ?_
    exact spPost_below hB h1 h2 h3 he
  | ok st =>
    obtain ⟨rfl, rfl, rfl, rfl, e5⟩ := h3
    by_cases hf : st.cs.length < 1000
    · refine (l2Put_ok s st.nx st.la ao bo ca m cb B st.cs d w hf hB e5).mono ?_
      rintro e w' ⟨g, c', rfl, ho, hb, hk⟩
      refine ⟨_, rfl, ?_, hb, hk⟩
      have e : (Except.ok st : Except Nat St).bind (fun st => putP st d) = .ok ⟨st.nx, st.la, st.cs ++ [d]⟩ := if_pos hf
      rw [e]
      exact ⟨st.nx, st.la, -1, some ⟨g, 0, none⟩, st.cs.length + 1, c', rfl, h1, hf, rfl, rfl, rfl, by simp, ho⟩
    · have e : (Except.ok st : Except Nat St).bind (fun st => putP st d) = .error st.la := if_neg hf
      rw [e]
      exact (l2Put_full s st.nx st.la ao bo st.cs.length ca m cb d w (by omega)).mono fun e w' he => spPost_below hB h1 h2 rfl he
theorem l2List_any (s : ByteArray) (bo : Option Addr) (m cb B : Nat) (r : Except Nat St) (i : Nat) (la bd : Int) (ao pa : Option Addr) (n ca pc : Nat) (ps : List Int) (w : World) (hB : B ≤ w.heap.size) (h : RepF s B r i la bd ao n ca w) (hps : ps.length ≤ 33554432) (hpt : PartsAt w w.heap.size pa ps) :
    Calls Tryd.prog 61 #[.agg #[.string s, .int .i64 i, .int .i64 la, .int .i64 bd, .slice ao n ca, .slice bo m cb], .slice pa ps.length pc] w fun e w' => SpPost s bo m cb B (r.bind fun st => prsP st ps) w e w' := by
  obtain ⟨h1, h2, h3⟩ := h
  cases r with
  | error q =>
    refine (l2List_bad s i la bd ao bo pa n ca m cb ps.length pc w (by rw [h3]; omega) hps).mono fun e w' he => ?_
    exact spPost_below hB h1 h2 h3 he
  | ok st =>
    obtain ⟨rfl, rfl, rfl, rfl, e5⟩ := h3
    exact l2List_ok s st.nx st.la ao bo pa ca m cb pc B st.cs ps w h2 h1 hps hB e5 hpt
end Go.Proofs.YtgfkmppkeolckaaDoor
set_option linter.unusedVariables false
namespace Go.Proofs.YtgfkmppkeolckaaDoor
open Go.ChangeShapes Go.WideShapes Go.ChangeAt Go.RowKit
theorem RepF.keep {s : ByteArray} {B : Nat} {r : Except Nat St} {i : Nat} {la bd : Int} {ao : Option Addr} {n ca : Nat} {w w' : World} (h : RepF s B r i la bd ao n ca w) (hk : ∀ (b : Nat) (cur : Array Value), w.heap[b]? = some (Obj.cells cur 67 (0, 0)) → w'.heap[b]? = w.heap[b]?) : RepF s B r i la bd ao n ca w' := by
  obtain ⟨h1, h2, h3⟩ := h
  refine ⟨h1, h2, ?_⟩
  cases r with
  | error q => exact h3
  | ok st =>
    obtain ⟨e1, e2, e3, e4, e5⟩ := h3
    refine ⟨e1, e2, e3, e4, own_other e5 fun b hb => ?_⟩
    obtain ⟨cur, hc⟩ := own_kind e5 hb
    exact hk b cur hc
theorem RepF.put6 {s : ByteArray} {B : Nat} {r : Except Nat St} {i : Nat} {la bd : Int} {ao : Option Addr} {n ca : Nat} {w : World} {g : Nat} {xs : Array Value} {v0 v1 v2 v3 v4 v5 : Value} (h : RepF s B r i la bd ao n ca w) (hg : w.heap[g]? = some (Obj.cells xs 54 (0, 0))) : RepF s B r i la bd ao n ca (put6 w g v0 v1 v2 v3 v4 v5) := by
  refine h.keep fun b cur hc => put6_other ?_
  rintro rfl
  have := hg.symm.trans hc
  simp at this
theorem RepF.below {s : ByteArray} {B : Nat} {r : Except Nat St} {i : Nat} {la bd : Int} {ao : Option Addr} {n ca : Nat} {w w' : World} (h : RepF s B r i la bd ao n ca w) (hb : Below w.heap.size w w') : RepF s B r i la bd ao n ca w' :=
  h.keep fun b cur hc => hb.block b (Array.getElem?_eq_some_iff.1 hc).1
theorem rd_val {l : List UInt8} {n : Int} (h : RdRes l n true) : n = rdX l := by
  have hd : deB l = true := h.deB.symm
  simp only [deB, Bool.and_eq_true, decide_eq_true_eq] at hd
  exact (RdRes.unique h (rdB l hd.2 hd.1)).1
/-- The answer laid in its block and handed back. -/
theorem end6 {s : ByteArray} {bo : Option Addr} {m cb B : Nat} {r r' : Except Nat St} {w w2 : World} {g : Nat} {i : Nat} {la bd : Int} {ao : Option Addr} {n ca : Nat} (hB : B ≤ g) (hgw : w.heap.size ≤ g) (he : r = r') (hr : RepF s B r i la bd ao n ca w2) (kz : w2.heap[g]? = some rz) (hb : Below B w w2) (hk : Lib.OthersKept 67 none w w2) :
    SpPost s bo m cb B r' w (.returned (.agg #[.string s, .int .i64 i, .int .i64 la, .int .i64 bd, .slice ao n ca, .slice bo m cb])) (Go.Proofs.YtgfkmppkeolckaaDoor.put6 w2 g (.string s) (.int .i64 i) (.int .i64 la) (.int .i64 bd) (.slice ao n ca) (.slice bo m cb)) := by
  subst he
  exact ⟨_, rfl, ⟨i, la, bd, ao, n, ca, rfl, hr.put6 kz⟩, put6_below hb hB _ _ _ _ _ _, ok_high hk (fun b hb => put6_other (by omega))⟩
set_option maxRecDepth 100000 in
set_option maxHeartbeats 4000000 in
theorem l2Atom_any (s : ByteArray) (bo : Option Addr) (m cb B : Nat) (st : St) (ao : Option Addr) (ca : Nat) (t : ByteArray) (w : World) (ht : t.size ≤ 33554432) (hB : B ≤ w.heap.size) (h : RepF s B (.ok st) st.nx st.la (-1) ao st.cs.length ca w) :
    Calls Tryd.prog 62 #[.agg #[.string s, .int .i64 st.nx, .int .i64 st.la, .int .i64 (-1), .slice ao st.cs.length ca, .slice bo m cb], .string t, .int .i64 st.la] w fun e w' => SpPost s bo m cb B (atomP st t) w e w' := by
  have HF : Hid (RepF s B (.ok st) st.nx st.la (-1) ao st.cs.length ca w) := h
  clear h
  go_enter Tryd.func62, Tryd.ntmps62
  go_wp2_with fail
  refine (specRd_any t _ ht).mono ?_
  rintro e w1 ⟨x, b, rfl, hr, hb1⟩
  have hb0 : Below w.heap.size w ((w.alloc (rb s st.nx st.la (-1) (.slice ao st.cs.length ca) (.slice bo m cb))).alloc rz) := ((Below.refl _ _).alloc (Nat.le_refl _) _).alloc (by simp) _
  have k0 : ((w.alloc (rb s st.nx st.la (-1) (.slice ao st.cs.length ca) (.slice bo m cb))).alloc rz).heap[w.heap.size]? = some (rb s st.nx st.la (-1) (.slice ao st.cs.length ca) (.slice bo m cb)) := blk_past (blk_at _ _ _ rfl)
  have k1 : ((w.alloc (rb s st.nx st.la (-1) (.slice ao st.cs.length ca) (.slice bo m cb))).alloc rz).heap[w.heap.size + 1]? = some rz := blk_at _ _ _ (by simp)
  have K0 : Hid (w1.heap[w.heap.size]? = some (rb s st.nx st.la (-1) (.slice ao st.cs.length ca) (.slice bo m cb))) := (hb1.block _ (by simp; omega)).trans k0
  have K1 : Hid (w1.heap[w.heap.size + 1]? = some rz) := (hb1.block _ (by simp)).trans k1
  have HB0 : Hid (Below w.heap.size w w1) := hb0.trans (hb1.mono (by simp; omega))
  have HB : Hid (Below B w w1) := HB0.out.mono hB
  have HK : Hid (Lib.OthersKept 67 none w w1) := ok_below HB0.out
  have HR : Hid (RepF s B (.ok st) st.nx st.la (-1) ao st.cs.length ca w1) := HF.out.below HB0.out
  have hB1 : B ≤ w1.heap.size := by have := HB.out.size; omega
  clear hb0 k0 k1 hb1 HB0
  have k0 := K0.out
  have x0 := cell_blk (j := 0) k0 rfl
  have x1 := cell_blk (j := 1) k0 rfl
  have x2 := cell_blk (j := 2) k0 rfl
  have x3 := cell_blk (j := 3) k0 rfl
  have x4 := cell_blk (j := 4) k0 rfl
  have x5 := cell_blk (j := 5) k0 rfl
  clear k0
  have HV : Hid (RdRes t.data.toList x b) := hr
  clear hr
  by_cases hA : b = true ∧ -1000000 ≤ x ∧ x ≤ 1000000
  · obtain ⟨rfl, h1, h2⟩ := hA
    obtain hx := rd_val HV.out
    have hd := HV.out.deB.symm
    have HE : Hid ((Except.ok st : Except Nat St).bind (fun st => putP st (numD x)) = atomP st t) := by
      show _ = _
      simp only [atomP, atomD]
      rw [if_pos ⟨hd, by rw [← hx]; exact h1, by rw [← hx]; exact h2⟩, ← hx]
      rfl
    clear hx hd
    have HI : Hid (∀ w, Calls Tryd.prog 83 #[.int .i64 x, .int .i64 (-1000000), .int .i64 1000000] w fun e w' => e = .returned (.bool true) ∧ w' = w) := fun w => by
      have := l1In_any x (-1000000) 1000000 w
      rwa [show (decide ((-1000000 : Int) ≤ x) && decide (x ≤ 1000000)) = true by simp; omega] at this
    go_wp2_with (go_at_call 83; refine (HI.out _).mono ?_; rintro e w' ⟨rfl, rfl⟩)
    refine (l2Put_any s bo m cb B (.ok st) st.nx st.la (-1) ao st.cs.length ca (numD x) _ hB1 HR.out).mono ?_
    rintro e w2 ⟨v, rfl, ⟨i2, la2, bd2, ao2, n2, ca2, rfl, hrep⟩, hb2, hok2⟩
    have kz := hok2 _ _ K1.out (by simp) (fun _ _ e => by injection e with _ e; cases e)
    have HB2 : Hid (Below B w w2) := HB.out.trans hb2
    have HK2 : Hid (Lib.OthersKept 67 none w w2) := fun k o hk hkb ho => hok2 k o (HK.out k o hk hkb ho) hkb ho
    have HR2 : Hid _ := hrep
    have KZ : Hid (w2.heap[w.heap.size + 1]? = some rz) := kz
    have z0 := cell_blk (j := 0) kz rfl
    have z1 := cell_blk (j := 1) kz rfl
    have z2 := cell_blk (j := 2) kz rfl
    have z3 := cell_blk (j := 3) kz rfl
    have z4 := cell_blk (j := 4) kz rfl
    have z5 := cell_blk (j := 5) kz rfl
    have y0 := frozen_blk kz 0
    have y1 := frozen_blk kz 1
    have y2 := frozen_blk kz 2
    have y3 := frozen_blk kz 3
    have y4 := frozen_blk kz 4
    have y5 := frozen_blk kz 5
    clear kz hrep hb2 hok2
    go_wp2
    refine bodyPost_ret (ret6 rfl rfl (.string s) (.int .i64 i2) (.int .i64 la2) (.int .i64 bd2) (.slice ao2 n2 ca2) (.slice bo m cb) KZ.out) rfl ?_
    exact end6 (by omega) (by omega) HE.out HR2.out KZ.out HB2.out HK2.out
  · have HN : Hid (¬ (deB t.data.toList = true ∧ -1000000 ≤ rdX t.data.toList ∧ rdX t.data.toList ≤ 1000000)) := by
      show ¬ _
      rintro ⟨hd, h1, h2⟩
      obtain rfl : b = true := HV.out.deB.trans hd
      rw [← rd_val HV.out] at h1 h2
      exact hA ⟨rfl, h1, h2⟩
    cases b
    · clear hA
      by_cases q1 : (t.toList == [35, 116]) = true
      · have HE : Hid ((Except.ok st : Except Nat St).bind (fun st => putP st (boolD 1)) = atomP st t) := by
          show _ = _
          simp only [atomP, atomD]
          rw [if_neg HN.out, if_pos q1]
          rfl
        go_wp2_with fail
        refine (l2Put_any s bo m cb B (.ok st) st.nx st.la (-1) ao st.cs.length ca (boolD 1) _ hB1 HR.out).mono ?_
        rintro e w2 ⟨v, rfl, ⟨i2, la2, bd2, ao2, n2, ca2, rfl, hrep⟩, hb2, hok2⟩
        have kz := hok2 _ _ K1.out (by simp) (fun _ _ e => by injection e with _ e; cases e)
        have HB2 : Hid (Below B w w2) := HB.out.trans hb2
        have HK2 : Hid (Lib.OthersKept 67 none w w2) := fun k o hk hkb ho => hok2 k o (HK.out k o hk hkb ho) hkb ho
        have HR2 : Hid _ := hrep
        have KZ : Hid (w2.heap[w.heap.size + 1]? = some rz) := kz
        have z0 := cell_blk (j := 0) kz rfl
        have z1 := cell_blk (j := 1) kz rfl
        have z2 := cell_blk (j := 2) kz rfl
        have z3 := cell_blk (j := 3) kz rfl
        have z4 := cell_blk (j := 4) kz rfl
        have z5 := cell_blk (j := 5) kz rfl
        have y0 := frozen_blk kz 0
        have y1 := frozen_blk kz 1
        have y2 := frozen_blk kz 2
        have y3 := frozen_blk kz 3
        have y4 := frozen_blk kz 4
        have y5 := frozen_blk kz 5
        clear kz hrep hb2 hok2
        go_wp2
        refine bodyPost_ret (ret6 rfl rfl (.string s) (.int .i64 i2) (.int .i64 la2) (.int .i64 bd2) (.slice ao2 n2 ca2) (.slice bo m cb) KZ.out) rfl ?_
        exact end6 (by omega) (by omega) HE.out HR2.out KZ.out HB2.out HK2.out
      · have Q1 : (t.toList == [35, 116]) = false := by simpa using q1
        by_cases q2 : (t.toList == [35, 102]) = true
        · have HE : Hid ((Except.ok st : Except Nat St).bind (fun st => putP st (boolD 0)) = atomP st t) := by
            show _ = _
            simp only [atomP, atomD]
            rw [if_neg HN.out, if_neg q1, if_pos q2]
            rfl
          clear q1
          go_wp2_with fail
          refine (l2Put_any s bo m cb B (.ok st) st.nx st.la (-1) ao st.cs.length ca (boolD 0) _ hB1 HR.out).mono ?_
          rintro e w2 ⟨v, rfl, ⟨i2, la2, bd2, ao2, n2, ca2, rfl, hrep⟩, hb2, hok2⟩
          have kz := hok2 _ _ K1.out (by simp) (fun _ _ e => by injection e with _ e; cases e)
          have HB2 : Hid (Below B w w2) := HB.out.trans hb2
          have HK2 : Hid (Lib.OthersKept 67 none w w2) := fun k o hk hkb ho => hok2 k o (HK.out k o hk hkb ho) hkb ho
          have HR2 : Hid _ := hrep
          have KZ : Hid (w2.heap[w.heap.size + 1]? = some rz) := kz
          have z0 := cell_blk (j := 0) kz rfl
          have z1 := cell_blk (j := 1) kz rfl
          have z2 := cell_blk (j := 2) kz rfl
          have z3 := cell_blk (j := 3) kz rfl
          have z4 := cell_blk (j := 4) kz rfl
          have z5 := cell_blk (j := 5) kz rfl
          have y0 := frozen_blk kz 0
          have y1 := frozen_blk kz 1
          have y2 := frozen_blk kz 2
          have y3 := frozen_blk kz 3
          have y4 := frozen_blk kz 4
          have y5 := frozen_blk kz 5
          clear kz hrep hb2 hok2
          go_wp2
          refine bodyPost_ret (ret6 rfl rfl (.string s) (.int .i64 i2) (.int .i64 la2) (.int .i64 bd2) (.slice ao2 n2 ca2) (.slice bo m cb) KZ.out) rfl ?_
          exact end6 (by omega) (by omega) HE.out HR2.out KZ.out HB2.out HK2.out
        · have Q2 : (t.toList == [35, 102]) = false := by simpa using q2
          have HS : Hid (∀ w, Calls Tryd.prog 84 #[.string t] w fun e w' => Ans w (.bool (syL t.data.toList)) e w') := fun w => l2Sym_any t w ht
          cases q3 : syL t.data.toList
          · rw [q3] at HS
            have HE : Hid ((Except.ok st : Except Nat St).bind (fun _ => .error st.la) = atomP st t) := by
              show _ = _
              simp only [atomP, atomD]
              rw [if_neg HN.out, if_neg q1, if_neg q2, if_neg (by rw [q3]; simp)]
              rfl
            clear q1 q2 q3
            go_wp2_with fail
            refine (HS.out _).mono ?_
            rintro e w3 ⟨rfl, hb3⟩
            have K0' : Hid (w3.heap[w.heap.size]? = some (rb s st.nx st.la (-1) (.slice ao st.cs.length ca) (.slice bo m cb))) := (hb3.block _ (Array.getElem?_eq_some_iff.1 K0.out).1).trans K0.out
            have K1' : Hid (w3.heap[w.heap.size + 1]? = some rz) := (hb3.block _ (Array.getElem?_eq_some_iff.1 K1.out).1).trans K1.out
            have HB' : Hid (Below B w w3) := HB.out.trans (hb3.mono hB1)
            have HK' : Hid (Lib.OthersKept 67 none w w3) := fun k o hk hkb ho => (ok_below hb3) k o (HK.out k o hk hkb ho) hkb ho
            have HR' : Hid (RepF s B (.ok st) st.nx st.la (-1) ao st.cs.length ca w3) := HR.out.below hb3
            have hB1' : B ≤ w3.heap.size := by have := HB'.out.size; omega
            clear hB1 HR HK HB K0 K1 hb3 x0 x1 x2 x3 x4 x5 HS
            have hB1 := hB1'
            have HR := HR'
            have HK := HK'
            have HB := HB'
            have K0 := K0'
            have K1 := K1'
            clear hB1' HR' HK' HB' K0' K1'
            have k0 := K0.out
            have x0 := cell_blk (j := 0) k0 rfl
            have x1 := cell_blk (j := 1) k0 rfl
            have x2 := cell_blk (j := 2) k0 rfl
            have x3 := cell_blk (j := 3) k0 rfl
            have x4 := cell_blk (j := 4) k0 rfl
            have x5 := cell_blk (j := 5) k0 rfl
            clear k0
            go_wp2_with fail
            refine (l2Fail_any s bo m cb B (.ok st) st.nx st.la (-1) ao st.cs.length ca st.la _ hB1 HR.out).mono ?_
            rintro e w2 ⟨v, rfl, ⟨i2, la2, bd2, ao2, n2, ca2, rfl, hrep⟩, hb2, hok2⟩
            have kz := hok2 _ _ K1.out (by simp) (fun _ _ e => by injection e with _ e; cases e)
            have HB2 : Hid (Below B w w2) := HB.out.trans hb2
            have HK2 : Hid (Lib.OthersKept 67 none w w2) := fun k o hk hkb ho => hok2 k o (HK.out k o hk hkb ho) hkb ho
            have HR2 : Hid _ := hrep
            have KZ : Hid (w2.heap[w.heap.size + 1]? = some rz) := kz
            have z0 := cell_blk (j := 0) kz rfl
            have z1 := cell_blk (j := 1) kz rfl
            have z2 := cell_blk (j := 2) kz rfl
            have z3 := cell_blk (j := 3) kz rfl
            have z4 := cell_blk (j := 4) kz rfl
            have z5 := cell_blk (j := 5) kz rfl
            have y0 := frozen_blk kz 0
            have y1 := frozen_blk kz 1
            have y2 := frozen_blk kz 2
            have y3 := frozen_blk kz 3
            have y4 := frozen_blk kz 4
            have y5 := frozen_blk kz 5
            clear kz hrep hb2 hok2
            go_wp2
            refine bodyPost_ret (ret6 rfl rfl (.string s) (.int .i64 i2) (.int .i64 la2) (.int .i64 bd2) (.slice ao2 n2 ca2) (.slice bo m cb) KZ.out) rfl ?_
            exact end6 (by omega) (by omega) HE.out HR2.out KZ.out HB2.out HK2.out
          · rw [q3] at HS
            have HE : Hid ((Except.ok st : Except Nat St).bind (fun st => putP st (symD t)) = atomP st t) := by
              show _ = _
              simp only [atomP, atomD]
              rw [if_neg HN.out, if_neg q1, if_neg q2, if_pos q3]
              rfl
            clear q1 q2 q3
            go_wp2_with fail
            refine (HS.out _).mono ?_
            rintro e w3 ⟨rfl, hb3⟩
            have K0' : Hid (w3.heap[w.heap.size]? = some (rb s st.nx st.la (-1) (.slice ao st.cs.length ca) (.slice bo m cb))) := (hb3.block _ (Array.getElem?_eq_some_iff.1 K0.out).1).trans K0.out
            have K1' : Hid (w3.heap[w.heap.size + 1]? = some rz) := (hb3.block _ (Array.getElem?_eq_some_iff.1 K1.out).1).trans K1.out
            have HB' : Hid (Below B w w3) := HB.out.trans (hb3.mono hB1)
            have HK' : Hid (Lib.OthersKept 67 none w w3) := fun k o hk hkb ho => (ok_below hb3) k o (HK.out k o hk hkb ho) hkb ho
            have HR' : Hid (RepF s B (.ok st) st.nx st.la (-1) ao st.cs.length ca w3) := HR.out.below hb3
            have hB1' : B ≤ w3.heap.size := by have := HB'.out.size; omega
            clear hB1 HR HK HB K0 K1 hb3 x0 x1 x2 x3 x4 x5 HS
            have hB1 := hB1'
            have HR := HR'
            have HK := HK'
            have HB := HB'
            have K0 := K0'
            have K1 := K1'
            clear hB1' HR' HK' HB' K0' K1'
            have k0 := K0.out
            have x0 := cell_blk (j := 0) k0 rfl
            have x1 := cell_blk (j := 1) k0 rfl
            have x2 := cell_blk (j := 2) k0 rfl
            have x3 := cell_blk (j := 3) k0 rfl
            have x4 := cell_blk (j := 4) k0 rfl
            have x5 := cell_blk (j := 5) k0 rfl
            clear k0
            go_wp2_with fail
            refine (l2Put_any s bo m cb B (.ok st) st.nx st.la (-1) ao st.cs.length ca (symD t) _ hB1 HR.out).mono ?_
            rintro e w2 ⟨v, rfl, ⟨i2, la2, bd2, ao2, n2, ca2, rfl, hrep⟩, hb2, hok2⟩
            have kz := hok2 _ _ K1.out (by simp) (fun _ _ e => by injection e with _ e; cases e)
            have HB2 : Hid (Below B w w2) := HB.out.trans hb2
            have HK2 : Hid (Lib.OthersKept 67 none w w2) := fun k o hk hkb ho => hok2 k o (HK.out k o hk hkb ho) hkb ho
            have HR2 : Hid _ := hrep
            have KZ : Hid (w2.heap[w.heap.size + 1]? = some rz) := kz
            have z0 := cell_blk (j := 0) kz rfl
            have z1 := cell_blk (j := 1) kz rfl
            have z2 := cell_blk (j := 2) kz rfl
            have z3 := cell_blk (j := 3) kz rfl
            have z4 := cell_blk (j := 4) kz rfl
            have z5 := cell_blk (j := 5) kz rfl
            have y0 := frozen_blk kz 0
            have y1 := frozen_blk kz 1
            have y2 := frozen_blk kz 2
            have y3 := frozen_blk kz 3
            have y4 := frozen_blk kz 4
            have y5 := frozen_blk kz 5
            clear kz hrep hb2 hok2
            go_wp2
            refine bodyPost_ret (ret6 rfl rfl (.string s) (.int .i64 i2) (.int .i64 la2) (.int .i64 bd2) (.slice ao2 n2 ca2) (.slice bo m cb) KZ.out) rfl ?_
            exact end6 (by omega) (by omega) HE.out HR2.out KZ.out HB2.out HK2.out

    · have hA' : ¬ (-1000000 ≤ x ∧ x ≤ 1000000) := fun h => hA ⟨rfl, h.1, h.2⟩
      clear hA
      have HI : Hid (∀ w, Calls Tryd.prog 83 #[.int .i64 x, .int .i64 (-1000000), .int .i64 1000000] w fun e w' => e = .returned (.bool false) ∧ w' = w) := fun w => by
        have := l1In_any x (-1000000) 1000000 w
        rwa [show (decide ((-1000000 : Int) ≤ x) && decide (x ≤ 1000000)) = false by simp; omega] at this

      clear hA'
      by_cases q1 : (t.toList == [35, 116]) = true
      · have HE : Hid ((Except.ok st : Except Nat St).bind (fun st => putP st (boolD 1)) = atomP st t) := by
          show _ = _
          simp only [atomP, atomD]
          rw [if_neg HN.out, if_pos q1]
          rfl
        go_wp2_with (first | (go_at_call 83; refine (HI.out _).mono ?_; rintro e w' ⟨rfl, rfl⟩) | fail)
        refine (l2Put_any s bo m cb B (.ok st) st.nx st.la (-1) ao st.cs.length ca (boolD 1) _ hB1 HR.out).mono ?_
        rintro e w2 ⟨v, rfl, ⟨i2, la2, bd2, ao2, n2, ca2, rfl, hrep⟩, hb2, hok2⟩
        have kz := hok2 _ _ K1.out (by simp) (fun _ _ e => by injection e with _ e; cases e)
        have HB2 : Hid (Below B w w2) := HB.out.trans hb2
        have HK2 : Hid (Lib.OthersKept 67 none w w2) := fun k o hk hkb ho => hok2 k o (HK.out k o hk hkb ho) hkb ho
        have HR2 : Hid _ := hrep
        have KZ : Hid (w2.heap[w.heap.size + 1]? = some rz) := kz
        have z0 := cell_blk (j := 0) kz rfl
        have z1 := cell_blk (j := 1) kz rfl
        have z2 := cell_blk (j := 2) kz rfl
        have z3 := cell_blk (j := 3) kz rfl
        have z4 := cell_blk (j := 4) kz rfl
        have z5 := cell_blk (j := 5) kz rfl
        have y0 := frozen_blk kz 0
        have y1 := frozen_blk kz 1
        have y2 := frozen_blk kz 2
        have y3 := frozen_blk kz 3
        have y4 := frozen_blk kz 4
        have y5 := frozen_blk kz 5
        clear kz hrep hb2 hok2
        go_wp2
        refine bodyPost_ret (ret6 rfl rfl (.string s) (.int .i64 i2) (.int .i64 la2) (.int .i64 bd2) (.slice ao2 n2 ca2) (.slice bo m cb) KZ.out) rfl ?_
        exact end6 (by omega) (by omega) HE.out HR2.out KZ.out HB2.out HK2.out
      · have Q1 : (t.toList == [35, 116]) = false := by simpa using q1
        by_cases q2 : (t.toList == [35, 102]) = true
        · have HE : Hid ((Except.ok st : Except Nat St).bind (fun st => putP st (boolD 0)) = atomP st t) := by
            show _ = _
            simp only [atomP, atomD]
            rw [if_neg HN.out, if_neg q1, if_pos q2]
            rfl
          clear q1
          go_wp2_with (first | (go_at_call 83; refine (HI.out _).mono ?_; rintro e w' ⟨rfl, rfl⟩) | fail)
          refine (l2Put_any s bo m cb B (.ok st) st.nx st.la (-1) ao st.cs.length ca (boolD 0) _ hB1 HR.out).mono ?_
          rintro e w2 ⟨v, rfl, ⟨i2, la2, bd2, ao2, n2, ca2, rfl, hrep⟩, hb2, hok2⟩
          have kz := hok2 _ _ K1.out (by simp) (fun _ _ e => by injection e with _ e; cases e)
          have HB2 : Hid (Below B w w2) := HB.out.trans hb2
          have HK2 : Hid (Lib.OthersKept 67 none w w2) := fun k o hk hkb ho => hok2 k o (HK.out k o hk hkb ho) hkb ho
          have HR2 : Hid _ := hrep
          have KZ : Hid (w2.heap[w.heap.size + 1]? = some rz) := kz
          have z0 := cell_blk (j := 0) kz rfl
          have z1 := cell_blk (j := 1) kz rfl
          have z2 := cell_blk (j := 2) kz rfl
          have z3 := cell_blk (j := 3) kz rfl
          have z4 := cell_blk (j := 4) kz rfl
          have z5 := cell_blk (j := 5) kz rfl
          have y0 := frozen_blk kz 0
          have y1 := frozen_blk kz 1
          have y2 := frozen_blk kz 2
          have y3 := frozen_blk kz 3
          have y4 := frozen_blk kz 4
          have y5 := frozen_blk kz 5
          clear kz hrep hb2 hok2
          go_wp2
          refine bodyPost_ret (ret6 rfl rfl (.string s) (.int .i64 i2) (.int .i64 la2) (.int .i64 bd2) (.slice ao2 n2 ca2) (.slice bo m cb) KZ.out) rfl ?_
          exact end6 (by omega) (by omega) HE.out HR2.out KZ.out HB2.out HK2.out
        · have Q2 : (t.toList == [35, 102]) = false := by simpa using q2
          have HS : Hid (∀ w, Calls Tryd.prog 84 #[.string t] w fun e w' => Ans w (.bool (syL t.data.toList)) e w') := fun w => l2Sym_any t w ht
          cases q3 : syL t.data.toList
          · rw [q3] at HS
            have HE : Hid ((Except.ok st : Except Nat St).bind (fun _ => .error st.la) = atomP st t) := by
              show _ = _
              simp only [atomP, atomD]
              rw [if_neg HN.out, if_neg q1, if_neg q2, if_neg (by rw [q3]; simp)]
              rfl
            clear q1 q2 q3
            go_wp2_with (first | (go_at_call 83; refine (HI.out _).mono ?_; rintro e w' ⟨rfl, rfl⟩) | fail)
            refine (HS.out _).mono ?_
            rintro e w3 ⟨rfl, hb3⟩
            have K0' : Hid (w3.heap[w.heap.size]? = some (rb s st.nx st.la (-1) (.slice ao st.cs.length ca) (.slice bo m cb))) := (hb3.block _ (Array.getElem?_eq_some_iff.1 K0.out).1).trans K0.out
            have K1' : Hid (w3.heap[w.heap.size + 1]? = some rz) := (hb3.block _ (Array.getElem?_eq_some_iff.1 K1.out).1).trans K1.out
            have HB' : Hid (Below B w w3) := HB.out.trans (hb3.mono hB1)
            have HK' : Hid (Lib.OthersKept 67 none w w3) := fun k o hk hkb ho => (ok_below hb3) k o (HK.out k o hk hkb ho) hkb ho
            have HR' : Hid (RepF s B (.ok st) st.nx st.la (-1) ao st.cs.length ca w3) := HR.out.below hb3
            have hB1' : B ≤ w3.heap.size := by have := HB'.out.size; omega
            clear hB1 HR HK HB K0 K1 hb3 x0 x1 x2 x3 x4 x5 HS
            have hB1 := hB1'
            have HR := HR'
            have HK := HK'
            have HB := HB'
            have K0 := K0'
            have K1 := K1'
            clear hB1' HR' HK' HB' K0' K1'
            have k0 := K0.out
            have x0 := cell_blk (j := 0) k0 rfl
            have x1 := cell_blk (j := 1) k0 rfl
            have x2 := cell_blk (j := 2) k0 rfl
            have x3 := cell_blk (j := 3) k0 rfl
            have x4 := cell_blk (j := 4) k0 rfl
            have x5 := cell_blk (j := 5) k0 rfl
            clear k0
            go_wp2_with fail
            refine (l2Fail_any s bo m cb B (.ok st) st.nx st.la (-1) ao st.cs.length ca st.la _ hB1 HR.out).mono ?_
            rintro e w2 ⟨v, rfl, ⟨i2, la2, bd2, ao2, n2, ca2, rfl, hrep⟩, hb2, hok2⟩
            have kz := hok2 _ _ K1.out (by simp) (fun _ _ e => by injection e with _ e; cases e)
            have HB2 : Hid (Below B w w2) := HB.out.trans hb2
            have HK2 : Hid (Lib.OthersKept 67 none w w2) := fun k o hk hkb ho => hok2 k o (HK.out k o hk hkb ho) hkb ho
            have HR2 : Hid _ := hrep
            have KZ : Hid (w2.heap[w.heap.size + 1]? = some rz) := kz
            have z0 := cell_blk (j := 0) kz rfl
            have z1 := cell_blk (j := 1) kz rfl
            have z2 := cell_blk (j := 2) kz rfl
            have z3 := cell_blk (j := 3) kz rfl
            have z4 := cell_blk (j := 4) kz rfl
            have z5 := cell_blk (j := 5) kz rfl
            have y0 := frozen_blk kz 0
            have y1 := frozen_blk kz 1
            have y2 := frozen_blk kz 2
            have y3 := frozen_blk kz 3
            have y4 := frozen_blk kz 4
            have y5 := frozen_blk kz 5
            clear kz hrep hb2 hok2
            go_wp2
            refine bodyPost_ret (ret6 rfl rfl (.string s) (.int .i64 i2) (.int .i64 la2) (.int .i64 bd2) (.slice ao2 n2 ca2) (.slice bo m cb) KZ.out) rfl ?_
            exact end6 (by omega) (by omega) HE.out HR2.out KZ.out HB2.out HK2.out
          · rw [q3] at HS
            have HE : Hid ((Except.ok st : Except Nat St).bind (fun st => putP st (symD t)) = atomP st t) := by
              show _ = _
              simp only [atomP, atomD]
              rw [if_neg HN.out, if_neg q1, if_neg q2, if_pos q3]
              rfl
            clear q1 q2 q3
            go_wp2_with (first | (go_at_call 83; refine (HI.out _).mono ?_; rintro e w' ⟨rfl, rfl⟩) | fail)
            refine (HS.out _).mono ?_
            rintro e w3 ⟨rfl, hb3⟩
            have K0' : Hid (w3.heap[w.heap.size]? = some (rb s st.nx st.la (-1) (.slice ao st.cs.length ca) (.slice bo m cb))) := (hb3.block _ (Array.getElem?_eq_some_iff.1 K0.out).1).trans K0.out
            have K1' : Hid (w3.heap[w.heap.size + 1]? = some rz) := (hb3.block _ (Array.getElem?_eq_some_iff.1 K1.out).1).trans K1.out
            have HB' : Hid (Below B w w3) := HB.out.trans (hb3.mono hB1)
            have HK' : Hid (Lib.OthersKept 67 none w w3) := fun k o hk hkb ho => (ok_below hb3) k o (HK.out k o hk hkb ho) hkb ho
            have HR' : Hid (RepF s B (.ok st) st.nx st.la (-1) ao st.cs.length ca w3) := HR.out.below hb3
            have hB1' : B ≤ w3.heap.size := by have := HB'.out.size; omega
            clear hB1 HR HK HB K0 K1 hb3 x0 x1 x2 x3 x4 x5 HS
            have hB1 := hB1'
            have HR := HR'
            have HK := HK'
            have HB := HB'
            have K0 := K0'
            have K1 := K1'
            clear hB1' HR' HK' HB' K0' K1'
            have k0 := K0.out
            have x0 := cell_blk (j := 0) k0 rfl
            have x1 := cell_blk (j := 1) k0 rfl
            have x2 := cell_blk (j := 2) k0 rfl
            have x3 := cell_blk (j := 3) k0 rfl
            have x4 := cell_blk (j := 4) k0 rfl
            have x5 := cell_blk (j := 5) k0 rfl
            clear k0
            go_wp2_with fail
            refine (l2Put_any s bo m cb B (.ok st) st.nx st.la (-1) ao st.cs.length ca (symD t) _ hB1 HR.out).mono ?_
            rintro e w2 ⟨v, rfl, ⟨i2, la2, bd2, ao2, n2, ca2, rfl, hrep⟩, hb2, hok2⟩
            have kz := hok2 _ _ K1.out (by simp) (fun _ _ e => by injection e with _ e; cases e)
            have HB2 : Hid (Below B w w2) := HB.out.trans hb2
            have HK2 : Hid (Lib.OthersKept 67 none w w2) := fun k o hk hkb ho => hok2 k o (HK.out k o hk hkb ho) hkb ho
            have HR2 : Hid _ := hrep
            have KZ : Hid (w2.heap[w.heap.size + 1]? = some rz) := kz
            have z0 := cell_blk (j := 0) kz rfl
            have z1 := cell_blk (j := 1) kz rfl
            have z2 := cell_blk (j := 2) kz rfl
            have z3 := cell_blk (j := 3) kz rfl
            have z4 := cell_blk (j := 4) kz rfl
            have z5 := cell_blk (j := 5) kz rfl
            have y0 := frozen_blk kz 0
            have y1 := frozen_blk kz 1
            have y2 := frozen_blk kz 2
            have y3 := frozen_blk kz 3
            have y4 := frozen_blk kz 4
            have y5 := frozen_blk kz 5
            clear kz hrep hb2 hok2
            go_wp2
            refine bodyPost_ret (ret6 rfl rfl (.string s) (.int .i64 i2) (.int .i64 la2) (.int .i64 bd2) (.slice ao2 n2 ca2) (.slice bo m cb) KZ.out) rfl ?_
            exact end6 (by omega) (by omega) HE.out HR2.out KZ.out HB2.out HK2.out

end Go.Proofs.YtgfkmppkeolckaaDoor
set_option linter.unusedVariables false
namespace Go.Proofs.YtgfkmppkeolckaaDoor
open Go.ChangeShapes Go.WideShapes Go.ChangeAt Go.RowKit
/-- On the way through a datum: the reader's block, the answer's, what the cells say. -/
def DSt (s : ByteArray) (bo : Option Addr) (m cb B : Nat) (w : World) (r : Except Nat St) (i : Nat) (la bd : Int) (ao : Option Addr) (n ca : Nat) (W : World) : Prop :=
  W.heap[w.heap.size]? = some (rb s i la bd (.slice ao n ca) (.slice bo m cb)) ∧ W.heap[w.heap.size + 1]? = some rz ∧ Below B w W ∧ Lib.OthersKept 67 none w W ∧ RepF s B r i la bd ao n ca W
section
variable {s : ByteArray} {bo : Option Addr} {m cb B : Nat} {w : World} {r r' : Except Nat St} {i i' : Nat} {la bd la' bd' : Int} {ao ao' : Option Addr} {n ca n' ca' : Nat} {W W' : World}
theorem DSt.start (hB : B ≤ w.heap.size) (h : RepF s B r i la bd ao n ca w) : DSt s bo m cb B w r i la bd ao n ca ((w.alloc (rb s i la bd (.slice ao n ca) (.slice bo m cb))).alloc rz) := by
  have hb0 : Below w.heap.size w ((w.alloc (rb s i la bd (.slice ao n ca) (.slice bo m cb))).alloc rz) := ((Below.refl _ _).alloc (Nat.le_refl _) _).alloc (by simp) _
  exact ⟨blk_past (blk_at _ _ _ rfl), blk_at _ _ _ (by simp), hb0.mono hB, ok_below hb0, h.below hb0⟩
theorem DSt.size (h : DSt s bo m cb B w r i la bd ao n ca W) : w.heap.size + 1 < W.heap.size := (Array.getElem?_eq_some_iff.1 h.2.1).1
theorem DSt.below (hB : B ≤ w.heap.size) (h : DSt s bo m cb B w r i la bd ao n ca W) (hb : Below W.heap.size W W') : DSt s bo m cb B w r i la bd ao n ca W' := by
  have hz := h.size
  obtain ⟨k0, k1, h3, h4, h5⟩ := h
  exact ⟨(hb.block _ (by omega)).trans k0, (hb.block _ (by omega)).trans k1, h3.trans (hb.mono (by omega)), fun k o hk hkb ho => (ok_below hb) k o (h4 k o hk hkb ho) hkb ho, h5.below hb⟩
/-- What a call of the reader's own kind leaves. -/
theorem DSt.got (h : DSt s bo m cb B w r i la bd ao n ca W) {e : Ending} (hp : SpPost s bo m cb B r' W e W') : ∃ (i' : Nat) (la' bd' : Int) (ao' : Option Addr) (n' ca' : Nat), e = .returned (.agg #[.string s, .int .i64 i', .int .i64 la', .int .i64 bd', .slice ao' n' ca', .slice bo m cb]) ∧ W'.heap[w.heap.size]? = some (rb s i la bd (.slice ao n ca) (.slice bo m cb)) ∧ W'.heap[w.heap.size + 1]? = some rz ∧ Below B w W' ∧ Lib.OthersKept 67 none w W' ∧ RepF s B r' i' la' bd' ao' n' ca' W' := by
  obtain ⟨k0, k1, h3, h4, h5⟩ := h
  obtain ⟨v, rfl, ⟨i', la', bd', ao', n', ca', rfl, hr⟩, hb, hk⟩ := hp
  exact ⟨i', la', bd', ao', n', ca', rfl, hk _ _ k0 (by simp) (fun _ _ e => by injection e with _ e; cases e), hk _ _ k1 (by simp) (fun _ _ e => by injection e with _ e; cases e), h3.trans hb, fun k o hk0 hkb ho => hk k o (h4 k o hk0 hkb ho) hkb ho, hr⟩
theorem DSt.lay (hB : B ≤ w.heap.size) {x0 x1 x2 x3 x4 x5 : Value} (k0 : W.heap[w.heap.size]? = some (.cells #[x0, x1, x2, x3, x4, x5] 54 (0, 0))) (k1 : W.heap[w.heap.size + 1]? = some rz) (h3 : Below B w W) (h4 : Lib.OthersKept 67 none w W) (h5 : RepF s B r i la bd ao n ca W) : DSt s bo m cb B w r i la bd ao n ca (put6 W w.heap.size (.string s) (.int .i64 i) (.int .i64 la) (.int .i64 bd) (.slice ao n ca) (.slice bo m cb)) :=
  ⟨put6_blk _ _ _ _ _ _ k0, (put6_other (by omega)).trans k1, put6_below h3 hB _ _ _ _ _ _, ok_high h4 (fun b hb => put6_other (by omega)), h5.put6 k0⟩
theorem DSt.lay' (hB : B ≤ w.heap.size) (h : DSt s bo m cb B w r i la bd ao n ca W) (h5 : RepF s B r' i' la' bd' ao' n' ca' W) : DSt s bo m cb B w r' i' la' bd' ao' n' ca' (put6 W w.heap.size (.string s) (.int .i64 i') (.int .i64 la') (.int .i64 bd') (.slice ao' n' ca') (.slice bo m cb)) :=
  DSt.lay hB h.1 h.2.1 h.2.2.1 h.2.2.2.1 h5
/-- Behind blanks and remarks. -/
theorem RepF.skip (h : RepF s B r i la bd ao n ca w) : RepF s B (r.map fun st => ⟨skAt s st.nx, st.la, st.cs⟩) (skAt s i) la bd ao n ca w := by
  obtain ⟨h1, h2, h3⟩ := h
  refine ⟨skAt_le s i h1, h2, ?_⟩
  cases r with
  | error q => exact h3
  | ok st =>
    obtain ⟨rfl, e2, e3, e4, e5⟩ := h3
    exact ⟨rfl, e2, e3, e4, e5⟩
/-- Two of the cells set: where the next token ends, where the last one began. -/
theorem DSt.two (hB : B ≤ w.heap.size) {st : St} {b e : Nat} (he : e ≤ s.size) (h : DSt s bo m cb B w (.ok st) i la bd ao n ca W) : DSt s bo m cb B w (.ok ⟨e, b, st.cs⟩) e b bd ao n ca ((W.setCell ⟨w.heap.size, 1, none⟩ (.int .i64 e)).setCell ⟨w.heap.size, 2, none⟩ (.int .i64 b)) := by
  obtain ⟨k0, k1, h3, h4, g1, g2, rfl, e2, rfl, e4, e5⟩ := h
  have ot : ∀ j, j ≠ w.heap.size → ((W.setCell ⟨w.heap.size, 1, none⟩ (.int .i64 e)).setCell ⟨w.heap.size, 2, none⟩ (.int .i64 b)).heap[j]? = W.heap[j]? := fun j hj => (heap_setCell_other _ _ _ _ hj).trans (heap_setCell_other _ _ _ _ hj)
  have kk := heap_setCell_same _ _ 2 _ _ (.int .i64 (b : Int)) (heap_setCell_same _ _ 1 _ _ (.int .i64 (e : Int)) k0)
  refine ⟨kk, (ot _ (by omega)).trans k1, (h3.setCell (p := ⟨w.heap.size, _, none⟩) hB _).setCell (p := ⟨w.heap.size, _, none⟩) hB _, ok_high h4 (fun b hb => ot b (by omega)), he, g2, rfl, rfl, rfl, e4, own_other e5 fun b hb => ?_⟩
  obtain ⟨cur, hc⟩ := own_kind e5 hb
  refine ot b ?_
  rintro rfl
  have := k0.symm.trans hc
  simp [rb] at this
end
end Go.Proofs.YtgfkmppkeolckaaDoor
set_option linter.unusedVariables false
namespace Go.Proofs.YtgfkmppkeolckaaDoor
open Go.ChangeShapes Go.WideShapes Go.ChangeAt Go.RowKit
set_option maxRecDepth 100000 in
set_option maxHeartbeats 4000000 in
theorem l2Datum_bad (s : ByteArray) (bo : Option Addr) (m cb B : Nat) (p i : Nat) (la : Int) (ao : Option Addr) (n ca : Nat) (deep : Int) (w : World) (hs : s.size ≤ 33554432) (hB : B ≤ w.heap.size) (h : RepF s B (.error p) i la p ao n ca w) :
    Calls Tryd.prog 28 #[.agg #[.string s, .int .i64 i, .int .i64 la, .int .i64 p, .slice ao n ca, .slice bo m cb], .int .i64 deep] w fun e w' => SpPost s bo m cb B (.error p) w e w' := by
  have HD : Hid (DSt s bo m cb B w (.error p) i la (p : Int) ao n ca _) := DSt.start hB h
  have hi := h.1
  have hib := skAt_le s i hi
  have hte := tkE_le s _ hib
  clear h
  go_enter Tryd.func28, Tryd.ntmps28
  go_wp2_with fail
  refine (l2Skip_any s i la (p : Int) ao bo n ca m cb _ hs hi).mono ?_
  rintro e w1 ⟨rfl, hb1⟩
  have HD1 : Hid (DSt s bo m cb B w (.error p) i la (p : Int) ao n ca w1) := DSt.below hB HD.out hb1
  clear HD hb1
  have k0 := HD1.out.1
  have x0 := cell_blk (j := 0) k0 rfl
  have x1 := cell_blk (j := 1) k0 rfl
  have x2 := cell_blk (j := 2) k0 rfl
  have x3 := cell_blk (j := 3) k0 rfl
  have x4 := cell_blk (j := 4) k0 rfl
  have x5 := cell_blk (j := 5) k0 rfl
  have f0 := frozen_blk k0 0
  have f1 := frozen_blk k0 1
  have f2 := frozen_blk k0 2
  have f3 := frozen_blk k0 3
  have f4 := frozen_blk k0 4
  have f5 := frozen_blk k0 5
  clear k0
  have q : decide ((0 : Int) ≤ (p : Int)) = true := by simp
  go_wp2_with fail
  refine (l2Token_any s _ _ hs hib).mono ?_
  rintro e w2 ⟨rfl, hw2⟩
  have HD2 : Hid (DSt s bo m cb B w (.error p) (skAt s i) la (p : Int) ao n ca w2) := by
    rw [hw2]
    exact DSt.lay' hB HD1.out (RepF.skip HD1.out.2.2.2.2)
  clear hw2 HD1 x0 f0 x1 f1 x2 f2 x3 f3 x4 f4 x5 f5
  have k0 := HD2.out.1
  have x0 := cell_blk (j := 0) k0 rfl
  have x1 := cell_blk (j := 1) k0 rfl
  have x2 := cell_blk (j := 2) k0 rfl
  have x3 := cell_blk (j := 3) k0 rfl
  have x4 := cell_blk (j := 4) k0 rfl
  have x5 := cell_blk (j := 5) k0 rfl
  have f0 := frozen_blk k0 0
  have f1 := frozen_blk k0 1
  have f2 := frozen_blk k0 2
  have f3 := frozen_blk k0 3
  have f4 := frozen_blk k0 4
  have f5 := frozen_blk k0 5
  clear k0

  go_wp2_with fail
  refine (l2Fail_any s bo m cb B (.error p) (skAt s i) la p ao n ca (skAt s i) _ (by have := DSt.size HD2.out; omega) HD2.out.2.2.2.2).mono ?_
  intro e w9 hp
  obtain ⟨i9, la9, bd9, ao9, n9, ca9, rfl, k9, kz, hb9, hk9, hr9⟩ := DSt.got HD2.out hp
  have KZ : Hid (w9.heap[w.heap.size + 1]? = some rz) := kz
  have HB9 : Hid (Below B w w9) := hb9
  have HK9 : Hid (Lib.OthersKept 67 none w w9) := hk9
  have HR9 : Hid _ := hr9
  have z0 := cell_blk (j := 0) kz rfl
  have z1 := cell_blk (j := 1) kz rfl
  have z2 := cell_blk (j := 2) kz rfl
  have z3 := cell_blk (j := 3) kz rfl
  have z4 := cell_blk (j := 4) kz rfl
  have z5 := cell_blk (j := 5) kz rfl
  have y0 := frozen_blk kz 0
  have y1 := frozen_blk kz 1
  have y2 := frozen_blk kz 2
  have y3 := frozen_blk kz 3
  have y4 := frozen_blk kz 4
  have y5 := frozen_blk kz 5
  clear kz hb9 hk9 hr9 hp k9
  go_wp2
  refine bodyPost_ret (ret6 rfl rfl (.string s) (.int .i64 i9) (.int .i64 la9) (.int .i64 bd9) (.slice ao9 n9 ca9) (.slice bo m cb) KZ.out) rfl ?_
  exact end6 (by omega) (by omega) rfl HR9.out KZ.out HB9.out HK9.out
set_option maxRecDepth 100000 in
set_option maxHeartbeats 4000000 in
theorem l2Datum_none (s : ByteArray) (bo : Option Addr) (m cb B : Nat) (st : St) (ao : Option Addr) (ca deep : Nat) (w : World) (hs : s.size ≤ 33554432) (hB : B ≤ w.heap.size) (h : RepF s B (.ok st) st.nx st.la (-1) ao st.cs.length ca w) (hN : tkE s (skAt s st.nx) = skAt s st.nx) :
    Calls Tryd.prog 28 #[.agg #[.string s, .int .i64 st.nx, .int .i64 st.la, .int .i64 (-1), .slice ao st.cs.length ca, .slice bo m cb], .int .i64 deep] w fun e w' => SpPost s bo m cb B (.error (skAt s st.nx)) w e w' := by
  have HD : Hid (DSt s bo m cb B w (.ok st) st.nx st.la (-1) ao st.cs.length ca _) := DSt.start hB h
  have hi := h.1
  have hib := skAt_le s st.nx hi
  have hte := tkE_le s _ hib
  clear h
  go_enter Tryd.func28, Tryd.ntmps28
  go_wp2_with fail
  refine (l2Skip_any s st.nx st.la (-1) ao bo st.cs.length ca m cb _ hs hi).mono ?_
  rintro e w1 ⟨rfl, hb1⟩
  have HD1 : Hid (DSt s bo m cb B w (.ok st) st.nx st.la (-1) ao st.cs.length ca w1) := DSt.below hB HD.out hb1
  clear HD hb1
  have k0 := HD1.out.1
  have x0 := cell_blk (j := 0) k0 rfl
  have x1 := cell_blk (j := 1) k0 rfl
  have x2 := cell_blk (j := 2) k0 rfl
  have x3 := cell_blk (j := 3) k0 rfl
  have x4 := cell_blk (j := 4) k0 rfl
  have x5 := cell_blk (j := 5) k0 rfl
  have f0 := frozen_blk k0 0
  have f1 := frozen_blk k0 1
  have f2 := frozen_blk k0 2
  have f3 := frozen_blk k0 3
  have f4 := frozen_blk k0 4
  have f5 := frozen_blk k0 5
  clear k0

  go_wp2_with fail
  refine (l2Token_any s _ _ hs hib).mono ?_
  rintro e w2 ⟨rfl, hw2⟩
  have HD2 : Hid (DSt s bo m cb B w (.ok ⟨skAt s st.nx, st.la, st.cs⟩) (skAt s st.nx) st.la (-1) ao st.cs.length ca w2) := by
    rw [hw2]
    exact DSt.lay' hB HD1.out (RepF.skip HD1.out.2.2.2.2)
  clear hw2 HD1 x0 f0 x1 f1 x2 f2 x3 f3 x4 f4 x5 f5
  have k0 := HD2.out.1
  have x0 := cell_blk (j := 0) k0 rfl
  have x1 := cell_blk (j := 1) k0 rfl
  have x2 := cell_blk (j := 2) k0 rfl
  have x3 := cell_blk (j := 3) k0 rfl
  have x4 := cell_blk (j := 4) k0 rfl
  have x5 := cell_blk (j := 5) k0 rfl
  have f0 := frozen_blk k0 0
  have f1 := frozen_blk k0 1
  have f2 := frozen_blk k0 2
  have f3 := frozen_blk k0 3
  have f4 := frozen_blk k0 4
  have f5 := frozen_blk k0 5
  clear k0

  rw [hN]
  go_wp2_with fail
  refine (l2Fail_any s bo m cb B (.ok ⟨skAt s st.nx, st.la, st.cs⟩) (skAt s st.nx) st.la (-1) ao st.cs.length ca (skAt s st.nx) _ (by have := DSt.size HD2.out; omega) HD2.out.2.2.2.2).mono ?_
  intro e w9 hp
  obtain ⟨i9, la9, bd9, ao9, n9, ca9, rfl, k9, kz, hb9, hk9, hr9⟩ := DSt.got HD2.out hp
  have KZ : Hid (w9.heap[w.heap.size + 1]? = some rz) := kz
  have HB9 : Hid (Below B w w9) := hb9
  have HK9 : Hid (Lib.OthersKept 67 none w w9) := hk9
  have HR9 : Hid _ := hr9
  have z0 := cell_blk (j := 0) kz rfl
  have z1 := cell_blk (j := 1) kz rfl
  have z2 := cell_blk (j := 2) kz rfl
  have z3 := cell_blk (j := 3) kz rfl
  have z4 := cell_blk (j := 4) kz rfl
  have z5 := cell_blk (j := 5) kz rfl
  have y0 := frozen_blk kz 0
  have y1 := frozen_blk kz 1
  have y2 := frozen_blk kz 2
  have y3 := frozen_blk kz 3
  have y4 := frozen_blk kz 4
  have y5 := frozen_blk kz 5
  clear kz hb9 hk9 hr9 hp k9
  go_wp2
  refine bodyPost_ret (ret6 rfl rfl (.string s) (.int .i64 i9) (.int .i64 la9) (.int .i64 bd9) (.slice ao9 n9 ca9) (.slice bo m cb) KZ.out) rfl ?_
  exact end6 (by omega) (by omega) rfl HR9.out KZ.out HB9.out HK9.out
set_option maxRecDepth 100000 in
set_option maxHeartbeats 4000000 in
theorem l2Datum_deep (s : ByteArray) (bo : Option Addr) (m cb B : Nat) (st : St) (ao : Option Addr) (ca deep : Nat) (w : World) (hs : s.size ≤ 33554432) (hB : B ≤ w.heap.size) (h : RepF s B (.ok st) st.nx st.la (-1) ao st.cs.length ca w) (hN : tkE s (skAt s st.nx) ≠ skAt s st.nx) (hq : ((tk s (skAt s st.nx)).toList == [40]) = true ∨ ((tk s (skAt s st.nx)).toList == [39]) = true) (hd : 24 ≤ deep) (hd2 : deep ≤ 100) :
    Calls Tryd.prog 28 #[.agg #[.string s, .int .i64 st.nx, .int .i64 st.la, .int .i64 (-1), .slice ao st.cs.length ca, .slice bo m cb], .int .i64 deep] w fun e w' => SpPost s bo m cb B (.error (skAt s st.nx)) w e w' := by
  have HD : Hid (DSt s bo m cb B w (.ok st) st.nx st.la (-1) ao st.cs.length ca _) := DSt.start hB h
  have hi := h.1
  have hib := skAt_le s st.nx hi
  have hte := tkE_le s _ hib
  clear h
  go_enter Tryd.func28, Tryd.ntmps28
  go_wp2_with fail
  refine (l2Skip_any s st.nx st.la (-1) ao bo st.cs.length ca m cb _ hs hi).mono ?_
  rintro e w1 ⟨rfl, hb1⟩
  have HD1 : Hid (DSt s bo m cb B w (.ok st) st.nx st.la (-1) ao st.cs.length ca w1) := DSt.below hB HD.out hb1
  clear HD hb1
  have k0 := HD1.out.1
  have x0 := cell_blk (j := 0) k0 rfl
  have x1 := cell_blk (j := 1) k0 rfl
  have x2 := cell_blk (j := 2) k0 rfl
  have x3 := cell_blk (j := 3) k0 rfl
  have x4 := cell_blk (j := 4) k0 rfl
  have x5 := cell_blk (j := 5) k0 rfl
  have f0 := frozen_blk k0 0
  have f1 := frozen_blk k0 1
  have f2 := frozen_blk k0 2
  have f3 := frozen_blk k0 3
  have f4 := frozen_blk k0 4
  have f5 := frozen_blk k0 5
  clear k0

  go_wp2_with fail
  refine (l2Token_any s _ _ hs hib).mono ?_
  rintro e w2 ⟨rfl, hw2⟩
  have HD2 : Hid (DSt s bo m cb B w (.ok ⟨skAt s st.nx, st.la, st.cs⟩) (skAt s st.nx) st.la (-1) ao st.cs.length ca w2) := by
    rw [hw2]
    exact DSt.lay' hB HD1.out (RepF.skip HD1.out.2.2.2.2)
  clear hw2 HD1 x0 f0 x1 f1 x2 f2 x3 f3 x4 f4 x5 f5
  have k0 := HD2.out.1
  have x0 := cell_blk (j := 0) k0 rfl
  have x1 := cell_blk (j := 1) k0 rfl
  have x2 := cell_blk (j := 2) k0 rfl
  have x3 := cell_blk (j := 3) k0 rfl
  have x4 := cell_blk (j := 4) k0 rfl
  have x5 := cell_blk (j := 5) k0 rfl
  have f0 := frozen_blk k0 0
  have f1 := frozen_blk k0 1
  have f2 := frozen_blk k0 2
  have f3 := frozen_blk k0 3
  have f4 := frozen_blk k0 4
  have f5 := frozen_blk k0 5
  clear k0

  have hge := tkE_ge s (skAt s st.nx)
  have q0 : decide ((tkE s (skAt s st.nx) : Int) = (skAt s st.nx : Int)) = false := by simp; omega
  have q1 : decide ((24 : Int) ≤ (deep : Int)) = true := by simp; omega
  simp only [tk] at hq
  by_cases hq1 : ((s.extract (skAt s st.nx) (tkE s (skAt s st.nx))).toList == [40]) = true
  · clear hq
    go_wp2_with fail
    refine (l2Fail_any s bo m cb B (.ok ⟨skAt s st.nx, st.la, st.cs⟩) (skAt s st.nx) st.la (-1) ao st.cs.length ca (skAt s st.nx) _ (by have := DSt.size HD2.out; omega) HD2.out.2.2.2.2).mono ?_
    intro e w9 hp
    obtain ⟨i9, la9, bd9, ao9, n9, ca9, rfl, k9, kz, hb9, hk9, hr9⟩ := DSt.got HD2.out hp
    have KZ : Hid (w9.heap[w.heap.size + 1]? = some rz) := kz
    have HB9 : Hid (Below B w w9) := hb9
    have HK9 : Hid (Lib.OthersKept 67 none w w9) := hk9
    have HR9 : Hid _ := hr9
    have z0 := cell_blk (j := 0) kz rfl
    have z1 := cell_blk (j := 1) kz rfl
    have z2 := cell_blk (j := 2) kz rfl
    have z3 := cell_blk (j := 3) kz rfl
    have z4 := cell_blk (j := 4) kz rfl
    have z5 := cell_blk (j := 5) kz rfl
    have y0 := frozen_blk kz 0
    have y1 := frozen_blk kz 1
    have y2 := frozen_blk kz 2
    have y3 := frozen_blk kz 3
    have y4 := frozen_blk kz 4
    have y5 := frozen_blk kz 5
    clear kz hb9 hk9 hr9 hp k9
    go_wp2
    refine bodyPost_ret (ret6 rfl rfl (.string s) (.int .i64 i9) (.int .i64 la9) (.int .i64 bd9) (.slice ao9 n9 ca9) (.slice bo m cb) KZ.out) rfl ?_
    exact end6 (by omega) (by omega) rfl HR9.out KZ.out HB9.out HK9.out
  · have hq2 := hq.resolve_left hq1
    have hq1' : ((s.extract (skAt s st.nx) (tkE s (skAt s st.nx))).toList == [40]) = false := by simpa using hq1
    clear hq hq1
    go_wp2_with fail
    refine (l2Fail_any s bo m cb B (.ok ⟨skAt s st.nx, st.la, st.cs⟩) (skAt s st.nx) st.la (-1) ao st.cs.length ca (skAt s st.nx) _ (by have := DSt.size HD2.out; omega) HD2.out.2.2.2.2).mono ?_
    intro e w9 hp
    obtain ⟨i9, la9, bd9, ao9, n9, ca9, rfl, k9, kz, hb9, hk9, hr9⟩ := DSt.got HD2.out hp
    have KZ : Hid (w9.heap[w.heap.size + 1]? = some rz) := kz
    have HB9 : Hid (Below B w w9) := hb9
    have HK9 : Hid (Lib.OthersKept 67 none w w9) := hk9
    have HR9 : Hid _ := hr9
    have z0 := cell_blk (j := 0) kz rfl
    have z1 := cell_blk (j := 1) kz rfl
    have z2 := cell_blk (j := 2) kz rfl
    have z3 := cell_blk (j := 3) kz rfl
    have z4 := cell_blk (j := 4) kz rfl
    have z5 := cell_blk (j := 5) kz rfl
    have y0 := frozen_blk kz 0
    have y1 := frozen_blk kz 1
    have y2 := frozen_blk kz 2
    have y3 := frozen_blk kz 3
    have y4 := frozen_blk kz 4
    have y5 := frozen_blk kz 5
    clear kz hb9 hk9 hr9 hp k9
    go_wp2
    refine bodyPost_ret (ret6 rfl rfl (.string s) (.int .i64 i9) (.int .i64 la9) (.int .i64 bd9) (.slice ao9 n9 ca9) (.slice bo m cb) KZ.out) rfl ?_
    exact end6 (by omega) (by omega) rfl HR9.out KZ.out HB9.out HK9.out
set_option maxRecDepth 100000 in
set_option maxHeartbeats 4000000 in
theorem l2Datum_atom (s : ByteArray) (bo : Option Addr) (m cb B : Nat) (st : St) (ao : Option Addr) (ca deep : Nat) (w : World) (hs : s.size ≤ 33554432) (hB : B ≤ w.heap.size) (h : RepF s B (.ok st) st.nx st.la (-1) ao st.cs.length ca w) (hN : tkE s (skAt s st.nx) ≠ skAt s st.nx) (hq1 : ((tk s (skAt s st.nx)).toList == [40]) = false) (hq2 : ((tk s (skAt s st.nx)).toList == [39]) = false) :
    Calls Tryd.prog 28 #[.agg #[.string s, .int .i64 st.nx, .int .i64 st.la, .int .i64 (-1), .slice ao st.cs.length ca, .slice bo m cb], .int .i64 deep] w fun e w' => SpPost s bo m cb B (atomP ⟨tkE s (skAt s st.nx), skAt s st.nx, st.cs⟩ (tk s (skAt s st.nx))) w e w' := by
  have HD : Hid (DSt s bo m cb B w (.ok st) st.nx st.la (-1) ao st.cs.length ca _) := DSt.start hB h
  have hi := h.1
  have hib := skAt_le s st.nx hi
  have hte := tkE_le s _ hib
  clear h
  go_enter Tryd.func28, Tryd.ntmps28
  go_wp2_with fail
  refine (l2Skip_any s st.nx st.la (-1) ao bo st.cs.length ca m cb _ hs hi).mono ?_
  rintro e w1 ⟨rfl, hb1⟩
  have HD1 : Hid (DSt s bo m cb B w (.ok st) st.nx st.la (-1) ao st.cs.length ca w1) := DSt.below hB HD.out hb1
  clear HD hb1
  have k0 := HD1.out.1
  have x0 := cell_blk (j := 0) k0 rfl
  have x1 := cell_blk (j := 1) k0 rfl
  have x2 := cell_blk (j := 2) k0 rfl
  have x3 := cell_blk (j := 3) k0 rfl
  have x4 := cell_blk (j := 4) k0 rfl
  have x5 := cell_blk (j := 5) k0 rfl
  have f0 := frozen_blk k0 0
  have f1 := frozen_blk k0 1
  have f2 := frozen_blk k0 2
  have f3 := frozen_blk k0 3
  have f4 := frozen_blk k0 4
  have f5 := frozen_blk k0 5
  clear k0

  go_wp2_with fail
  refine (l2Token_any s _ _ hs hib).mono ?_
  rintro e w2 ⟨rfl, hw2⟩
  have HD2 : Hid (DSt s bo m cb B w (.ok ⟨skAt s st.nx, st.la, st.cs⟩) (skAt s st.nx) st.la (-1) ao st.cs.length ca w2) := by
    rw [hw2]
    exact DSt.lay' hB HD1.out (RepF.skip HD1.out.2.2.2.2)
  clear hw2 HD1 x0 f0 x1 f1 x2 f2 x3 f3 x4 f4 x5 f5
  have k0 := HD2.out.1
  have x0 := cell_blk (j := 0) k0 rfl
  have x1 := cell_blk (j := 1) k0 rfl
  have x2 := cell_blk (j := 2) k0 rfl
  have x3 := cell_blk (j := 3) k0 rfl
  have x4 := cell_blk (j := 4) k0 rfl
  have x5 := cell_blk (j := 5) k0 rfl
  have f0 := frozen_blk k0 0
  have f1 := frozen_blk k0 1
  have f2 := frozen_blk k0 2
  have f3 := frozen_blk k0 3
  have f4 := frozen_blk k0 4
  have f5 := frozen_blk k0 5
  clear k0

  have hge := tkE_ge s (skAt s st.nx)
  have q0 : decide ((tkE s (skAt s st.nx) : Int) = (skAt s st.nx : Int)) = false := by simp; omega
  have HTS : Hid ((tk s (skAt s st.nx)).size ≤ 33554432) := by
    show _ ≤ _
    simp only [tk, ByteArray.size_extract]
    omega
  have HD3 : Hid (DSt s bo m cb B w (.ok ⟨tkE s (skAt s st.nx), skAt s st.nx, st.cs⟩) _ _ _ _ _ _ _) := DSt.two (st := ⟨skAt s st.nx, st.la, st.cs⟩) (b := skAt s st.nx) hB hte HD2.out
  simp only [tk] at hq1 hq2
  go_wp2_with fail
  refine (l2Atom_any s bo m cb B ⟨tkE s (skAt s st.nx), skAt s st.nx, st.cs⟩ ao ca (tk s (skAt s st.nx)) _ HTS.out (by have := DSt.size HD3.out; omega) HD3.out.2.2.2.2).mono ?_
  intro e w9 hp
  obtain ⟨i9, la9, bd9, ao9, n9, ca9, rfl, k9, kz, hb9, hk9, hr9⟩ := DSt.got HD3.out hp
  have KZ : Hid (w9.heap[w.heap.size + 1]? = some rz) := kz
  have HB9 : Hid (Below B w w9) := hb9
  have HK9 : Hid (Lib.OthersKept 67 none w w9) := hk9
  have HR9 : Hid _ := hr9
  have z0 := cell_blk (j := 0) kz rfl
  have z1 := cell_blk (j := 1) kz rfl
  have z2 := cell_blk (j := 2) kz rfl
  have z3 := cell_blk (j := 3) kz rfl
  have z4 := cell_blk (j := 4) kz rfl
  have z5 := cell_blk (j := 5) kz rfl
  have y0 := frozen_blk kz 0
  have y1 := frozen_blk kz 1
  have y2 := frozen_blk kz 2
  have y3 := frozen_blk kz 3
  have y4 := frozen_blk kz 4
  have y5 := frozen_blk kz 5
  clear kz hb9 hk9 hr9 hp k9
  go_wp2
  refine bodyPost_ret (ret6 rfl rfl (.string s) (.int .i64 i9) (.int .i64 la9) (.int .i64 bd9) (.slice ao9 n9 ca9) (.slice bo m cb) KZ.out) rfl ?_
  exact end6 (by omega) (by omega) rfl HR9.out KZ.out HB9.out HK9.out
end Go.Proofs.YtgfkmppkeolckaaDoor
set_option linter.unusedVariables false
namespace Go.Proofs.YtgfkmppkeolckaaDoor
open Go.ChangeShapes Go.WideShapes Go.ChangeAt Go.RowKit
/-- What l2Datum does, of a fuel. -/
def DatC (s : ByteArray) (bo : Option Addr) (m cb B f deep : Nat) : Prop := ∀ (r : Except Nat St) (i : Nat) (la bd : Int) (ao : Option Addr) (n ca : Nat) (w : World), B ≤ w.heap.size → RepF s B r i la bd ao n ca w → (∀ st, r = .ok st → 2 * (s.size - st.nx) + 1 ≤ f) →
  Calls Tryd.prog 28 #[.agg #[.string s, .int .i64 i, .int .i64 la, .int .i64 bd, .slice ao n ca, .slice bo m cb], .int .i64 deep] w fun e w' => SpPost s bo m cb B (r.bind fun st => datP s f deep (skAt s st.nx) st.cs) w e w'
theorem got0 {s : ByteArray} {bo : Option Addr} {m cb B : Nat} {w W W' : World} {r' : Except Nat St} (k1 : W.heap[w.heap.size + 1]? = some rz) (h3 : Below B w W) (h4 : Lib.OthersKept 67 none w W) {e : Ending} (hp : SpPost s bo m cb B r' W e W') : ∃ (i' : Nat) (la' bd' : Int) (ao' : Option Addr) (n' ca' : Nat), e = .returned (.agg #[.string s, .int .i64 i', .int .i64 la', .int .i64 bd', .slice ao' n' ca', .slice bo m cb]) ∧ W'.heap[w.heap.size + 1]? = some rz ∧ Below B w W' ∧ Lib.OthersKept 67 none w W' ∧ RepF s B r' i' la' bd' ao' n' ca' W' := by
  obtain ⟨v, rfl, ⟨i', la', bd', ao', n', ca', rfl, hr⟩, hb, hk⟩ := hp
  exact ⟨i', la', bd', ao', n', ca', rfl, hk _ _ k1 (by simp) (fun _ _ e => by injection e with _ e; cases e), h3.trans hb, fun k o hk0 hkb ho => hk k o (h4 k o hk0 hkb ho) hkb ho, hr⟩
theorem parts2 (w : World) (x y : Int) : PartsAt (w.alloc (.cells #[.int .i64 x, .int .i64 y] 3)) (w.alloc (.cells #[.int .i64 x, .int .i64 y] 3)).heap.size (some ⟨w.heap.size, 0, none⟩) [x, y] := by
  intro i z hz
  refine ⟨w.heap.size, 0, _, rfl, by simp, blk_at _ _ _ rfl, ?_⟩
  match i, hz with
  | 0, hz => obtain rfl := Option.some.inj hz; rfl
  | 1, hz => obtain rfl := Option.some.inj hz; rfl
/-- The same reading, written with the lengths that the program takes. -/
theorem quote_eq {s : ByteArray} {B : Nat} {r4 : Except Nat St} {F : St → Except Nat St} {i4 i5 n4 c4 n5 c5 : Nat} {l4 b4 l5 b5 : Int} {a4 a5 : Option Addr} {W4 W5 : World} (h4 : RepF s B r4 i4 l4 b4 a4 n4 c4 W4) (h5 : RepF s B (r4.bind F) i5 l5 b5 a5 n5 c5 W5) :
    (((r4.bind F).bind fun st => putP st nilD).bind fun st => prsP st [(n4 : Int) - 1, (n5 : Int) - 1]) = r4.bind fun st => (F st).bind fun st2 => (putP st2 nilD).bind fun st3 => prsP st3 [st.top, st2.top] := by
  cases r4 with
  | error p => rfl
  | ok st =>
    obtain ⟨_, _, _, _, _, rfl, _⟩ := h4
    show (((F st).bind fun st => putP st nilD).bind _) = (F st).bind _
    change RepF s B (F st) _ _ _ _ _ _ _ at h5
    cases hF : F st with
    | error p => rfl
    | ok st2 =>
      rw [hF] at h5
      obtain ⟨_, _, _, _, _, rfl, _⟩ := h5
      rfl
set_option maxRecDepth 100000 in
set_option maxHeartbeats 4000000 in
theorem l2Datum_quote (s : ByteArray) (bo : Option Addr) (m cb B : Nat) (st : St) (ao : Option Addr) (ca deep : Nat) (w : World) (hs : s.size ≤ 33554432) (hB : B ≤ w.heap.size) (h : RepF s B (.ok st) st.nx st.la (-1) ao st.cs.length ca w) (f : Nat) (hN : tkE s (skAt s st.nx) ≠ skAt s st.nx) (hq1 : ((tk s (skAt s st.nx)).toList == [40]) = false) (hq2 : ((tk s (skAt s st.nx)).toList == [39]) = true) (hd : deep < 24) (hf : 2 * (s.size - st.nx) + 1 ≤ f + 1) (IH : DatC s bo m cb B f (deep + 1)) :
    Calls Tryd.prog 28 #[.agg #[.string s, .int .i64 st.nx, .int .i64 st.la, .int .i64 (-1), .slice ao st.cs.length ca, .slice bo m cb], .int .i64 deep] w fun e w' => SpPost s bo m cb B ((putP ⟨tkE s (skAt s st.nx), skAt s st.nx, st.cs⟩ quoD).bind fun st => (datP s f (deep + 1) (skAt s st.nx) st.cs).bind fun st2 => (putP st2 nilD).bind fun st3 => prsP st3 [st.top, st2.top]) w e w' := by
  have HIH : Hid (DatC s bo m cb B f (deep + 1)) := IH
  clear IH
  have HD : Hid (DSt s bo m cb B w (.ok st) st.nx st.la (-1) ao st.cs.length ca _) := DSt.start hB h
  have hi := h.1
  have hib := skAt_le s st.nx hi
  have hte := tkE_le s _ hib
  clear h
  go_enter Tryd.func28, Tryd.ntmps28
  go_wp2_with fail
  refine (l2Skip_any s st.nx st.la (-1) ao bo st.cs.length ca m cb _ hs hi).mono ?_
  rintro e w1 ⟨rfl, hb1⟩
  have HD1 : Hid (DSt s bo m cb B w (.ok st) st.nx st.la (-1) ao st.cs.length ca w1) := DSt.below hB HD.out hb1
  clear HD hb1
  have k0 := HD1.out.1
  have x0 := cell_blk (j := 0) k0 rfl
  have x1 := cell_blk (j := 1) k0 rfl
  have x2 := cell_blk (j := 2) k0 rfl
  have x3 := cell_blk (j := 3) k0 rfl
  have x4 := cell_blk (j := 4) k0 rfl
  have x5 := cell_blk (j := 5) k0 rfl
  have f0 := frozen_blk k0 0
  have f1 := frozen_blk k0 1
  have f2 := frozen_blk k0 2
  have f3 := frozen_blk k0 3
  have f4 := frozen_blk k0 4
  have f5 := frozen_blk k0 5
  clear k0

  go_wp2_with fail
  refine (l2Token_any s _ _ hs hib).mono ?_
  rintro e w2 ⟨rfl, hw2⟩
  have HD2 : Hid (DSt s bo m cb B w (.ok ⟨skAt s st.nx, st.la, st.cs⟩) (skAt s st.nx) st.la (-1) ao st.cs.length ca w2) := by
    rw [hw2]
    exact DSt.lay' hB HD1.out (RepF.skip HD1.out.2.2.2.2)
  clear hw2 HD1 x0 f0 x1 f1 x2 f2 x3 f3 x4 f4 x5 f5
  have k0 := HD2.out.1
  have x0 := cell_blk (j := 0) k0 rfl
  have x1 := cell_blk (j := 1) k0 rfl
  have x2 := cell_blk (j := 2) k0 rfl
  have x3 := cell_blk (j := 3) k0 rfl
  have x4 := cell_blk (j := 4) k0 rfl
  have x5 := cell_blk (j := 5) k0 rfl
  have f0 := frozen_blk k0 0
  have f1 := frozen_blk k0 1
  have f2 := frozen_blk k0 2
  have f3 := frozen_blk k0 3
  have f4 := frozen_blk k0 4
  have f5 := frozen_blk k0 5
  clear k0

  have hge := tkE_ge s (skAt s st.nx)
  have hge2 := skAt_ge s st.nx
  have q0 : decide ((tkE s (skAt s st.nx) : Int) = (skAt s st.nx : Int)) = false := by simp; omega
  have q1 : decide ((24 : Int) ≤ (deep : Int)) = false := by simp; omega
  have HD3 : Hid (DSt s bo m cb B w (.ok ⟨tkE s (skAt s st.nx), skAt s st.nx, st.cs⟩) _ _ _ _ _ _ _) := DSt.two (st := ⟨skAt s st.nx, st.la, st.cs⟩) (b := skAt s st.nx) hB hte HD2.out
  simp only [tk] at hq1 hq2
  go_wp2_with fail
  refine (l2Put_any s bo m cb B (.ok ⟨tkE s (skAt s st.nx), skAt s st.nx, st.cs⟩) _ _ _ _ _ _ quoD _ (by have := DSt.size HD3.out; omega) HD3.out.2.2.2.2).mono ?_
  clear x0 x1 x2 x3 x4 x5 f0 f1 f2 f3 f4 f5
  intro e v4 hp
  obtain ⟨i4, l4, b4, a4, n4, c4, rfl, kx, kz, hb4, hk4, hr4⟩ := DSt.got HD3.out hp
  have KX : Hid _ := kx
  have KZ : Hid _ := kz
  have HB : Hid _ := hb4
  have HK : Hid _ := hk4
  have HR : Hid (RepF s B (putP ⟨tkE s (skAt s st.nx), skAt s st.nx, st.cs⟩ quoD) i4 l4 b4 a4 n4 c4 v4) := hr4
  clear hp kz hb4 hk4 hr4
  have x0 := cell_blk (j := 0) kx rfl
  have x1 := cell_blk (j := 1) kx rfl
  have x2 := cell_blk (j := 2) kx rfl
  have x3 := cell_blk (j := 3) kx rfl
  have x4 := cell_blk (j := 4) kx rfl
  have x5 := cell_blk (j := 5) kx rfl
  have f0 := frozen_blk kx 0
  have f1 := frozen_blk kx 1
  have f2 := frozen_blk kx 2
  have f3 := frozen_blk kx 3
  have f4 := frozen_blk kx 4
  have f5 := frozen_blk kx 5
  have HD4 : Hid (DSt s bo m cb B w (putP ⟨tkE s (skAt s st.nx), skAt s st.nx, st.cs⟩ quoD) i4 l4 b4 a4 n4 c4 _) := DSt.lay hB KX.out KZ.out HB.out HK.out HR.out
  have hn4 : n4 ≤ 1000 := HR.out.2.1
  clear kx KX KZ HB HK

  go_wp2_with fail
  refine (HIH.out (putP ⟨tkE s (skAt s st.nx), skAt s st.nx, st.cs⟩ quoD) _ _ _ _ _ _ _ (by have := DSt.size HD4.out; omega) HD4.out.2.2.2.2 ?_).mono ?_
  · intro st' e
    unfold putP at e
    split at e
    · obtain rfl := Except.ok.inj e
      show 2 * (s.size - tkE s (skAt s st.nx)) + 1 ≤ f
      omega
    · cases e
  clear x0 x1 x2 x3 x4 x5 f0 f1 f2 f3 f4 f5
  have HR4 := HR
  clear HR
  intro e v5 hp
  obtain ⟨i5, l5, b5, a5, n5, c5, rfl, kx, kz, hb5, hk5, hr5⟩ := DSt.got HD4.out hp
  have KX : Hid _ := kx
  have KZ : Hid _ := kz
  have HB : Hid _ := hb5
  have HK : Hid _ := hk5
  have HR : Hid (RepF s B ((putP ⟨tkE s (skAt s st.nx), skAt s st.nx, st.cs⟩ quoD).bind fun st => datP s f (deep + 1) (skAt s st.nx) st.cs) i5 l5 b5 a5 n5 c5 v5) := hr5
  clear hp kz hb5 hk5 hr5
  have x0 := cell_blk (j := 0) kx rfl
  have x1 := cell_blk (j := 1) kx rfl
  have x2 := cell_blk (j := 2) kx rfl
  have x3 := cell_blk (j := 3) kx rfl
  have x4 := cell_blk (j := 4) kx rfl
  have x5 := cell_blk (j := 5) kx rfl
  have f0 := frozen_blk kx 0
  have f1 := frozen_blk kx 1
  have f2 := frozen_blk kx 2
  have f3 := frozen_blk kx 3
  have f4 := frozen_blk kx 4
  have f5 := frozen_blk kx 5
  have HD5 : Hid (DSt s bo m cb B w ((putP ⟨tkE s (skAt s st.nx), skAt s st.nx, st.cs⟩ quoD).bind fun st => datP s f (deep + 1) (skAt s st.nx) st.cs) i5 l5 b5 a5 n5 c5 _) := DSt.lay hB KX.out KZ.out HB.out HK.out HR.out
  have hn5 : n5 ≤ 1000 := HR.out.2.1
  clear kx KX KZ HB HK

  have HR5 := HR
  clear HR
  go_wp2_with fail
  refine (l2Put_any s bo m cb B _ _ _ _ _ _ _ nilD _ (by have := DSt.size HD5.out; omega) HD5.out.2.2.2.2).mono ?_
  clear x0 x1 x2 x3 x4 x5 f0 f1 f2 f3 f4 f5
  intro e v6 hp
  obtain ⟨i6, l6, b6, a6, n6, c6, rfl, kx, kz, hb6, hk6, hr6⟩ := DSt.got HD5.out hp
  clear hp kx
  have hz6 := (Array.getElem?_eq_some_iff.1 kz).1
  have bl : Below v6.heap.size v6 (v6.alloc (.cells #[.int .i64 ((n4 : Int) - 1), .int .i64 ((n5 : Int) - 1)] 3)) := (Below.refl _ _).alloc (Nat.le_refl _) _
  have KZ6 : Hid _ := (bl.block _ hz6).trans kz
  have HB6 : Hid _ := hb6.trans (bl.mono (by omega))
  have HK6 : Hid (Lib.OthersKept 67 none w (v6.alloc (.cells #[.int .i64 ((n4 : Int) - 1), .int .i64 ((n5 : Int) - 1)] 3))) := fun k o hk hkb ho => (ok_below bl) k o (hk6 k o hk hkb ho) hkb ho
  have HR6 : Hid _ := hr6.below bl
  have HZ6 : Hid (B ≤ (v6.alloc (.cells #[.int .i64 ((n4 : Int) - 1), .int .i64 ((n5 : Int) - 1)] 3)).heap.size) := by show _ ≤ _; simp; omega
  clear kz hb6 hk6 hr6 bl hz6
  go_wp2_with fail
  refine (l2List_any s bo m cb B _ _ _ _ _ _ _ _ _ [(n4 : Int) - 1, (n5 : Int) - 1] _ HZ6.out HR6.out (by simp) (parts2 _ _ _)).mono ?_
  intro e w9 hp
  obtain ⟨i9, la9, bd9, ao9, n9, ca9, rfl, kz, hb9, hk9, hr9⟩ := got0 KZ6.out HB6.out HK6.out hp
  have KZ : Hid (w9.heap[w.heap.size + 1]? = some rz) := kz
  have HB9 : Hid (Below B w w9) := hb9
  have HK9 : Hid (Lib.OthersKept 67 none w w9) := hk9
  have HR9 : Hid _ := hr9
  have z0 := cell_blk (j := 0) kz rfl
  have z1 := cell_blk (j := 1) kz rfl
  have z2 := cell_blk (j := 2) kz rfl
  have z3 := cell_blk (j := 3) kz rfl
  have z4 := cell_blk (j := 4) kz rfl
  have z5 := cell_blk (j := 5) kz rfl
  have y0 := frozen_blk kz 0
  have y1 := frozen_blk kz 1
  have y2 := frozen_blk kz 2
  have y3 := frozen_blk kz 3
  have y4 := frozen_blk kz 4
  have y5 := frozen_blk kz 5
  clear kz hb9 hk9 hr9 hp
  go_wp2
  refine bodyPost_ret (ret6 rfl rfl (.string s) (.int .i64 i9) (.int .i64 la9) (.int .i64 bd9) (.slice ao9 n9 ca9) (.slice bo m cb) KZ.out) rfl ?_
  exact end6 (by omega) (by omega) (quote_eq HR4.out HR5.out) HR9.out KZ.out HB9.out HK9.out
end Go.Proofs.YtgfkmppkeolckaaDoor
