/- The model's reader: an atom. The model's reader: its state on the way through a datum. -/
import Derived.Test.YtgjeefedcfakdaaSpe
set_option linter.unusedVariables false
namespace Go.Proofs.Ytgjeefedcfakdaa.R2
open Go.ChangeShapes Go.WideShapes Go.ChangeAt Go.RowKit
theorem RepF.keep {s : ByteArray} {B : Nat} {r : Except Nat St} {i : Nat} {la bd : Int} {ao : Option Addr} {n ca : Nat} {w w' : World} (h : RepF s B r i la bd ao n ca w) (hk : ∀ (b : Nat) (cur : Array Value), w.heap[b]? = some (Obj.cells cur 98 (0, 0)) → w'.heap[b]? = w.heap[b]?) : RepF s B r i la bd ao n ca w' := by
 obtain ⟨h1, h2, h3⟩ := h
 refine ⟨h1, h2, ?_⟩
 cases r with
 | error q => exact h3
 | ok st =>
  obtain ⟨e1, e2, e3, e4, e5⟩ := h3
  refine ⟨e1, e2, e3, e4, own_other e5 fun b hb => ?_⟩
  obtain ⟨cur, hc⟩ := own_kind e5 hb
  exact hk b cur hc
theorem RepF.put6 {s : ByteArray} {B : Nat} {r : Except Nat St} {i : Nat} {la bd : Int} {ao : Option Addr} {n ca : Nat} {w : World} {g : Nat} {xs : Array Value} {v0 v1 v2 v3 v4 v5 : Value} (h : RepF s B r i la bd ao n ca w) (hg : w.heap[g]? = some (Obj.cells xs 88 (0, 0))) : RepF s B r i la bd ao n ca (put6 w g v0 v1 v2 v3 v4 v5) := by
 refine h.keep fun b cur hc => put6_other ?_
 rintro rfl
 have := hg.symm.trans hc
 simp at this
theorem RepF.below {s : ByteArray} {B : Nat} {r : Except Nat St} {i : Nat} {la bd : Int} {ao : Option Addr} {n ca : Nat} {w w' : World} (h : RepF s B r i la bd ao n ca w) (hb : Below w.heap.size w w') : RepF s B r i la bd ao n ca w' :=
 h.keep fun b cur hc => hb.block b (alt hc)
theorem rd_val {l : List UInt8} {n : Int} (h : RdRes l n true) : n = rdX l := by
 have hd : deB l = true := h.deB.symm
 simp only [deB, Bool.and_eq_true, decide_eq_true_eq] at hd
 exact (RdRes.unique h (rdB l hd.2 hd.1)).1
theorem end6 {s : ByteArray} {bo : Option Addr} {m cb B : Nat} {r r' : Except Nat St} {w w2 : World} {g : Nat} {i : Nat} {la bd : Int} {ao : Option Addr} {n ca : Nat} (hB : B ≤ g) (hgw : w.heap.size ≤ g) (he : r = r') (hr : RepF s B r i la bd ao n ca w2) (kz : w2.heap[g]? = some rz) (hb : Below B w w2) (hk : Lib.OthersKept 98 none w w2) :
  SpPost s bo m cb B r' w (.returned (.agg #[.string s, .int .i64 i, .int .i64 la, .int .i64 bd, .slice ao n ca, .slice bo m cb])) (Go.Proofs.Ytgjeefedcfakdaa.R2.put6 w2 g (.string s) (.int .i64 i) (.int .i64 la) (.int .i64 bd) (.slice ao n ca) (.slice bo m cb)) := by
 subst he
 exact ⟨_, rfl, ⟨i, la, bd, ao, n, ca, rfl, hr.put6 kz⟩, put6_below hb hB _ _ _ _ _ _, ok_high hk (fun b hb => put6_other (by omega))⟩
set_option maxRecDepth 100000 in
set_option maxHeartbeats 4000000 in
theorem l2Atom_any (s : ByteArray) (bo : Option Addr) (m cb B : Nat) (st : St) (ao : Option Addr) (ca : Nat) (t : ByteArray) (w : World) (ht : t.size ≤ 1048576) (hB : B ≤ w.heap.size) (h : RepF s B (.ok st) st.nx st.la (-1) ao st.cs.length ca w) :
  Calls Try.prog 67 #[.agg #[.string s, .int .i64 st.nx, .int .i64 st.la, .int .i64 (-1), .slice ao st.cs.length ca, .slice bo m cb], .string t, .int .i64 st.la] w fun e w' => SpPost s bo m cb B (atomP st t) w e w' := by
 have HF : Hid (RepF s B (.ok st) st.nx st.la (-1) ao st.cs.length ca w) := h
 clear h
 go_enter Try.func67, Try.ntmps67
 go_wp2_with fail
 refine (specRd_any t _ ht).mono ?_
 rintro e w1 ⟨x, b, rfl, hr, hb1⟩
 have hb0 : Below w.heap.size w ((w.alloc (rb s st.nx st.la (-1) (.slice ao st.cs.length ca) (.slice bo m cb))).alloc rz) := (bR _ _).alloc (by simp) _
 have k0 : ((w.alloc (rb s st.nx st.la (-1) (.slice ao st.cs.length ca) (.slice bo m cb))).alloc rz).heap[w.heap.size]? = some (rb s st.nx st.la (-1) (.slice ao st.cs.length ca) (.slice bo m cb)) := blk_past (blk_at _ _ _ rfl)
 have k1 : ((w.alloc (rb s st.nx st.la (-1) (.slice ao st.cs.length ca) (.slice bo m cb))).alloc rz).heap[w.heap.size + 1]? = some rz := blk_at _ _ _ (by simp)
 have K0 : Hid (w1.heap[w.heap.size]? = some (rb s st.nx st.la (-1) (.slice ao st.cs.length ca) (.slice bo m cb))) := (hb1.block _ (by simp; omega)).trans k0
 have K1 : Hid (w1.heap[w.heap.size + 1]? = some rz) := (hb1.block _ (by simp)).trans k1
 have HB0 : Hid (Below w.heap.size w w1) := hb0.trans (hb1.mono (by simp; omega))
 have HB : Hid (Below B w w1) := HB0.out.mono hB
 have HK : Hid (Lib.OthersKept 98 none w w1) := ok_below HB0.out
 have HR : Hid (RepF s B (.ok st) st.nx st.la (-1) ao st.cs.length ca w1) := HF.out.below HB0.out
 have hB1 : B ≤ w1.heap.size := by have := HB.out.size; omega
 clear hb0 k0 k1 hb1 HB0
 have k0 := K0.out
 obtain ⟨x0, x1, x2, x3, x4, x5⟩ := zn6 k0 rfl rfl rfl rfl rfl rfl
 clear k0
 have HV : Hid (RdRes t.data.toList x b) := hr
 clear hr
 by_cases hA : b = true ∧ -1000000 ≤ x ∧ x ≤ 1000000
 ·obtain ⟨rfl, h1, h2⟩ := hA
  obtain hx := rd_val HV.out
  have hd := HV.out.deB.symm
  have HE : Hid ((Except.ok st : Except Nat St).bind (fun st => putP st (numD x)) = atomP st t) := by
   show _ = _
   simp only [atomP, atomD]
   rw [if_pos ⟨hd, by rw [← hx]; exact h1, by rw [← hx]; exact h2⟩, ← hx]
   rfl
  clear hx hd
  have HI : Hid (∀ w, Calls Try.prog 24 #[.int .i64 x, .int .i64 (-1000000), .int .i64 1000000] w fun e w' => e = .returned (.bool true) ∧ w' = w) := fun w => by
   have := l1In_any x (-1000000) 1000000 w
   rwa [show (decide ((-1000000 : Int) ≤ x) && decide (x ≤ 1000000)) = true by simp; omega] at this
  go_wp2_with (go_at_call 24; refine (HI.out _).mono ?_; rintro e w' ⟨rfl, rfl⟩)
  refine (l2Put_any s bo m cb B (.ok st) st.nx st.la (-1) ao st.cs.length ca (numD x) _ hB1 HR.out).mono ?_
  rintro e w2 ⟨v, rfl, ⟨i2, la2, bd2, ao2, n2, ca2, rfl, hrep⟩, hb2, hok2⟩
  have kz := hok2 _ _ K1.out (by simp) (fun _ _ e => by injection e with _ e; cases e)
  have HB2 : Hid (Below B w w2) := HB.out.trans hb2
  have HK2 : Hid (Lib.OthersKept 98 none w w2) := fun k o hk hkb ho => hok2 k o (HK.out k o hk hkb ho) hkb ho
  have HR2 : Hid _ := hrep
  have KZ : Hid (w2.heap[w.heap.size + 1]? = some rz) := kz
  obtain ⟨z0, z1, z2, z3, z4, z5⟩ := zn6 kz rfl rfl rfl rfl rfl rfl
  have y0 := frozen_blk kz 0
  have y1 := frozen_blk kz 1
  have y2 := frozen_blk kz 2
  have y3 := frozen_blk kz 3
  have y4 := frozen_blk kz 4
  have y5 := frozen_blk kz 5
  clear kz hrep hb2 hok2
  go_wp2
  refine bodyPost_ret (ret6 rfl rfl (.string s) (.int .i64 i2) (.int .i64 la2) (.int .i64 bd2) (.slice ao2 n2 ca2) (.slice bo m cb) KZ.out) rfl ?_
  exact end6 (by omega) (by omega) HE.out HR2.out KZ.out HB2.out HK2.out
 ·have HN : Hid (¬ (deB t.data.toList = true ∧ -1000000 ≤ rdX t.data.toList ∧ rdX t.data.toList ≤ 1000000)) := by
   show ¬ _
   rintro ⟨hd, h1, h2⟩
   obtain rfl : b = true := HV.out.deB.trans hd
   rw [← rd_val HV.out] at h1 h2
   exact hA ⟨rfl, h1, h2⟩
  cases b
  ·clear hA
   by_cases q1 : (t.toList == [35, 116]) = true
   ·have HE : Hid ((Except.ok st : Except Nat St).bind (fun st => putP st (boolD 1)) = atomP st t) := by
     show _ = _
     simp only [atomP, atomD]
     rw [if_neg HN.out, if_pos q1]
     rfl
    go_wp2_with fail
    refine (l2Put_any s bo m cb B (.ok st) st.nx st.la (-1) ao st.cs.length ca (boolD 1) _ hB1 HR.out).mono ?_
    rintro e w2 ⟨v, rfl, ⟨i2, la2, bd2, ao2, n2, ca2, rfl, hrep⟩, hb2, hok2⟩
    have kz := hok2 _ _ K1.out (by simp) (fun _ _ e => by injection e with _ e; cases e)
    have HB2 : Hid (Below B w w2) := HB.out.trans hb2
    have HK2 : Hid (Lib.OthersKept 98 none w w2) := fun k o hk hkb ho => hok2 k o (HK.out k o hk hkb ho) hkb ho
    have HR2 : Hid _ := hrep
    have KZ : Hid (w2.heap[w.heap.size + 1]? = some rz) := kz
    obtain ⟨z0, z1, z2, z3, z4, z5⟩ := zn6 kz rfl rfl rfl rfl rfl rfl
    have y0 := frozen_blk kz 0
    have y1 := frozen_blk kz 1
    have y2 := frozen_blk kz 2
    have y3 := frozen_blk kz 3
    have y4 := frozen_blk kz 4
    have y5 := frozen_blk kz 5
    clear kz hrep hb2 hok2
    go_wp2
    refine bodyPost_ret (ret6 rfl rfl (.string s) (.int .i64 i2) (.int .i64 la2) (.int .i64 bd2) (.slice ao2 n2 ca2) (.slice bo m cb) KZ.out) rfl ?_
    exact end6 (by omega) (by omega) HE.out HR2.out KZ.out HB2.out HK2.out
   ·have Q1 : (t.toList == [35, 116]) = false := by simpa using q1
    by_cases q2 : (t.toList == [35, 102]) = true
    ·have HE : Hid ((Except.ok st : Except Nat St).bind (fun st => putP st (boolD 0)) = atomP st t) := by
      show _ = _
      simp only [atomP, atomD]
      rw [if_neg HN.out, if_neg q1, if_pos q2]
      rfl
     clear q1
     go_wp2_with fail
     refine (l2Put_any s bo m cb B (.ok st) st.nx st.la (-1) ao st.cs.length ca (boolD 0) _ hB1 HR.out).mono ?_
     rintro e w2 ⟨v, rfl, ⟨i2, la2, bd2, ao2, n2, ca2, rfl, hrep⟩, hb2, hok2⟩
     have kz := hok2 _ _ K1.out (by simp) (fun _ _ e => by injection e with _ e; cases e)
     have HB2 : Hid (Below B w w2) := HB.out.trans hb2
     have HK2 : Hid (Lib.OthersKept 98 none w w2) := fun k o hk hkb ho => hok2 k o (HK.out k o hk hkb ho) hkb ho
     have HR2 : Hid _ := hrep
     have KZ : Hid (w2.heap[w.heap.size + 1]? = some rz) := kz
     obtain ⟨z0, z1, z2, z3, z4, z5⟩ := zn6 kz rfl rfl rfl rfl rfl rfl
     have y0 := frozen_blk kz 0
     have y1 := frozen_blk kz 1
     have y2 := frozen_blk kz 2
     have y3 := frozen_blk kz 3
     have y4 := frozen_blk kz 4
     have y5 := frozen_blk kz 5
     clear kz hrep hb2 hok2
     go_wp2
     refine bodyPost_ret (ret6 rfl rfl (.string s) (.int .i64 i2) (.int .i64 la2) (.int .i64 bd2) (.slice ao2 n2 ca2) (.slice bo m cb) KZ.out) rfl ?_
     exact end6 (by omega) (by omega) HE.out HR2.out KZ.out HB2.out HK2.out
    ·have Q2 : (t.toList == [35, 102]) = false := by simpa using q2
     have HS : Hid (∀ w, Calls Try.prog 35 #[.string t] w fun e w' => Ans w (.bool (syL t.data.toList)) e w') := fun w => l2Sym_any t w ht
     cases q3 : syL t.data.toList
     ·rw [q3] at HS
      have HE : Hid ((Except.ok st : Except Nat St).bind (fun _ => .error st.la) = atomP st t) := by
       show _ = _
       simp only [atomP, atomD]
       rw [if_neg HN.out, if_neg q1, if_neg q2, if_neg (by rw [q3]; simp)]
       rfl
      clear q1 q2 q3
      go_wp2_with fail
      refine (HS.out _).mono ?_
      rintro e w3 ⟨rfl, hb3⟩
      have K0' : Hid (w3.heap[w.heap.size]? = some (rb s st.nx st.la (-1) (.slice ao st.cs.length ca) (.slice bo m cb))) := (hb3.block _ (alt K0.out)).trans K0.out
      have K1' : Hid (w3.heap[w.heap.size + 1]? = some rz) := (hb3.block _ (alt K1.out)).trans K1.out
      have HB' : Hid (Below B w w3) := HB.out.trans (hb3.mono hB1)
      have HK' : Hid (Lib.OthersKept 98 none w w3) := fun k o hk hkb ho => (ok_below hb3) k o (HK.out k o hk hkb ho) hkb ho
      have HR' : Hid (RepF s B (.ok st) st.nx st.la (-1) ao st.cs.length ca w3) := HR.out.below hb3
      have hB1' : B ≤ w3.heap.size := by have := HB'.out.size; omega
      clear hB1 HR HK HB K0 K1 hb3 x0 x1 x2 x3 x4 x5 HS
      have hB1 := hB1'
      have HR := HR'
      have HK := HK'
      have HB := HB'
      have K0 := K0'
      have K1 := K1'
      clear hB1' HR' HK' HB' K0' K1'
      have k0 := K0.out
      obtain ⟨x0, x1, x2, x3, x4, x5⟩ := zn6 k0 rfl rfl rfl rfl rfl rfl
      clear k0
      go_wp2_with fail
      refine (l2Fail_any s bo m cb B (.ok st) st.nx st.la (-1) ao st.cs.length ca st.la _ hB1 HR.out).mono ?_
      rintro e w2 ⟨v, rfl, ⟨i2, la2, bd2, ao2, n2, ca2, rfl, hrep⟩, hb2, hok2⟩
      have kz := hok2 _ _ K1.out (by simp) (fun _ _ e => by injection e with _ e; cases e)
      have HB2 : Hid (Below B w w2) := HB.out.trans hb2
      have HK2 : Hid (Lib.OthersKept 98 none w w2) := fun k o hk hkb ho => hok2 k o (HK.out k o hk hkb ho) hkb ho
      have HR2 : Hid _ := hrep
      have KZ : Hid (w2.heap[w.heap.size + 1]? = some rz) := kz
      obtain ⟨z0, z1, z2, z3, z4, z5⟩ := zn6 kz rfl rfl rfl rfl rfl rfl
      have y0 := frozen_blk kz 0
      have y1 := frozen_blk kz 1
      have y2 := frozen_blk kz 2
      have y3 := frozen_blk kz 3
      have y4 := frozen_blk kz 4
      have y5 := frozen_blk kz 5
      clear kz hrep hb2 hok2
      go_wp2
      refine bodyPost_ret (ret6 rfl rfl (.string s) (.int .i64 i2) (.int .i64 la2) (.int .i64 bd2) (.slice ao2 n2 ca2) (.slice bo m cb) KZ.out) rfl ?_
      exact end6 (by omega) (by omega) HE.out HR2.out KZ.out HB2.out HK2.out
     ·rw [q3] at HS
      have HE : Hid ((Except.ok st : Except Nat St).bind (fun st => putP st (symD t)) = atomP st t) := by
       show _ = _
       simp only [atomP, atomD]
       rw [if_neg HN.out, if_neg q1, if_neg q2, if_pos q3]
       rfl
      clear q1 q2 q3
      go_wp2_with fail
      refine (HS.out _).mono ?_
      rintro e w3 ⟨rfl, hb3⟩
      have K0' : Hid (w3.heap[w.heap.size]? = some (rb s st.nx st.la (-1) (.slice ao st.cs.length ca) (.slice bo m cb))) := (hb3.block _ (alt K0.out)).trans K0.out
      have K1' : Hid (w3.heap[w.heap.size + 1]? = some rz) := (hb3.block _ (alt K1.out)).trans K1.out
      have HB' : Hid (Below B w w3) := HB.out.trans (hb3.mono hB1)
      have HK' : Hid (Lib.OthersKept 98 none w w3) := fun k o hk hkb ho => (ok_below hb3) k o (HK.out k o hk hkb ho) hkb ho
      have HR' : Hid (RepF s B (.ok st) st.nx st.la (-1) ao st.cs.length ca w3) := HR.out.below hb3
      have hB1' : B ≤ w3.heap.size := by have := HB'.out.size; omega
      clear hB1 HR HK HB K0 K1 hb3 x0 x1 x2 x3 x4 x5 HS
      have hB1 := hB1'
      have HR := HR'
      have HK := HK'
      have HB := HB'
      have K0 := K0'
      have K1 := K1'
      clear hB1' HR' HK' HB' K0' K1'
      have k0 := K0.out
      obtain ⟨x0, x1, x2, x3, x4, x5⟩ := zn6 k0 rfl rfl rfl rfl rfl rfl
      clear k0
      go_wp2_with fail
      refine (l2Put_any s bo m cb B (.ok st) st.nx st.la (-1) ao st.cs.length ca (symD t) _ hB1 HR.out).mono ?_
      rintro e w2 ⟨v, rfl, ⟨i2, la2, bd2, ao2, n2, ca2, rfl, hrep⟩, hb2, hok2⟩
      have kz := hok2 _ _ K1.out (by simp) (fun _ _ e => by injection e with _ e; cases e)
      have HB2 : Hid (Below B w w2) := HB.out.trans hb2
      have HK2 : Hid (Lib.OthersKept 98 none w w2) := fun k o hk hkb ho => hok2 k o (HK.out k o hk hkb ho) hkb ho
      have HR2 : Hid _ := hrep
      have KZ : Hid (w2.heap[w.heap.size + 1]? = some rz) := kz
      obtain ⟨z0, z1, z2, z3, z4, z5⟩ := zn6 kz rfl rfl rfl rfl rfl rfl
      have y0 := frozen_blk kz 0
      have y1 := frozen_blk kz 1
      have y2 := frozen_blk kz 2
      have y3 := frozen_blk kz 3
      have y4 := frozen_blk kz 4
      have y5 := frozen_blk kz 5
      clear kz hrep hb2 hok2
      go_wp2
      refine bodyPost_ret (ret6 rfl rfl (.string s) (.int .i64 i2) (.int .i64 la2) (.int .i64 bd2) (.slice ao2 n2 ca2) (.slice bo m cb) KZ.out) rfl ?_
      exact end6 (by omega) (by omega) HE.out HR2.out KZ.out HB2.out HK2.out
  ·have hA' : ¬ (-1000000 ≤ x ∧ x ≤ 1000000) := fun h => hA ⟨rfl, h.1, h.2⟩
   clear hA
   have HI : Hid (∀ w, Calls Try.prog 24 #[.int .i64 x, .int .i64 (-1000000), .int .i64 1000000] w fun e w' => e = .returned (.bool false) ∧ w' = w) := fun w => by
    have := l1In_any x (-1000000) 1000000 w
    rwa [show (decide ((-1000000 : Int) ≤ x) && decide (x ≤ 1000000)) = false by simp; omega] at this
   clear hA'
   by_cases q1 : (t.toList == [35, 116]) = true
   ·have HE : Hid ((Except.ok st : Except Nat St).bind (fun st => putP st (boolD 1)) = atomP st t) := by
     show _ = _
     simp only [atomP, atomD]
     rw [if_neg HN.out, if_pos q1]
     rfl
    go_wp2_with (first | (go_at_call 24; refine (HI.out _).mono ?_; rintro e w' ⟨rfl, rfl⟩) | fail)
    refine (l2Put_any s bo m cb B (.ok st) st.nx st.la (-1) ao st.cs.length ca (boolD 1) _ hB1 HR.out).mono ?_
    rintro e w2 ⟨v, rfl, ⟨i2, la2, bd2, ao2, n2, ca2, rfl, hrep⟩, hb2, hok2⟩
    have kz := hok2 _ _ K1.out (by simp) (fun _ _ e => by injection e with _ e; cases e)
    have HB2 : Hid (Below B w w2) := HB.out.trans hb2
    have HK2 : Hid (Lib.OthersKept 98 none w w2) := fun k o hk hkb ho => hok2 k o (HK.out k o hk hkb ho) hkb ho
    have HR2 : Hid _ := hrep
    have KZ : Hid (w2.heap[w.heap.size + 1]? = some rz) := kz
    obtain ⟨z0, z1, z2, z3, z4, z5⟩ := zn6 kz rfl rfl rfl rfl rfl rfl
    have y0 := frozen_blk kz 0
    have y1 := frozen_blk kz 1
    have y2 := frozen_blk kz 2
    have y3 := frozen_blk kz 3
    have y4 := frozen_blk kz 4
    have y5 := frozen_blk kz 5
    clear kz hrep hb2 hok2
    go_wp2
    refine bodyPost_ret (ret6 rfl rfl (.string s) (.int .i64 i2) (.int .i64 la2) (.int .i64 bd2) (.slice ao2 n2 ca2) (.slice bo m cb) KZ.out) rfl ?_
    exact end6 (by omega) (by omega) HE.out HR2.out KZ.out HB2.out HK2.out
   ·have Q1 : (t.toList == [35, 116]) = false := by simpa using q1
    by_cases q2 : (t.toList == [35, 102]) = true
    ·have HE : Hid ((Except.ok st : Except Nat St).bind (fun st => putP st (boolD 0)) = atomP st t) := by
      show _ = _
      simp only [atomP, atomD]
      rw [if_neg HN.out, if_neg q1, if_pos q2]
      rfl
     clear q1
     go_wp2_with (first | (go_at_call 24; refine (HI.out _).mono ?_; rintro e w' ⟨rfl, rfl⟩) | fail)
     refine (l2Put_any s bo m cb B (.ok st) st.nx st.la (-1) ao st.cs.length ca (boolD 0) _ hB1 HR.out).mono ?_
     rintro e w2 ⟨v, rfl, ⟨i2, la2, bd2, ao2, n2, ca2, rfl, hrep⟩, hb2, hok2⟩
     have kz := hok2 _ _ K1.out (by simp) (fun _ _ e => by injection e with _ e; cases e)
     have HB2 : Hid (Below B w w2) := HB.out.trans hb2
     have HK2 : Hid (Lib.OthersKept 98 none w w2) := fun k o hk hkb ho => hok2 k o (HK.out k o hk hkb ho) hkb ho
     have HR2 : Hid _ := hrep
     have KZ : Hid (w2.heap[w.heap.size + 1]? = some rz) := kz
     obtain ⟨z0, z1, z2, z3, z4, z5⟩ := zn6 kz rfl rfl rfl rfl rfl rfl
     have y0 := frozen_blk kz 0
     have y1 := frozen_blk kz 1
     have y2 := frozen_blk kz 2
     have y3 := frozen_blk kz 3
     have y4 := frozen_blk kz 4
     have y5 := frozen_blk kz 5
     clear kz hrep hb2 hok2
     go_wp2
     refine bodyPost_ret (ret6 rfl rfl (.string s) (.int .i64 i2) (.int .i64 la2) (.int .i64 bd2) (.slice ao2 n2 ca2) (.slice bo m cb) KZ.out) rfl ?_
     exact end6 (by omega) (by omega) HE.out HR2.out KZ.out HB2.out HK2.out
    ·have Q2 : (t.toList == [35, 102]) = false := by simpa using q2
     have HS : Hid (∀ w, Calls Try.prog 35 #[.string t] w fun e w' => Ans w (.bool (syL t.data.toList)) e w') := fun w => l2Sym_any t w ht
     cases q3 : syL t.data.toList
     ·rw [q3] at HS
      have HE : Hid ((Except.ok st : Except Nat St).bind (fun _ => .error st.la) = atomP st t) := by
       show _ = _
       simp only [atomP, atomD]
       rw [if_neg HN.out, if_neg q1, if_neg q2, if_neg (by rw [q3]; simp)]
       rfl
      clear q1 q2 q3
      go_wp2_with (first | (go_at_call 24; refine (HI.out _).mono ?_; rintro e w' ⟨rfl, rfl⟩) | fail)
      refine (HS.out _).mono ?_
      rintro e w3 ⟨rfl, hb3⟩
      have K0' : Hid (w3.heap[w.heap.size]? = some (rb s st.nx st.la (-1) (.slice ao st.cs.length ca) (.slice bo m cb))) := (hb3.block _ (alt K0.out)).trans K0.out
      have K1' : Hid (w3.heap[w.heap.size + 1]? = some rz) := (hb3.block _ (alt K1.out)).trans K1.out
      have HB' : Hid (Below B w w3) := HB.out.trans (hb3.mono hB1)
      have HK' : Hid (Lib.OthersKept 98 none w w3) := fun k o hk hkb ho => (ok_below hb3) k o (HK.out k o hk hkb ho) hkb ho
      have HR' : Hid (RepF s B (.ok st) st.nx st.la (-1) ao st.cs.length ca w3) := HR.out.below hb3
      have hB1' : B ≤ w3.heap.size := by have := HB'.out.size; omega
      clear hB1 HR HK HB K0 K1 hb3 x0 x1 x2 x3 x4 x5 HS
      have hB1 := hB1'
      have HR := HR'
      have HK := HK'
      have HB := HB'
      have K0 := K0'
      have K1 := K1'
      clear hB1' HR' HK' HB' K0' K1'
      have k0 := K0.out
      obtain ⟨x0, x1, x2, x3, x4, x5⟩ := zn6 k0 rfl rfl rfl rfl rfl rfl
      clear k0
      go_wp2_with fail
      refine (l2Fail_any s bo m cb B (.ok st) st.nx st.la (-1) ao st.cs.length ca st.la _ hB1 HR.out).mono ?_
      rintro e w2 ⟨v, rfl, ⟨i2, la2, bd2, ao2, n2, ca2, rfl, hrep⟩, hb2, hok2⟩
      have kz := hok2 _ _ K1.out (by simp) (fun _ _ e => by injection e with _ e; cases e)
      have HB2 : Hid (Below B w w2) := HB.out.trans hb2
      have HK2 : Hid (Lib.OthersKept 98 none w w2) := fun k o hk hkb ho => hok2 k o (HK.out k o hk hkb ho) hkb ho
      have HR2 : Hid _ := hrep
      have KZ : Hid (w2.heap[w.heap.size + 1]? = some rz) := kz
      obtain ⟨z0, z1, z2, z3, z4, z5⟩ := zn6 kz rfl rfl rfl rfl rfl rfl
      have y0 := frozen_blk kz 0
      have y1 := frozen_blk kz 1
      have y2 := frozen_blk kz 2
      have y3 := frozen_blk kz 3
      have y4 := frozen_blk kz 4
      have y5 := frozen_blk kz 5
      clear kz hrep hb2 hok2
      go_wp2
      refine bodyPost_ret (ret6 rfl rfl (.string s) (.int .i64 i2) (.int .i64 la2) (.int .i64 bd2) (.slice ao2 n2 ca2) (.slice bo m cb) KZ.out) rfl ?_
      exact end6 (by omega) (by omega) HE.out HR2.out KZ.out HB2.out HK2.out
     ·rw [q3] at HS
      have HE : Hid ((Except.ok st : Except Nat St).bind (fun st => putP st (symD t)) = atomP st t) := by
       show _ = _
       simp only [atomP, atomD]
       rw [if_neg HN.out, if_neg q1, if_neg q2, if_pos q3]
       rfl
      clear q1 q2 q3
      go_wp2_with (first | (go_at_call 24; refine (HI.out _).mono ?_; rintro e w' ⟨rfl, rfl⟩) | fail)
      refine (HS.out _).mono ?_
      rintro e w3 ⟨rfl, hb3⟩
      have K0' : Hid (w3.heap[w.heap.size]? = some (rb s st.nx st.la (-1) (.slice ao st.cs.length ca) (.slice bo m cb))) := (hb3.block _ (alt K0.out)).trans K0.out
      have K1' : Hid (w3.heap[w.heap.size + 1]? = some rz) := (hb3.block _ (alt K1.out)).trans K1.out
      have HB' : Hid (Below B w w3) := HB.out.trans (hb3.mono hB1)
      have HK' : Hid (Lib.OthersKept 98 none w w3) := fun k o hk hkb ho => (ok_below hb3) k o (HK.out k o hk hkb ho) hkb ho
      have HR' : Hid (RepF s B (.ok st) st.nx st.la (-1) ao st.cs.length ca w3) := HR.out.below hb3
      have hB1' : B ≤ w3.heap.size := by have := HB'.out.size; omega
      clear hB1 HR HK HB K0 K1 hb3 x0 x1 x2 x3 x4 x5 HS
      have hB1 := hB1'
      have HR := HR'
      have HK := HK'
      have HB := HB'
      have K0 := K0'
      have K1 := K1'
      clear hB1' HR' HK' HB' K0' K1'
      have k0 := K0.out
      obtain ⟨x0, x1, x2, x3, x4, x5⟩ := zn6 k0 rfl rfl rfl rfl rfl rfl
      clear k0
      go_wp2_with fail
      refine (l2Put_any s bo m cb B (.ok st) st.nx st.la (-1) ao st.cs.length ca (symD t) _ hB1 HR.out).mono ?_
      rintro e w2 ⟨v, rfl, ⟨i2, la2, bd2, ao2, n2, ca2, rfl, hrep⟩, hb2, hok2⟩
      have kz := hok2 _ _ K1.out (by simp) (fun _ _ e => by injection e with _ e; cases e)
      have HB2 : Hid (Below B w w2) := HB.out.trans hb2
      have HK2 : Hid (Lib.OthersKept 98 none w w2) := fun k o hk hkb ho => hok2 k o (HK.out k o hk hkb ho) hkb ho
      have HR2 : Hid _ := hrep
      have KZ : Hid (w2.heap[w.heap.size + 1]? = some rz) := kz
      obtain ⟨z0, z1, z2, z3, z4, z5⟩ := zn6 kz rfl rfl rfl rfl rfl rfl
      have y0 := frozen_blk kz 0
      have y1 := frozen_blk kz 1
      have y2 := frozen_blk kz 2
      have y3 := frozen_blk kz 3
      have y4 := frozen_blk kz 4
      have y5 := frozen_blk kz 5
      clear kz hrep hb2 hok2
      go_wp2
      refine bodyPost_ret (ret6 rfl rfl (.string s) (.int .i64 i2) (.int .i64 la2) (.int .i64 bd2) (.slice ao2 n2 ca2) (.slice bo m cb) KZ.out) rfl ?_
      exact end6 (by omega) (by omega) HE.out HR2.out KZ.out HB2.out HK2.out
end Go.Proofs.Ytgjeefedcfakdaa.R2
set_option linter.unusedVariables false
namespace Go.Proofs.Ytgjeefedcfakdaa.R2
open Go.ChangeShapes Go.WideShapes Go.ChangeAt Go.RowKit
def DSt (s : ByteArray) (bo : Option Addr) (m cb B : Nat) (w : World) (r : Except Nat St) (i : Nat) (la bd : Int) (ao : Option Addr) (n ca : Nat) (W : World) : Prop :=
 W.heap[w.heap.size]? = some (rb s i la bd (.slice ao n ca) (.slice bo m cb)) ∧ W.heap[w.heap.size + 1]? = some rz ∧ Below B w W ∧ Lib.OthersKept 98 none w W ∧ RepF s B r i la bd ao n ca W
section
variable {s : ByteArray} {bo : Option Addr} {m cb B : Nat} {w : World} {r r' : Except Nat St} {i i' : Nat} {la bd la' bd' : Int} {ao ao' : Option Addr} {n ca n' ca' : Nat} {W W' : World}
theorem DSt.start (hB : B ≤ w.heap.size) (h : RepF s B r i la bd ao n ca w) : DSt s bo m cb B w r i la bd ao n ca ((w.alloc (rb s i la bd (.slice ao n ca) (.slice bo m cb))).alloc rz) := by
 have hb0 : Below w.heap.size w ((w.alloc (rb s i la bd (.slice ao n ca) (.slice bo m cb))).alloc rz) := (bR _ _).alloc (by simp) _
 exact ⟨blk_past (blk_at _ _ _ rfl), blk_at _ _ _ (by simp), hb0.mono hB, ok_below hb0, h.below hb0⟩
theorem DSt.size (h : DSt s bo m cb B w r i la bd ao n ca W) : w.heap.size + 1 < W.heap.size := (alt h.2.1)
theorem DSt.below (hB : B ≤ w.heap.size) (h : DSt s bo m cb B w r i la bd ao n ca W) (hb : Below W.heap.size W W') : DSt s bo m cb B w r i la bd ao n ca W' := by
 have hz := h.size
 obtain ⟨k0, k1, h3, h4, h5⟩ := h
 exact ⟨(hb.block _ (by omega)).trans k0, (hb.block _ (by omega)).trans k1, h3.trans (hb.mono (by omega)), fun k o hk hkb ho => (ok_below hb) k o (h4 k o hk hkb ho) hkb ho, h5.below hb⟩
theorem DSt.got (h : DSt s bo m cb B w r i la bd ao n ca W) {e : Ending} (hp : SpPost s bo m cb B r' W e W') : ∃ (i' : Nat) (la' bd' : Int) (ao' : Option Addr) (n' ca' : Nat), e = .returned (.agg #[.string s, .int .i64 i', .int .i64 la', .int .i64 bd', .slice ao' n' ca', .slice bo m cb]) ∧ W'.heap[w.heap.size]? = some (rb s i la bd (.slice ao n ca) (.slice bo m cb)) ∧ W'.heap[w.heap.size + 1]? = some rz ∧ Below B w W' ∧ Lib.OthersKept 98 none w W' ∧ RepF s B r' i' la' bd' ao' n' ca' W' := by
 obtain ⟨k0, k1, h3, h4, h5⟩ := h
 obtain ⟨v, rfl, ⟨i', la', bd', ao', n', ca', rfl, hr⟩, hb, hk⟩ := hp
 exact ⟨i', la', bd', ao', n', ca', rfl, hk _ _ k0 (by simp) (fun _ _ e => by injection e with _ e; cases e), hk _ _ k1 (by simp) (fun _ _ e => by injection e with _ e; cases e), h3.trans hb, fun k o hk0 hkb ho => hk k o (h4 k o hk0 hkb ho) hkb ho, hr⟩
theorem DSt.lay (hB : B ≤ w.heap.size) {x0 x1 x2 x3 x4 x5 : Value} (k0 : W.heap[w.heap.size]? = some (.cells #[x0, x1, x2, x3, x4, x5] 88 (0, 0))) (k1 : W.heap[w.heap.size + 1]? = some rz) (h3 : Below B w W) (h4 : Lib.OthersKept 98 none w W) (h5 : RepF s B r i la bd ao n ca W) : DSt s bo m cb B w r i la bd ao n ca (put6 W w.heap.size (.string s) (.int .i64 i) (.int .i64 la) (.int .i64 bd) (.slice ao n ca) (.slice bo m cb)) :=
 ⟨put6_blk _ _ _ _ _ _ k0, (put6_other (by omega)).trans k1, put6_below h3 hB _ _ _ _ _ _, ok_high h4 (fun b hb => put6_other (by omega)), h5.put6 k0⟩
theorem DSt.lay' (hB : B ≤ w.heap.size) (h : DSt s bo m cb B w r i la bd ao n ca W) (h5 : RepF s B r' i' la' bd' ao' n' ca' W) : DSt s bo m cb B w r' i' la' bd' ao' n' ca' (put6 W w.heap.size (.string s) (.int .i64 i') (.int .i64 la') (.int .i64 bd') (.slice ao' n' ca') (.slice bo m cb)) :=
 DSt.lay hB h.1 h.2.1 h.2.2.1 h.2.2.2.1 h5
theorem RepF.skip (h : RepF s B r i la bd ao n ca w) : RepF s B (r.map fun st => ⟨skAt s st.nx, st.la, st.cs⟩) (skAt s i) la bd ao n ca w := by
 obtain ⟨h1, h2, h3⟩ := h
 refine ⟨skAt_le s i h1, h2, ?_⟩
 cases r with
 | error q => exact h3
 | ok st =>
  obtain ⟨rfl, e2, e3, e4, e5⟩ := h3
  exact ⟨rfl, e2, e3, e4, e5⟩
theorem DSt.two (hB : B ≤ w.heap.size) {st : St} {b e : Nat} (he : e ≤ s.size) (h : DSt s bo m cb B w (.ok st) i la bd ao n ca W) : DSt s bo m cb B w (.ok ⟨e, b, st.cs⟩) e b bd ao n ca ((W.setCell ⟨w.heap.size, 1, none⟩ (.int .i64 e)).setCell ⟨w.heap.size, 2, none⟩ (.int .i64 b)) := by
 obtain ⟨k0, k1, h3, h4, g1, g2, rfl, e2, rfl, e4, e5⟩ := h
 have ot : ∀ j, j ≠ w.heap.size → ((W.setCell ⟨w.heap.size, 1, none⟩ (.int .i64 e)).setCell ⟨w.heap.size, 2, none⟩ (.int .i64 b)).heap[j]? = W.heap[j]? := fun j hj => (heap_setCell_other _ _ _ _ hj).trans (heap_setCell_other _ _ _ _ hj)
 have kk := heap_setCell_same _ _ 2 _ _ (.int .i64 (b : Int)) (heap_setCell_same _ _ 1 _ _ (.int .i64 (e : Int)) k0)
 refine ⟨kk, (ot _ (by omega)).trans k1, (h3.setCell (p := ⟨w.heap.size, _, none⟩) hB _).setCell (p := ⟨w.heap.size, _, none⟩) hB _, ok_high h4 (fun b hb => ot b (by omega)), he, g2, rfl, rfl, rfl, e4, own_other e5 fun b hb => ?_⟩
 obtain ⟨cur, hc⟩ := own_kind e5 hb
 refine ot b ?_
 rintro rfl
 have := k0.symm.trans hc
 simp [rb] at this
end
end Go.Proofs.Ytgjeefedcfakdaa.R2
