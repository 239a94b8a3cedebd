/- The model's reader: a datum that fails at once, an atom. The model's reader: a quoted datum. Reading goes forward. -/
import Derived.Test.YtgjeefedcfakdaaSpg
import Derived.Test.YtgjeefedcfakdaaPrs
set_option linter.unusedVariables false
namespace Go.Proofs.Ytgjeefedcfakdaa.R2
open Go.ChangeShapes Go.WideShapes Go.ChangeAt Go.RowKit
set_option maxRecDepth 100000 in
set_option maxHeartbeats 4000000 in
theorem l2Datum_bad (s : ByteArray) (bo : Option Addr) (m cb B : Nat) (p i : Nat) (la : Int) (ao : Option Addr) (n ca : Nat) (deep : Int) (w : World) (hs : s.size ≤ 1048576) (hB : B ≤ w.heap.size) (h : RepF s B (.error p) i la p ao n ca w) :
  Calls Try.prog 53 #[.agg #[.string s, .int .i64 i, .int .i64 la, .int .i64 p, .slice ao n ca, .slice bo m cb], .int .i64 deep] w fun e w' => SpPost s bo m cb B (.error p) w e w' := by
 have HD : Hid (DSt s bo m cb B w (.error p) i la (p : Int) ao n ca _) := DSt.start hB h
 have hi := h.1
 have hib := skAt_le s i hi
 have hte := tkE_le s _ hib
 clear h
 go_enter Try.func53, Try.ntmps53
 go_wp2_with fail
 refine (l2Skip_any s i la (p : Int) ao bo n ca m cb _ hs hi).mono ?_
 rintro e w1 ⟨rfl, hb1⟩
 have HD1 : Hid (DSt s bo m cb B w (.error p) i la (p : Int) ao n ca w1) := DSt.below hB HD.out hb1
 clear HD hb1
 have k0 := HD1.out.1
 obtain ⟨x0, x1, x2, x3, x4, x5⟩ := zn6 k0 rfl rfl rfl rfl rfl rfl
 have f0 := frozen_blk k0 0
 have f1 := frozen_blk k0 1
 have f2 := frozen_blk k0 2
 have f3 := frozen_blk k0 3
 have f4 := frozen_blk k0 4
 have f5 := frozen_blk k0 5
 clear k0
 have q : decide ((0 : Int) ≤ (p : Int)) = true := by simp
 go_wp2_with fail
 refine (l2Token_any s _ _ hs hib).mono ?_
 rintro e w2 ⟨rfl, hw2⟩
 have HD2 : Hid (DSt s bo m cb B w (.error p) (skAt s i) la (p : Int) ao n ca w2) := by
  rw [hw2]
  exact DSt.lay' hB HD1.out (RepF.skip HD1.out.2.2.2.2)
 clear hw2 HD1 x0 f0 x1 f1 x2 f2 x3 f3 x4 f4 x5 f5
 have k0 := HD2.out.1
 obtain ⟨x0, x1, x2, x3, x4, x5⟩ := zn6 k0 rfl rfl rfl rfl rfl rfl
 have f0 := frozen_blk k0 0
 have f1 := frozen_blk k0 1
 have f2 := frozen_blk k0 2
 have f3 := frozen_blk k0 3
 have f4 := frozen_blk k0 4
 have f5 := frozen_blk k0 5
 clear k0
 go_wp2_with fail
 refine (l2Fail_any s bo m cb B (.error p) (skAt s i) la p ao n ca (skAt s i) _ (by have := DSt.size HD2.out; omega) HD2.out.2.2.2.2).mono ?_
 intro e w9 hp
 obtain ⟨i9, la9, bd9, ao9, n9, ca9, rfl, k9, kz, hb9, hk9, hr9⟩ := DSt.got HD2.out hp
 have KZ : Hid (w9.heap[w.heap.size + 1]? = some rz) := kz
 have HB9 : Hid (Below B w w9) := hb9
 have HK9 : Hid (Lib.OthersKept 98 none w w9) := hk9
 have HR9 : Hid _ := hr9
 obtain ⟨z0, z1, z2, z3, z4, z5⟩ := zn6 kz rfl rfl rfl rfl rfl rfl
 have y0 := frozen_blk kz 0
 have y1 := frozen_blk kz 1
 have y2 := frozen_blk kz 2
 have y3 := frozen_blk kz 3
 have y4 := frozen_blk kz 4
 have y5 := frozen_blk kz 5
 clear kz hb9 hk9 hr9 hp k9
 go_wp2
 refine bodyPost_ret (ret6 rfl rfl (.string s) (.int .i64 i9) (.int .i64 la9) (.int .i64 bd9) (.slice ao9 n9 ca9) (.slice bo m cb) KZ.out) rfl ?_
 exact end6 (by omega) (by omega) rfl HR9.out KZ.out HB9.out HK9.out
set_option maxRecDepth 100000 in
set_option maxHeartbeats 4000000 in
theorem l2Datum_none (s : ByteArray) (bo : Option Addr) (m cb B : Nat) (st : St) (ao : Option Addr) (ca deep : Nat) (w : World) (hs : s.size ≤ 1048576) (hB : B ≤ w.heap.size) (h : RepF s B (.ok st) st.nx st.la (-1) ao st.cs.length ca w) (hN : tkE s (skAt s st.nx) = skAt s st.nx) :
  Calls Try.prog 53 #[.agg #[.string s, .int .i64 st.nx, .int .i64 st.la, .int .i64 (-1), .slice ao st.cs.length ca, .slice bo m cb], .int .i64 deep] w fun e w' => SpPost s bo m cb B (.error (skAt s st.nx)) w e w' := by
 have HD : Hid (DSt s bo m cb B w (.ok st) st.nx st.la (-1) ao st.cs.length ca _) := DSt.start hB h
 have hi := h.1
 have hib := skAt_le s st.nx hi
 have hte := tkE_le s _ hib
 clear h
 go_enter Try.func53, Try.ntmps53
 go_wp2_with fail
 refine (l2Skip_any s st.nx st.la (-1) ao bo st.cs.length ca m cb _ hs hi).mono ?_
 rintro e w1 ⟨rfl, hb1⟩
 have HD1 : Hid (DSt s bo m cb B w (.ok st) st.nx st.la (-1) ao st.cs.length ca w1) := DSt.below hB HD.out hb1
 clear HD hb1
 have k0 := HD1.out.1
 obtain ⟨x0, x1, x2, x3, x4, x5⟩ := zn6 k0 rfl rfl rfl rfl rfl rfl
 have f0 := frozen_blk k0 0
 have f1 := frozen_blk k0 1
 have f2 := frozen_blk k0 2
 have f3 := frozen_blk k0 3
 have f4 := frozen_blk k0 4
 have f5 := frozen_blk k0 5
 clear k0
 go_wp2_with fail
 refine (l2Token_any s _ _ hs hib).mono ?_
 rintro e w2 ⟨rfl, hw2⟩
 have HD2 : Hid (DSt s bo m cb B w (.ok ⟨skAt s st.nx, st.la, st.cs⟩) (skAt s st.nx) st.la (-1) ao st.cs.length ca w2) := by
  rw [hw2]
  exact DSt.lay' hB HD1.out (RepF.skip HD1.out.2.2.2.2)
 clear hw2 HD1 x0 f0 x1 f1 x2 f2 x3 f3 x4 f4 x5 f5
 have k0 := HD2.out.1
 obtain ⟨x0, x1, x2, x3, x4, x5⟩ := zn6 k0 rfl rfl rfl rfl rfl rfl
 have f0 := frozen_blk k0 0
 have f1 := frozen_blk k0 1
 have f2 := frozen_blk k0 2
 have f3 := frozen_blk k0 3
 have f4 := frozen_blk k0 4
 have f5 := frozen_blk k0 5
 clear k0
 rw [hN]
 go_wp2_with fail
 refine (l2Fail_any s bo m cb B (.ok ⟨skAt s st.nx, st.la, st.cs⟩) (skAt s st.nx) st.la (-1) ao st.cs.length ca (skAt s st.nx) _ (by have := DSt.size HD2.out; omega) HD2.out.2.2.2.2).mono ?_
 intro e w9 hp
 obtain ⟨i9, la9, bd9, ao9, n9, ca9, rfl, k9, kz, hb9, hk9, hr9⟩ := DSt.got HD2.out hp
 have KZ : Hid (w9.heap[w.heap.size + 1]? = some rz) := kz
 have HB9 : Hid (Below B w w9) := hb9
 have HK9 : Hid (Lib.OthersKept 98 none w w9) := hk9
 have HR9 : Hid _ := hr9
 obtain ⟨z0, z1, z2, z3, z4, z5⟩ := zn6 kz rfl rfl rfl rfl rfl rfl
 have y0 := frozen_blk kz 0
 have y1 := frozen_blk kz 1
 have y2 := frozen_blk kz 2
 have y3 := frozen_blk kz 3
 have y4 := frozen_blk kz 4
 have y5 := frozen_blk kz 5
 clear kz hb9 hk9 hr9 hp k9
 go_wp2
 refine bodyPost_ret (ret6 rfl rfl (.string s) (.int .i64 i9) (.int .i64 la9) (.int .i64 bd9) (.slice ao9 n9 ca9) (.slice bo m cb) KZ.out) rfl ?_
 exact end6 (by omega) (by omega) rfl HR9.out KZ.out HB9.out HK9.out
set_option maxRecDepth 100000 in
set_option maxHeartbeats 4000000 in
theorem l2Datum_deep (s : ByteArray) (bo : Option Addr) (m cb B : Nat) (st : St) (ao : Option Addr) (ca deep : Nat) (w : World) (hs : s.size ≤ 1048576) (hB : B ≤ w.heap.size) (h : RepF s B (.ok st) st.nx st.la (-1) ao st.cs.length ca w) (hN : tkE s (skAt s st.nx) ≠ skAt s st.nx) (hq : ((tk s (skAt s st.nx)).toList == [40]) = true ∨ ((tk s (skAt s st.nx)).toList == [39]) = true) (hd : 24 ≤ deep) (hd2 : deep ≤ 100) :
  Calls Try.prog 53 #[.agg #[.string s, .int .i64 st.nx, .int .i64 st.la, .int .i64 (-1), .slice ao st.cs.length ca, .slice bo m cb], .int .i64 deep] w fun e w' => SpPost s bo m cb B (.error (skAt s st.nx)) w e w' := by
 have HD : Hid (DSt s bo m cb B w (.ok st) st.nx st.la (-1) ao st.cs.length ca _) := DSt.start hB h
 have hi := h.1
 have hib := skAt_le s st.nx hi
 have hte := tkE_le s _ hib
 clear h
 go_enter Try.func53, Try.ntmps53
 go_wp2_with fail
 refine (l2Skip_any s st.nx st.la (-1) ao bo st.cs.length ca m cb _ hs hi).mono ?_
 rintro e w1 ⟨rfl, hb1⟩
 have HD1 : Hid (DSt s bo m cb B w (.ok st) st.nx st.la (-1) ao st.cs.length ca w1) := DSt.below hB HD.out hb1
 clear HD hb1
 have k0 := HD1.out.1
 obtain ⟨x0, x1, x2, x3, x4, x5⟩ := zn6 k0 rfl rfl rfl rfl rfl rfl
 have f0 := frozen_blk k0 0
 have f1 := frozen_blk k0 1
 have f2 := frozen_blk k0 2
 have f3 := frozen_blk k0 3
 have f4 := frozen_blk k0 4
 have f5 := frozen_blk k0 5
 clear k0
 go_wp2_with fail
 refine (l2Token_any s _ _ hs hib).mono ?_
 rintro e w2 ⟨rfl, hw2⟩
 have HD2 : Hid (DSt s bo m cb B w (.ok ⟨skAt s st.nx, st.la, st.cs⟩) (skAt s st.nx) st.la (-1) ao st.cs.length ca w2) := by
  rw [hw2]
  exact DSt.lay' hB HD1.out (RepF.skip HD1.out.2.2.2.2)
 clear hw2 HD1 x0 f0 x1 f1 x2 f2 x3 f3 x4 f4 x5 f5
 have k0 := HD2.out.1
 obtain ⟨x0, x1, x2, x3, x4, x5⟩ := zn6 k0 rfl rfl rfl rfl rfl rfl
 have f0 := frozen_blk k0 0
 have f1 := frozen_blk k0 1
 have f2 := frozen_blk k0 2
 have f3 := frozen_blk k0 3
 have f4 := frozen_blk k0 4
 have f5 := frozen_blk k0 5
 clear k0
 have hge := tkE_ge s (skAt s st.nx)
 have q0 : decide ((tkE s (skAt s st.nx) : Int) = (skAt s st.nx : Int)) = false := by simp; omega
 have q1 : decide ((24 : Int) ≤ (deep : Int)) = true := by simp; omega
 simp only [tk] at hq
 by_cases hq1 : ((s.extract (skAt s st.nx) (tkE s (skAt s st.nx))).toList == [40]) = true
 ·clear hq
  go_wp2_with fail
  refine (l2Fail_any s bo m cb B (.ok ⟨skAt s st.nx, st.la, st.cs⟩) (skAt s st.nx) st.la (-1) ao st.cs.length ca (skAt s st.nx) _ (by have := DSt.size HD2.out; omega) HD2.out.2.2.2.2).mono ?_
  intro e w9 hp
  obtain ⟨i9, la9, bd9, ao9, n9, ca9, rfl, k9, kz, hb9, hk9, hr9⟩ := DSt.got HD2.out hp
  have KZ : Hid (w9.heap[w.heap.size + 1]? = some rz) := kz
  have HB9 : Hid (Below B w w9) := hb9
  have HK9 : Hid (Lib.OthersKept 98 none w w9) := hk9
  have HR9 : Hid _ := hr9
  obtain ⟨z0, z1, z2, z3, z4, z5⟩ := zn6 kz rfl rfl rfl rfl rfl rfl
  have y0 := frozen_blk kz 0
  have y1 := frozen_blk kz 1
  have y2 := frozen_blk kz 2
  have y3 := frozen_blk kz 3
  have y4 := frozen_blk kz 4
  have y5 := frozen_blk kz 5
  clear kz hb9 hk9 hr9 hp k9
  go_wp2
  refine bodyPost_ret (ret6 rfl rfl (.string s) (.int .i64 i9) (.int .i64 la9) (.int .i64 bd9) (.slice ao9 n9 ca9) (.slice bo m cb) KZ.out) rfl ?_
  exact end6 (by omega) (by omega) rfl HR9.out KZ.out HB9.out HK9.out
 ·have hq2 := hq.resolve_left hq1
  have hq1' : ((s.extract (skAt s st.nx) (tkE s (skAt s st.nx))).toList == [40]) = false := by simpa using hq1
  clear hq hq1
  go_wp2_with fail
  refine (l2Fail_any s bo m cb B (.ok ⟨skAt s st.nx, st.la, st.cs⟩) (skAt s st.nx) st.la (-1) ao st.cs.length ca (skAt s st.nx) _ (by have := DSt.size HD2.out; omega) HD2.out.2.2.2.2).mono ?_
  intro e w9 hp
  obtain ⟨i9, la9, bd9, ao9, n9, ca9, rfl, k9, kz, hb9, hk9, hr9⟩ := DSt.got HD2.out hp
  have KZ : Hid (w9.heap[w.heap.size + 1]? = some rz) := kz
  have HB9 : Hid (Below B w w9) := hb9
  have HK9 : Hid (Lib.OthersKept 98 none w w9) := hk9
  have HR9 : Hid _ := hr9
  obtain ⟨z0, z1, z2, z3, z4, z5⟩ := zn6 kz rfl rfl rfl rfl rfl rfl
  have y0 := frozen_blk kz 0
  have y1 := frozen_blk kz 1
  have y2 := frozen_blk kz 2
  have y3 := frozen_blk kz 3
  have y4 := frozen_blk kz 4
  have y5 := frozen_blk kz 5
  clear kz hb9 hk9 hr9 hp k9
  go_wp2
  refine bodyPost_ret (ret6 rfl rfl (.string s) (.int .i64 i9) (.int .i64 la9) (.int .i64 bd9) (.slice ao9 n9 ca9) (.slice bo m cb) KZ.out) rfl ?_
  exact end6 (by omega) (by omega) rfl HR9.out KZ.out HB9.out HK9.out
set_option maxRecDepth 100000 in
set_option maxHeartbeats 4000000 in
theorem l2Datum_atom (s : ByteArray) (bo : Option Addr) (m cb B : Nat) (st : St) (ao : Option Addr) (ca deep : Nat) (w : World) (hs : s.size ≤ 1048576) (hB : B ≤ w.heap.size) (h : RepF s B (.ok st) st.nx st.la (-1) ao st.cs.length ca w) (hN : tkE s (skAt s st.nx) ≠ skAt s st.nx) (hq1 : ((tk s (skAt s st.nx)).toList == [40]) = false) (hq2 : ((tk s (skAt s st.nx)).toList == [39]) = false) :
  Calls Try.prog 53 #[.agg #[.string s, .int .i64 st.nx, .int .i64 st.la, .int .i64 (-1), .slice ao st.cs.length ca, .slice bo m cb], .int .i64 deep] w fun e w' => SpPost s bo m cb B (atomP ⟨tkE s (skAt s st.nx), skAt s st.nx, st.cs⟩ (tk s (skAt s st.nx))) w e w' := by
 have HD : Hid (DSt s bo m cb B w (.ok st) st.nx st.la (-1) ao st.cs.length ca _) := DSt.start hB h
 have hi := h.1
 have hib := skAt_le s st.nx hi
 have hte := tkE_le s _ hib
 clear h
 go_enter Try.func53, Try.ntmps53
 go_wp2_with fail
 refine (l2Skip_any s st.nx st.la (-1) ao bo st.cs.length ca m cb _ hs hi).mono ?_
 rintro e w1 ⟨rfl, hb1⟩
 have HD1 : Hid (DSt s bo m cb B w (.ok st) st.nx st.la (-1) ao st.cs.length ca w1) := DSt.below hB HD.out hb1
 clear HD hb1
 have k0 := HD1.out.1
 obtain ⟨x0, x1, x2, x3, x4, x5⟩ := zn6 k0 rfl rfl rfl rfl rfl rfl
 have f0 := frozen_blk k0 0
 have f1 := frozen_blk k0 1
 have f2 := frozen_blk k0 2
 have f3 := frozen_blk k0 3
 have f4 := frozen_blk k0 4
 have f5 := frozen_blk k0 5
 clear k0
 go_wp2_with fail
 refine (l2Token_any s _ _ hs hib).mono ?_
 rintro e w2 ⟨rfl, hw2⟩
 have HD2 : Hid (DSt s bo m cb B w (.ok ⟨skAt s st.nx, st.la, st.cs⟩) (skAt s st.nx) st.la (-1) ao st.cs.length ca w2) := by
  rw [hw2]
  exact DSt.lay' hB HD1.out (RepF.skip HD1.out.2.2.2.2)
 clear hw2 HD1 x0 f0 x1 f1 x2 f2 x3 f3 x4 f4 x5 f5
 have k0 := HD2.out.1
 obtain ⟨x0, x1, x2, x3, x4, x5⟩ := zn6 k0 rfl rfl rfl rfl rfl rfl
 have f0 := frozen_blk k0 0
 have f1 := frozen_blk k0 1
 have f2 := frozen_blk k0 2
 have f3 := frozen_blk k0 3
 have f4 := frozen_blk k0 4
 have f5 := frozen_blk k0 5
 clear k0
 have hge := tkE_ge s (skAt s st.nx)
 have q0 : decide ((tkE s (skAt s st.nx) : Int) = (skAt s st.nx : Int)) = false := by simp; omega
 have HTS : Hid ((tk s (skAt s st.nx)).size ≤ 1048576) := by
  show _ ≤ _
  simp only [tk, ByteArray.size_extract]
  omega
 have HD3 : Hid (DSt s bo m cb B w (.ok ⟨tkE s (skAt s st.nx), skAt s st.nx, st.cs⟩) _ _ _ _ _ _ _) := DSt.two (st := ⟨skAt s st.nx, st.la, st.cs⟩) (b := skAt s st.nx) hB hte HD2.out
 simp only [tk] at hq1 hq2
 go_wp2_with fail
 refine (l2Atom_any s bo m cb B ⟨tkE s (skAt s st.nx), skAt s st.nx, st.cs⟩ ao ca (tk s (skAt s st.nx)) _ HTS.out (by have := DSt.size HD3.out; omega) HD3.out.2.2.2.2).mono ?_
 intro e w9 hp
 obtain ⟨i9, la9, bd9, ao9, n9, ca9, rfl, k9, kz, hb9, hk9, hr9⟩ := DSt.got HD3.out hp
 have KZ : Hid (w9.heap[w.heap.size + 1]? = some rz) := kz
 have HB9 : Hid (Below B w w9) := hb9
 have HK9 : Hid (Lib.OthersKept 98 none w w9) := hk9
 have HR9 : Hid _ := hr9
 obtain ⟨z0, z1, z2, z3, z4, z5⟩ := zn6 kz rfl rfl rfl rfl rfl rfl
 have y0 := frozen_blk kz 0
 have y1 := frozen_blk kz 1
 have y2 := frozen_blk kz 2
 have y3 := frozen_blk kz 3
 have y4 := frozen_blk kz 4
 have y5 := frozen_blk kz 5
 clear kz hb9 hk9 hr9 hp k9
 go_wp2
 refine bodyPost_ret (ret6 rfl rfl (.string s) (.int .i64 i9) (.int .i64 la9) (.int .i64 bd9) (.slice ao9 n9 ca9) (.slice bo m cb) KZ.out) rfl ?_
 exact end6 (by omega) (by omega) rfl HR9.out KZ.out HB9.out HK9.out
end Go.Proofs.Ytgjeefedcfakdaa.R2
set_option linter.unusedVariables false
namespace Go.Proofs.Ytgjeefedcfakdaa.R2
open Go.ChangeShapes Go.WideShapes Go.ChangeAt Go.RowKit
def DatC (s : ByteArray) (bo : Option Addr) (m cb B f deep : Nat) : Prop := ∀ (r : Except Nat St) (i : Nat) (la bd : Int) (ao : Option Addr) (n ca : Nat) (w : World), B ≤ w.heap.size → RepF s B r i la bd ao n ca w → (∀ st, r = .ok st → 2 * (s.size - st.nx) + 1 ≤ f) →
 Calls Try.prog 53 #[.agg #[.string s, .int .i64 i, .int .i64 la, .int .i64 bd, .slice ao n ca, .slice bo m cb], .int .i64 deep] w fun e w' => SpPost s bo m cb B (r.bind fun st => datP s f deep (skAt s st.nx) st.cs) w e w'
theorem got0 {s : ByteArray} {bo : Option Addr} {m cb B : Nat} {w W W' : World} {r' : Except Nat St} (k1 : W.heap[w.heap.size + 1]? = some rz) (h3 : Below B w W) (h4 : Lib.OthersKept 98 none w W) {e : Ending} (hp : SpPost s bo m cb B r' W e W') : ∃ (i' : Nat) (la' bd' : Int) (ao' : Option Addr) (n' ca' : Nat), e = .returned (.agg #[.string s, .int .i64 i', .int .i64 la', .int .i64 bd', .slice ao' n' ca', .slice bo m cb]) ∧ W'.heap[w.heap.size + 1]? = some rz ∧ Below B w W' ∧ Lib.OthersKept 98 none w W' ∧ RepF s B r' i' la' bd' ao' n' ca' W' := by
 obtain ⟨v, rfl, ⟨i', la', bd', ao', n', ca', rfl, hr⟩, hb, hk⟩ := hp
 exact ⟨i', la', bd', ao', n', ca', rfl, hk _ _ k1 (by simp) (fun _ _ e => by injection e with _ e; cases e), h3.trans hb, fun k o hk0 hkb ho => hk k o (h4 k o hk0 hkb ho) hkb ho, hr⟩
theorem parts2 (w : World) (x y : Int) : PartsAt (w.alloc (.cells #[.int .i64 x, .int .i64 y] 3)) (w.alloc (.cells #[.int .i64 x, .int .i64 y] 3)).heap.size (some ⟨w.heap.size, 0, none⟩) [x, y] := by
 intro i z hz
 refine ⟨w.heap.size, 0, _, rfl, by simp, blk_at _ _ _ rfl, ?_⟩
 match i, hz with
 | 0, hz => obtain rfl := Option.some.inj hz; rfl
 | 1, hz => obtain rfl := Option.some.inj hz; rfl
theorem quote_eq {s : ByteArray} {B : Nat} {r4 : Except Nat St} {F : St → Except Nat St} {i4 i5 n4 c4 n5 c5 : Nat} {l4 b4 l5 b5 : Int} {a4 a5 : Option Addr} {W4 W5 : World} (h4 : RepF s B r4 i4 l4 b4 a4 n4 c4 W4) (h5 : RepF s B (r4.bind F) i5 l5 b5 a5 n5 c5 W5) :
  (((r4.bind F).bind fun st => putP st nilD).bind fun st => prsP st [(n4 : Int) - 1, (n5 : Int) - 1]) = r4.bind fun st => (F st).bind fun st2 => (putP st2 nilD).bind fun st3 => prsP st3 [st.top, st2.top] := by
 cases r4 with
 | error p => rfl
 | ok st =>
  obtain ⟨_, _, _, _, _, rfl, _⟩ := h4
  show (((F st).bind fun st => putP st nilD).bind _) = (F st).bind _
  change RepF s B (F st) _ _ _ _ _ _ _ at h5
  cases hF : F st with
  | error p => rfl
  | ok st2 =>
   rw [hF] at h5
   obtain ⟨_, _, _, _, _, rfl, _⟩ := h5
   rfl
set_option maxRecDepth 100000 in
set_option maxHeartbeats 4000000 in
theorem l2Datum_quote (s : ByteArray) (bo : Option Addr) (m cb B : Nat) (st : St) (ao : Option Addr) (ca deep : Nat) (w : World) (hs : s.size ≤ 1048576) (hB : B ≤ w.heap.size) (h : RepF s B (.ok st) st.nx st.la (-1) ao st.cs.length ca w) (f : Nat) (hN : tkE s (skAt s st.nx) ≠ skAt s st.nx) (hq1 : ((tk s (skAt s st.nx)).toList == [40]) = false) (hq2 : ((tk s (skAt s st.nx)).toList == [39]) = true) (hd : deep < 24) (hf : 2 * (s.size - st.nx) + 1 ≤ f + 1) (IH : DatC s bo m cb B f (deep + 1)) :
  Calls Try.prog 53 #[.agg #[.string s, .int .i64 st.nx, .int .i64 st.la, .int .i64 (-1), .slice ao st.cs.length ca, .slice bo m cb], .int .i64 deep] w fun e w' => SpPost s bo m cb B ((putP ⟨tkE s (skAt s st.nx), skAt s st.nx, st.cs⟩ quoD).bind fun st => (datP s f (deep + 1) (skAt s st.nx) st.cs).bind fun st2 => (putP st2 nilD).bind fun st3 => prsP st3 [st.top, st2.top]) w e w' := by
 have HIH : Hid (DatC s bo m cb B f (deep + 1)) := IH
 clear IH
 have HD : Hid (DSt s bo m cb B w (.ok st) st.nx st.la (-1) ao st.cs.length ca _) := DSt.start hB h
 have hi := h.1
 have hib := skAt_le s st.nx hi
 have hte := tkE_le s _ hib
 clear h
 go_enter Try.func53, Try.ntmps53
 go_wp2_with fail
 refine (l2Skip_any s st.nx st.la (-1) ao bo st.cs.length ca m cb _ hs hi).mono ?_
 rintro e w1 ⟨rfl, hb1⟩
 have HD1 : Hid (DSt s bo m cb B w (.ok st) st.nx st.la (-1) ao st.cs.length ca w1) := DSt.below hB HD.out hb1
 clear HD hb1
 have k0 := HD1.out.1
 obtain ⟨x0, x1, x2, x3, x4, x5⟩ := zn6 k0 rfl rfl rfl rfl rfl rfl
 have f0 := frozen_blk k0 0
 have f1 := frozen_blk k0 1
 have f2 := frozen_blk k0 2
 have f3 := frozen_blk k0 3
 have f4 := frozen_blk k0 4
 have f5 := frozen_blk k0 5
 clear k0
 go_wp2_with fail
 refine (l2Token_any s _ _ hs hib).mono ?_
 rintro e w2 ⟨rfl, hw2⟩
 have HD2 : Hid (DSt s bo m cb B w (.ok ⟨skAt s st.nx, st.la, st.cs⟩) (skAt s st.nx) st.la (-1) ao st.cs.length ca w2) := by
  rw [hw2]
  exact DSt.lay' hB HD1.out (RepF.skip HD1.out.2.2.2.2)
 clear hw2 HD1 x0 f0 x1 f1 x2 f2 x3 f3 x4 f4 x5 f5
 have k0 := HD2.out.1
 obtain ⟨x0, x1, x2, x3, x4, x5⟩ := zn6 k0 rfl rfl rfl rfl rfl rfl
 have f0 := frozen_blk k0 0
 have f1 := frozen_blk k0 1
 have f2 := frozen_blk k0 2
 have f3 := frozen_blk k0 3
 have f4 := frozen_blk k0 4
 have f5 := frozen_blk k0 5
 clear k0
 have hge := tkE_ge s (skAt s st.nx)
 have hge2 := skAt_ge s st.nx
 have q0 : decide ((tkE s (skAt s st.nx) : Int) = (skAt s st.nx : Int)) = false := by simp; omega
 have q1 : decide ((24 : Int) ≤ (deep : Int)) = false := by simp; omega
 have HD3 : Hid (DSt s bo m cb B w (.ok ⟨tkE s (skAt s st.nx), skAt s st.nx, st.cs⟩) _ _ _ _ _ _ _) := DSt.two (st := ⟨skAt s st.nx, st.la, st.cs⟩) (b := skAt s st.nx) hB hte HD2.out
 simp only [tk] at hq1 hq2
 go_wp2_with fail
 refine (l2Put_any s bo m cb B (.ok ⟨tkE s (skAt s st.nx), skAt s st.nx, st.cs⟩) _ _ _ _ _ _ quoD _ (by have := DSt.size HD3.out; omega) HD3.out.2.2.2.2).mono ?_
 clear x0 x1 x2 x3 x4 x5 f0 f1 f2 f3 f4 f5
 intro e v4 hp
 obtain ⟨i4, l4, b4, a4, n4, c4, rfl, kx, kz, hb4, hk4, hr4⟩ := DSt.got HD3.out hp
 have KX : Hid _ := kx
 have KZ : Hid _ := kz
 have HB : Hid _ := hb4
 have HK : Hid _ := hk4
 have HR : Hid (RepF s B (putP ⟨tkE s (skAt s st.nx), skAt s st.nx, st.cs⟩ quoD) i4 l4 b4 a4 n4 c4 v4) := hr4
 clear hp kz hb4 hk4 hr4
 obtain ⟨x0, x1, x2, x3, x4, x5⟩ := zn6 kx rfl rfl rfl rfl rfl rfl
 have f0 := frozen_blk kx 0
 have f1 := frozen_blk kx 1
 have f2 := frozen_blk kx 2
 have f3 := frozen_blk kx 3
 have f4 := frozen_blk kx 4
 have f5 := frozen_blk kx 5
 have HD4 : Hid (DSt s bo m cb B w (putP ⟨tkE s (skAt s st.nx), skAt s st.nx, st.cs⟩ quoD) i4 l4 b4 a4 n4 c4 _) := DSt.lay hB KX.out KZ.out HB.out HK.out HR.out
 have hn4 : n4 ≤ 1000 := HR.out.2.1
 clear kx KX KZ HB HK
 go_wp2_with fail
 refine (HIH.out (putP ⟨tkE s (skAt s st.nx), skAt s st.nx, st.cs⟩ quoD) _ _ _ _ _ _ _ (by have := DSt.size HD4.out; omega) HD4.out.2.2.2.2 ?_).mono ?_
 ·intro st' e
  unfold putP at e
  split at e
  ·obtain rfl := Except.ok.inj e
   show 2 * (s.size - tkE s (skAt s st.nx)) + 1 ≤ f
   omega
  ·cases e
 clear x0 x1 x2 x3 x4 x5 f0 f1 f2 f3 f4 f5
 have HR4 := HR
 clear HR
 intro e v5 hp
 obtain ⟨i5, l5, b5, a5, n5, c5, rfl, kx, kz, hb5, hk5, hr5⟩ := DSt.got HD4.out hp
 have KX : Hid _ := kx
 have KZ : Hid _ := kz
 have HB : Hid _ := hb5
 have HK : Hid _ := hk5
 have HR : Hid (RepF s B ((putP ⟨tkE s (skAt s st.nx), skAt s st.nx, st.cs⟩ quoD).bind fun st => datP s f (deep + 1) (skAt s st.nx) st.cs) i5 l5 b5 a5 n5 c5 v5) := hr5
 clear hp kz hb5 hk5 hr5
 obtain ⟨x0, x1, x2, x3, x4, x5⟩ := zn6 kx rfl rfl rfl rfl rfl rfl
 have f0 := frozen_blk kx 0
 have f1 := frozen_blk kx 1
 have f2 := frozen_blk kx 2
 have f3 := frozen_blk kx 3
 have f4 := frozen_blk kx 4
 have f5 := frozen_blk kx 5
 have HD5 : Hid (DSt s bo m cb B w ((putP ⟨tkE s (skAt s st.nx), skAt s st.nx, st.cs⟩ quoD).bind fun st => datP s f (deep + 1) (skAt s st.nx) st.cs) i5 l5 b5 a5 n5 c5 _) := DSt.lay hB KX.out KZ.out HB.out HK.out HR.out
 have hn5 : n5 ≤ 1000 := HR.out.2.1
 clear kx KX KZ HB HK
 have HR5 := HR
 clear HR
 go_wp2_with fail
 refine (l2Put_any s bo m cb B _ _ _ _ _ _ _ nilD _ (by have := DSt.size HD5.out; omega) HD5.out.2.2.2.2).mono ?_
 clear x0 x1 x2 x3 x4 x5 f0 f1 f2 f3 f4 f5
 intro e v6 hp
 obtain ⟨i6, l6, b6, a6, n6, c6, rfl, kx, kz, hb6, hk6, hr6⟩ := DSt.got HD5.out hp
 clear hp kx
 have hz6 := (alt kz)
 have bl : Below v6.heap.size v6 (v6.alloc (.cells #[.int .i64 ((n4 : Int) - 1), .int .i64 ((n5 : Int) - 1)] 3)) := bR _ _
 have KZ6 : Hid _ := (bl.block _ hz6).trans kz
 have HB6 : Hid _ := hb6.trans (bl.mono (by omega))
 have HK6 : Hid (Lib.OthersKept 98 none w (v6.alloc (.cells #[.int .i64 ((n4 : Int) - 1), .int .i64 ((n5 : Int) - 1)] 3))) := fun k o hk hkb ho => (ok_below bl) k o (hk6 k o hk hkb ho) hkb ho
 have HR6 : Hid _ := hr6.below bl
 have HZ6 : Hid (B ≤ (v6.alloc (.cells #[.int .i64 ((n4 : Int) - 1), .int .i64 ((n5 : Int) - 1)] 3)).heap.size) := by show _ ≤ _; simp; omega
 clear kz hb6 hk6 hr6 bl hz6
 go_wp2_with fail
 refine (l2List_any s bo m cb B _ _ _ _ _ _ _ _ _ [(n4 : Int) - 1, (n5 : Int) - 1] _ HZ6.out HR6.out (by simp) (parts2 _ _ _)).mono ?_
 intro e w9 hp
 obtain ⟨i9, la9, bd9, ao9, n9, ca9, rfl, kz, hb9, hk9, hr9⟩ := got0 KZ6.out HB6.out HK6.out hp
 have KZ : Hid (w9.heap[w.heap.size + 1]? = some rz) := kz
 have HB9 : Hid (Below B w w9) := hb9
 have HK9 : Hid (Lib.OthersKept 98 none w w9) := hk9
 have HR9 : Hid _ := hr9
 obtain ⟨z0, z1, z2, z3, z4, z5⟩ := zn6 kz rfl rfl rfl rfl rfl rfl
 have y0 := frozen_blk kz 0
 have y1 := frozen_blk kz 1
 have y2 := frozen_blk kz 2
 have y3 := frozen_blk kz 3
 have y4 := frozen_blk kz 4
 have y5 := frozen_blk kz 5
 clear kz hb9 hk9 hr9 hp
 go_wp2
 refine bodyPost_ret (ret6 rfl rfl (.string s) (.int .i64 i9) (.int .i64 la9) (.int .i64 bd9) (.slice ao9 n9 ca9) (.slice bo m cb) KZ.out) rfl ?_
 exact end6 (by omega) (by omega) (quote_eq HR4.out HR5.out) HR9.out KZ.out HB9.out HK9.out
end Go.Proofs.Ytgjeefedcfakdaa.R2
set_option linter.unusedVariables false
namespace Go.Proofs.Ytgjeefedcfakdaa.R2
theorem bind_ok {α β : Type} {r : Except Nat α} {F : α → Except Nat β} {x : β} (h : r.bind F = .ok x) : ∃ y, r = .ok y ∧ F y = .ok x := by
 cases r with
 | error e => cases h
 | ok y => exact ⟨y, rfl, h⟩
theorem putP_nx {st st' : St} {d : Dat} (h : putP st d = .ok st') : st'.nx = st.nx := by
 unfold putP at h
 split at h
 ·obtain rfl := Except.ok.inj h; rfl
 ·cases h
theorem prsP_nx {st st' : St} {ps : List Int} (h : prsP st ps = .ok st') : st'.nx = st.nx := by
 unfold prsP at h
 split at h
 ·obtain rfl := Except.ok.inj h; rfl
 ·cases h
theorem atomP_nx {st st' : St} {t : ByteArray} (h : atomP st t = .ok st') : st'.nx = st.nx := by
 unfold atomP at h
 split at h
 ·exact putP_nx h
 ·cases h
theorem rd_prog (s : ByteArray) : ∀ (f : Nat),
  (∀ deep b cs st', b ≤ s.size → datP s f deep b cs = .ok st' → b < st'.nx ∧ st'.nx ≤ s.size) ∧
  (∀ deep ps st st', st.nx ≤ s.size → lstP s f deep ps st = .ok st' → st.nx ≤ st'.nx ∧ st'.nx ≤ s.size)
 | 0 => ⟨fun _ _ _ _ _ h => (by cases h), fun _ _ _ _ _ h => (by cases h)⟩
 | f + 1 => by
  obtain ⟨ihd, ihl⟩ := rd_prog s f
  constructor
  ·intro deep b cs st' hb h
   rw [datP_succ] at h
   have h1 := tkE_ge s b
   have h2 := tkE_le s b hb
   split at h
   ·cases h
   ·split at h
    ·split at h
     ·cases h
     ·have := ihl _ _ _ _ h2 h
      simp only at this
      omega
    ·split at h
     ·split at h
      ·cases h
      ·obtain ⟨s1, e1, h⟩ := bind_ok h
       obtain ⟨s2, e2, h⟩ := bind_ok h
       obtain ⟨s3, e3, h⟩ := bind_ok h
       have a1 := putP_nx e1
       simp only at a1
       have a0 := skAt_ge s s1.nx
       have a2 := ihd _ _ _ _ (skAt_le s s1.nx (by omega)) e2
       have a3 := putP_nx e3
       have a4 := prsP_nx h
       omega
     ·have := atomP_nx h
      simp only at this
      omega
  ·intro deep ps st st' hb h
   rw [lstP_succ] at h
   have h0 := skAt_ge s st.nx
   have h0' := skAt_le s st.nx hb
   have h1 := tkE_ge s (skAt s st.nx)
   have h2 := tkE_le s (skAt s st.nx) h0'
   split at h
   ·obtain ⟨s1, e1, h⟩ := bind_ok h
    have a1 := putP_nx e1
    have a4 := prsP_nx h
    simp only at a1
    omega
   ·split at h
    ·obtain ⟨s1, e1, h⟩ := bind_ok h
     have a0 := skAt_ge s (tkE s (skAt s st.nx))
     have a2 := ihd _ _ _ _ (skAt_le s _ h2) e1
     split at h
     ·have a4 := prsP_nx h
      simp only at a4
      have b1 := skAt_ge s s1.nx
      have b2 := tkE_ge s (skAt s s1.nx)
      have b3 := tkE_le s (skAt s s1.nx) (skAt_le s s1.nx a2.2)
      omega
     ·cases h
    ·obtain ⟨s1, e1, h⟩ := bind_ok h
     have a2 := ihd _ _ _ _ h0' e1
     have a3 := ihl _ _ _ _ a2.2 h
     omega
theorem datP_prog {s : ByteArray} {f deep b : Nat} {cs : List Dat} {st' : St} (hb : b ≤ s.size) (h : datP s f deep b cs = .ok st') : b < st'.nx ∧ st'.nx ≤ s.size := (rd_prog s f).1 _ _ _ _ hb h
end Go.Proofs.Ytgjeefedcfakdaa.R2
