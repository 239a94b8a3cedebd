/- The model's reader: a datum that fails at once, an atom. -/
import Derived.Test.YtgfkmppkeolckaaDoorSpg
set_option linter.unusedVariables false
namespace Go.Proofs.YtgfkmppkeolckaaDoor
open Go.ChangeShapes Go.WideShapes Go.ChangeAt Go.RowKit
set_option maxRecDepth 100000 in
set_option maxHeartbeats 4000000 in
theorem l2Datum_bad (s : ByteArray) (bo : Option Addr) (m cb B : Nat) (p i : Nat) (la : Int) (ao : Option Addr) (n ca : Nat) (deep : Int) (w : World) (hs : s.size ≤ 33554432) (hB : B ≤ w.heap.size) (h : RepF s B (.error p) i la p ao n ca w) :
    Calls Tryd.prog 28 #[.agg #[.string s, .int .i64 i, .int .i64 la, .int .i64 p, .slice ao n ca, .slice bo m cb], .int .i64 deep] w fun e w' => SpPost s bo m cb B (.error p) w e w' := by
  have HD : Hid (DSt s bo m cb B w (.error p) i la (p : Int) ao n ca _) := DSt.start hB h
  have hi := h.1
  have hib := skAt_le s i hi
  have hte := tkE_le s _ hib
  clear h
  go_enter Tryd.func28, Tryd.ntmps28
  go_wp2_with fail
  refine (l2Skip_any s i la (p : Int) ao bo n ca m cb _ hs hi).mono ?_
  rintro e w1 ⟨rfl, hb1⟩
  have HD1 : Hid (DSt s bo m cb B w (.error p) i la (p : Int) ao n ca w1) := DSt.below hB HD.out hb1
  clear HD hb1
  have k0 := HD1.out.1
  have x0 := cell_blk (j := 0) k0 rfl
  have x1 := cell_blk (j := 1) k0 rfl
  have x2 := cell_blk (j := 2) k0 rfl
  have x3 := cell_blk (j := 3) k0 rfl
  have x4 := cell_blk (j := 4) k0 rfl
  have x5 := cell_blk (j := 5) k0 rfl
  have f0 := frozen_blk k0 0
  have f1 := frozen_blk k0 1
  have f2 := frozen_blk k0 2
  have f3 := frozen_blk k0 3
  have f4 := frozen_blk k0 4
  have f5 := frozen_blk k0 5
  clear k0
  have q : decide ((0 : Int) ≤ (p : Int)) = true := by simp
  go_wp2_with fail
  refine (l2Token_any s _ _ hs hib).mono ?_
  rintro e w2 ⟨rfl, hw2⟩
  have HD2 : Hid (DSt s bo m cb B w (.error p) (skAt s i) la (p : Int) ao n ca w2) := by
    rw [hw2]
    exact DSt.lay' hB HD1.out (RepF.skip HD1.out.2.2.2.2)
  clear hw2 HD1 x0 f0 x1 f1 x2 f2 x3 f3 x4 f4 x5 f5
  have k0 := HD2.out.1
  have x0 := cell_blk (j := 0) k0 rfl
  have x1 := cell_blk (j := 1) k0 rfl
  have x2 := cell_blk (j := 2) k0 rfl
  have x3 := cell_blk (j := 3) k0 rfl
  have x4 := cell_blk (j := 4) k0 rfl
  have x5 := cell_blk (j := 5) k0 rfl
  have f0 := frozen_blk k0 0
  have f1 := frozen_blk k0 1
  have f2 := frozen_blk k0 2
  have f3 := frozen_blk k0 3
  have f4 := frozen_blk k0 4
  have f5 := frozen_blk k0 5
  clear k0

  go_wp2_with fail
  refine (l2Fail_any s bo m cb B (.error p) (skAt s i) la p ao n ca (skAt s i) _ (by have := DSt.size HD2.out; omega) HD2.out.2.2.2.2).mono ?_
  intro e w9 hp
  obtain ⟨i9, la9, bd9, ao9, n9, ca9, rfl, k9, kz, hb9, hk9, hr9⟩ := DSt.got HD2.out hp
  have KZ : Hid (w9.heap[w.heap.size + 1]? = some rz) := kz
  have HB9 : Hid (Below B w w9) := hb9
  have HK9 : Hid (Lib.OthersKept 67 none w w9) := hk9
  have HR9 : Hid _ := hr9
  have z0 := cell_blk (j := 0) kz rfl
  have z1 := cell_blk (j := 1) kz rfl
  have z2 := cell_blk (j := 2) kz rfl
  have z3 := cell_blk (j := 3) kz rfl
  have z4 := cell_blk (j := 4) kz rfl
  have z5 := cell_blk (j := 5) kz rfl
  have y0 := frozen_blk kz 0
  have y1 := frozen_blk kz 1
  have y2 := frozen_blk kz 2
  have y3 := frozen_blk kz 3
  have y4 := frozen_blk kz 4
  have y5 := frozen_blk kz 5
  clear kz hb9 hk9 hr9 hp k9
  go_wp2
  refine bodyPost_ret (ret6 rfl rfl (.string s) (.int .i64 i9) (.int .i64 la9) (.int .i64 bd9) (.slice ao9 n9 ca9) (.slice bo m cb) KZ.out) rfl ?_
  exact end6 (by omega) (by omega) rfl HR9.out KZ.out HB9.out HK9.out
set_option maxRecDepth 100000 in
set_option maxHeartbeats 4000000 in
theorem l2Datum_none (s : ByteArray) (bo : Option Addr) (m cb B : Nat) (st : St) (ao : Option Addr) (ca deep : Nat) (w : World) (hs : s.size ≤ 33554432) (hB : B ≤ w.heap.size) (h : RepF s B (.ok st) st.nx st.la (-1) ao st.cs.length ca w) (hN : tkE s (skAt s st.nx) = skAt s st.nx) :
    Calls Tryd.prog 28 #[.agg #[.string s, .int .i64 st.nx, .int .i64 st.la, .int .i64 (-1), .slice ao st.cs.length ca, .slice bo m cb], .int .i64 deep] w fun e w' => SpPost s bo m cb B (.error (skAt s st.nx)) w e w' := by
  have HD : Hid (DSt s bo m cb B w (.ok st) st.nx st.la (-1) ao st.cs.length ca _) := DSt.start hB h
  have hi := h.1
  have hib := skAt_le s st.nx hi
  have hte := tkE_le s _ hib
  clear h
  go_enter Tryd.func28, Tryd.ntmps28
  go_wp2_with fail
  refine (l2Skip_any s st.nx st.la (-1) ao bo st.cs.length ca m cb _ hs hi).mono ?_
  rintro e w1 ⟨rfl, hb1⟩
  have HD1 : Hid (DSt s bo m cb B w (.ok st) st.nx st.la (-1) ao st.cs.length ca w1) := DSt.below hB HD.out hb1
  clear HD hb1
  have k0 := HD1.out.1
  have x0 := cell_blk (j := 0) k0 rfl
  have x1 := cell_blk (j := 1) k0 rfl
  have x2 := cell_blk (j := 2) k0 rfl
  have x3 := cell_blk (j := 3) k0 rfl
  have x4 := cell_blk (j := 4) k0 rfl
  have x5 := cell_blk (j := 5) k0 rfl
  have f0 := frozen_blk k0 0
  have f1 := frozen_blk k0 1
  have f2 := frozen_blk k0 2
  have f3 := frozen_blk k0 3
  have f4 := frozen_blk k0 4
  have f5 := frozen_blk k0 5
  clear k0

  go_wp2_with fail
  refine (l2Token_any s _ _ hs hib).mono ?_
  rintro e w2 ⟨rfl, hw2⟩
  have HD2 : Hid (DSt s bo m cb B w (.ok ⟨skAt s st.nx, st.la, st.cs⟩) (skAt s st.nx) st.la (-1) ao st.cs.length ca w2) := by
    rw [hw2]
    exact DSt.lay' hB HD1.out (RepF.skip HD1.out.2.2.2.2)
  clear hw2 HD1 x0 f0 x1 f1 x2 f2 x3 f3 x4 f4 x5 f5
  have k0 := HD2.out.1
  have x0 := cell_blk (j := 0) k0 rfl
  have x1 := cell_blk (j := 1) k0 rfl
  have x2 := cell_blk (j := 2) k0 rfl
  have x3 := cell_blk (j := 3) k0 rfl
  have x4 := cell_blk (j := 4) k0 rfl
  have x5 := cell_blk (j := 5) k0 rfl
  have f0 := frozen_blk k0 0
  have f1 := frozen_blk k0 1
  have f2 := frozen_blk k0 2
  have f3 := frozen_blk k0 3
  have f4 := frozen_blk k0 4
  have f5 := frozen_blk k0 5
  clear k0

  rw [hN]
  go_wp2_with fail
  refine (l2Fail_any s bo m cb B (.ok ⟨skAt s st.nx, st.la, st.cs⟩) (skAt s st.nx) st.la (-1) ao st.cs.length ca (skAt s st.nx) _ (by have := DSt.size HD2.out; omega) HD2.out.2.2.2.2).mono ?_
  intro e w9 hp
  obtain ⟨i9, la9, bd9, ao9, n9, ca9, rfl, k9, kz, hb9, hk9, hr9⟩ := DSt.got HD2.out hp
  have KZ : Hid (w9.heap[w.heap.size + 1]? = some rz) := kz
  have HB9 : Hid (Below B w w9) := hb9
  have HK9 : Hid (Lib.OthersKept 67 none w w9) := hk9
  have HR9 : Hid _ := hr9
  have z0 := cell_blk (j := 0) kz rfl
  have z1 := cell_blk (j := 1) kz rfl
  have z2 := cell_blk (j := 2) kz rfl
  have z3 := cell_blk (j := 3) kz rfl
  have z4 := cell_blk (j := 4) kz rfl
  have z5 := cell_blk (j := 5) kz rfl
  have y0 := frozen_blk kz 0
  have y1 := frozen_blk kz 1
  have y2 := frozen_blk kz 2
  have y3 := frozen_blk kz 3
  have y4 := frozen_blk kz 4
  have y5 := frozen_blk kz 5
  clear kz hb9 hk9 hr9 hp k9
  go_wp2
  refine bodyPost_ret (ret6 rfl rfl (.string s) (.int .i64 i9) (.int .i64 la9) (.int .i64 bd9) (.slice ao9 n9 ca9) (.slice bo m cb) KZ.out) rfl ?_
  exact end6 (by omega) (by omega) rfl HR9.out KZ.out HB9.out HK9.out
set_option maxRecDepth 100000 in
set_option maxHeartbeats 4000000 in
theorem l2Datum_deep (s : ByteArray) (bo : Option Addr) (m cb B : Nat) (st : St) (ao : Option Addr) (ca deep : Nat) (w : World) (hs : s.size ≤ 33554432) (hB : B ≤ w.heap.size) (h : RepF s B (.ok st) st.nx st.la (-1) ao st.cs.length ca w) (hN : tkE s (skAt s st.nx) ≠ skAt s st.nx) (hq : ((tk s (skAt s st.nx)).toList == [40]) = true ∨ ((tk s (skAt s st.nx)).toList == [39]) = true) (hd : 24 ≤ deep) (hd2 : deep ≤ 100) :
    Calls Tryd.prog 28 #[.agg #[.string s, .int .i64 st.nx, .int .i64 st.la, .int .i64 (-1), .slice ao st.cs.length ca, .slice bo m cb], .int .i64 deep] w fun e w' => SpPost s bo m cb B (.error (skAt s st.nx)) w e w' := by
  have HD : Hid (DSt s bo m cb B w (.ok st) st.nx st.la (-1) ao st.cs.length ca _) := DSt.start hB h
  have hi := h.1
  have hib := skAt_le s st.nx hi
  have hte := tkE_le s _ hib
  clear h
  go_enter Tryd.func28, Tryd.ntmps28
  go_wp2_with fail
  refine (l2Skip_any s st.nx st.la (-1) ao bo st.cs.length ca m cb _ hs hi).mono ?_
  rintro e w1 ⟨rfl, hb1⟩
  have HD1 : Hid (DSt s bo m cb B w (.ok st) st.nx st.la (-1) ao st.cs.length ca w1) := DSt.below hB HD.out hb1
  clear HD hb1
  have k0 := HD1.out.1
  have x0 := cell_blk (j := 0) k0 rfl
  have x1 := cell_blk (j := 1) k0 rfl
  have x2 := cell_blk (j := 2) k0 rfl
  have x3 := cell_blk (j := 3) k0 rfl
  have x4 := cell_blk (j := 4) k0 rfl
  have x5 := cell_blk (j := 5) k0 rfl
  have f0 := frozen_blk k0 0
  have f1 := frozen_blk k0 1
  have f2 := frozen_blk k0 2
  have f3 := frozen_blk k0 3
  have f4 := frozen_blk k0 4
  have f5 := frozen_blk k0 5
  clear k0

  go_wp2_with fail
  refine (l2Token_any s _ _ hs hib).mono ?_
  rintro e w2 ⟨rfl, hw2⟩
  have HD2 : Hid (DSt s bo m cb B w (.ok ⟨skAt s st.nx, st.la, st.cs⟩) (skAt s st.nx) st.la (-1) ao st.cs.length ca w2) := by
    rw [hw2]
    exact DSt.lay' hB HD1.out (RepF.skip HD1.out.2.2.2.2)
  clear hw2 HD1 x0 f0 x1 f1 x2 f2 x3 f3 x4 f4 x5 f5
  have k0 := HD2.out.1
  have x0 := cell_blk (j := 0) k0 rfl
  have x1 := cell_blk (j := 1) k0 rfl
  have x2 := cell_blk (j := 2) k0 rfl
  have x3 := cell_blk (j := 3) k0 rfl
  have x4 := cell_blk (j := 4) k0 rfl
  have x5 := cell_blk (j := 5) k0 rfl
  have f0 := frozen_blk k0 0
  have f1 := frozen_blk k0 1
  have f2 := frozen_blk k0 2
  have f3 := frozen_blk k0 3
  have f4 := frozen_blk k0 4
  have f5 := frozen_blk k0 5
  clear k0

  have hge := tkE_ge s (skAt s st.nx)
  have q0 : decide ((tkE s (skAt s st.nx) : Int) = (skAt s st.nx : Int)) = false := by simp; omega
  have q1 : decide ((24 : Int) ≤ (deep : Int)) = true := by simp; omega
  simp only [tk] at hq
  by_cases hq1 : ((s.extract (skAt s st.nx) (tkE s (skAt s st.nx))).toList == [40]) = true
  · clear hq
    go_wp2_with fail
    refine (l2Fail_any s bo m cb B (.ok ⟨skAt s st.nx, st.la, st.cs⟩) (skAt s st.nx) st.la (-1) ao st.cs.length ca (skAt s st.nx) _ (by have := DSt.size HD2.out; omega) HD2.out.2.2.2.2).mono ?_
    intro e w9 hp
    obtain ⟨i9, la9, bd9, ao9, n9, ca9, rfl, k9, kz, hb9, hk9, hr9⟩ := DSt.got HD2.out hp
    have KZ : Hid (w9.heap[w.heap.size + 1]? = some rz) := kz
    have HB9 : Hid (Below B w w9) := hb9
    have HK9 : Hid (Lib.OthersKept 67 none w w9) := hk9
    have HR9 : Hid _ := hr9
    have z0 := cell_blk (j := 0) kz rfl
    have z1 := cell_blk (j := 1) kz rfl
    have z2 := cell_blk (j := 2) kz rfl
    have z3 := cell_blk (j := 3) kz rfl
    have z4 := cell_blk (j := 4) kz rfl
    have z5 := cell_blk (j := 5) kz rfl
    have y0 := frozen_blk kz 0
    have y1 := frozen_blk kz 1
    have y2 := frozen_blk kz 2
    have y3 := frozen_blk kz 3
    have y4 := frozen_blk kz 4
    have y5 := frozen_blk kz 5
    clear kz hb9 hk9 hr9 hp k9
    go_wp2
    refine bodyPost_ret (ret6 rfl rfl (.string s) (.int .i64 i9) (.int .i64 la9) (.int .i64 bd9) (.slice ao9 n9 ca9) (.slice bo m cb) KZ.out) rfl ?_
    exact end6 (by omega) (by omega) rfl HR9.out KZ.out HB9.out HK9.out
  · have hq2 := hq.resolve_left hq1
    have hq1' : ((s.extract (skAt s st.nx) (tkE s (skAt s st.nx))).toList == [40]) = false := by simpa using hq1
    clear hq hq1
    go_wp2_with fail
    refine (l2Fail_any s bo m cb B (.ok ⟨skAt s st.nx, st.la, st.cs⟩) (skAt s st.nx) st.la (-1) ao st.cs.length ca (skAt s st.nx) _ (by have := DSt.size HD2.out; omega) HD2.out.2.2.2.2).mono ?_
    intro e w9 hp
    obtain ⟨i9, la9, bd9, ao9, n9, ca9, rfl, k9, kz, hb9, hk9, hr9⟩ := DSt.got HD2.out hp
    have KZ : Hid (w9.heap[w.heap.size + 1]? = some rz) := kz
    have HB9 : Hid (Below B w w9) := hb9
    have HK9 : Hid (Lib.OthersKept 67 none w w9) := hk9
    have HR9 : Hid _ := hr9
    have z0 := cell_blk (j := 0) kz rfl
    have z1 := cell_blk (j := 1) kz rfl
    have z2 := cell_blk (j := 2) kz rfl
    have z3 := cell_blk (j := 3) kz rfl
    have z4 := cell_blk (j := 4) kz rfl
    have z5 := cell_blk (j := 5) kz rfl
    have y0 := frozen_blk kz 0
    have y1 := frozen_blk kz 1
    have y2 := frozen_blk kz 2
    have y3 := frozen_blk kz 3
    have y4 := frozen_blk kz 4
    have y5 := frozen_blk kz 5
    clear kz hb9 hk9 hr9 hp k9
    go_wp2
    refine bodyPost_ret (ret6 rfl rfl (.string s) (.int .i64 i9) (.int .i64 la9) (.int .i64 bd9) (.slice ao9 n9 ca9) (.slice bo m cb) KZ.out) rfl ?_
    exact end6 (by omega) (by omega) rfl HR9.out KZ.out HB9.out HK9.out
set_option maxRecDepth 100000 in
set_option maxHeartbeats 4000000 in
theorem l2Datum_atom (s : ByteArray) (bo : Option Addr) (m cb B : Nat) (st : St) (ao : Option Addr) (ca deep : Nat) (w : World) (hs : s.size ≤ 33554432) (hB : B ≤ w.heap.size) (h : RepF s B (.ok st) st.nx st.la (-1) ao st.cs.length ca w) (hN : tkE s (skAt s st.nx) ≠ skAt s st.nx) (hq1 : ((tk s (skAt s st.nx)).toList == [40]) = false) (hq2 : ((tk s (skAt s st.nx)).toList == [39]) = false) :
    Calls Tryd.prog 28 #[.agg #[.string s, .int .i64 st.nx, .int .i64 st.la, .int .i64 (-1), .slice ao st.cs.length ca, .slice bo m cb], .int .i64 deep] w fun e w' => SpPost s bo m cb B (atomP ⟨tkE s (skAt s st.nx), skAt s st.nx, st.cs⟩ (tk s (skAt s st.nx))) w e w' := by
  have HD : Hid (DSt s bo m cb B w (.ok st) st.nx st.la (-1) ao st.cs.length ca _) := DSt.start hB h
  have hi := h.1
  have hib := skAt_le s st.nx hi
  have hte := tkE_le s _ hib
  clear h
  go_enter Tryd.func28, Tryd.ntmps28
  go_wp2_with fail
  refine (l2Skip_any s st.nx st.la (-1) ao bo st.cs.length ca m cb _ hs hi).mono ?_
  rintro e w1 ⟨rfl, hb1⟩
  have HD1 : Hid (DSt s bo m cb B w (.ok st) st.nx st.la (-1) ao st.cs.length ca w1) := DSt.below hB HD.out hb1
  clear HD hb1
  have k0 := HD1.out.1
  have x0 := cell_blk (j := 0) k0 rfl
  have x1 := cell_blk (j := 1) k0 rfl
  have x2 := cell_blk (j := 2) k0 rfl
  have x3 := cell_blk (j := 3) k0 rfl
  have x4 := cell_blk (j := 4) k0 rfl
  have x5 := cell_blk (j := 5) k0 rfl
  have f0 := frozen_blk k0 0
  have f1 := frozen_blk k0 1
  have f2 := frozen_blk k0 2
  have f3 := frozen_blk k0 3
  have f4 := frozen_blk k0 4
  have f5 := frozen_blk k0 5
  clear k0

  go_wp2_with fail
  refine (l2Token_any s _ _ hs hib).mono ?_
  rintro e w2 ⟨rfl, hw2⟩
  have HD2 : Hid (DSt s bo m cb B w (.ok ⟨skAt s st.nx, st.la, st.cs⟩) (skAt s st.nx) st.la (-1) ao st.cs.length ca w2) := by
    rw [hw2]
    exact DSt.lay' hB HD1.out (RepF.skip HD1.out.2.2.2.2)
  clear hw2 HD1 x0 f0 x1 f1 x2 f2 x3 f3 x4 f4 x5 f5
  have k0 := HD2.out.1
  have x0 := cell_blk (j := 0) k0 rfl
  have x1 := cell_blk (j := 1) k0 rfl
  have x2 := cell_blk (j := 2) k0 rfl
  have x3 := cell_blk (j := 3) k0 rfl
  have x4 := cell_blk (j := 4) k0 rfl
  have x5 := cell_blk (j := 5) k0 rfl
  have f0 := frozen_blk k0 0
  have f1 := frozen_blk k0 1
  have f2 := frozen_blk k0 2
  have f3 := frozen_blk k0 3
  have f4 := frozen_blk k0 4
  have f5 := frozen_blk k0 5
  clear k0

  have hge := tkE_ge s (skAt s st.nx)
  have q0 : decide ((tkE s (skAt s st.nx) : Int) = (skAt s st.nx : Int)) = false := by simp; omega
  have HTS : Hid ((tk s (skAt s st.nx)).size ≤ 33554432) := by
    show _ ≤ _
    simp only [tk, ByteArray.size_extract]
    omega
  have HD3 : Hid (DSt s bo m cb B w (.ok ⟨tkE s (skAt s st.nx), skAt s st.nx, st.cs⟩) _ _ _ _ _ _ _) := DSt.two (st := ⟨skAt s st.nx, st.la, st.cs⟩) (b := skAt s st.nx) hB hte HD2.out
  simp only [tk] at hq1 hq2
  go_wp2_with fail
  refine (l2Atom_any s bo m cb B ⟨tkE s (skAt s st.nx), skAt s st.nx, st.cs⟩ ao ca (tk s (skAt s st.nx)) _ HTS.out (by have := DSt.size HD3.out; omega) HD3.out.2.2.2.2).mono ?_
  intro e w9 hp
  obtain ⟨i9, la9, bd9, ao9, n9, ca9, rfl, k9, kz, hb9, hk9, hr9⟩ := DSt.got HD3.out hp
  have KZ : Hid (w9.heap[w.heap.size + 1]? = some rz) := kz
  have HB9 : Hid (Below B w w9) := hb9
  have HK9 : Hid (Lib.OthersKept 67 none w w9) := hk9
  have HR9 : Hid _ := hr9
  have z0 := cell_blk (j := 0) kz rfl
  have z1 := cell_blk (j := 1) kz rfl
  have z2 := cell_blk (j := 2) kz rfl
  have z3 := cell_blk (j := 3) kz rfl
  have z4 := cell_blk (j := 4) kz rfl
  have z5 := cell_blk (j := 5) kz rfl
  have y0 := frozen_blk kz 0
  have y1 := frozen_blk kz 1
  have y2 := frozen_blk kz 2
  have y3 := frozen_blk kz 3
  have y4 := frozen_blk kz 4
  have y5 := frozen_blk kz 5
  clear kz hb9 hk9 hr9 hp k9
  go_wp2
  refine bodyPost_ret (ret6 rfl rfl (.string s) (.int .i64 i9) (.int .i64 la9) (.int .i64 bd9) (.slice ao9 n9 ca9) (.slice bo m cb) KZ.out) rfl ?_
  exact end6 (by omega) (by omega) rfl HR9.out KZ.out HB9.out HK9.out
end Go.Proofs.YtgfkmppkeolckaaDoor
