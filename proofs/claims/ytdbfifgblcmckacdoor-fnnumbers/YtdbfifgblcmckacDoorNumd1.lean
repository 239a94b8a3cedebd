/- The law on numbers walked, way by way (a number is read from the drawn text). -/
import Derived.Test.YtdbfifgblcmckacDoorNumc
namespace Go.Proofs.YtdbfifgblcmckacDoor
open Go.ChangeShapes Go.WideShapes Go.ChangeAt Go.RowKit
set_option linter.unusedVariables false
set_option maxRecDepth 100000 in
set_option maxHeartbeats 4000000 in
theorem core_A11 (d : Code1) (n : Int) (ls ft tl dl hx : List UInt8) (vz : List UInt8) (dx : ByteArray) (z : Nat) (j : Nat) (w : World) (hinv : Inv d w)
    (K4 : KC 4 #[.slice d.a d.len d.cap] (.bool false)) (K5 : DrawsC 5 d (.int .i64 n)) (K6 : DrawsC 6 d (.string ⟨tl.toArray⟩)) (K7 : KC 7 #[.int .i64 n] (.string ⟨ls.toArray⟩))
    (K8 : KC 8 #[.string (⟨ls.toArray⟩ ++ ⟨tl.toArray⟩)] (.tuple #[.int .i64 n, .int .i64 (ls.length : Nat)])) (K9 : KC 9 #[.int .i64 n, .int .i64 7] (.string ⟨ft.toArray⟩))
    (K10 : KC 10 #[.string (⟨ft.toArray⟩ ++ ⟨tl.toArray⟩), .int .i64 7] (.tuple #[.int .i64 n, .bool true])) (K12 : KT 12 #[.int .i64 n] (.string ⟨dl.toArray⟩)) (K11 : KC 11 #[.string ⟨dl.toArray⟩] (.tuple #[.int .i64 n, .bool true]))
    (K14 : KC 14 #[.string ⟨tl.toArray⟩] (.string ⟨hx.toArray⟩)) (K13 : KC 13 #[.string ⟨hx.toArray⟩] (.tuple #[.string ⟨tl.toArray⟩, .bool true])) (K15 : DrawsC 15 d (.string dx)) (K8b : KC 8 #[.string dx] (.tuple #[.int .i64 z, .int .i64 (j : Nat)])) (K7b : KC 7 #[.int .i64 z] (.string ⟨vz.toArray⟩)) (hj0 : 1 ≤ j) (hj1 : j ≤ dx.size) (hjv : (vz == (dx.extract 0 j).toList) = true)
    (l1 : ls.length ≤ 8) (l2 : tl.length ≤ 40) (l3 : ft.length = 7) (e1 : ls.isEmpty = false) (e2 : ft.isEmpty = false) (hn0 : 0 ≤ n) (hn1 : n ≤ 562949953421311) (hn2 : n < 1000000000) :
    Calls Tryd.prog 3 #[.slice d.a d.len d.cap] w fun e w' => e = .returned (.bool true) ∧ Below w.heap.size w w' := by
  have p0 : decide (0 ≤ n) = true := by simp; omega
  have p1 : decide (n ≤ 562949953421311) = true := by simp; omega
  have p2 : decide (n < 0) = false := by simp; omega
  have p3 : decide (72057594037927936 ≤ n) = false := by simp; omega
  have p4 : decide (-1000000000 < n) = true := by simp; omega
  have p5 : decide (n < 1000000000) = true := by simp; omega
  have hjz : ((j : Int) == 0) = false := by rw [beq_eq_false_iff_ne]; omega
  have hj2 : (0 : Int) ≤ (j : Int) := Int.natCast_nonneg _
  have hj3 : (j : Int) ≤ (dx.size : Int) := by omega
  go_enter Tryd.func3, Tryd.ntmps3
  go_wp2_with fail
  refine (K4 _).mono ?_
  rintro e w1 ⟨rfl, hb⟩
  have hi1 := hinv.step hb
  go_wp2_with fail
  refine (K5 _ hi1.1).mono ?_
  rintro e w2 ⟨rfl, hb2⟩
  have hi2 := hi1.step hb2
  have hb := below_step hb hb2
  clear hb2 hi1
  go_wp2_with fail
  refine (K6 _ hi2.1).mono ?_
  rintro e w3 ⟨rfl, hb3⟩
  have hi3 := hi2.step hb3
  have hb := below_step hb hb3
  clear hb3 hi2
  go_wp2_with fail
  refine (K7 _).mono ?_
  rintro e w4 ⟨rfl, hb4⟩
  have hi4 := hi3.step hb4
  have hb := below_step hb hb4
  clear hb4 hi3
  go_wp2_with fail
  refine (K8 _).mono ?_
  rintro e w5 ⟨rfl, hb5⟩
  have hi5 := hi4.step hb5
  have hb := below_step hb hb5
  clear hb5 hi4
  go_wp2_with fail
  refine (K9 _).mono ?_
  rintro e w6 ⟨rfl, hb6⟩
  have hi6 := hi5.step hb6
  have hb := below_step hb hb6
  clear hb6 hi5
  go_wp2_with fail
  refine (K10 _).mono ?_
  rintro e w7 ⟨rfl, hb7⟩
  have hi7 := hi6.step hb7
  have hb := below_step hb hb7
  clear hb7 hi6
  go_wp2_with fail
  refine (K12 _ hi7.2.2).mono ?_
  rintro e w8 ⟨rfl, hb8⟩
  have hi8 := hi7.step hb8
  have hb := below_step hb hb8
  clear hb8 hi7
  go_wp2_with fail
  refine (K11 _).mono ?_
  rintro e w9 ⟨rfl, hb9⟩
  have hi9 := hi8.step hb9
  have hb := below_step hb hb9
  clear hb9 hi8
  go_wp2_with fail
  refine (K14 _).mono ?_
  rintro e w10 ⟨rfl, hb10⟩
  have hi10 := hi9.step hb10
  have hb := below_step hb hb10
  clear hb10 hi9
  go_wp2_with fail
  refine (K13 _).mono ?_
  rintro e w11 ⟨rfl, hb11⟩
  have hi11 := hi10.step hb11
  have hb := below_step hb hb11
  clear hb11 hi10
  go_wp2_with fail
  refine (K15 _ hi11.1).mono ?_
  rintro e w12 ⟨rfl, hb12⟩
  have hi12 := hi11.step hb12
  have hb := below_step hb hb12
  clear hb12 hi11
  go_wp2_with fail
  refine (K8b _).mono ?_
  rintro e w13 ⟨rfl, hb13⟩
  have hi13 := hi12.step hb13
  have hb := below_step hb hb13
  clear hb13 hi12
  go_wp2_with fail
  refine (K7b _).mono ?_
  rintro e w14 ⟨rfl, hb14⟩
  have hi14 := hi13.step hb14
  have hb := below_step hb hb14
  clear hb14 hi13
  go_wp2_with fail
  refine (K15 _ hi14.1).mono ?_
  rintro e w15 ⟨rfl, hb15⟩
  have hi15 := hi14.step hb15
  have hb := below_step hb hb15
  clear hb15 hi14
  go_wp2
  go_ret
  exact ⟨rfl, hb⟩
set_option maxRecDepth 100000 in
set_option maxHeartbeats 4000000 in
theorem core_A21 (d : Code1) (n : Int) (ls ft tl dl hx : List UInt8) (vz : List UInt8) (dx : ByteArray) (z : Nat) (j : Nat) (w : World) (hinv : Inv d w)
    (K4 : KC 4 #[.slice d.a d.len d.cap] (.bool false)) (K5 : DrawsC 5 d (.int .i64 n)) (K6 : DrawsC 6 d (.string ⟨tl.toArray⟩)) (K7 : KC 7 #[.int .i64 n] (.string ⟨ls.toArray⟩))
    (K8 : KC 8 #[.string (⟨ls.toArray⟩ ++ ⟨tl.toArray⟩)] (.tuple #[.int .i64 n, .int .i64 (ls.length : Nat)])) (K9 : KC 9 #[.int .i64 n, .int .i64 7] (.string ⟨ft.toArray⟩))
    (K10 : KC 10 #[.string (⟨ft.toArray⟩ ++ ⟨tl.toArray⟩), .int .i64 7] (.tuple #[.int .i64 n, .bool true])) (K12 : KT 12 #[.int .i64 n] (.string ⟨dl.toArray⟩)) (K11 : KC 11 #[.string ⟨dl.toArray⟩] (.tuple #[.int .i64 0, .bool false]))
    (K14 : KC 14 #[.string ⟨tl.toArray⟩] (.string ⟨hx.toArray⟩)) (K13 : KC 13 #[.string ⟨hx.toArray⟩] (.tuple #[.string ⟨tl.toArray⟩, .bool true])) (K15 : DrawsC 15 d (.string dx)) (K8b : KC 8 #[.string dx] (.tuple #[.int .i64 z, .int .i64 (j : Nat)])) (K7b : KC 7 #[.int .i64 z] (.string ⟨vz.toArray⟩)) (hj0 : 1 ≤ j) (hj1 : j ≤ dx.size) (hjv : (vz == (dx.extract 0 j).toList) = true)
    (l1 : ls.length ≤ 8) (l2 : tl.length ≤ 40) (l3 : ft.length = 7) (e1 : ls.isEmpty = false) (e2 : ft.isEmpty = false) (hn0 : 0 ≤ n) (hn1 : n ≤ 562949953421311) (hn2 : 1000000000 ≤ n) :
    Calls Tryd.prog 3 #[.slice d.a d.len d.cap] w fun e w' => e = .returned (.bool true) ∧ Below w.heap.size w w' := by
  have p0 : decide (0 ≤ n) = true := by simp; omega
  have p1 : decide (n ≤ 562949953421311) = true := by simp; omega
  have p2 : decide (n < 0) = false := by simp; omega
  have p3 : decide (72057594037927936 ≤ n) = false := by simp; omega
  have p4 : decide (-1000000000 < n) = true := by simp; omega
  have p5 : decide (n < 1000000000) = false := by simp; omega
  have hjz : ((j : Int) == 0) = false := by rw [beq_eq_false_iff_ne]; omega
  have hj2 : (0 : Int) ≤ (j : Int) := Int.natCast_nonneg _
  have hj3 : (j : Int) ≤ (dx.size : Int) := by omega
  go_enter Tryd.func3, Tryd.ntmps3
  go_wp2_with fail
  refine (K4 _).mono ?_
  rintro e w1 ⟨rfl, hb⟩
  have hi1 := hinv.step hb
  go_wp2_with fail
  refine (K5 _ hi1.1).mono ?_
  rintro e w2 ⟨rfl, hb2⟩
  have hi2 := hi1.step hb2
  have hb := below_step hb hb2
  clear hb2 hi1
  go_wp2_with fail
  refine (K6 _ hi2.1).mono ?_
  rintro e w3 ⟨rfl, hb3⟩
  have hi3 := hi2.step hb3
  have hb := below_step hb hb3
  clear hb3 hi2
  go_wp2_with fail
  refine (K7 _).mono ?_
  rintro e w4 ⟨rfl, hb4⟩
  have hi4 := hi3.step hb4
  have hb := below_step hb hb4
  clear hb4 hi3
  go_wp2_with fail
  refine (K8 _).mono ?_
  rintro e w5 ⟨rfl, hb5⟩
  have hi5 := hi4.step hb5
  have hb := below_step hb hb5
  clear hb5 hi4
  go_wp2_with fail
  refine (K9 _).mono ?_
  rintro e w6 ⟨rfl, hb6⟩
  have hi6 := hi5.step hb6
  have hb := below_step hb hb6
  clear hb6 hi5
  go_wp2_with fail
  refine (K10 _).mono ?_
  rintro e w7 ⟨rfl, hb7⟩
  have hi7 := hi6.step hb7
  have hb := below_step hb hb7
  clear hb7 hi6
  go_wp2_with fail
  refine (K12 _ hi7.2.2).mono ?_
  rintro e w8 ⟨rfl, hb8⟩
  have hi8 := hi7.step hb8
  have hb := below_step hb hb8
  clear hb8 hi7
  go_wp2_with fail
  refine (K11 _).mono ?_
  rintro e w9 ⟨rfl, hb9⟩
  have hi9 := hi8.step hb9
  have hb := below_step hb hb9
  clear hb9 hi8
  go_wp2_with fail
  refine (K14 _).mono ?_
  rintro e w10 ⟨rfl, hb10⟩
  have hi10 := hi9.step hb10
  have hb := below_step hb hb10
  clear hb10 hi9
  go_wp2_with fail
  refine (K13 _).mono ?_
  rintro e w11 ⟨rfl, hb11⟩
  have hi11 := hi10.step hb11
  have hb := below_step hb hb11
  clear hb11 hi10
  go_wp2_with fail
  refine (K15 _ hi11.1).mono ?_
  rintro e w12 ⟨rfl, hb12⟩
  have hi12 := hi11.step hb12
  have hb := below_step hb hb12
  clear hb12 hi11
  go_wp2_with fail
  refine (K8b _).mono ?_
  rintro e w13 ⟨rfl, hb13⟩
  have hi13 := hi12.step hb13
  have hb := below_step hb hb13
  clear hb13 hi12
  go_wp2_with fail
  refine (K7b _).mono ?_
  rintro e w14 ⟨rfl, hb14⟩
  have hi14 := hi13.step hb14
  have hb := below_step hb hb14
  clear hb14 hi13
  go_wp2_with fail
  refine (K15 _ hi14.1).mono ?_
  rintro e w15 ⟨rfl, hb15⟩
  have hi15 := hi14.step hb15
  have hb := below_step hb hb15
  clear hb15 hi14
  go_wp2
  go_ret
  exact ⟨rfl, hb⟩
set_option maxRecDepth 100000 in
set_option maxHeartbeats 4000000 in
theorem core_B1 (d : Code1) (n : Int) (ls ft tl dl hx : List UInt8) (x k : Nat) (vz : List UInt8) (dx : ByteArray) (z : Nat) (j : Nat) (w : World) (hinv : Inv d w)
    (K4 : KC 4 #[.slice d.a d.len d.cap] (.bool false)) (K5 : DrawsC 5 d (.int .i64 n)) (K6 : DrawsC 6 d (.string ⟨tl.toArray⟩)) (K7 : KC 7 #[.int .i64 n] (.string ⟨ls.toArray⟩))
    (K8 : KC 8 #[.string (⟨ls.toArray⟩ ++ ⟨tl.toArray⟩)] (.tuple #[.int .i64 (x : Nat), .int .i64 (k : Nat)])) (K9 : KC 9 #[.int .i64 n, .int .i64 7] (.string ⟨ft.toArray⟩))
    (K10 : KC 10 #[.string (⟨ft.toArray⟩ ++ ⟨tl.toArray⟩), .int .i64 7] (.tuple #[.int .i64 n, .bool true])) (K12 : KT 12 #[.int .i64 n] (.string ⟨dl.toArray⟩)) (K11 : KC 11 #[.string ⟨dl.toArray⟩] (.tuple #[.int .i64 0, .bool false]))
    (K14 : KC 14 #[.string ⟨tl.toArray⟩] (.string ⟨hx.toArray⟩)) (K13 : KC 13 #[.string ⟨hx.toArray⟩] (.tuple #[.string ⟨tl.toArray⟩, .bool true])) (K15 : DrawsC 15 d (.string dx)) (K8b : KC 8 #[.string dx] (.tuple #[.int .i64 z, .int .i64 (j : Nat)])) (K7b : KC 7 #[.int .i64 z] (.string ⟨vz.toArray⟩)) (hj0 : 1 ≤ j) (hj1 : j ≤ dx.size) (hjv : (vz == (dx.extract 0 j).toList) = true)
    (l1 : ls.length ≤ 8) (l2 : tl.length ≤ 40) (l3 : ft.length = 7) (e1 : ls.isEmpty = true) (e2 : ft.isEmpty = false) (hn0 : 562949953421311 < n) (hn1 : n < 72057594037927936) :
    Calls Tryd.prog 3 #[.slice d.a d.len d.cap] w fun e w' => e = .returned (.bool true) ∧ Below w.heap.size w w' := by
  have p0 : decide (0 ≤ n) = true := by simp; omega
  have p1 : decide (n ≤ 562949953421311) = false := by simp; omega
  have p2 : decide (n < 0) = false := by simp; omega
  have p3 : decide (72057594037927936 ≤ n) = false := by simp; omega
  have p4 : decide (-1000000000 < n) = true := by simp; omega
  have p5 : decide (n < 1000000000) = false := by simp; omega
  have hjz : ((j : Int) == 0) = false := by rw [beq_eq_false_iff_ne]; omega
  have hj2 : (0 : Int) ≤ (j : Int) := Int.natCast_nonneg _
  have hj3 : (j : Int) ≤ (dx.size : Int) := by omega
  go_enter Tryd.func3, Tryd.ntmps3
  go_wp2_with fail
  refine (K4 _).mono ?_
  rintro e w1 ⟨rfl, hb⟩
  have hi1 := hinv.step hb
  go_wp2_with fail
  refine (K5 _ hi1.1).mono ?_
  rintro e w2 ⟨rfl, hb2⟩
  have hi2 := hi1.step hb2
  have hb := below_step hb hb2
  clear hb2 hi1
  go_wp2_with fail
  refine (K6 _ hi2.1).mono ?_
  rintro e w3 ⟨rfl, hb3⟩
  have hi3 := hi2.step hb3
  have hb := below_step hb hb3
  clear hb3 hi2
  go_wp2_with fail
  refine (K7 _).mono ?_
  rintro e w4 ⟨rfl, hb4⟩
  have hi4 := hi3.step hb4
  have hb := below_step hb hb4
  clear hb4 hi3
  go_wp2_with fail
  refine (K8 _).mono ?_
  rintro e w5 ⟨rfl, hb5⟩
  have hi5 := hi4.step hb5
  have hb := below_step hb hb5
  clear hb5 hi4
  go_wp2_with fail
  refine (K9 _).mono ?_
  rintro e w6 ⟨rfl, hb6⟩
  have hi6 := hi5.step hb6
  have hb := below_step hb hb6
  clear hb6 hi5
  go_wp2_with fail
  refine (K10 _).mono ?_
  rintro e w7 ⟨rfl, hb7⟩
  have hi7 := hi6.step hb7
  have hb := below_step hb hb7
  clear hb7 hi6
  go_wp2_with fail
  refine (K12 _ hi7.2.2).mono ?_
  rintro e w8 ⟨rfl, hb8⟩
  have hi8 := hi7.step hb8
  have hb := below_step hb hb8
  clear hb8 hi7
  go_wp2_with fail
  refine (K11 _).mono ?_
  rintro e w9 ⟨rfl, hb9⟩
  have hi9 := hi8.step hb9
  have hb := below_step hb hb9
  clear hb9 hi8
  go_wp2_with fail
  refine (K14 _).mono ?_
  rintro e w10 ⟨rfl, hb10⟩
  have hi10 := hi9.step hb10
  have hb := below_step hb hb10
  clear hb10 hi9
  go_wp2_with fail
  refine (K13 _).mono ?_
  rintro e w11 ⟨rfl, hb11⟩
  have hi11 := hi10.step hb11
  have hb := below_step hb hb11
  clear hb11 hi10
  go_wp2_with fail
  refine (K15 _ hi11.1).mono ?_
  rintro e w12 ⟨rfl, hb12⟩
  have hi12 := hi11.step hb12
  have hb := below_step hb hb12
  clear hb12 hi11
  go_wp2_with fail
  refine (K8b _).mono ?_
  rintro e w13 ⟨rfl, hb13⟩
  have hi13 := hi12.step hb13
  have hb := below_step hb hb13
  clear hb13 hi12
  go_wp2_with fail
  refine (K7b _).mono ?_
  rintro e w14 ⟨rfl, hb14⟩
  have hi14 := hi13.step hb14
  have hb := below_step hb hb14
  clear hb14 hi13
  go_wp2_with fail
  refine (K15 _ hi14.1).mono ?_
  rintro e w15 ⟨rfl, hb15⟩
  have hi15 := hi14.step hb15
  have hb := below_step hb hb15
  clear hb15 hi14
  go_wp2
  go_ret
  exact ⟨rfl, hb⟩
set_option maxRecDepth 100000 in
set_option maxHeartbeats 4000000 in
theorem core_C1 (d : Code1) (n : Int) (ls ft tl dl hx : List UInt8) (x k : Nat) (y : Int) (is : Bool) (vz : List UInt8) (dx : ByteArray) (z : Nat) (j : Nat) (w : World) (hinv : Inv d w)
    (K4 : KC 4 #[.slice d.a d.len d.cap] (.bool false)) (K5 : DrawsC 5 d (.int .i64 n)) (K6 : DrawsC 6 d (.string ⟨tl.toArray⟩)) (K7 : KC 7 #[.int .i64 n] (.string ⟨ls.toArray⟩))
    (K8 : KC 8 #[.string (⟨ls.toArray⟩ ++ ⟨tl.toArray⟩)] (.tuple #[.int .i64 (x : Nat), .int .i64 (k : Nat)])) (K9 : KC 9 #[.int .i64 n, .int .i64 7] (.string ⟨ft.toArray⟩))
    (K10 : KC 10 #[.string (⟨ft.toArray⟩ ++ ⟨tl.toArray⟩), .int .i64 7] (.tuple #[.int .i64 y, .bool is])) (K12 : KT 12 #[.int .i64 n] (.string ⟨dl.toArray⟩)) (K11 : KC 11 #[.string ⟨dl.toArray⟩] (.tuple #[.int .i64 0, .bool false]))
    (K14 : KC 14 #[.string ⟨tl.toArray⟩] (.string ⟨hx.toArray⟩)) (K13 : KC 13 #[.string ⟨hx.toArray⟩] (.tuple #[.string ⟨tl.toArray⟩, .bool true])) (K15 : DrawsC 15 d (.string dx)) (K8b : KC 8 #[.string dx] (.tuple #[.int .i64 z, .int .i64 (j : Nat)])) (K7b : KC 7 #[.int .i64 z] (.string ⟨vz.toArray⟩)) (hj0 : 1 ≤ j) (hj1 : j ≤ dx.size) (hjv : (vz == (dx.extract 0 j).toList) = true)
    (l1 : ls.length ≤ 8) (l2 : tl.length ≤ 40) (l3 : ft.length ≤ 7) (e1 : ls.isEmpty = true) (e2 : ft.isEmpty = true) (hn0 : 72057594037927936 ≤ n) :
    Calls Tryd.prog 3 #[.slice d.a d.len d.cap] w fun e w' => e = .returned (.bool true) ∧ Below w.heap.size w w' := by
  have p0 : decide (0 ≤ n) = true := by simp; omega
  have p1 : decide (n ≤ 562949953421311) = false := by simp; omega
  have p2 : decide (n < 0) = false := by simp; omega
  have p3 : decide (72057594037927936 ≤ n) = true := by simp; omega
  have p4 : decide (-1000000000 < n) = true := by simp; omega
  have p5 : decide (n < 1000000000) = false := by simp; omega
  have hjz : ((j : Int) == 0) = false := by rw [beq_eq_false_iff_ne]; omega
  have hj2 : (0 : Int) ≤ (j : Int) := Int.natCast_nonneg _
  have hj3 : (j : Int) ≤ (dx.size : Int) := by omega
  go_enter Tryd.func3, Tryd.ntmps3
  go_wp2_with fail
  refine (K4 _).mono ?_
  rintro e w1 ⟨rfl, hb⟩
  have hi1 := hinv.step hb
  go_wp2_with fail
  refine (K5 _ hi1.1).mono ?_
  rintro e w2 ⟨rfl, hb2⟩
  have hi2 := hi1.step hb2
  have hb := below_step hb hb2
  clear hb2 hi1
  go_wp2_with fail
  refine (K6 _ hi2.1).mono ?_
  rintro e w3 ⟨rfl, hb3⟩
  have hi3 := hi2.step hb3
  have hb := below_step hb hb3
  clear hb3 hi2
  go_wp2_with fail
  refine (K7 _).mono ?_
  rintro e w4 ⟨rfl, hb4⟩
  have hi4 := hi3.step hb4
  have hb := below_step hb hb4
  clear hb4 hi3
  go_wp2_with fail
  refine (K8 _).mono ?_
  rintro e w5 ⟨rfl, hb5⟩
  have hi5 := hi4.step hb5
  have hb := below_step hb hb5
  clear hb5 hi4
  go_wp2_with fail
  refine (K9 _).mono ?_
  rintro e w6 ⟨rfl, hb6⟩
  have hi6 := hi5.step hb6
  have hb := below_step hb hb6
  clear hb6 hi5
  go_wp2_with fail
  refine (K10 _).mono ?_
  rintro e w7 ⟨rfl, hb7⟩
  have hi7 := hi6.step hb7
  have hb := below_step hb hb7
  clear hb7 hi6
  go_wp2_with fail
  refine (K12 _ hi7.2.2).mono ?_
  rintro e w8 ⟨rfl, hb8⟩
  have hi8 := hi7.step hb8
  have hb := below_step hb hb8
  clear hb8 hi7
  go_wp2_with fail
  refine (K11 _).mono ?_
  rintro e w9 ⟨rfl, hb9⟩
  have hi9 := hi8.step hb9
  have hb := below_step hb hb9
  clear hb9 hi8
  go_wp2_with fail
  refine (K14 _).mono ?_
  rintro e w10 ⟨rfl, hb10⟩
  have hi10 := hi9.step hb10
  have hb := below_step hb hb10
  clear hb10 hi9
  go_wp2_with fail
  refine (K13 _).mono ?_
  rintro e w11 ⟨rfl, hb11⟩
  have hi11 := hi10.step hb11
  have hb := below_step hb hb11
  clear hb11 hi10
  go_wp2_with fail
  refine (K15 _ hi11.1).mono ?_
  rintro e w12 ⟨rfl, hb12⟩
  have hi12 := hi11.step hb12
  have hb := below_step hb hb12
  clear hb12 hi11
  go_wp2_with fail
  refine (K8b _).mono ?_
  rintro e w13 ⟨rfl, hb13⟩
  have hi13 := hi12.step hb13
  have hb := below_step hb hb13
  clear hb13 hi12
  go_wp2_with fail
  refine (K7b _).mono ?_
  rintro e w14 ⟨rfl, hb14⟩
  have hi14 := hi13.step hb14
  have hb := below_step hb hb14
  clear hb14 hi13
  go_wp2_with fail
  refine (K15 _ hi14.1).mono ?_
  rintro e w15 ⟨rfl, hb15⟩
  have hi15 := hi14.step hb15
  have hb := below_step hb hb15
  clear hb15 hi14
  go_wp2
  go_ret
  exact ⟨rfl, hb⟩
set_option maxRecDepth 100000 in
set_option maxHeartbeats 4000000 in
theorem core_D11 (d : Code1) (n : Int) (ls ft tl dl hx : List UInt8) (x k : Nat) (y : Int) (is : Bool) (vz : List UInt8) (dx : ByteArray) (z : Nat) (j : Nat) (w : World) (hinv : Inv d w)
    (K4 : KC 4 #[.slice d.a d.len d.cap] (.bool false)) (K5 : DrawsC 5 d (.int .i64 n)) (K6 : DrawsC 6 d (.string ⟨tl.toArray⟩)) (K7 : KC 7 #[.int .i64 n] (.string ⟨ls.toArray⟩))
    (K8 : KC 8 #[.string (⟨ls.toArray⟩ ++ ⟨tl.toArray⟩)] (.tuple #[.int .i64 (x : Nat), .int .i64 (k : Nat)])) (K9 : KC 9 #[.int .i64 n, .int .i64 7] (.string ⟨ft.toArray⟩))
    (K10 : KC 10 #[.string (⟨ft.toArray⟩ ++ ⟨tl.toArray⟩), .int .i64 7] (.tuple #[.int .i64 y, .bool is])) (K12 : KT 12 #[.int .i64 n] (.string ⟨dl.toArray⟩)) (K11 : KC 11 #[.string ⟨dl.toArray⟩] (.tuple #[.int .i64 n, .bool true]))
    (K14 : KC 14 #[.string ⟨tl.toArray⟩] (.string ⟨hx.toArray⟩)) (K13 : KC 13 #[.string ⟨hx.toArray⟩] (.tuple #[.string ⟨tl.toArray⟩, .bool true])) (K15 : DrawsC 15 d (.string dx)) (K8b : KC 8 #[.string dx] (.tuple #[.int .i64 z, .int .i64 (j : Nat)])) (K7b : KC 7 #[.int .i64 z] (.string ⟨vz.toArray⟩)) (hj0 : 1 ≤ j) (hj1 : j ≤ dx.size) (hjv : (vz == (dx.extract 0 j).toList) = true)
    (l1 : ls.length ≤ 8) (l2 : tl.length ≤ 40) (l3 : ft.length ≤ 7) (e1 : ls.isEmpty = true) (e2 : ft.isEmpty = true) (hn0 : n < 0) (hn1 : -1000000000 < n) :
    Calls Tryd.prog 3 #[.slice d.a d.len d.cap] w fun e w' => e = .returned (.bool true) ∧ Below w.heap.size w w' := by
  have p0 : decide (0 ≤ n) = false := by simp; omega
  have p1 : decide (n ≤ 562949953421311) = true := by simp; omega
  have p2 : decide (n < 0) = true := by simp; omega
  have p3 : decide (72057594037927936 ≤ n) = false := by simp; omega
  have p4 : decide (-1000000000 < n) = true := by simp; omega
  have p5 : decide (n < 1000000000) = true := by simp; omega
  have hjz : ((j : Int) == 0) = false := by rw [beq_eq_false_iff_ne]; omega
  have hj2 : (0 : Int) ≤ (j : Int) := Int.natCast_nonneg _
  have hj3 : (j : Int) ≤ (dx.size : Int) := by omega
  go_enter Tryd.func3, Tryd.ntmps3
  go_wp2_with fail
  refine (K4 _).mono ?_
  rintro e w1 ⟨rfl, hb⟩
  have hi1 := hinv.step hb
  go_wp2_with fail
  refine (K5 _ hi1.1).mono ?_
  rintro e w2 ⟨rfl, hb2⟩
  have hi2 := hi1.step hb2
  have hb := below_step hb hb2
  clear hb2 hi1
  go_wp2_with fail
  refine (K6 _ hi2.1).mono ?_
  rintro e w3 ⟨rfl, hb3⟩
  have hi3 := hi2.step hb3
  have hb := below_step hb hb3
  clear hb3 hi2
  go_wp2_with fail
  refine (K7 _).mono ?_
  rintro e w4 ⟨rfl, hb4⟩
  have hi4 := hi3.step hb4
  have hb := below_step hb hb4
  clear hb4 hi3
  go_wp2_with fail
  refine (K8 _).mono ?_
  rintro e w5 ⟨rfl, hb5⟩
  have hi5 := hi4.step hb5
  have hb := below_step hb hb5
  clear hb5 hi4
  go_wp2_with fail
  refine (K9 _).mono ?_
  rintro e w6 ⟨rfl, hb6⟩
  have hi6 := hi5.step hb6
  have hb := below_step hb hb6
  clear hb6 hi5
  go_wp2_with fail
  refine (K10 _).mono ?_
  rintro e w7 ⟨rfl, hb7⟩
  have hi7 := hi6.step hb7
  have hb := below_step hb hb7
  clear hb7 hi6
  go_wp2_with fail
  refine (K12 _ hi7.2.2).mono ?_
  rintro e w8 ⟨rfl, hb8⟩
  have hi8 := hi7.step hb8
  have hb := below_step hb hb8
  clear hb8 hi7
  go_wp2_with fail
  refine (K11 _).mono ?_
  rintro e w9 ⟨rfl, hb9⟩
  have hi9 := hi8.step hb9
  have hb := below_step hb hb9
  clear hb9 hi8
  go_wp2_with fail
  refine (K14 _).mono ?_
  rintro e w10 ⟨rfl, hb10⟩
  have hi10 := hi9.step hb10
  have hb := below_step hb hb10
  clear hb10 hi9
  go_wp2_with fail
  refine (K13 _).mono ?_
  rintro e w11 ⟨rfl, hb11⟩
  have hi11 := hi10.step hb11
  have hb := below_step hb hb11
  clear hb11 hi10
  go_wp2_with fail
  refine (K15 _ hi11.1).mono ?_
  rintro e w12 ⟨rfl, hb12⟩
  have hi12 := hi11.step hb12
  have hb := below_step hb hb12
  clear hb12 hi11
  go_wp2_with fail
  refine (K8b _).mono ?_
  rintro e w13 ⟨rfl, hb13⟩
  have hi13 := hi12.step hb13
  have hb := below_step hb hb13
  clear hb13 hi12
  go_wp2_with fail
  refine (K7b _).mono ?_
  rintro e w14 ⟨rfl, hb14⟩
  have hi14 := hi13.step hb14
  have hb := below_step hb hb14
  clear hb14 hi13
  go_wp2_with fail
  refine (K15 _ hi14.1).mono ?_
  rintro e w15 ⟨rfl, hb15⟩
  have hi15 := hi14.step hb15
  have hb := below_step hb hb15
  clear hb15 hi14
  go_wp2
  go_ret
  exact ⟨rfl, hb⟩
set_option maxRecDepth 100000 in
set_option maxHeartbeats 4000000 in
theorem core_D21 (d : Code1) (n : Int) (ls ft tl dl hx : List UInt8) (x k : Nat) (y : Int) (is : Bool) (vz : List UInt8) (dx : ByteArray) (z : Nat) (j : Nat) (w : World) (hinv : Inv d w)
    (K4 : KC 4 #[.slice d.a d.len d.cap] (.bool false)) (K5 : DrawsC 5 d (.int .i64 n)) (K6 : DrawsC 6 d (.string ⟨tl.toArray⟩)) (K7 : KC 7 #[.int .i64 n] (.string ⟨ls.toArray⟩))
    (K8 : KC 8 #[.string (⟨ls.toArray⟩ ++ ⟨tl.toArray⟩)] (.tuple #[.int .i64 (x : Nat), .int .i64 (k : Nat)])) (K9 : KC 9 #[.int .i64 n, .int .i64 7] (.string ⟨ft.toArray⟩))
    (K10 : KC 10 #[.string (⟨ft.toArray⟩ ++ ⟨tl.toArray⟩), .int .i64 7] (.tuple #[.int .i64 y, .bool is])) (K12 : KT 12 #[.int .i64 n] (.string ⟨dl.toArray⟩)) (K11 : KC 11 #[.string ⟨dl.toArray⟩] (.tuple #[.int .i64 0, .bool false]))
    (K14 : KC 14 #[.string ⟨tl.toArray⟩] (.string ⟨hx.toArray⟩)) (K13 : KC 13 #[.string ⟨hx.toArray⟩] (.tuple #[.string ⟨tl.toArray⟩, .bool true])) (K15 : DrawsC 15 d (.string dx)) (K8b : KC 8 #[.string dx] (.tuple #[.int .i64 z, .int .i64 (j : Nat)])) (K7b : KC 7 #[.int .i64 z] (.string ⟨vz.toArray⟩)) (hj0 : 1 ≤ j) (hj1 : j ≤ dx.size) (hjv : (vz == (dx.extract 0 j).toList) = true)
    (l1 : ls.length ≤ 8) (l2 : tl.length ≤ 40) (l3 : ft.length ≤ 7) (e1 : ls.isEmpty = true) (e2 : ft.isEmpty = true) (hn0 : n ≤ -1000000000) :
    Calls Tryd.prog 3 #[.slice d.a d.len d.cap] w fun e w' => e = .returned (.bool true) ∧ Below w.heap.size w w' := by
  have p0 : decide (0 ≤ n) = false := by simp; omega
  have p1 : decide (n ≤ 562949953421311) = true := by simp; omega
  have p2 : decide (n < 0) = true := by simp; omega
  have p3 : decide (72057594037927936 ≤ n) = false := by simp; omega
  have p4 : decide (-1000000000 < n) = false := by simp; omega
  have p5 : decide (n < 1000000000) = true := by simp; omega
  have hjz : ((j : Int) == 0) = false := by rw [beq_eq_false_iff_ne]; omega
  have hj2 : (0 : Int) ≤ (j : Int) := Int.natCast_nonneg _
  have hj3 : (j : Int) ≤ (dx.size : Int) := by omega
  go_enter Tryd.func3, Tryd.ntmps3
  go_wp2_with fail
  refine (K4 _).mono ?_
  rintro e w1 ⟨rfl, hb⟩
  have hi1 := hinv.step hb
  go_wp2_with fail
  refine (K5 _ hi1.1).mono ?_
  rintro e w2 ⟨rfl, hb2⟩
  have hi2 := hi1.step hb2
  have hb := below_step hb hb2
  clear hb2 hi1
  go_wp2_with fail
  refine (K6 _ hi2.1).mono ?_
  rintro e w3 ⟨rfl, hb3⟩
  have hi3 := hi2.step hb3
  have hb := below_step hb hb3
  clear hb3 hi2
  go_wp2_with fail
  refine (K7 _).mono ?_
  rintro e w4 ⟨rfl, hb4⟩
  have hi4 := hi3.step hb4
  have hb := below_step hb hb4
  clear hb4 hi3
  go_wp2_with fail
  refine (K8 _).mono ?_
  rintro e w5 ⟨rfl, hb5⟩
  have hi5 := hi4.step hb5
  have hb := below_step hb hb5
  clear hb5 hi4
  go_wp2_with fail
  refine (K9 _).mono ?_
  rintro e w6 ⟨rfl, hb6⟩
  have hi6 := hi5.step hb6
  have hb := below_step hb hb6
  clear hb6 hi5
  go_wp2_with fail
  refine (K10 _).mono ?_
  rintro e w7 ⟨rfl, hb7⟩
  have hi7 := hi6.step hb7
  have hb := below_step hb hb7
  clear hb7 hi6
  go_wp2_with fail
  refine (K12 _ hi7.2.2).mono ?_
  rintro e w8 ⟨rfl, hb8⟩
  have hi8 := hi7.step hb8
  have hb := below_step hb hb8
  clear hb8 hi7
  go_wp2_with fail
  refine (K11 _).mono ?_
  rintro e w9 ⟨rfl, hb9⟩
  have hi9 := hi8.step hb9
  have hb := below_step hb hb9
  clear hb9 hi8
  go_wp2_with fail
  refine (K14 _).mono ?_
  rintro e w10 ⟨rfl, hb10⟩
  have hi10 := hi9.step hb10
  have hb := below_step hb hb10
  clear hb10 hi9
  go_wp2_with fail
  refine (K13 _).mono ?_
  rintro e w11 ⟨rfl, hb11⟩
  have hi11 := hi10.step hb11
  have hb := below_step hb hb11
  clear hb11 hi10
  go_wp2_with fail
  refine (K15 _ hi11.1).mono ?_
  rintro e w12 ⟨rfl, hb12⟩
  have hi12 := hi11.step hb12
  have hb := below_step hb hb12
  clear hb12 hi11
  go_wp2_with fail
  refine (K8b _).mono ?_
  rintro e w13 ⟨rfl, hb13⟩
  have hi13 := hi12.step hb13
  have hb := below_step hb hb13
  clear hb13 hi12
  go_wp2_with fail
  refine (K7b _).mono ?_
  rintro e w14 ⟨rfl, hb14⟩
  have hi14 := hi13.step hb14
  have hb := below_step hb hb14
  clear hb14 hi13
  go_wp2_with fail
  refine (K15 _ hi14.1).mono ?_
  rintro e w15 ⟨rfl, hb15⟩
  have hi15 := hi14.step hb15
  have hb := below_step hb hb15
  clear hb15 hi14
  go_wp2
  go_ret
  exact ⟨rfl, hb⟩
end Go.Proofs.YtdbfifgblcmckacDoor
