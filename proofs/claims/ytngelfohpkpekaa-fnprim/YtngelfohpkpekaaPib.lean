/- The program's primitives: numbers, yes and no. -/
import Derived.Test.YtngelfohpkpekaaPia
import Derived.Test.YtngelfohpkpekaaPmh
set_option linter.unusedVariables false
namespace Go.Proofs.Ytngelfohpkpekaa
open Go.ChangeShapes Go.WideShapes Go.ChangeAt Go.RowKit
theorem num_ok {h : List Cel} {v : Val} (hv : v.ok h = true) : v.k = 1 → -1000000 ≤ v.n ∧ v.n ≤ 1000000 := by
  obtain ⟨k, n, s⟩ := v
  intro hk
  have hk : k = 1 := hk
  subst hk
  exact num_of_ok hv
set_option maxRecDepth 100000 in
set_option maxHeartbeats 2000000 in
theorem add_any (bp : Nat) (hv : Value) (aa : Option Addr) (ca : Nat) (h : List Cel) (x y : Val) (w : World) (hP : w.heap[bp]? = some (.cells #[hv, .slice aa 2 ca] 52 (0, 0))) (hr : RowV w w.heap.size aa [x, y]) (hx : x.ok h = true) (hy : y.ok h = true) :
    Calls Try.prog 56 #[.pointer (some ⟨bp, 0, none⟩)] w fun e w' => VcPost (prim2 0 h x y).2 w e w' := by
  have hb0 : Below w.heap.size w (w.alloc (Obj.cells #[.int .i64 0, .int .i64 0, .string ⟨#[]⟩] 29)) := (Below.refl _ _).alloc (Nat.le_refl _) _
  have hk0 : (w.alloc (Obj.cells #[.int .i64 0, .int .i64 0, .string ⟨#[]⟩] 29)).heap[w.heap.size]? = some (Obj.cells #[.int .i64 0, .int .i64 0, .string ⟨#[]⟩] 29) := blk_at _ _ _ rfl
  have hbp : bp < w.heap.size := (Array.getElem?_eq_some_iff.1 hP).1
  have HNU : Hid (Calls Try.prog 72 #[.pointer (some ⟨bp, 0, none⟩)] (w.alloc (Obj.cells #[.int .i64 0, .int .i64 0, .string ⟨#[]⟩] 29)) fun e w' => NuPost x y (w.alloc (Obj.cells #[.int .i64 0, .int .i64 0, .string ⟨#[]⟩] 29)) e w') := numbers_any bp hv aa ca x y _ (blk_past hP) ((hr.below hb0).mono hb0.size) (num_ok hx) (num_ok hy)
  have bx := num_ok hx
  have by' := num_ok hy
  have HNB : Hid (∀ n are w, Calls Try.prog 73 #[.int .i64 n, .bool are] w fun e w' => VcPost (if are = true then numR n else (zv, 2)) w e w') := fun n are w => number_any n are w
  by_cases hq : x.k = 1 ∧ y.k = 1
  · have HR : Hid ((prim2 0 h x y).2 = (numR (x.n + y.n))) := by show _ = _; simp [prim2, hq, numsP]
    rw [HR.out]
    obtain ⟨h1, h2⟩ := bx hq.1
    obtain ⟨h3, h4⟩ := by' hq.2
    have HNU2 : Hid (Calls Try.prog 72 #[.pointer (some ⟨bp, 0, none⟩)] (w.alloc (Obj.cells #[.int .i64 0, .int .i64 0, .string ⟨#[]⟩] 29)) fun e w' => e = .returned (.tuple #[.int .i32 x.n, .int .i32 y.n, .bool true]) ∧ Below (w.alloc (Obj.cells #[.int .i64 0, .int .i64 0, .string ⟨#[]⟩] 29)).heap.size (w.alloc (Obj.cells #[.int .i64 0, .int .i64 0, .string ⟨#[]⟩] 29)) w') := HNU.out.mono fun e w' ⟨h1, h2⟩ => ⟨by rw [if_pos hq] at h1; exact h1, h2⟩
    clear HNU bx by' hx hy hr hP hq HR
    have HNB2 : Hid (∀ w1, Calls Try.prog 73 #[.int .i64 (x.n + y.n), .bool true] w1 fun e w' => VcPost (numR (x.n + y.n)) w1 e w') := fun w1 => HNB.out (x.n + y.n) true w1
    clear HNB
    generalize numR (x.n + y.n) = r at *
    go_enter Try.func56, Try.ntmps56
    go_wp2_with fail
    refine HNU2.out.mono ?_
    rintro e w1 ⟨rfl, hb1⟩
    have k1 := blk_keep hk0 hb1 (by simp)
    have hs1 : w.heap.size < w1.heap.size := (Array.getElem?_eq_some_iff.1 k1).1
    have hbw1 := hb0.trans (hb1.mono hb0.size)
    clear hb1 HNU2
    go_wp2_with fail
    refine (HNB2.out _).mono ?_
    rintro e w2 ⟨rfl, hb2⟩
    have k2 := blk_keep k1 hb2 hs1
    have hbw2 := hbw1.trans (hb2.mono hbw1.size)
    have c0 := cell_blk (j := 0) k2 rfl
    have c1 := cell_blk (j := 1) k2 rfl
    have c2 := cell_blk (j := 2) k2 rfl
    have f0 := frozen_blk k2 0
    have f1 := frozen_blk k2 1
    have f2 := frozen_blk k2 2
    have KF : Hid (_ = some (Obj.cells #[.int .i64 0, .int .i64 0, .string ⟨#[]⟩] 29)) := k2
    have HBF : Hid (Below w.heap.size w _) := hbw2
    clear k2 hbw2 k1 hbw1 hb2 hk0 hb0
    go_wp2
    refine bodyPost_ret (res_ct rfl _ _ w.heap.size _ _ _ rfl (put_blk _ _ _ KF.out)) rfl ?_
    exact ⟨rfl, put_below HBF.out (Nat.le_refl _) _ _ _⟩
  · have HR : Hid ((prim2 0 h x y).2 = (zv, 2)) := by show _ = _; simp only [prim2]; rw [if_pos (by omega), if_neg hq]
    rw [HR.out]
    have HNU2 : Hid (Calls Try.prog 72 #[.pointer (some ⟨bp, 0, none⟩)] (w.alloc (Obj.cells #[.int .i64 0, .int .i64 0, .string ⟨#[]⟩] 29)) fun e w' => e = .returned (.tuple #[.int .i32 0, .int .i32 0, .bool false]) ∧ Below (w.alloc (Obj.cells #[.int .i64 0, .int .i64 0, .string ⟨#[]⟩] 29)).heap.size (w.alloc (Obj.cells #[.int .i64 0, .int .i64 0, .string ⟨#[]⟩] 29)) w') := HNU.out.mono fun e w' ⟨h1, h2⟩ => ⟨by rw [if_neg hq] at h1; exact h1, h2⟩
    clear HNU bx by' hx hy hr hP hq HR
    go_enter Try.func56, Try.ntmps56
    go_wp2_with fail
    refine HNU2.out.mono ?_
    rintro e w1 ⟨rfl, hb1⟩
    have k1 := blk_keep hk0 hb1 (by simp)
    have hs1 : w.heap.size < w1.heap.size := (Array.getElem?_eq_some_iff.1 k1).1
    have hbw1 := hb0.trans (hb1.mono hb0.size)
    clear hb1 HNU2
    go_wp2_with fail
    refine (HNB.out _ _ _).mono ?_
    rintro e w2 ⟨rfl, hb2⟩
    have k2 := blk_keep k1 hb2 hs1
    have hbw2 := hbw1.trans (hb2.mono hbw1.size)
    have c0 := cell_blk (j := 0) k2 rfl
    have c1 := cell_blk (j := 1) k2 rfl
    have c2 := cell_blk (j := 2) k2 rfl
    have f0 := frozen_blk k2 0
    have f1 := frozen_blk k2 1
    have f2 := frozen_blk k2 2
    have KF : Hid (_ = some (Obj.cells #[.int .i64 0, .int .i64 0, .string ⟨#[]⟩] 29)) := k2
    have HBF : Hid (Below w.heap.size w _) := hbw2
    clear k2 hbw2 k1 hbw1 hb2 hk0 hb0
    go_wp2
    refine bodyPost_ret (res_ct rfl _ _ w.heap.size _ _ _ rfl (put_blk _ _ _ KF.out)) rfl ?_
    exact ⟨rfl, put_below HBF.out (Nat.le_refl _) _ _ _⟩
set_option maxRecDepth 100000 in
set_option maxHeartbeats 2000000 in
theorem subtract_any (bp : Nat) (hv : Value) (aa : Option Addr) (ca : Nat) (h : List Cel) (x y : Val) (w : World) (hP : w.heap[bp]? = some (.cells #[hv, .slice aa 2 ca] 52 (0, 0))) (hr : RowV w w.heap.size aa [x, y]) (hx : x.ok h = true) (hy : y.ok h = true) :
    Calls Try.prog 57 #[.pointer (some ⟨bp, 0, none⟩)] w fun e w' => VcPost (prim2 1 h x y).2 w e w' := by
  have hb0 : Below w.heap.size w (w.alloc (Obj.cells #[.int .i64 0, .int .i64 0, .string ⟨#[]⟩] 29)) := (Below.refl _ _).alloc (Nat.le_refl _) _
  have hk0 : (w.alloc (Obj.cells #[.int .i64 0, .int .i64 0, .string ⟨#[]⟩] 29)).heap[w.heap.size]? = some (Obj.cells #[.int .i64 0, .int .i64 0, .string ⟨#[]⟩] 29) := blk_at _ _ _ rfl
  have hbp : bp < w.heap.size := (Array.getElem?_eq_some_iff.1 hP).1
  have HNU : Hid (Calls Try.prog 72 #[.pointer (some ⟨bp, 0, none⟩)] (w.alloc (Obj.cells #[.int .i64 0, .int .i64 0, .string ⟨#[]⟩] 29)) fun e w' => NuPost x y (w.alloc (Obj.cells #[.int .i64 0, .int .i64 0, .string ⟨#[]⟩] 29)) e w') := numbers_any bp hv aa ca x y _ (blk_past hP) ((hr.below hb0).mono hb0.size) (num_ok hx) (num_ok hy)
  have bx := num_ok hx
  have by' := num_ok hy
  have HNB : Hid (∀ n are w, Calls Try.prog 73 #[.int .i64 n, .bool are] w fun e w' => VcPost (if are = true then numR n else (zv, 2)) w e w') := fun n are w => number_any n are w
  by_cases hq : x.k = 1 ∧ y.k = 1
  · have HR : Hid ((prim2 1 h x y).2 = (numR (x.n - y.n))) := by show _ = _; simp [prim2, hq, numsP]
    rw [HR.out]
    obtain ⟨h1, h2⟩ := bx hq.1
    obtain ⟨h3, h4⟩ := by' hq.2
    have HNU2 : Hid (Calls Try.prog 72 #[.pointer (some ⟨bp, 0, none⟩)] (w.alloc (Obj.cells #[.int .i64 0, .int .i64 0, .string ⟨#[]⟩] 29)) fun e w' => e = .returned (.tuple #[.int .i32 x.n, .int .i32 y.n, .bool true]) ∧ Below (w.alloc (Obj.cells #[.int .i64 0, .int .i64 0, .string ⟨#[]⟩] 29)).heap.size (w.alloc (Obj.cells #[.int .i64 0, .int .i64 0, .string ⟨#[]⟩] 29)) w') := HNU.out.mono fun e w' ⟨h1, h2⟩ => ⟨by rw [if_pos hq] at h1; exact h1, h2⟩
    clear HNU bx by' hx hy hr hP hq HR
    have HNB2 : Hid (∀ w1, Calls Try.prog 73 #[.int .i64 (x.n - y.n), .bool true] w1 fun e w' => VcPost (numR (x.n - y.n)) w1 e w') := fun w1 => HNB.out (x.n - y.n) true w1
    clear HNB
    generalize numR (x.n - y.n) = r at *
    go_enter Try.func57, Try.ntmps57
    go_wp2_with fail
    refine HNU2.out.mono ?_
    rintro e w1 ⟨rfl, hb1⟩
    have k1 := blk_keep hk0 hb1 (by simp)
    have hs1 : w.heap.size < w1.heap.size := (Array.getElem?_eq_some_iff.1 k1).1
    have hbw1 := hb0.trans (hb1.mono hb0.size)
    clear hb1 HNU2
    go_wp2_with fail
    refine (HNB2.out _).mono ?_
    rintro e w2 ⟨rfl, hb2⟩
    have k2 := blk_keep k1 hb2 hs1
    have hbw2 := hbw1.trans (hb2.mono hbw1.size)
    have c0 := cell_blk (j := 0) k2 rfl
    have c1 := cell_blk (j := 1) k2 rfl
    have c2 := cell_blk (j := 2) k2 rfl
    have f0 := frozen_blk k2 0
    have f1 := frozen_blk k2 1
    have f2 := frozen_blk k2 2
    have KF : Hid (_ = some (Obj.cells #[.int .i64 0, .int .i64 0, .string ⟨#[]⟩] 29)) := k2
    have HBF : Hid (Below w.heap.size w _) := hbw2
    clear k2 hbw2 k1 hbw1 hb2 hk0 hb0
    go_wp2
    refine bodyPost_ret (res_ct rfl _ _ w.heap.size _ _ _ rfl (put_blk _ _ _ KF.out)) rfl ?_
    exact ⟨rfl, put_below HBF.out (Nat.le_refl _) _ _ _⟩
  · have HR : Hid ((prim2 1 h x y).2 = (zv, 2)) := by show _ = _; simp only [prim2]; rw [if_pos (by omega), if_neg hq]
    rw [HR.out]
    have HNU2 : Hid (Calls Try.prog 72 #[.pointer (some ⟨bp, 0, none⟩)] (w.alloc (Obj.cells #[.int .i64 0, .int .i64 0, .string ⟨#[]⟩] 29)) fun e w' => e = .returned (.tuple #[.int .i32 0, .int .i32 0, .bool false]) ∧ Below (w.alloc (Obj.cells #[.int .i64 0, .int .i64 0, .string ⟨#[]⟩] 29)).heap.size (w.alloc (Obj.cells #[.int .i64 0, .int .i64 0, .string ⟨#[]⟩] 29)) w') := HNU.out.mono fun e w' ⟨h1, h2⟩ => ⟨by rw [if_neg hq] at h1; exact h1, h2⟩
    clear HNU bx by' hx hy hr hP hq HR
    go_enter Try.func57, Try.ntmps57
    go_wp2_with fail
    refine HNU2.out.mono ?_
    rintro e w1 ⟨rfl, hb1⟩
    have k1 := blk_keep hk0 hb1 (by simp)
    have hs1 : w.heap.size < w1.heap.size := (Array.getElem?_eq_some_iff.1 k1).1
    have hbw1 := hb0.trans (hb1.mono hb0.size)
    clear hb1 HNU2
    go_wp2_with fail
    refine (HNB.out _ _ _).mono ?_
    rintro e w2 ⟨rfl, hb2⟩
    have k2 := blk_keep k1 hb2 hs1
    have hbw2 := hbw1.trans (hb2.mono hbw1.size)
    have c0 := cell_blk (j := 0) k2 rfl
    have c1 := cell_blk (j := 1) k2 rfl
    have c2 := cell_blk (j := 2) k2 rfl
    have f0 := frozen_blk k2 0
    have f1 := frozen_blk k2 1
    have f2 := frozen_blk k2 2
    have KF : Hid (_ = some (Obj.cells #[.int .i64 0, .int .i64 0, .string ⟨#[]⟩] 29)) := k2
    have HBF : Hid (Below w.heap.size w _) := hbw2
    clear k2 hbw2 k1 hbw1 hb2 hk0 hb0
    go_wp2
    refine bodyPost_ret (res_ct rfl _ _ w.heap.size _ _ _ rfl (put_blk _ _ _ KF.out)) rfl ?_
    exact ⟨rfl, put_below HBF.out (Nat.le_refl _) _ _ _⟩
set_option maxRecDepth 100000 in
set_option maxHeartbeats 2000000 in
theorem multiply_any (bp : Nat) (hv : Value) (aa : Option Addr) (ca : Nat) (h : List Cel) (x y : Val) (w : World) (hP : w.heap[bp]? = some (.cells #[hv, .slice aa 2 ca] 52 (0, 0))) (hr : RowV w w.heap.size aa [x, y]) (hx : x.ok h = true) (hy : y.ok h = true) :
    Calls Try.prog 58 #[.pointer (some ⟨bp, 0, none⟩)] w fun e w' => VcPost (prim2 2 h x y).2 w e w' := by
  have hb0 : Below w.heap.size w (w.alloc (Obj.cells #[.int .i64 0, .int .i64 0, .string ⟨#[]⟩] 29)) := (Below.refl _ _).alloc (Nat.le_refl _) _
  have hk0 : (w.alloc (Obj.cells #[.int .i64 0, .int .i64 0, .string ⟨#[]⟩] 29)).heap[w.heap.size]? = some (Obj.cells #[.int .i64 0, .int .i64 0, .string ⟨#[]⟩] 29) := blk_at _ _ _ rfl
  have hbp : bp < w.heap.size := (Array.getElem?_eq_some_iff.1 hP).1
  have HNU : Hid (Calls Try.prog 72 #[.pointer (some ⟨bp, 0, none⟩)] (w.alloc (Obj.cells #[.int .i64 0, .int .i64 0, .string ⟨#[]⟩] 29)) fun e w' => NuPost x y (w.alloc (Obj.cells #[.int .i64 0, .int .i64 0, .string ⟨#[]⟩] 29)) e w') := numbers_any bp hv aa ca x y _ (blk_past hP) ((hr.below hb0).mono hb0.size) (num_ok hx) (num_ok hy)
  have bx := num_ok hx
  have by' := num_ok hy
  have HNB : Hid (∀ n are w, Calls Try.prog 73 #[.int .i64 n, .bool are] w fun e w' => VcPost (if are = true then numR n else (zv, 2)) w e w') := fun n are w => number_any n are w
  by_cases hq : x.k = 1 ∧ y.k = 1
  · have HR : Hid ((prim2 2 h x y).2 = (numR (x.n * y.n))) := by show _ = _; simp [prim2, hq, numsP]
    rw [HR.out]
    obtain ⟨h1, h2⟩ := bx hq.1
    obtain ⟨h3, h4⟩ := by' hq.2
    have hm1 : x.n * y.n ≤ 1000000000000 := by
      have : x.n.natAbs * y.n.natAbs ≤ 1000000 * 1000000 := Nat.mul_le_mul (by omega) (by omega)
      have h2 := Int.natAbs_mul x.n y.n
      omega
    have hm2 : -1000000000000 ≤ x.n * y.n := by
      have : x.n.natAbs * y.n.natAbs ≤ 1000000 * 1000000 := Nat.mul_le_mul (by omega) (by omega)
      have h2 := Int.natAbs_mul x.n y.n
      omega
    have HNU2 : Hid (Calls Try.prog 72 #[.pointer (some ⟨bp, 0, none⟩)] (w.alloc (Obj.cells #[.int .i64 0, .int .i64 0, .string ⟨#[]⟩] 29)) fun e w' => e = .returned (.tuple #[.int .i32 x.n, .int .i32 y.n, .bool true]) ∧ Below (w.alloc (Obj.cells #[.int .i64 0, .int .i64 0, .string ⟨#[]⟩] 29)).heap.size (w.alloc (Obj.cells #[.int .i64 0, .int .i64 0, .string ⟨#[]⟩] 29)) w') := HNU.out.mono fun e w' ⟨h1, h2⟩ => ⟨by rw [if_pos hq] at h1; exact h1, h2⟩
    clear HNU bx by' hx hy hr hP hq HR
    have HNB2 : Hid (∀ w1, Calls Try.prog 73 #[.int .i64 (x.n * y.n), .bool true] w1 fun e w' => VcPost (numR (x.n * y.n)) w1 e w') := fun w1 => HNB.out (x.n * y.n) true w1
    clear HNB
    generalize numR (x.n * y.n) = r at *
    go_enter Try.func58, Try.ntmps58
    go_wp2_with fail
    refine HNU2.out.mono ?_
    rintro e w1 ⟨rfl, hb1⟩
    have k1 := blk_keep hk0 hb1 (by simp)
    have hs1 : w.heap.size < w1.heap.size := (Array.getElem?_eq_some_iff.1 k1).1
    have hbw1 := hb0.trans (hb1.mono hb0.size)
    clear hb1 HNU2
    go_wp2_with fail
    refine (HNB2.out _).mono ?_
    rintro e w2 ⟨rfl, hb2⟩
    have k2 := blk_keep k1 hb2 hs1
    have hbw2 := hbw1.trans (hb2.mono hbw1.size)
    have c0 := cell_blk (j := 0) k2 rfl
    have c1 := cell_blk (j := 1) k2 rfl
    have c2 := cell_blk (j := 2) k2 rfl
    have f0 := frozen_blk k2 0
    have f1 := frozen_blk k2 1
    have f2 := frozen_blk k2 2
    have KF : Hid (_ = some (Obj.cells #[.int .i64 0, .int .i64 0, .string ⟨#[]⟩] 29)) := k2
    have HBF : Hid (Below w.heap.size w _) := hbw2
    clear k2 hbw2 k1 hbw1 hb2 hk0 hb0
    go_wp2
    refine bodyPost_ret (res_ct rfl _ _ w.heap.size _ _ _ rfl (put_blk _ _ _ KF.out)) rfl ?_
    exact ⟨rfl, put_below HBF.out (Nat.le_refl _) _ _ _⟩
  · have HR : Hid ((prim2 2 h x y).2 = (zv, 2)) := by show _ = _; simp only [prim2]; rw [if_pos (by omega), if_neg hq]
    rw [HR.out]
    have HNU2 : Hid (Calls Try.prog 72 #[.pointer (some ⟨bp, 0, none⟩)] (w.alloc (Obj.cells #[.int .i64 0, .int .i64 0, .string ⟨#[]⟩] 29)) fun e w' => e = .returned (.tuple #[.int .i32 0, .int .i32 0, .bool false]) ∧ Below (w.alloc (Obj.cells #[.int .i64 0, .int .i64 0, .string ⟨#[]⟩] 29)).heap.size (w.alloc (Obj.cells #[.int .i64 0, .int .i64 0, .string ⟨#[]⟩] 29)) w') := HNU.out.mono fun e w' ⟨h1, h2⟩ => ⟨by rw [if_neg hq] at h1; exact h1, h2⟩
    clear HNU bx by' hx hy hr hP hq HR
    go_enter Try.func58, Try.ntmps58
    go_wp2_with fail
    refine HNU2.out.mono ?_
    rintro e w1 ⟨rfl, hb1⟩
    have k1 := blk_keep hk0 hb1 (by simp)
    have hs1 : w.heap.size < w1.heap.size := (Array.getElem?_eq_some_iff.1 k1).1
    have hbw1 := hb0.trans (hb1.mono hb0.size)
    clear hb1 HNU2
    go_wp2_with fail
    refine (HNB.out _ _ _).mono ?_
    rintro e w2 ⟨rfl, hb2⟩
    have k2 := blk_keep k1 hb2 hs1
    have hbw2 := hbw1.trans (hb2.mono hbw1.size)
    have c0 := cell_blk (j := 0) k2 rfl
    have c1 := cell_blk (j := 1) k2 rfl
    have c2 := cell_blk (j := 2) k2 rfl
    have f0 := frozen_blk k2 0
    have f1 := frozen_blk k2 1
    have f2 := frozen_blk k2 2
    have KF : Hid (_ = some (Obj.cells #[.int .i64 0, .int .i64 0, .string ⟨#[]⟩] 29)) := k2
    have HBF : Hid (Below w.heap.size w _) := hbw2
    clear k2 hbw2 k1 hbw1 hb2 hk0 hb0
    go_wp2
    refine bodyPost_ret (res_ct rfl _ _ w.heap.size _ _ _ rfl (put_blk _ _ _ KF.out)) rfl ?_
    exact ⟨rfl, put_below HBF.out (Nat.le_refl _) _ _ _⟩
set_option maxRecDepth 100000 in
set_option maxHeartbeats 2000000 in
theorem less_any (bp : Nat) (hv : Value) (aa : Option Addr) (ca : Nat) (h : List Cel) (x y : Val) (w : World) (hP : w.heap[bp]? = some (.cells #[hv, .slice aa 2 ca] 52 (0, 0))) (hr : RowV w w.heap.size aa [x, y]) (hx : x.ok h = true) (hy : y.ok h = true) :
    Calls Try.prog 59 #[.pointer (some ⟨bp, 0, none⟩)] w fun e w' => VcPost (prim2 3 h x y).2 w e w' := by
  have hb0 : Below w.heap.size w (w.alloc (Obj.cells #[.int .i64 0, .int .i64 0, .string ⟨#[]⟩] 29)) := (Below.refl _ _).alloc (Nat.le_refl _) _
  have hk0 : (w.alloc (Obj.cells #[.int .i64 0, .int .i64 0, .string ⟨#[]⟩] 29)).heap[w.heap.size]? = some (Obj.cells #[.int .i64 0, .int .i64 0, .string ⟨#[]⟩] 29) := blk_at _ _ _ rfl
  have hbp : bp < w.heap.size := (Array.getElem?_eq_some_iff.1 hP).1
  have HNU : Hid (Calls Try.prog 72 #[.pointer (some ⟨bp, 0, none⟩)] (w.alloc (Obj.cells #[.int .i64 0, .int .i64 0, .string ⟨#[]⟩] 29)) fun e w' => NuPost x y (w.alloc (Obj.cells #[.int .i64 0, .int .i64 0, .string ⟨#[]⟩] 29)) e w') := numbers_any bp hv aa ca x y _ (blk_past hP) ((hr.below hb0).mono hb0.size) (num_ok hx) (num_ok hy)
  have bx := num_ok hx
  have by' := num_ok hy
  have HAN : Hid (∀ yes w, Calls Try.prog 74 #[.bool yes, .bool true] w fun e w' => VcPost (bv yes, 0) w e w') := fun yes w => answer_any yes true w
  have HAF : Hid (∀ yes w, Calls Try.prog 74 #[.bool yes, .bool false] w fun e w' => VcPost (zv, 2) w e w') := fun yes w => answer_any yes false w
  by_cases hq : x.k = 1 ∧ y.k = 1
  · have HR : Hid ((prim2 3 h x y).2 = (bv (decide (x.n < y.n)), 0)) := by show _ = _; simp [prim2, hq, numsP]
    rw [HR.out]
    obtain ⟨h1, h2⟩ := bx hq.1
    obtain ⟨h3, h4⟩ := by' hq.2
    have HNU2 : Hid (Calls Try.prog 72 #[.pointer (some ⟨bp, 0, none⟩)] (w.alloc (Obj.cells #[.int .i64 0, .int .i64 0, .string ⟨#[]⟩] 29)) fun e w' => e = .returned (.tuple #[.int .i32 x.n, .int .i32 y.n, .bool true]) ∧ Below (w.alloc (Obj.cells #[.int .i64 0, .int .i64 0, .string ⟨#[]⟩] 29)).heap.size (w.alloc (Obj.cells #[.int .i64 0, .int .i64 0, .string ⟨#[]⟩] 29)) w') := HNU.out.mono fun e w' ⟨h1, h2⟩ => ⟨by rw [if_pos hq] at h1; exact h1, h2⟩
    clear HNU bx by' hx hy hr hP hq HR
    go_enter Try.func59, Try.ntmps59
    go_wp2_with fail
    refine HNU2.out.mono ?_
    rintro e w1 ⟨rfl, hb1⟩
    have k1 := blk_keep hk0 hb1 (by simp)
    have hs1 : w.heap.size < w1.heap.size := (Array.getElem?_eq_some_iff.1 k1).1
    have hbw1 := hb0.trans (hb1.mono hb0.size)
    clear hb1 HNU2
    go_wp2_with fail
    refine (HAN.out _ _).mono ?_
    rintro e w2 ⟨rfl, hb2⟩
    have k2 := blk_keep k1 hb2 hs1
    have hbw2 := hbw1.trans (hb2.mono hbw1.size)
    have c0 := cell_blk (j := 0) k2 rfl
    have c1 := cell_blk (j := 1) k2 rfl
    have c2 := cell_blk (j := 2) k2 rfl
    have f0 := frozen_blk k2 0
    have f1 := frozen_blk k2 1
    have f2 := frozen_blk k2 2
    have KF : Hid (_ = some (Obj.cells #[.int .i64 0, .int .i64 0, .string ⟨#[]⟩] 29)) := k2
    have HBF : Hid (Below w.heap.size w _) := hbw2
    clear k2 hbw2 k1 hbw1 hb2 hk0 hb0
    go_wp2
    refine bodyPost_ret (res_ct rfl _ _ w.heap.size _ _ _ rfl (put_blk _ _ _ KF.out)) rfl ?_
    exact ⟨rfl, put_below HBF.out (Nat.le_refl _) _ _ _⟩
  · have HR : Hid ((prim2 3 h x y).2 = (zv, 2)) := by show _ = _; simp only [prim2]; rw [if_pos (by omega), if_neg hq]
    rw [HR.out]
    have HNU2 : Hid (Calls Try.prog 72 #[.pointer (some ⟨bp, 0, none⟩)] (w.alloc (Obj.cells #[.int .i64 0, .int .i64 0, .string ⟨#[]⟩] 29)) fun e w' => e = .returned (.tuple #[.int .i32 0, .int .i32 0, .bool false]) ∧ Below (w.alloc (Obj.cells #[.int .i64 0, .int .i64 0, .string ⟨#[]⟩] 29)).heap.size (w.alloc (Obj.cells #[.int .i64 0, .int .i64 0, .string ⟨#[]⟩] 29)) w') := HNU.out.mono fun e w' ⟨h1, h2⟩ => ⟨by rw [if_neg hq] at h1; exact h1, h2⟩
    clear HNU bx by' hx hy hr hP hq HR
    go_enter Try.func59, Try.ntmps59
    go_wp2_with fail
    refine HNU2.out.mono ?_
    rintro e w1 ⟨rfl, hb1⟩
    have k1 := blk_keep hk0 hb1 (by simp)
    have hs1 : w.heap.size < w1.heap.size := (Array.getElem?_eq_some_iff.1 k1).1
    have hbw1 := hb0.trans (hb1.mono hb0.size)
    clear hb1 HNU2
    go_wp2_with fail
    refine (HAF.out _ _).mono ?_
    rintro e w2 ⟨rfl, hb2⟩
    have k2 := blk_keep k1 hb2 hs1
    have hbw2 := hbw1.trans (hb2.mono hbw1.size)
    have c0 := cell_blk (j := 0) k2 rfl
    have c1 := cell_blk (j := 1) k2 rfl
    have c2 := cell_blk (j := 2) k2 rfl
    have f0 := frozen_blk k2 0
    have f1 := frozen_blk k2 1
    have f2 := frozen_blk k2 2
    have KF : Hid (_ = some (Obj.cells #[.int .i64 0, .int .i64 0, .string ⟨#[]⟩] 29)) := k2
    have HBF : Hid (Below w.heap.size w _) := hbw2
    clear k2 hbw2 k1 hbw1 hb2 hk0 hb0
    go_wp2
    refine bodyPost_ret (res_ct rfl _ _ w.heap.size _ _ _ rfl (put_blk _ _ _ KF.out)) rfl ?_
    exact ⟨rfl, put_below HBF.out (Nat.le_refl _) _ _ _⟩
set_option maxRecDepth 100000 in
set_option maxHeartbeats 2000000 in
theorem equal_any (bp : Nat) (hv : Value) (aa : Option Addr) (ca : Nat) (h : List Cel) (x y : Val) (w : World) (hP : w.heap[bp]? = some (.cells #[hv, .slice aa 2 ca] 52 (0, 0))) (hr : RowV w w.heap.size aa [x, y]) (hx : x.ok h = true) (hy : y.ok h = true) :
    Calls Try.prog 60 #[.pointer (some ⟨bp, 0, none⟩)] w fun e w' => VcPost (prim2 4 h x y).2 w e w' := by
  have hb0 : Below w.heap.size w (w.alloc (Obj.cells #[.int .i64 0, .int .i64 0, .string ⟨#[]⟩] 29)) := (Below.refl _ _).alloc (Nat.le_refl _) _
  have hk0 : (w.alloc (Obj.cells #[.int .i64 0, .int .i64 0, .string ⟨#[]⟩] 29)).heap[w.heap.size]? = some (Obj.cells #[.int .i64 0, .int .i64 0, .string ⟨#[]⟩] 29) := blk_at _ _ _ rfl
  have hbp : bp < w.heap.size := (Array.getElem?_eq_some_iff.1 hP).1
  have HNU : Hid (Calls Try.prog 72 #[.pointer (some ⟨bp, 0, none⟩)] (w.alloc (Obj.cells #[.int .i64 0, .int .i64 0, .string ⟨#[]⟩] 29)) fun e w' => NuPost x y (w.alloc (Obj.cells #[.int .i64 0, .int .i64 0, .string ⟨#[]⟩] 29)) e w') := numbers_any bp hv aa ca x y _ (blk_past hP) ((hr.below hb0).mono hb0.size) (num_ok hx) (num_ok hy)
  have bx := num_ok hx
  have by' := num_ok hy
  have HAN : Hid (∀ yes w, Calls Try.prog 74 #[.bool yes, .bool true] w fun e w' => VcPost (bv yes, 0) w e w') := fun yes w => answer_any yes true w
  have HAF : Hid (∀ yes w, Calls Try.prog 74 #[.bool yes, .bool false] w fun e w' => VcPost (zv, 2) w e w') := fun yes w => answer_any yes false w
  by_cases hq : x.k = 1 ∧ y.k = 1
  · have HR : Hid ((prim2 4 h x y).2 = (bv (decide (x.n = y.n)), 0)) := by show _ = _; simp [prim2, hq, numsP]
    rw [HR.out]
    obtain ⟨h1, h2⟩ := bx hq.1
    obtain ⟨h3, h4⟩ := by' hq.2
    have HNU2 : Hid (Calls Try.prog 72 #[.pointer (some ⟨bp, 0, none⟩)] (w.alloc (Obj.cells #[.int .i64 0, .int .i64 0, .string ⟨#[]⟩] 29)) fun e w' => e = .returned (.tuple #[.int .i32 x.n, .int .i32 y.n, .bool true]) ∧ Below (w.alloc (Obj.cells #[.int .i64 0, .int .i64 0, .string ⟨#[]⟩] 29)).heap.size (w.alloc (Obj.cells #[.int .i64 0, .int .i64 0, .string ⟨#[]⟩] 29)) w') := HNU.out.mono fun e w' ⟨h1, h2⟩ => ⟨by rw [if_pos hq] at h1; exact h1, h2⟩
    clear HNU bx by' hx hy hr hP hq HR
    go_enter Try.func60, Try.ntmps60
    go_wp2_with fail
    refine HNU2.out.mono ?_
    rintro e w1 ⟨rfl, hb1⟩
    have k1 := blk_keep hk0 hb1 (by simp)
    have hs1 : w.heap.size < w1.heap.size := (Array.getElem?_eq_some_iff.1 k1).1
    have hbw1 := hb0.trans (hb1.mono hb0.size)
    clear hb1 HNU2
    go_wp2_with fail
    refine (HAN.out _ _).mono ?_
    rintro e w2 ⟨rfl, hb2⟩
    have k2 := blk_keep k1 hb2 hs1
    have hbw2 := hbw1.trans (hb2.mono hbw1.size)
    have c0 := cell_blk (j := 0) k2 rfl
    have c1 := cell_blk (j := 1) k2 rfl
    have c2 := cell_blk (j := 2) k2 rfl
    have f0 := frozen_blk k2 0
    have f1 := frozen_blk k2 1
    have f2 := frozen_blk k2 2
    have KF : Hid (_ = some (Obj.cells #[.int .i64 0, .int .i64 0, .string ⟨#[]⟩] 29)) := k2
    have HBF : Hid (Below w.heap.size w _) := hbw2
    clear k2 hbw2 k1 hbw1 hb2 hk0 hb0
    go_wp2
    refine bodyPost_ret (res_ct rfl _ _ w.heap.size _ _ _ rfl (put_blk _ _ _ KF.out)) rfl ?_
    exact ⟨rfl, put_below HBF.out (Nat.le_refl _) _ _ _⟩
  · have HR : Hid ((prim2 4 h x y).2 = (zv, 2)) := by show _ = _; simp only [prim2]; rw [if_pos (by omega), if_neg hq]
    rw [HR.out]
    have HNU2 : Hid (Calls Try.prog 72 #[.pointer (some ⟨bp, 0, none⟩)] (w.alloc (Obj.cells #[.int .i64 0, .int .i64 0, .string ⟨#[]⟩] 29)) fun e w' => e = .returned (.tuple #[.int .i32 0, .int .i32 0, .bool false]) ∧ Below (w.alloc (Obj.cells #[.int .i64 0, .int .i64 0, .string ⟨#[]⟩] 29)).heap.size (w.alloc (Obj.cells #[.int .i64 0, .int .i64 0, .string ⟨#[]⟩] 29)) w') := HNU.out.mono fun e w' ⟨h1, h2⟩ => ⟨by rw [if_neg hq] at h1; exact h1, h2⟩
    clear HNU bx by' hx hy hr hP hq HR
    go_enter Try.func60, Try.ntmps60
    go_wp2_with fail
    refine HNU2.out.mono ?_
    rintro e w1 ⟨rfl, hb1⟩
    have k1 := blk_keep hk0 hb1 (by simp)
    have hs1 : w.heap.size < w1.heap.size := (Array.getElem?_eq_some_iff.1 k1).1
    have hbw1 := hb0.trans (hb1.mono hb0.size)
    clear hb1 HNU2
    go_wp2_with fail
    refine (HAF.out _ _).mono ?_
    rintro e w2 ⟨rfl, hb2⟩
    have k2 := blk_keep k1 hb2 hs1
    have hbw2 := hbw1.trans (hb2.mono hbw1.size)
    have c0 := cell_blk (j := 0) k2 rfl
    have c1 := cell_blk (j := 1) k2 rfl
    have c2 := cell_blk (j := 2) k2 rfl
    have f0 := frozen_blk k2 0
    have f1 := frozen_blk k2 1
    have f2 := frozen_blk k2 2
    have KF : Hid (_ = some (Obj.cells #[.int .i64 0, .int .i64 0, .string ⟨#[]⟩] 29)) := k2
    have HBF : Hid (Below w.heap.size w _) := hbw2
    clear k2 hbw2 k1 hbw1 hb2 hk0 hb0
    go_wp2
    refine bodyPost_ret (res_ct rfl _ _ w.heap.size _ _ _ rfl (put_blk _ _ _ KF.out)) rfl ?_
    exact ⟨rfl, put_below HBF.out (Nat.le_refl _) _ _ _⟩
end Go.Proofs.Ytngelfohpkpekaa
