/- The program's primitives: what is asked of one value, of two. -/
import Derived.Test.YtngelfohpkpekaaPib
import Derived.Test.YtngelfohpkpekaaPm7
set_option linter.unusedVariables false
namespace Go.Proofs.Ytngelfohpkpekaa
open Go.ChangeShapes Go.WideShapes Go.ChangeAt Go.RowKit
theorem one_at {w : World} {B : Nat} {aa : Option Addr} {x : Val} (hr : RowV w B aa [x]) : ∃ b o, aa = some ⟨b, o, none⟩ ∧ b < B ∧ ValAt w b o x := by
  obtain ⟨b, o, rfl, hbl, x0, x1, x2⟩ := hr 0 x rfl
  rw [Nat.zero_mul, Nat.add_zero] at x0 x1 x2
  exact ⟨b, o, rfl, hbl, x0, x1, x2⟩
set_option maxRecDepth 100000 in
set_option maxHeartbeats 2000000 in
theorem isNil_any (bp : Nat) (hv : Value) (aa : Option Addr) (ca : Nat) (h : List Cel) (x : Val) (w : World) (hP : w.heap[bp]? = some (.cells #[hv, .slice aa 1 ca] 52 (0, 0))) (hr : RowV w w.heap.size aa [x]) :
    Calls Try.prog 65 #[.pointer (some ⟨bp, 0, none⟩)] w fun e w' => VcPost (prim1 9 h x).2 w e w' := by
  have hb0 : Below w.heap.size w (w.alloc (Obj.cells #[.int .i64 0, .int .i64 0, .string ⟨#[]⟩] 29)) := (Below.refl _ _).alloc (Nat.le_refl _) _
  have hk0 : (w.alloc (Obj.cells #[.int .i64 0, .int .i64 0, .string ⟨#[]⟩] 29)).heap[w.heap.size]? = some (Obj.cells #[.int .i64 0, .int .i64 0, .string ⟨#[]⟩] 29) := blk_at _ _ _ rfl
  have hbp : bp < w.heap.size := (Array.getElem?_eq_some_iff.1 hP).1
  have HAN : Hid (∀ yes w, Calls Try.prog 74 #[.bool yes, .bool true] w fun e w' => VcPost (bv yes, 0) w e w') := fun yes w => answer_any yes true w
  obtain ⟨b, o, rfl, hbl, x0, x1, x2⟩ := one_at hr
  have p1 := cell_blk (j := 1) hP rfl
  have HR : Hid ((prim1 9 h x).2 = (bv (decide (x.k = 3)), 0)) := by show _ = _; simp [prim1]
  rw [HR.out]
  clear hr hP HR
  go_enter Try.func65, Try.ntmps65
  go_wp2_with fail
  refine (HAN.out _ _).mono ?_
  rintro e w2 ⟨rfl, hb2⟩
  have k2 := blk_keep hk0 hb2 (by simp)
  have hbw2 := hb0.trans (hb2.mono hb0.size)
  have c0 := cell_blk (j := 0) k2 rfl
  have c1 := cell_blk (j := 1) k2 rfl
  have c2 := cell_blk (j := 2) k2 rfl
  have f0 := frozen_blk k2 0
  have f1 := frozen_blk k2 1
  have f2 := frozen_blk k2 2
  have KF : Hid (_ = some (Obj.cells #[.int .i64 0, .int .i64 0, .string ⟨#[]⟩] 29)) := k2
  have HBF : Hid (Below w.heap.size w _) := hbw2
  clear k2 hbw2 hb2 hk0 hb0
  go_wp2
  refine bodyPost_ret (res_ct rfl _ _ w.heap.size _ _ _ rfl (put_blk _ _ _ KF.out)) rfl ?_
  exact ⟨rfl, put_below HBF.out (Nat.le_refl _) _ _ _⟩
set_option maxRecDepth 100000 in
set_option maxHeartbeats 2000000 in
theorem isPair_any (bp : Nat) (hv : Value) (aa : Option Addr) (ca : Nat) (h : List Cel) (x : Val) (w : World) (hP : w.heap[bp]? = some (.cells #[hv, .slice aa 1 ca] 52 (0, 0))) (hr : RowV w w.heap.size aa [x]) :
    Calls Try.prog 66 #[.pointer (some ⟨bp, 0, none⟩)] w fun e w' => VcPost (prim1 10 h x).2 w e w' := by
  have hb0 : Below w.heap.size w (w.alloc (Obj.cells #[.int .i64 0, .int .i64 0, .string ⟨#[]⟩] 29)) := (Below.refl _ _).alloc (Nat.le_refl _) _
  have hk0 : (w.alloc (Obj.cells #[.int .i64 0, .int .i64 0, .string ⟨#[]⟩] 29)).heap[w.heap.size]? = some (Obj.cells #[.int .i64 0, .int .i64 0, .string ⟨#[]⟩] 29) := blk_at _ _ _ rfl
  have hbp : bp < w.heap.size := (Array.getElem?_eq_some_iff.1 hP).1
  have HAN : Hid (∀ yes w, Calls Try.prog 74 #[.bool yes, .bool true] w fun e w' => VcPost (bv yes, 0) w e w') := fun yes w => answer_any yes true w
  obtain ⟨b, o, rfl, hbl, x0, x1, x2⟩ := one_at hr
  have p1 := cell_blk (j := 1) hP rfl
  have HR : Hid ((prim1 10 h x).2 = (bv (decide (x.k = 5)), 0)) := by show _ = _; simp [prim1]
  rw [HR.out]
  clear hr hP HR
  go_enter Try.func66, Try.ntmps66
  go_wp2_with fail
  refine (HAN.out _ _).mono ?_
  rintro e w2 ⟨rfl, hb2⟩
  have k2 := blk_keep hk0 hb2 (by simp)
  have hbw2 := hb0.trans (hb2.mono hb0.size)
  have c0 := cell_blk (j := 0) k2 rfl
  have c1 := cell_blk (j := 1) k2 rfl
  have c2 := cell_blk (j := 2) k2 rfl
  have f0 := frozen_blk k2 0
  have f1 := frozen_blk k2 1
  have f2 := frozen_blk k2 2
  have KF : Hid (_ = some (Obj.cells #[.int .i64 0, .int .i64 0, .string ⟨#[]⟩] 29)) := k2
  have HBF : Hid (Below w.heap.size w _) := hbw2
  clear k2 hbw2 hb2 hk0 hb0
  go_wp2
  refine bodyPost_ret (res_ct rfl _ _ w.heap.size _ _ _ rfl (put_blk _ _ _ KF.out)) rfl ?_
  exact ⟨rfl, put_below HBF.out (Nat.le_refl _) _ _ _⟩
set_option maxRecDepth 100000 in
set_option maxHeartbeats 2000000 in
theorem not_any (bp : Nat) (hv : Value) (aa : Option Addr) (ca : Nat) (h : List Cel) (x : Val) (w : World) (hP : w.heap[bp]? = some (.cells #[hv, .slice aa 1 ca] 52 (0, 0))) (hr : RowV w w.heap.size aa [x]) :
    Calls Try.prog 67 #[.pointer (some ⟨bp, 0, none⟩)] w fun e w' => VcPost (prim1 11 h x).2 w e w' := by
  have hb0 : Below w.heap.size w (w.alloc (Obj.cells #[.int .i64 0, .int .i64 0, .string ⟨#[]⟩] 29)) := (Below.refl _ _).alloc (Nat.le_refl _) _
  have hk0 : (w.alloc (Obj.cells #[.int .i64 0, .int .i64 0, .string ⟨#[]⟩] 29)).heap[w.heap.size]? = some (Obj.cells #[.int .i64 0, .int .i64 0, .string ⟨#[]⟩] 29) := blk_at _ _ _ rfl
  have hbp : bp < w.heap.size := (Array.getElem?_eq_some_iff.1 hP).1
  have HAN : Hid (∀ yes w, Calls Try.prog 74 #[.bool yes, .bool true] w fun e w' => VcPost (bv yes, 0) w e w') := fun yes w => answer_any yes true w
  have HT : Hid (∀ w, Calls Try.prog 10 #[.agg #[.int .i64 x.k, .int .i64 x.n, .string x.s]] w fun e w' => Ans w (.bool x.truth) e w') := fun w => implTruth_any x w
  obtain ⟨b, o, rfl, hbl, x0, x1, x2⟩ := one_at hr
  have p1 := cell_blk (j := 1) hP rfl
  have HR : Hid ((prim1 11 h x).2 = (bv (!x.truth), 0)) := by show _ = _; simp [prim1]
  rw [HR.out]
  clear hr hP HR
  go_enter Try.func67, Try.ntmps67
  go_wp2_with fail
  refine (HT.out _).mono ?_
  rintro e w1 ⟨rfl, hb1⟩
  have k1 := blk_keep hk0 hb1 (by simp)
  have hs1 : w.heap.size < w1.heap.size := (Array.getElem?_eq_some_iff.1 k1).1
  have hbw1 := hb0.trans (hb1.mono hb0.size)
  clear hb1 hk0 hb0
  go_wp2_with fail
  refine (HAN.out _ _).mono ?_
  rintro e w2 ⟨rfl, hb2⟩
  have k2 := blk_keep k1 hb2 hs1
  have hbw2 := hbw1.trans (hb2.mono hbw1.size)
  have c0 := cell_blk (j := 0) k2 rfl
  have c1 := cell_blk (j := 1) k2 rfl
  have c2 := cell_blk (j := 2) k2 rfl
  have f0 := frozen_blk k2 0
  have f1 := frozen_blk k2 1
  have f2 := frozen_blk k2 2
  have KF : Hid (_ = some (Obj.cells #[.int .i64 0, .int .i64 0, .string ⟨#[]⟩] 29)) := k2
  have HBF : Hid (Below w.heap.size w _) := hbw2
  clear k2 hbw2 hb2 k1 hbw1
  go_wp2
  refine bodyPost_ret (res_ct rfl _ _ w.heap.size _ _ _ rfl (put_blk _ _ _ KF.out)) rfl ?_
  exact ⟨rfl, put_below HBF.out (Nat.le_refl _) _ _ _⟩
set_option maxRecDepth 100000 in
set_option maxHeartbeats 2000000 in
theorem part_any (i : Nat) (hi : i = 0 ∨ i = 1) (bp : Nat) (ah : Option Addr) (ch : Nat) (aa : Option Addr) (ca : Nat) (h : List Cel) (x : Val) (w : World) (hP : w.heap[bp]? = some (.cells #[.slice ah h.length ch, .slice aa 1 ca] 52 (0, 0))) (hr : RowV w w.heap.size aa [x]) (hH : HeapP h) (hsm : ∀ d ∈ h, d.small) (hx : x.ok h = true) (hrh : RowC w w.heap.size ah h) :
    Calls Try.prog 75 #[.pointer (some ⟨bp, 0, none⟩), .int .i64 (i : Int)] w fun e w' => VcPost (prim1 (7 + i) h x).2 w e w' := by
  have hb0 : Below w.heap.size w (w.alloc (Obj.cells #[.int .i64 0, .int .i64 0, .string ⟨#[]⟩] 29)) := (Below.refl _ _).alloc (Nat.le_refl _) _
  have hk0 : (w.alloc (Obj.cells #[.int .i64 0, .int .i64 0, .string ⟨#[]⟩] 29)).heap[w.heap.size]? = some (Obj.cells #[.int .i64 0, .int .i64 0, .string ⟨#[]⟩] 29) := blk_at _ _ _ rfl
  have hbp : bp < w.heap.size := (Array.getElem?_eq_some_iff.1 hP).1
  obtain ⟨b, o, rfl, hbl, x0, x1, x2⟩ := one_at hr
  have p0 := cell_blk (j := 0) hP rfl
  have p1 := cell_blk (j := 1) hP rfl
  have hlen : h.length ≤ 300 := hH.1
  clear hr hP
  obtain ⟨xk, xn, xs⟩ := x
  have hbA : Below w.heap.size w ((w.alloc (Obj.cells #[.int .i64 0, .int .i64 0, .string ⟨#[]⟩] 29)).alloc (Obj.cells #[.int .i64 xk, .int .i64 xn, .string xs] 29)) := hb0.alloc (by simp) _
  by_cases hxk : xk = 5
  · subst hxk
    obtain ⟨m, c, v0, v1, rfl, hc, hvs⟩ := pair_parts hH hx
    have hml : m < h.length := (List.getElem?_eq_some_iff.1 hc).1
    obtain ⟨v, hv⟩ : ∃ v, c.vals[i]? = some v := ⟨_, List.getElem?_eq_getElem (by rw [hvs]; simp; omega)⟩
    have HR : Hid ((prim1 (7 + i) h ⟨5, m, xs⟩).2 = (v, 0)) := by
      show _ = _
      have e7 : (7 + i = 7 ∨ 7 + i = 8) := by omega
      have ei : 7 + i - 7 = i := by omega
      simp only [prim1]
      rw [if_pos e7]
      simp [partP, hc, ei, hv]
    obtain ⟨gb, go, rfl, hgl, an, cn, av, cv, -, -, -, -, -, d5, -, rv, -, -⟩ := hrh m c hc
    obtain ⟨vb, vo, rfl, hvl, u0, u1, u2⟩ := rv i v hv
    have hvl : vb < w.heap.size := hvl
    have hvlen : c.vals.length = 2 := by rw [hvs]; rfl
    rw [hvlen] at d5
    have HCV : Hid (∀ w, Calls Try.prog 53 #[.agg #[.int .i64 v.k, .int .i64 v.n, .string v.s]] w fun e w' => Ans w (.agg #[.int .i64 v.k, .int .i64 v.n, .string v.s]) e w') := fun w => copyValue_any v w ((hsm c (List.mem_of_getElem? hc)).2.2.2.2.2.2.2 v (List.mem_of_getElem? hv)).2.2
    have hk2 : ((w.alloc (Obj.cells #[.int .i64 0, .int .i64 0, .string ⟨#[]⟩] 29)).alloc (Obj.cells #[.int .i64 5, .int .i64 m, .string xs] 29)).heap[w.heap.size]? = some (Obj.cells #[.int .i64 0, .int .i64 0, .string ⟨#[]⟩] 29) := blk_past hk0
    have hml2 : (m : Int) < (h.length : Int) := by omega
    have hi2 : (i : Int) < 2 := by omega
    have hi0 : (0 : Int) ≤ (i : Int) := by omega
    rw [HR.out]
    clear HR hx hrh hc hvs hv hvlen hsm
    go_enter Try.func75, Try.ntmps75
    go_wp2_with fail
    go_region_with (go_at_call 53; refine (HCV.out _).mono ?_; rintro e w1 ⟨rfl, hb1⟩; (have k1 : w1.heap[w.heap.size]? = some (Obj.cells #[.int .i64 0, .int .i64 0, .string ⟨#[]⟩] 29) := ?_); rotate_left; (refine (hb1.block w.heap.size ?_).trans hk2; show w.heap.size < ((w.heap.push _).push _).size; rw [Array.size_push, Array.size_push]; omega); have g0 := cell_blk (j := 0) k1 rfl; have g1 := cell_blk (j := 1) k1 rfl; have g2 := cell_blk (j := 2) k1 rfl; have z0 := frozen_blk k1 0; have z1 := frozen_blk k1 1; have z2 := frozen_blk k1 2)
    all_goals
      have HB2 : Hid (Below w.heap.size w w1) := (below_drewN hbA 1).trans (hb1.mono (by show w.heap.size ≤ ((w.heap.push _).push _).size; rw [Array.size_push, Array.size_push]; omega))
      have K1 : Hid (w1.heap[w.heap.size]? = some (Obj.cells #[.int .i64 0, .int .i64 0, .string ⟨#[]⟩] 29)) := k1
      clear hb1
      go_wp2
      refine bodyPost_ret (res_ct rfl _ _ w.heap.size _ _ _ rfl (put_blk _ _ _ K1.out)) rfl ?_
      exact ⟨rfl, put_below HB2.out (Nat.le_refl _) _ _ _⟩
  · have HR : Hid ((prim1 (7 + i) h ⟨xk, xn, xs⟩).2 = (zv, 2)) := by
      show _ = _
      have e7 : (7 + i = 7 ∨ 7 + i = 8) := by omega
      simp only [prim1]
      rw [if_pos e7, if_neg hxk]
    have q1 : (xk != 5) = true := by rw [bne_iff_ne]; exact hxk
    rw [HR.out]
    clear HR hx hxk hrh hsm
    go_enter Try.func75, Try.ntmps75
    go_wp2
    refine bodyPost_ret (res_ct rfl _ _ w.heap.size (.int .i64 0) (.int .i64 0) (.string ⟨#[]⟩) rfl (blk_past (blk_at _ _ _ rfl))) rfl ?_
    exact ⟨rfl, hb0.alloc (by simp) _⟩
set_option maxRecDepth 100000 in
set_option maxHeartbeats 2000000 in
theorem car_any (bp : Nat) (ah : Option Addr) (ch : Nat) (aa : Option Addr) (ca : Nat) (h : List Cel) (x : Val) (w : World) (hP : w.heap[bp]? = some (.cells #[.slice ah h.length ch, .slice aa 1 ca] 52 (0, 0))) (hr : RowV w w.heap.size aa [x]) (hH : HeapP h) (hsm : ∀ d ∈ h, d.small) (hx : x.ok h = true) (hrh : RowC w w.heap.size ah h) :
    Calls Try.prog 63 #[.pointer (some ⟨bp, 0, none⟩)] w fun e w' => VcPost (prim1 7 h x).2 w e w' := by
  have hb0 : Below w.heap.size w (w.alloc (Obj.cells #[.int .i64 0, .int .i64 0, .string ⟨#[]⟩] 29)) := (Below.refl _ _).alloc (Nat.le_refl _) _
  have hk0 : (w.alloc (Obj.cells #[.int .i64 0, .int .i64 0, .string ⟨#[]⟩] 29)).heap[w.heap.size]? = some (Obj.cells #[.int .i64 0, .int .i64 0, .string ⟨#[]⟩] 29) := blk_at _ _ _ rfl
  have hbp : bp < w.heap.size := (Array.getElem?_eq_some_iff.1 hP).1
  have HPA : Hid (Calls Try.prog 75 #[.pointer (some ⟨bp, 0, none⟩), .int .i64 0] (w.alloc (Obj.cells #[.int .i64 0, .int .i64 0, .string ⟨#[]⟩] 29)) fun e w' => VcPost (prim1 7 h x).2 (w.alloc (Obj.cells #[.int .i64 0, .int .i64 0, .string ⟨#[]⟩] 29)) e w') := part_any 0 (by omega) bp ah ch aa ca h x _ (blk_past hP) ((hr.below hb0).mono hb0.size) hH hsm hx ((hrh.below hb0).mono hb0.size)
  generalize (prim1 7 h x).2 = r at *
  clear hP hr hH hsm hx hrh
  go_enter Try.func63, Try.ntmps63
  go_wp2_with fail
  refine HPA.out.mono ?_
  rintro e w2 ⟨rfl, hb2⟩
  have k2 := blk_keep hk0 hb2 (by simp)
  have hbw2 := hb0.trans (hb2.mono hb0.size)
  have c0 := cell_blk (j := 0) k2 rfl
  have c1 := cell_blk (j := 1) k2 rfl
  have c2 := cell_blk (j := 2) k2 rfl
  have f0 := frozen_blk k2 0
  have f1 := frozen_blk k2 1
  have f2 := frozen_blk k2 2
  have KF : Hid (_ = some (Obj.cells #[.int .i64 0, .int .i64 0, .string ⟨#[]⟩] 29)) := k2
  have HBF : Hid (Below w.heap.size w _) := hbw2
  clear k2 hbw2 hb2 hk0 hb0
  go_wp2
  refine bodyPost_ret (res_ct rfl _ _ w.heap.size _ _ _ rfl (put_blk _ _ _ KF.out)) rfl ?_
  exact ⟨rfl, put_below HBF.out (Nat.le_refl _) _ _ _⟩
set_option maxRecDepth 100000 in
set_option maxHeartbeats 2000000 in
theorem cdr_any (bp : Nat) (ah : Option Addr) (ch : Nat) (aa : Option Addr) (ca : Nat) (h : List Cel) (x : Val) (w : World) (hP : w.heap[bp]? = some (.cells #[.slice ah h.length ch, .slice aa 1 ca] 52 (0, 0))) (hr : RowV w w.heap.size aa [x]) (hH : HeapP h) (hsm : ∀ d ∈ h, d.small) (hx : x.ok h = true) (hrh : RowC w w.heap.size ah h) :
    Calls Try.prog 64 #[.pointer (some ⟨bp, 0, none⟩)] w fun e w' => VcPost (prim1 8 h x).2 w e w' := by
  have hb0 : Below w.heap.size w (w.alloc (Obj.cells #[.int .i64 0, .int .i64 0, .string ⟨#[]⟩] 29)) := (Below.refl _ _).alloc (Nat.le_refl _) _
  have hk0 : (w.alloc (Obj.cells #[.int .i64 0, .int .i64 0, .string ⟨#[]⟩] 29)).heap[w.heap.size]? = some (Obj.cells #[.int .i64 0, .int .i64 0, .string ⟨#[]⟩] 29) := blk_at _ _ _ rfl
  have hbp : bp < w.heap.size := (Array.getElem?_eq_some_iff.1 hP).1
  have HPA : Hid (Calls Try.prog 75 #[.pointer (some ⟨bp, 0, none⟩), .int .i64 1] (w.alloc (Obj.cells #[.int .i64 0, .int .i64 0, .string ⟨#[]⟩] 29)) fun e w' => VcPost (prim1 8 h x).2 (w.alloc (Obj.cells #[.int .i64 0, .int .i64 0, .string ⟨#[]⟩] 29)) e w') := part_any 1 (by omega) bp ah ch aa ca h x _ (blk_past hP) ((hr.below hb0).mono hb0.size) hH hsm hx ((hrh.below hb0).mono hb0.size)
  generalize (prim1 8 h x).2 = r at *
  clear hP hr hH hsm hx hrh
  go_enter Try.func64, Try.ntmps64
  go_wp2_with fail
  refine HPA.out.mono ?_
  rintro e w2 ⟨rfl, hb2⟩
  have k2 := blk_keep hk0 hb2 (by simp)
  have hbw2 := hb0.trans (hb2.mono hb0.size)
  have c0 := cell_blk (j := 0) k2 rfl
  have c1 := cell_blk (j := 1) k2 rfl
  have c2 := cell_blk (j := 2) k2 rfl
  have f0 := frozen_blk k2 0
  have f1 := frozen_blk k2 1
  have f2 := frozen_blk k2 2
  have KF : Hid (_ = some (Obj.cells #[.int .i64 0, .int .i64 0, .string ⟨#[]⟩] 29)) := k2
  have HBF : Hid (Below w.heap.size w _) := hbw2
  clear k2 hbw2 hb2 hk0 hb0
  go_wp2
  refine bodyPost_ret (res_ct rfl _ _ w.heap.size _ _ _ rfl (put_blk _ _ _ KF.out)) rfl ?_
  exact ⟨rfl, put_below HBF.out (Nat.le_refl _) _ _ _⟩
end Go.Proofs.Ytngelfohpkpekaa
