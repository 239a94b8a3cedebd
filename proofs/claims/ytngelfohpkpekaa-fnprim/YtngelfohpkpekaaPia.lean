/- The program's primitives: what comes of numbers, of yes and no. -/
import Derived.Test.YtngelfohpkpekaaPmp
import Derived.Test.YtngelfohpkpekaaCpx
import Derived.Deep.RegionWith
import Derived.Deep.CutRange
import Derived.Deep.RegionHeld3
set_option linter.unusedVariables false
namespace Go.Proofs.Ytngelfohpkpekaa
open Go.ChangeShapes Go.WideShapes Go.ChangeAt Go.RowKit
set_option maxRecDepth 100000 in
set_option maxHeartbeats 1000000 in
theorem number_any (n : Int) (are : Bool) (w : World) : Calls Try.prog 73 #[.int .i64 n, .bool are] w fun e w' => VcPost (if are = true then numR n else (zv, 2)) w e w' := by
  have hb : Below w.heap.size w (w.alloc (Obj.cells #[.int .i64 0, .int .i64 0, .string ⟨#[]⟩] 29)) := (Below.refl _ _).alloc (Nat.le_refl _) _
  cases are with
  | false =>
    have HR : Hid ((if false = true then numR n else (zv, 2)) = (zv, 2)) := rfl
    rw [HR.out]
    go_enter Try.func73, Try.ntmps73
    go_wp2
    refine bodyPost_ret (res_ct rfl _ _ w.heap.size (.int .i64 0) (.int .i64 0) (.string ⟨#[]⟩) rfl (blk_at _ _ _ rfl)) rfl ?_
    exact ⟨rfl, (Below.refl _ _).alloc (Nat.le_refl _) _⟩
  | true =>
    have HR : Hid ((if true = true then numR n else (zv, 2)) = numR n) := rfl
    rw [HR.out]
    by_cases h1 : n < -1000000
    · have HN : Hid (numR n = (zv, 3)) := by show _ = _; unfold numR inW; rw [if_neg (by simp; omega)]
      have d1 : decide (n < -1000000) = true := by simpa using h1
      rw [HN.out]
      go_enter Try.func73, Try.ntmps73
      go_wp2
      refine bodyPost_ret (res_ct rfl _ _ w.heap.size (.int .i64 0) (.int .i64 0) (.string ⟨#[]⟩) rfl (blk_at _ _ _ rfl)) rfl ?_
      exact ⟨rfl, (Below.refl _ _).alloc (Nat.le_refl _) _⟩
    · by_cases h2 : 1000000 < n
      · have HN : Hid (numR n = (zv, 3)) := by show _ = _; unfold numR inW; rw [if_neg (by simp; omega)]
        have d1 : decide (n < -1000000) = false := by simpa using h1
        have d2 : decide (1000000 < n) = true := by simpa using h2
        rw [HN.out]
        go_enter Try.func73, Try.ntmps73
        go_wp2
        refine bodyPost_ret (res_ct rfl _ _ w.heap.size (.int .i64 0) (.int .i64 0) (.string ⟨#[]⟩) rfl (blk_at _ _ _ rfl)) rfl ?_
        exact ⟨rfl, (Below.refl _ _).alloc (Nat.le_refl _) _⟩
      · have HN : Hid (numR n = (⟨1, n, ⟨#[]⟩⟩, 0)) := by show _ = _; unfold numR inW; rw [if_pos (by simp; omega)]
        have d1 : decide (n < -1000000) = false := by simpa using h1
        have d2 : decide (1000000 < n) = false := by simpa using h2
        rw [HN.out]
        go_enter Try.func73, Try.ntmps73
        go_wp2
        refine bodyPost_ret (res_ct rfl _ _ w.heap.size (.int .i64 1) (.int .i64 n) (.string ⟨#[]⟩) rfl (blk_at _ _ _ rfl)) rfl ?_
        exact ⟨rfl, (Below.refl _ _).alloc (Nat.le_refl _) _⟩
set_option maxRecDepth 100000 in
set_option maxHeartbeats 1000000 in
theorem answer_any (yes asked : Bool) (w : World) : Calls Try.prog 74 #[.bool yes, .bool asked] w fun e w' => VcPost (if asked = true then (bv yes, 0) else (zv, 2)) w e w' := by
  have hbf : ∀ o o', Below w.heap.size w ((w.alloc o).alloc o') := fun o o' => ((Below.refl _ _).alloc (Nat.le_refl _) _).alloc (by simp) _
  cases asked with
  | false =>
    go_enter Try.func74, Try.ntmps74
    go_wp2
    refine bodyPost_ret (res_ct rfl _ _ w.heap.size (.int .i64 0) (.int .i64 0) (.string ⟨#[]⟩) rfl (blk_past (blk_at _ _ _ rfl))) rfl ?_
    exact ⟨rfl, hbf _ _⟩
  | true =>
    cases yes with
    | false =>
      go_enter Try.func74, Try.ntmps74
      go_wp2
      refine bodyPost_ret (res_ct rfl _ _ w.heap.size (.int .i64 2) (.int .i64 0) (.string ⟨#[]⟩) rfl (blk_past (blk_at _ _ _ rfl))) rfl ?_
      exact ⟨rfl, hbf _ _⟩
    | true =>
      go_enter Try.func74, Try.ntmps74
      go_wp2
      refine bodyPost_ret (res_ct rfl _ _ w.heap.size (.int .i64 2) (.int .i64 1) (.string ⟨#[]⟩) rfl (blk_past (blk_at _ _ _ rfl))) rfl ?_
      exact ⟨rfl, hbf _ _⟩
/-- Two values that lie in a row. -/
theorem two_at {w : World} {B : Nat} {aa : Option Addr} {x y : Val} (hr : RowV w B aa [x, y]) : ∃ b o, aa = some ⟨b, o, none⟩ ∧ b < B ∧ ValAt w b o x ∧ ValAt w b (o + 3) y := by
  obtain ⟨b, o, rfl, hbl, x0, x1, x2⟩ := hr 0 x rfl
  rw [Nat.zero_mul, Nat.add_zero] at x0 x1 x2
  obtain ⟨b', o', e', -, y0, y1, y2⟩ := hr 1 y rfl
  simp only [Option.some.injEq, Addr.mk.injEq, and_true] at e'
  obtain ⟨rfl, rfl⟩ := e'
  rw [Nat.one_mul] at y0 y1 y2
  exact ⟨b, o, rfl, hbl, ⟨x0, x1, x2⟩, y0, y1, y2⟩
/-- What numbers tells. -/
def NuPost (x y : Val) (w : World) (e : Ending) (w' : World) : Prop := (if x.k = 1 ∧ y.k = 1 then e = .returned (.tuple #[.int .i32 x.n, .int .i32 y.n, .bool true]) else e = .returned (.tuple #[.int .i32 0, .int .i32 0, .bool false])) ∧ Below w.heap.size w w'
set_option maxRecDepth 100000 in
set_option maxHeartbeats 2000000 in
theorem numbers_any (bp : Nat) (hv : Value) (aa : Option Addr) (ca : Nat) (x y : Val) (w : World) (hP : w.heap[bp]? = some (.cells #[hv, .slice aa 2 ca] 52 (0, 0))) (hr : RowV w w.heap.size aa [x, y]) (hx : x.k = 1 → -1000000 ≤ x.n ∧ x.n ≤ 1000000) (hy : y.k = 1 → -1000000 ≤ y.n ∧ y.n ≤ 1000000) :
    Calls Try.prog 72 #[.pointer (some ⟨bp, 0, none⟩)] w fun e w' => NuPost x y w e w' := by
  obtain ⟨b, o, rfl, hbl, ⟨x0, x1, x2⟩, y0, y1, y2⟩ := two_at hr
  have p1 : w.cell? ⟨bp, 1, none⟩ = some (.slice (some ⟨b, o, none⟩) 2 ca) := cell_blk (j := 1) hP rfl
  have hbp : bp < w.heap.size := (Array.getElem?_eq_some_iff.1 hP).1
  have hS : ∀ W, Below w.heap.size w W → Below w.heap.size w W ∧ W.cell? ⟨bp, 1, none⟩ = some (.slice (some ⟨b, o, none⟩) 2 ca) ∧ W.cell? ⟨b, o, none⟩ = some (.int .i64 x.k) ∧ W.cell? ⟨b, o + 1, none⟩ = some (.int .i64 x.n) ∧ W.cell? ⟨b, o + 2, none⟩ = some (.string x.s) ∧ W.cell? ⟨b, o + 3, none⟩ = some (.int .i64 y.k) ∧ W.cell? ⟨b, o + 3 + 1, none⟩ = some (.int .i64 y.n) ∧ W.cell? ⟨b, o + 3 + 2, none⟩ = some (.string y.s) := fun W hb => ⟨hb, cell_keep p1 hb hbp, cell_keep x0 hb hbl, cell_keep x1 hb hbl, cell_keep x2 hb hbl, cell_keep y0 hb hbl, cell_keep y1 hb hbl, cell_keep y2 hb hbl⟩
  have HX : Hid (x.k = 1 → -1000000 ≤ x.n ∧ x.n ≤ 1000000) := hx
  have HY : Hid (y.k = 1 → -1000000 ≤ y.n ∧ y.n ≤ 1000000) := hy
  clear hr hP hx hy
  go_enter Try.func72, Try.ntmps72
  go_wp2_with fail
  go_cut [5, 6] from 7 to 18 (fun p q wx => ∃ g k, p = .pointer (some ⟨g, 0, none⟩) ∧ q = .pointer (some ⟨k, 0, none⟩) ∧ wx.heap[g]? = some (Obj.cells #[.int .i64 x.k, .int .i64 x.n, .string x.s] 29) ∧ wx.heap[k]? = some (Obj.cells #[.int .i64 y.k, .int .i64 y.n, .string y.s] 29) ∧ Below w.heap.size w wx)
  case first =>
    go_region_held3 (fun w' => Below w.heap.size w w' ∧ w'.cell? ⟨bp, 1, none⟩ = some (.slice (some ⟨b, o, none⟩) 2 ca) ∧ w'.cell? ⟨b, o, none⟩ = some (.int .i64 x.k) ∧ w'.cell? ⟨b, o + 1, none⟩ = some (.int .i64 x.n) ∧ w'.cell? ⟨b, o + 2, none⟩ = some (.string x.s) ∧ w'.cell? ⟨b, o + 3, none⟩ = some (.int .i64 y.k) ∧ w'.cell? ⟨b, o + 3 + 1, none⟩ = some (.int .i64 y.n) ∧ w'.cell? ⟨b, o + 3 + 2, none⟩ = some (.string y.s))
      (first | (refine hS _ ?_; exact below_drewN (Below.refl _ _) 1) | (refine hS _ ?_; exact below_drewN ((Below.refl _ _).alloc (Nat.le_refl _) _) 1) | (refine hS _ ?_; exact below_drewN (((Below.refl _ _).alloc (Nat.le_refl _) _).alloc (by simp) _) 1))
      (fail)
    all_goals go_wp2_with fail
    all_goals go_meet
    all_goals
      first
        | exact ⟨w.heap.size, w.heap.size + 1, rfl, rfl, blk_past (blk_at _ _ _ rfl), blk_at _ _ _ (by simp), below_drewN (((Below.refl _ _).alloc (Nat.le_refl _) _).alloc (by simp) _) 1⟩
        | exact ⟨w.heap.size + 1, w.heap.size, rfl, rfl, blk_at _ _ _ (by simp), blk_past (blk_at _ _ _ rfl), below_drewN (((Below.refl _ _).alloc (Nat.le_refl _) _).alloc (by simp) _) 1⟩
  case rest =>
    obtain ⟨g, k, rfl, rfl, kg, kk, hbw⟩ := hcut
    have HB : Hid (Below w.heap.size w wc) := hbw
    have c0 := cell_blk (j := 0) kg rfl
    have c1 := cell_blk (j := 1) kg rfl
    have d0 := cell_blk (j := 0) kk rfl
    have d1 := cell_blk (j := 1) kk rfl
    clear hS p1 x0 x1 x2 y0 y1 y2 kg kk hbw
    obtain ⟨xk, xn, xs⟩ := x
    obtain ⟨yk, yn, ys⟩ := y
    by_cases hxk : xk = 1
    · subst hxk
      by_cases hyk : yk = 1
      · subst hyk
        obtain ⟨h1, h2⟩ := HX.out rfl
        obtain ⟨h3, h4⟩ := HY.out rfl
        have HQ : Hid (∀ W, Below w.heap.size w W → NuPost ⟨1, xn, xs⟩ ⟨1, yn, ys⟩ w (.returned (.tuple #[.int .i32 xn, .int .i32 yn, .bool true])) W) := fun W hb => ⟨by rw [if_pos ⟨rfl, rfl⟩], hb⟩
        clear HX HY
        go_wp2_with fail
        go_region
        all_goals go_wp2
        all_goals go_ret3
        all_goals exact HQ.out _ (by first | exact below_drewN HB.out 1 | exact HB.out)
      · have q2 : (yk != 1) = true := by rw [bne_iff_ne]; exact hyk
        have HQ : Hid (∀ W, Below w.heap.size w W → NuPost ⟨1, xn, xs⟩ ⟨yk, yn, ys⟩ w (.returned (.tuple #[.int .i32 0, .int .i32 0, .bool false])) W) := fun W hb => ⟨by rw [if_neg (fun h => hyk h.2)], hb⟩
        clear HX HY hyk
        go_wp2
        go_ret3
        exact HQ.out _ HB.out
    · have q1 : (xk != 1) = true := by rw [bne_iff_ne]; exact hxk
      have HQ : Hid (∀ W, Below w.heap.size w W → NuPost ⟨xk, xn, xs⟩ ⟨yk, yn, ys⟩ w (.returned (.tuple #[.int .i32 0, .int .i32 0, .bool false])) W) := fun W hb => ⟨by rw [if_neg (fun h => hxk h.1)], hb⟩
      clear HX HY hxk
      go_wp2
      go_ret3
      exact HQ.out _ HB.out
end Go.Proofs.Ytngelfohpkpekaa
