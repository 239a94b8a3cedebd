/- Draws: one of some numbers, a value of a heap. -/
import Derived.Test.YtkbpnjigoipgeaaDoorCux
import Derived.Test.YtkbpnjigoipgeaaDoorCpa
set_option linter.unusedVariables false
namespace Go.Proofs.YtkbpnjigoipgeaaDoor
open Go.ChangeShapes Go.WideShapes Go.ChangeAt Go.RowKit
open Cu (Cw Code1 CurS)
theorem put_blk {w : World} {g : Nat} {x0 x1 x2 : Value} (v0 v1 v2 : Value) (h : w.heap[g]? = some (.cells #[x0, x1, x2] 26 (0, 0))) : (((w.setCell ⟨g, 0, none⟩ v0).setCell ⟨g, 1, none⟩ v1).setCell ⟨g, 2, none⟩ v2).heap[g]? = some (.cells #[v0, v1, v2] 26 (0, 0)) :=
  heap_setCell_same _ _ _ _ _ _ (heap_setCell_same _ _ _ _ _ _ (heap_setCell_same _ _ _ _ _ _ h))
theorem Cw_lit {W W' : World} {c : Nat} {d : Code1} {o : Obj} (h : Cw (W.alloc o) c d W') (hc : c < W.heap.size) : Cw W c d W' := by
  obtain ⟨hs, hg, hl⟩ := h
  refine ⟨hs, ⟨hg.os, hg.tape, hg.output, Nat.le_trans (by simp) hg.size, fun i hi hn => (hg.block i (by simp; omega) hn).trans ?_⟩, hc⟩
  show (Array.push _ _)[i]? = _
  rw [Array.getElem?_push_lt hi, Array.getElem?_eq_getElem hi]
theorem Cw_self {W : World} {c : Nat} {d : Code1} (h : ∃ s, CurS W c d s) (hc : c < W.heap.size) : Cw W c d W := ⟨h, ⟨rfl, rfl, rfl, Nat.le_refl _, fun _ _ _ => rfl⟩, hc⟩
theorem Cw_trans {W W1 W2 : World} {c : Nat} {d : Code1} (h : Cw W c d W1) (g : Cw W1 c d W2) : Cw W c d W2 := ⟨g.1, Cu.grownBy_trans h.2.1 g.2.1, h.2.2⟩
theorem Cw_set {W W' : World} {c b j : Nat} {d : Code1} {v : Value} (h : Cw W c d W') (hb : W.heap.size ≤ b) : Cw W c d (W'.setCell ⟨b, j, none⟩ v) := by
  obtain ⟨⟨s, hs⟩, hg, hl⟩ := h
  refine ⟨⟨s, Cu.cur_blocks hs fun k hk => heap_setCell_other _ _ _ _ (by show k ≠ b; omega)⟩, ⟨hg.os, hg.tape, hg.output, by simpa using hg.size, fun i hi hn => (heap_setCell_other _ _ _ _ (by show i ≠ b; omega)).trans (hg.block i hi hn)⟩, hl⟩
theorem Cw_blk {W W' : World} {c b : Nat} {d : Code1} {o : Obj} (h : Cw W c d W') (hk : W.heap[b]? = some o) (hb : b ≠ c) : W'.heap[b]? = some o :=
  (h.2.1.block b (Array.getElem?_eq_some_iff.1 hk).1 (fun e => hb (Option.some.inj e))).trans hk
theorem Cw_cell {W W' : World} {c b j : Nat} {d : Code1} {v : Value} (h : Cw W c d W') (hk : W.cell? ⟨b, j, none⟩ = some v) (hb : b ≠ c) : W'.cell? ⟨b, j, none⟩ = some v :=
  (World.cell?_of_block (w := W) (a := ⟨b, j, none⟩) (h.2.1.block b (Cu.cell_lt hk) (fun e => hb (Option.some.inj e)))).trans hk
set_option maxRecDepth 100000 in
set_option maxHeartbeats 1000000 in
/-- One of some numbers, laid just now. -/
theorem pickI_cw (L : List Int) (w : World) (c : Nat) (d : Code1) (g cap : Nat) (W : World) (h : Cw w c d W) (hg : g = W.heap.size) (hL : 0 < L.length) (hL2 : L.length ≤ 256) (arr : Array Value) (harr : arr = (L.map (Value.int .i64)).toArray) : Calls Tryd.prog 30 #[.pointer (some ⟨c, 0, none⟩), .slice (some ⟨g, 0, none⟩) L.length cap] (W.alloc (.cells arr 3)) fun e W' => ∃ x, e = .returned (.int .i64 x) ∧ x ∈ L ∧ Cw w c d W' := by
  have h' := h.alloc (.cells arr 3)
  have hlt := h.lt
  have hcell : ∀ (j : Nat) (x : Int), L[j]? = some x → (W.alloc (.cells arr 3)).cell? ⟨g, j, none⟩ = some (.int .i64 x) := by
    intro j x hx
    subst hg
    rw [World.cell?_alloc_mark, harr]
    simp [hx]
  have HB : Hid (Calls Tryd.prog 26 #[.pointer (some ⟨c, 0, none⟩), .int .i64 (L.length : Int)] (W.alloc (.cells arr 3)) fun e W' => ∃ k : Nat, e = .returned (.int .i64 (k : Int)) ∧ k < L.length ∧ Cw (W.alloc (.cells arr 3)) c d W') := Cu.below_cw _ c d L.length _ (Cw_self h'.1 (by simp; omega)) hL (by omega)
  have HC : Hid (∀ (j : Nat) (x : Int), L[j]? = some x → (W.alloc (.cells arr 3)).cell? ⟨g, j, none⟩ = some (.int .i64 x)) := hcell
  have H' : Hid (Cw w c d (W.alloc (.cells arr 3))) := h'
  have hgc : g ≠ c := by omega
  clear hcell h' h harr hg
  generalize W.alloc (.cells arr 3) = WA at *
  go_enter Tryd.func30, Tryd.ntmps30
  go_wp2_with fail
  refine HB.out.mono ?_
  rintro e w2 ⟨k, rfl, hk, hc2⟩
  have hkI : (k : Int) < (L.length : Int) := by omega
  obtain ⟨x, hx⟩ : ∃ x, L[k]? = some x := ⟨_, List.getElem?_eq_getElem hk⟩
  have e0 := Cw_cell hc2 (HC.out k x hx) hgc
  have HX : Hid (x ∈ L) := List.mem_of_getElem? hx
  have HCC : Hid (Cw w c d w2) := Cw_trans H'.out hc2
  clear hx hc2
  go_wp2
  go_ret
  exact ⟨x, rfl, HX.out, HCC.out⟩
theorem alloc_cell (W : World) (o : Obj) {b : Nat} (j : Nat) (h : b < W.heap.size) : (W.alloc o).cell? ⟨b, j, none⟩ = W.cell? ⟨b, j, none⟩ := by
  refine World.cell?_of_block (w := W) (a := ⟨b, j, none⟩) ?_
  show (Array.push _ _)[b]? = _
  rw [Array.getElem?_push_lt h, Array.getElem?_eq_getElem h]
/-- A value of a small make. -/
def Val.tiny (v : Val) : Prop := -10 ≤ v.k ∧ v.k ≤ 20 ∧ -1000000 ≤ v.n ∧ v.n ≤ 1000001 ∧ v.s.size ≤ 40
/-- What is drawn: a value; nothing has turned but the cursor. -/
def VdPost (W : World) (c : Nat) (d : Code1) (e : Ending) (W' : World) : Prop := ∃ v : Val, e = .returned (.agg #[.int .i64 v.k, .int .i64 v.n, .string v.s]) ∧ v.tiny ∧ Cw W c d W'
/-- The kinds of the cells of a heap, where they lie. -/
def KindsAt (W : World) (c : Nat) (ah : Option Addr) (h : List Cel) : Prop := ∀ (k : Nat) (x : Cel), h[k]? = some x → ∃ b o, ah = some ⟨b, o, none⟩ ∧ b ≠ c ∧ b < W.heap.size ∧ W.cell? ⟨b, o + k * 6, none⟩ = some (.int .i64 x.k)
set_option maxRecDepth 100000 in
set_option maxHeartbeats 4000000 in
theorem l6Val_any (c : Nat) (d : Code1) (ah : Option Addr) (ch : Nat) (h : List Cel) (W : World) (hC : Cw W c d W) (hl : h.length ≤ 100) (hk : KindsAt W c ah h) :
    Calls Tryd.prog 27 #[.pointer (some ⟨c, 0, none⟩), .slice ah h.length ch] W fun e W' => VdPost W c d e W' := by
  have hcw : c < W.heap.size := hC.2.2
  have hk0 : (W.alloc (Obj.cells #[.int .i64 0, .int .i64 0, .string ⟨#[]⟩] 26)).heap[W.heap.size]? = some (Obj.cells #[.int .i64 0, .int .i64 0, .string ⟨#[]⟩] 26) := blk_at _ _ _ rfl
  have hC1 : Cw (W.alloc (Obj.cells #[.int .i64 0, .int .i64 0, .string ⟨#[]⟩] 26)) c d (W.alloc (Obj.cells #[.int .i64 0, .int .i64 0, .string ⟨#[]⟩] 26)) := Cw_self (hC.alloc (Obj.cells #[.int .i64 0, .int .i64 0, .string ⟨#[]⟩] 26)).1 (Nat.lt_of_lt_of_le hcw (by simp))
  have HBE : Hid (∀ (n : Nat) (V : World), 0 < n → n ≤ 1000 → Cw (W.alloc (Obj.cells #[.int .i64 0, .int .i64 0, .string ⟨#[]⟩] 26)) c d V → Calls Tryd.prog 26 #[.pointer (some ⟨c, 0, none⟩), .int .i64 (n : Int)] V fun e W' => ∃ k : Nat, e = .returned (.int .i64 (k : Int)) ∧ k < n ∧ Cw (W.alloc (Obj.cells #[.int .i64 0, .int .i64 0, .string ⟨#[]⟩] 26)) c d W') := fun n V h0 h1 hV => Cu.below_cw _ c d n V hV h0 (by omega)
  have HON : Hid (∀ (n : Nat) (V : World), 0 < n → n ≤ 1000 → Cw (W.alloc (Obj.cells #[.int .i64 0, .int .i64 0, .string ⟨#[]⟩] 26)) c d V → Calls Tryd.prog 14 #[.pointer (some ⟨c, 0, none⟩), .int .i64 (n : Int)] V fun e W' => ∃ b : Bool, e = .returned (.bool b) ∧ Cw (W.alloc (Obj.cells #[.int .i64 0, .int .i64 0, .string ⟨#[]⟩] 26)) c d W') := fun n V h0 h1 hV => Cu.once_cw _ c d n V hV h0 (by omega)
  have HK : Hid (KindsAt W c ah h) := hk
  have HC1 : Hid (Cw (W.alloc (Obj.cells #[.int .i64 0, .int .i64 0, .string ⟨#[]⟩] 26)) c d (W.alloc (Obj.cells #[.int .i64 0, .int .i64 0, .string ⟨#[]⟩] 26))) := hC1
  clear hk hC hC1
  by_cases h0 : h.length = 0
  · obtain rfl : h = [] := List.eq_nil_of_length_eq_zero h0
    simp only [List.length_nil]
    have HCX : Hid (Cw (W.alloc (Obj.cells #[.int .i64 0, .int .i64 0, .string ⟨#[]⟩] 26)) c d (W.alloc (Obj.cells #[.int .i64 0, .int .i64 0, .string ⟨#[]⟩] 26))) := HC1.out
    clear h0
    go_enter Tryd.func27, Tryd.ntmps27
    go_wp2_with fail
    refine (HBE.out 5 (W.alloc (Obj.cells #[.int .i64 0, .int .i64 0, .string ⟨#[]⟩] 26)) (by omega) (by omega) HCX.out).mono ?_
    rintro e wb ⟨k5, rfl, hk5, hcb⟩
    have HCB : Hid (Cw (W.alloc (Obj.cells #[.int .i64 0, .int .i64 0, .string ⟨#[]⟩] 26)) c d wb) := hcb
    clear hcb HCX
    obtain rfl | rfl | rfl | rfl | rfl : k5 = 0 ∨ k5 = 1 ∨ k5 = 2 ∨ k5 = 3 ∨ k5 = 4 := by omega
    · have HPI : Hid (Calls Tryd.prog 30 #[.pointer (some ⟨c, 0, none⟩), .slice (some ⟨wb.heap.size, 0, none⟩) 6 6] (wb.alloc (Obj.cells #[.int .i64 0, .int .i64 1, .int .i64 7, .int .i64 (-3), .int .i64 1000000, .int .i64 40] 3)) fun e W' => ∃ x, e = .returned (.int .i64 x) ∧ x ∈ [(0 : Int), 1, 7, -3, 1000000, 40] ∧ Cw (W.alloc (Obj.cells #[.int .i64 0, .int .i64 0, .string ⟨#[]⟩] 26)) c d W') := pickI_cw [0, 1, 7, -3, 1000000, 40] _ c d wb.heap.size 6 wb HCB.out rfl (by simp) (by simp) _ rfl
      go_wp2_with fail
      refine HPI.out.mono ?_
      rintro e wd ⟨x, rfl, hx, hcd⟩
      have HCC : Hid (Cw (W.alloc (Obj.cells #[.int .i64 0, .int .i64 0, .string ⟨#[]⟩] 26)) c d wd) := hcd
      have hxb : -1000000 ≤ x ∧ x ≤ 1000001 := by simp at hx; rcases hx with rfl | rfl | rfl | rfl | rfl | rfl <;> omega
      clear hcd HPI hx
      have k9 : wd.heap[W.heap.size]? = some (Obj.cells #[.int .i64 0, .int .i64 0, .string ⟨#[]⟩] 26) := Cw_blk HCC.out hk0 (by omega)
      have K9 : Hid (wd.heap[W.heap.size]? = some (Obj.cells #[.int .i64 0, .int .i64 0, .string ⟨#[]⟩] 26)) := k9
      have c0 := cell_blk (j := 0) k9 rfl
      have c1 := cell_blk (j := 1) k9 rfl
      have c2 := cell_blk (j := 2) k9 rfl
      have f0 := frozen_blk k9 0
      have f1 := frozen_blk k9 1
      have f2 := frozen_blk k9 2
      have HCF : Hid (Cw W c d wd) := Cw_lit HCC.out hcw
      clear k9
      go_wp2
      refine bodyPost_ret (results_cell_row rfl _ _ W.heap.size 26 #[_, _, _] (0, 0) _ rfl (put_blk _ _ _ K9.out) Tryd.underlying26 rfl (by kernel_rfl)) rfl ?_
      exact ⟨⟨1, x, ⟨#[]⟩⟩, rfl, ⟨by show (-10 : Int) ≤ 1; omega, by show (1 : Int) ≤ 20; omega, hxb.1, hxb.2, by show (0 : Nat) ≤ 40; omega⟩, Cw_set (Cw_set (Cw_set HCF.out (Nat.le_refl _)) (Nat.le_refl _)) (Nat.le_refl _)⟩
    · have HPI : Hid (Calls Tryd.prog 30 #[.pointer (some ⟨c, 0, none⟩), .slice (some ⟨wb.heap.size, 0, none⟩) 6 6] (wb.alloc (Obj.cells #[.int .i64 0, .int .i64 1, .int .i64 7, .int .i64 (-3), .int .i64 1000000, .int .i64 40] 3)) fun e W' => ∃ x, e = .returned (.int .i64 x) ∧ x ∈ [(0 : Int), 1, 7, -3, 1000000, 40] ∧ Cw (W.alloc (Obj.cells #[.int .i64 0, .int .i64 0, .string ⟨#[]⟩] 26)) c d W') := pickI_cw [0, 1, 7, -3, 1000000, 40] _ c d wb.heap.size 6 wb HCB.out rfl (by simp) (by simp) _ rfl
      go_wp2_with fail
      refine HPI.out.mono ?_
      rintro e wd ⟨x, rfl, hx, hcd⟩
      have HCC : Hid (Cw (W.alloc (Obj.cells #[.int .i64 0, .int .i64 0, .string ⟨#[]⟩] 26)) c d wd) := hcd
      have hxb : -1000000 ≤ x ∧ x ≤ 1000001 := by simp at hx; rcases hx with rfl | rfl | rfl | rfl | rfl | rfl <;> omega
      clear hcd HPI hx
      have k9 : wd.heap[W.heap.size]? = some (Obj.cells #[.int .i64 0, .int .i64 0, .string ⟨#[]⟩] 26) := Cw_blk HCC.out hk0 (by omega)
      have K9 : Hid (wd.heap[W.heap.size]? = some (Obj.cells #[.int .i64 0, .int .i64 0, .string ⟨#[]⟩] 26)) := k9
      have c0 := cell_blk (j := 0) k9 rfl
      have c1 := cell_blk (j := 1) k9 rfl
      have c2 := cell_blk (j := 2) k9 rfl
      have f0 := frozen_blk k9 0
      have f1 := frozen_blk k9 1
      have f2 := frozen_blk k9 2
      have HCF : Hid (Cw W c d wd) := Cw_lit HCC.out hcw
      clear k9
      go_wp2
      refine bodyPost_ret (results_cell_row rfl _ _ W.heap.size 26 #[_, _, _] (0, 0) _ rfl (put_blk _ _ _ K9.out) Tryd.underlying26 rfl (by kernel_rfl)) rfl ?_
      exact ⟨⟨1, x, ⟨#[]⟩⟩, rfl, ⟨by show (-10 : Int) ≤ 1; omega, by show (1 : Int) ≤ 20; omega, hxb.1, hxb.2, by show (0 : Nat) ≤ 40; omega⟩, Cw_set (Cw_set (Cw_set HCF.out (Nat.le_refl _)) (Nat.le_refl _)) (Nat.le_refl _)⟩
    · go_wp2_with fail
      refine (HBE.out 2 wb (by omega) (by omega) HCB.out).mono ?_
      rintro e wd ⟨x, rfl, hx, hcd⟩
      have HCC : Hid (Cw (W.alloc (Obj.cells #[.int .i64 0, .int .i64 0, .string ⟨#[]⟩] 26)) c d wd) := hcd
      clear hcd
      have k9 : wd.heap[W.heap.size]? = some (Obj.cells #[.int .i64 0, .int .i64 0, .string ⟨#[]⟩] 26) := Cw_blk HCC.out hk0 (by omega)
      have K9 : Hid (wd.heap[W.heap.size]? = some (Obj.cells #[.int .i64 0, .int .i64 0, .string ⟨#[]⟩] 26)) := k9
      have c0 := cell_blk (j := 0) k9 rfl
      have c1 := cell_blk (j := 1) k9 rfl
      have c2 := cell_blk (j := 2) k9 rfl
      have f0 := frozen_blk k9 0
      have f1 := frozen_blk k9 1
      have f2 := frozen_blk k9 2
      have HCF : Hid (Cw W c d wd) := Cw_lit HCC.out hcw
      clear k9
      go_wp2
      refine bodyPost_ret (results_cell_row rfl _ _ W.heap.size 26 #[_, _, _] (0, 0) _ rfl (put_blk _ _ _ K9.out) Tryd.underlying26 rfl (by kernel_rfl)) rfl ?_
      exact ⟨⟨2, x, ⟨#[]⟩⟩, rfl, ⟨by show (-10 : Int) ≤ 2; omega, by show (2 : Int) ≤ 20; omega, by show (-1000000 : Int) ≤ x; omega, by show (x : Int) ≤ 1000001; omega, by show (0 : Nat) ≤ 40; omega⟩, Cw_set (Cw_set (Cw_set HCF.out (Nat.le_refl _)) (Nat.le_refl _)) (Nat.le_refl _)⟩
    · have HCC : Hid (Cw (W.alloc (Obj.cells #[.int .i64 0, .int .i64 0, .string ⟨#[]⟩] 26)) c d wb) := HCB.out
      have k9 : wb.heap[W.heap.size]? = some (Obj.cells #[.int .i64 0, .int .i64 0, .string ⟨#[]⟩] 26) := Cw_blk HCC.out hk0 (by omega)
      have K9 : Hid (wb.heap[W.heap.size]? = some (Obj.cells #[.int .i64 0, .int .i64 0, .string ⟨#[]⟩] 26)) := k9
      have c0 := cell_blk (j := 0) k9 rfl
      have c1 := cell_blk (j := 1) k9 rfl
      have c2 := cell_blk (j := 2) k9 rfl
      have f0 := frozen_blk k9 0
      have f1 := frozen_blk k9 1
      have f2 := frozen_blk k9 2
      have HCF : Hid (Cw W c d wb) := Cw_lit HCC.out hcw
      clear k9
      go_wp2
      refine bodyPost_ret (results_cell_row rfl _ _ W.heap.size 26 #[_, _, _] (0, 0) _ rfl (put_blk _ _ _ K9.out) Tryd.underlying26 rfl (by kernel_rfl)) rfl ?_
      exact ⟨⟨3, 0, ⟨#[]⟩⟩, rfl, ⟨by decide, by decide, by decide, by decide, by decide⟩, Cw_set (Cw_set (Cw_set HCF.out (Nat.le_refl _)) (Nat.le_refl _)) (Nat.le_refl _)⟩
    · have HPS : Hid (Calls Tryd.prog 31 #[.pointer (some ⟨c, 0, none⟩), .slice (some ⟨wb.heap.size, 0, none⟩) 3 3] (wb.alloc (Obj.cells #[.string ⟨#[97]⟩, .string ⟨#[120]⟩, .string ⟨#[105, 102]⟩] 9)) fun e W' => ∃ t, e = .returned (.string t) ∧ t.size ≤ 40 ∧ Cw (W.alloc (Obj.cells #[.int .i64 0, .int .i64 0, .string ⟨#[]⟩] 26)) c d W') := Cu.pick_cw [⟨#[97]⟩, ⟨#[120]⟩, ⟨#[105, 102]⟩] _ c d wb.heap.size 3 wb HCB.out rfl (by simp) (by simp) _ rfl (by intro x hx; simp at hx; rcases hx with rfl | rfl | rfl <;> decide)
      go_wp2_with fail
      refine HPS.out.mono ?_
      rintro e wd ⟨x, rfl, hx, hcd⟩
      have HCC : Hid (Cw (W.alloc (Obj.cells #[.int .i64 0, .int .i64 0, .string ⟨#[]⟩] 26)) c d wd) := hcd
      clear hcd HPS
      have k9 : wd.heap[W.heap.size]? = some (Obj.cells #[.int .i64 0, .int .i64 0, .string ⟨#[]⟩] 26) := Cw_blk HCC.out hk0 (by omega)
      have K9 : Hid (wd.heap[W.heap.size]? = some (Obj.cells #[.int .i64 0, .int .i64 0, .string ⟨#[]⟩] 26)) := k9
      have c0 := cell_blk (j := 0) k9 rfl
      have c1 := cell_blk (j := 1) k9 rfl
      have c2 := cell_blk (j := 2) k9 rfl
      have f0 := frozen_blk k9 0
      have f1 := frozen_blk k9 1
      have f2 := frozen_blk k9 2
      have HCF : Hid (Cw W c d wd) := Cw_lit HCC.out hcw
      clear k9
      go_wp2
      refine bodyPost_ret (results_cell_row rfl _ _ W.heap.size 26 #[_, _, _] (0, 0) _ rfl (put_blk _ _ _ K9.out) Tryd.underlying26 rfl (by kernel_rfl)) rfl ?_
      exact ⟨⟨4, 0, x⟩, rfl, ⟨by show (-10 : Int) ≤ 4; omega, by show (4 : Int) ≤ 20; omega, by show (-1000000 : Int) ≤ 0; omega, by show (0 : Int) ≤ 1000001; omega, hx⟩, Cw_set (Cw_set (Cw_set HCF.out (Nat.le_refl _)) (Nat.le_refl _)) (Nat.le_refl _)⟩
  · have hpos : (0 : Int) < (h.length : Int) := by omega
    have hposN : 0 < h.length := by omega
    clear h0
    go_enter Tryd.func27, Tryd.ntmps27
    go_wp2_with fail
    refine (HON.out 2 _ (by omega) (by omega) HC1.out).mono ?_
    rintro e wa ⟨ob, rfl, hca⟩
    have HCA : Hid (Cw (W.alloc (Obj.cells #[.int .i64 0, .int .i64 0, .string ⟨#[]⟩] 26)) c d wa) := hca
    clear hca
    cases ob with
    | false =>
      have HCX : Hid (Cw (W.alloc (Obj.cells #[.int .i64 0, .int .i64 0, .string ⟨#[]⟩] 26)) c d wa) := HCA.out
      go_wp2_with fail
      refine (HBE.out 5 wa (by omega) (by omega) HCX.out).mono ?_
      rintro e wb ⟨k5, rfl, hk5, hcb⟩
      have HCB : Hid (Cw (W.alloc (Obj.cells #[.int .i64 0, .int .i64 0, .string ⟨#[]⟩] 26)) c d wb) := hcb
      clear hcb HCX
      obtain rfl | rfl | rfl | rfl | rfl : k5 = 0 ∨ k5 = 1 ∨ k5 = 2 ∨ k5 = 3 ∨ k5 = 4 := by omega
      · have HPI : Hid (Calls Tryd.prog 30 #[.pointer (some ⟨c, 0, none⟩), .slice (some ⟨wb.heap.size, 0, none⟩) 6 6] (wb.alloc (Obj.cells #[.int .i64 0, .int .i64 1, .int .i64 7, .int .i64 (-3), .int .i64 1000000, .int .i64 40] 3)) fun e W' => ∃ x, e = .returned (.int .i64 x) ∧ x ∈ [(0 : Int), 1, 7, -3, 1000000, 40] ∧ Cw (W.alloc (Obj.cells #[.int .i64 0, .int .i64 0, .string ⟨#[]⟩] 26)) c d W') := pickI_cw [0, 1, 7, -3, 1000000, 40] _ c d wb.heap.size 6 wb HCB.out rfl (by simp) (by simp) _ rfl
        go_wp2_with fail
        refine HPI.out.mono ?_
        rintro e wd ⟨x, rfl, hx, hcd⟩
        have HCC : Hid (Cw (W.alloc (Obj.cells #[.int .i64 0, .int .i64 0, .string ⟨#[]⟩] 26)) c d wd) := hcd
        have hxb : -1000000 ≤ x ∧ x ≤ 1000001 := by simp at hx; rcases hx with rfl | rfl | rfl | rfl | rfl | rfl <;> omega
        clear hcd HPI hx
        have k9 : wd.heap[W.heap.size]? = some (Obj.cells #[.int .i64 0, .int .i64 0, .string ⟨#[]⟩] 26) := Cw_blk HCC.out hk0 (by omega)
        have K9 : Hid (wd.heap[W.heap.size]? = some (Obj.cells #[.int .i64 0, .int .i64 0, .string ⟨#[]⟩] 26)) := k9
        have c0 := cell_blk (j := 0) k9 rfl
        have c1 := cell_blk (j := 1) k9 rfl
        have c2 := cell_blk (j := 2) k9 rfl
        have f0 := frozen_blk k9 0
        have f1 := frozen_blk k9 1
        have f2 := frozen_blk k9 2
        have HCF : Hid (Cw W c d wd) := Cw_lit HCC.out hcw
        clear k9
        go_wp2
        refine bodyPost_ret (results_cell_row rfl _ _ W.heap.size 26 #[_, _, _] (0, 0) _ rfl (put_blk _ _ _ K9.out) Tryd.underlying26 rfl (by kernel_rfl)) rfl ?_
        exact ⟨⟨1, x, ⟨#[]⟩⟩, rfl, ⟨by show (-10 : Int) ≤ 1; omega, by show (1 : Int) ≤ 20; omega, hxb.1, hxb.2, by show (0 : Nat) ≤ 40; omega⟩, Cw_set (Cw_set (Cw_set HCF.out (Nat.le_refl _)) (Nat.le_refl _)) (Nat.le_refl _)⟩
      · have HPI : Hid (Calls Tryd.prog 30 #[.pointer (some ⟨c, 0, none⟩), .slice (some ⟨wb.heap.size, 0, none⟩) 6 6] (wb.alloc (Obj.cells #[.int .i64 0, .int .i64 1, .int .i64 7, .int .i64 (-3), .int .i64 1000000, .int .i64 40] 3)) fun e W' => ∃ x, e = .returned (.int .i64 x) ∧ x ∈ [(0 : Int), 1, 7, -3, 1000000, 40] ∧ Cw (W.alloc (Obj.cells #[.int .i64 0, .int .i64 0, .string ⟨#[]⟩] 26)) c d W') := pickI_cw [0, 1, 7, -3, 1000000, 40] _ c d wb.heap.size 6 wb HCB.out rfl (by simp) (by simp) _ rfl
        go_wp2_with fail
        refine HPI.out.mono ?_
        rintro e wd ⟨x, rfl, hx, hcd⟩
        have HCC : Hid (Cw (W.alloc (Obj.cells #[.int .i64 0, .int .i64 0, .string ⟨#[]⟩] 26)) c d wd) := hcd
        have hxb : -1000000 ≤ x ∧ x ≤ 1000001 := by simp at hx; rcases hx with rfl | rfl | rfl | rfl | rfl | rfl <;> omega
        clear hcd HPI hx
        have k9 : wd.heap[W.heap.size]? = some (Obj.cells #[.int .i64 0, .int .i64 0, .string ⟨#[]⟩] 26) := Cw_blk HCC.out hk0 (by omega)
        have K9 : Hid (wd.heap[W.heap.size]? = some (Obj.cells #[.int .i64 0, .int .i64 0, .string ⟨#[]⟩] 26)) := k9
        have c0 := cell_blk (j := 0) k9 rfl
        have c1 := cell_blk (j := 1) k9 rfl
        have c2 := cell_blk (j := 2) k9 rfl
        have f0 := frozen_blk k9 0
        have f1 := frozen_blk k9 1
        have f2 := frozen_blk k9 2
        have HCF : Hid (Cw W c d wd) := Cw_lit HCC.out hcw
        clear k9
        go_wp2
        refine bodyPost_ret (results_cell_row rfl _ _ W.heap.size 26 #[_, _, _] (0, 0) _ rfl (put_blk _ _ _ K9.out) Tryd.underlying26 rfl (by kernel_rfl)) rfl ?_
        exact ⟨⟨1, x, ⟨#[]⟩⟩, rfl, ⟨by show (-10 : Int) ≤ 1; omega, by show (1 : Int) ≤ 20; omega, hxb.1, hxb.2, by show (0 : Nat) ≤ 40; omega⟩, Cw_set (Cw_set (Cw_set HCF.out (Nat.le_refl _)) (Nat.le_refl _)) (Nat.le_refl _)⟩
      · go_wp2_with fail
        refine (HBE.out 2 wb (by omega) (by omega) HCB.out).mono ?_
        rintro e wd ⟨x, rfl, hx, hcd⟩
        have HCC : Hid (Cw (W.alloc (Obj.cells #[.int .i64 0, .int .i64 0, .string ⟨#[]⟩] 26)) c d wd) := hcd
        clear hcd
        have k9 : wd.heap[W.heap.size]? = some (Obj.cells #[.int .i64 0, .int .i64 0, .string ⟨#[]⟩] 26) := Cw_blk HCC.out hk0 (by omega)
        have K9 : Hid (wd.heap[W.heap.size]? = some (Obj.cells #[.int .i64 0, .int .i64 0, .string ⟨#[]⟩] 26)) := k9
        have c0 := cell_blk (j := 0) k9 rfl
        have c1 := cell_blk (j := 1) k9 rfl
        have c2 := cell_blk (j := 2) k9 rfl
        have f0 := frozen_blk k9 0
        have f1 := frozen_blk k9 1
        have f2 := frozen_blk k9 2
        have HCF : Hid (Cw W c d wd) := Cw_lit HCC.out hcw
        clear k9
        go_wp2
        refine bodyPost_ret (results_cell_row rfl _ _ W.heap.size 26 #[_, _, _] (0, 0) _ rfl (put_blk _ _ _ K9.out) Tryd.underlying26 rfl (by kernel_rfl)) rfl ?_
        exact ⟨⟨2, x, ⟨#[]⟩⟩, rfl, ⟨by show (-10 : Int) ≤ 2; omega, by show (2 : Int) ≤ 20; omega, by show (-1000000 : Int) ≤ x; omega, by show (x : Int) ≤ 1000001; omega, by show (0 : Nat) ≤ 40; omega⟩, Cw_set (Cw_set (Cw_set HCF.out (Nat.le_refl _)) (Nat.le_refl _)) (Nat.le_refl _)⟩
      · have HCC : Hid (Cw (W.alloc (Obj.cells #[.int .i64 0, .int .i64 0, .string ⟨#[]⟩] 26)) c d wb) := HCB.out
        have k9 : wb.heap[W.heap.size]? = some (Obj.cells #[.int .i64 0, .int .i64 0, .string ⟨#[]⟩] 26) := Cw_blk HCC.out hk0 (by omega)
        have K9 : Hid (wb.heap[W.heap.size]? = some (Obj.cells #[.int .i64 0, .int .i64 0, .string ⟨#[]⟩] 26)) := k9
        have c0 := cell_blk (j := 0) k9 rfl
        have c1 := cell_blk (j := 1) k9 rfl
        have c2 := cell_blk (j := 2) k9 rfl
        have f0 := frozen_blk k9 0
        have f1 := frozen_blk k9 1
        have f2 := frozen_blk k9 2
        have HCF : Hid (Cw W c d wb) := Cw_lit HCC.out hcw
        clear k9
        go_wp2
        refine bodyPost_ret (results_cell_row rfl _ _ W.heap.size 26 #[_, _, _] (0, 0) _ rfl (put_blk _ _ _ K9.out) Tryd.underlying26 rfl (by kernel_rfl)) rfl ?_
        exact ⟨⟨3, 0, ⟨#[]⟩⟩, rfl, ⟨by decide, by decide, by decide, by decide, by decide⟩, Cw_set (Cw_set (Cw_set HCF.out (Nat.le_refl _)) (Nat.le_refl _)) (Nat.le_refl _)⟩
      · have HPS : Hid (Calls Tryd.prog 31 #[.pointer (some ⟨c, 0, none⟩), .slice (some ⟨wb.heap.size, 0, none⟩) 3 3] (wb.alloc (Obj.cells #[.string ⟨#[97]⟩, .string ⟨#[120]⟩, .string ⟨#[105, 102]⟩] 9)) fun e W' => ∃ t, e = .returned (.string t) ∧ t.size ≤ 40 ∧ Cw (W.alloc (Obj.cells #[.int .i64 0, .int .i64 0, .string ⟨#[]⟩] 26)) c d W') := Cu.pick_cw [⟨#[97]⟩, ⟨#[120]⟩, ⟨#[105, 102]⟩] _ c d wb.heap.size 3 wb HCB.out rfl (by simp) (by simp) _ rfl (by intro x hx; simp at hx; rcases hx with rfl | rfl | rfl <;> decide)
        go_wp2_with fail
        refine HPS.out.mono ?_
        rintro e wd ⟨x, rfl, hx, hcd⟩
        have HCC : Hid (Cw (W.alloc (Obj.cells #[.int .i64 0, .int .i64 0, .string ⟨#[]⟩] 26)) c d wd) := hcd
        clear hcd HPS
        have k9 : wd.heap[W.heap.size]? = some (Obj.cells #[.int .i64 0, .int .i64 0, .string ⟨#[]⟩] 26) := Cw_blk HCC.out hk0 (by omega)
        have K9 : Hid (wd.heap[W.heap.size]? = some (Obj.cells #[.int .i64 0, .int .i64 0, .string ⟨#[]⟩] 26)) := k9
        have c0 := cell_blk (j := 0) k9 rfl
        have c1 := cell_blk (j := 1) k9 rfl
        have c2 := cell_blk (j := 2) k9 rfl
        have f0 := frozen_blk k9 0
        have f1 := frozen_blk k9 1
        have f2 := frozen_blk k9 2
        have HCF : Hid (Cw W c d wd) := Cw_lit HCC.out hcw
        clear k9
        go_wp2
        refine bodyPost_ret (results_cell_row rfl _ _ W.heap.size 26 #[_, _, _] (0, 0) _ rfl (put_blk _ _ _ K9.out) Tryd.underlying26 rfl (by kernel_rfl)) rfl ?_
        exact ⟨⟨4, 0, x⟩, rfl, ⟨by show (-10 : Int) ≤ 4; omega, by show (4 : Int) ≤ 20; omega, by show (-1000000 : Int) ≤ 0; omega, by show (0 : Int) ≤ 1000001; omega, hx⟩, Cw_set (Cw_set (Cw_set HCF.out (Nat.le_refl _)) (Nat.le_refl _)) (Nat.le_refl _)⟩
    | true =>
      go_wp2_with fail
      refine (HBE.out h.length wa (by omega) (by omega) HCA.out).mono ?_
      rintro e wk ⟨k, rfl, hkl, hck⟩
      obtain ⟨x, hx⟩ : ∃ x, h[k]? = some x := ⟨_, List.getElem?_eq_getElem hkl⟩
      obtain ⟨b, o, rfl, hbc, hbl, hcell⟩ := HK.out k x hx
      have e0 : wk.cell? ⟨b, o + k * 6, none⟩ = some (.int .i64 x.k) := Cw_cell hck ((alloc_cell _ _ _ hbl).trans hcell) hbc
      have hkI : (k : Int) < (h.length : Int) := by omega
      have HCK : Hid (Cw (W.alloc (Obj.cells #[.int .i64 0, .int .i64 0, .string ⟨#[]⟩] 26)) c d wk) := hck
      clear hck hcell hx
      by_cases g1 : x.k = 1
      · have b1 : (x.k == 1) = true := by rw [g1]; rfl
        have HCC : Hid (Cw (W.alloc (Obj.cells #[.int .i64 0, .int .i64 0, .string ⟨#[]⟩] 26)) c d wk) := HCK.out
        clear g1
        have k9 : wk.heap[W.heap.size]? = some (Obj.cells #[.int .i64 0, .int .i64 0, .string ⟨#[]⟩] 26) := Cw_blk HCC.out hk0 (by omega)
        have K9 : Hid (wk.heap[W.heap.size]? = some (Obj.cells #[.int .i64 0, .int .i64 0, .string ⟨#[]⟩] 26)) := k9
        have c0 := cell_blk (j := 0) k9 rfl
        have c1 := cell_blk (j := 1) k9 rfl
        have c2 := cell_blk (j := 2) k9 rfl
        have f0 := frozen_blk k9 0
        have f1 := frozen_blk k9 1
        have f2 := frozen_blk k9 2
        have HCF : Hid (Cw W c d wk) := Cw_lit HCC.out hcw
        clear k9
        go_wp2
        refine bodyPost_ret (results_cell_row rfl _ _ W.heap.size 26 #[_, _, _] (0, 0) _ rfl (put_blk _ _ _ K9.out) Tryd.underlying26 rfl (by kernel_rfl)) rfl ?_
        exact ⟨⟨5, k, ⟨#[]⟩⟩, rfl, ⟨by show (-10 : Int) ≤ 5; omega, by show (5 : Int) ≤ 20; omega, by show (-1000000 : Int) ≤ k; omega, by show (k : Int) ≤ 1000001; omega, by show (0 : Nat) ≤ 40; omega⟩, Cw_set (Cw_set (Cw_set HCF.out (Nat.le_refl _)) (Nat.le_refl _)) (Nat.le_refl _)⟩
      · have b1 : (x.k == 1) = false := by rw [beq_eq_false_iff_ne]; exact g1
        by_cases g2 : x.k = 2
        · have b2 : (x.k == 2) = true := by rw [g2]; rfl
          have HCC : Hid (Cw (W.alloc (Obj.cells #[.int .i64 0, .int .i64 0, .string ⟨#[]⟩] 26)) c d wk) := HCK.out
          clear g1 g2
          have k9 : wk.heap[W.heap.size]? = some (Obj.cells #[.int .i64 0, .int .i64 0, .string ⟨#[]⟩] 26) := Cw_blk HCC.out hk0 (by omega)
          have K9 : Hid (wk.heap[W.heap.size]? = some (Obj.cells #[.int .i64 0, .int .i64 0, .string ⟨#[]⟩] 26)) := k9
          have c0 := cell_blk (j := 0) k9 rfl
          have c1 := cell_blk (j := 1) k9 rfl
          have c2 := cell_blk (j := 2) k9 rfl
          have f0 := frozen_blk k9 0
          have f1 := frozen_blk k9 1
          have f2 := frozen_blk k9 2
          have HCF : Hid (Cw W c d wk) := Cw_lit HCC.out hcw
          clear k9
          go_wp2
          refine bodyPost_ret (results_cell_row rfl _ _ W.heap.size 26 #[_, _, _] (0, 0) _ rfl (put_blk _ _ _ K9.out) Tryd.underlying26 rfl (by kernel_rfl)) rfl ?_
          exact ⟨⟨6, k, ⟨#[]⟩⟩, rfl, ⟨by show (-10 : Int) ≤ 6; omega, by show (6 : Int) ≤ 20; omega, by show (-1000000 : Int) ≤ k; omega, by show (k : Int) ≤ 1000001; omega, by show (0 : Nat) ≤ 40; omega⟩, Cw_set (Cw_set (Cw_set HCF.out (Nat.le_refl _)) (Nat.le_refl _)) (Nat.le_refl _)⟩
        · have b2 : (x.k == 2) = false := by rw [beq_eq_false_iff_ne]; exact g2
          by_cases g3 : x.k = 3
          · have b3 : (x.k == 3) = true := by rw [g3]; rfl
            have HCC : Hid (Cw (W.alloc (Obj.cells #[.int .i64 0, .int .i64 0, .string ⟨#[]⟩] 26)) c d wk) := HCK.out
            clear g1 g2 g3
            have k9 : wk.heap[W.heap.size]? = some (Obj.cells #[.int .i64 0, .int .i64 0, .string ⟨#[]⟩] 26) := Cw_blk HCC.out hk0 (by omega)
            have K9 : Hid (wk.heap[W.heap.size]? = some (Obj.cells #[.int .i64 0, .int .i64 0, .string ⟨#[]⟩] 26)) := k9
            have c0 := cell_blk (j := 0) k9 rfl
            have c1 := cell_blk (j := 1) k9 rfl
            have c2 := cell_blk (j := 2) k9 rfl
            have f0 := frozen_blk k9 0
            have f1 := frozen_blk k9 1
            have f2 := frozen_blk k9 2
            have HCF : Hid (Cw W c d wk) := Cw_lit HCC.out hcw
            clear k9
            go_wp2
            refine bodyPost_ret (results_cell_row rfl _ _ W.heap.size 26 #[_, _, _] (0, 0) _ rfl (put_blk _ _ _ K9.out) Tryd.underlying26 rfl (by kernel_rfl)) rfl ?_
            exact ⟨⟨7, k, ⟨#[]⟩⟩, rfl, ⟨by show (-10 : Int) ≤ 7; omega, by show (7 : Int) ≤ 20; omega, by show (-1000000 : Int) ≤ k; omega, by show (k : Int) ≤ 1000001; omega, by show (0 : Nat) ≤ 40; omega⟩, Cw_set (Cw_set (Cw_set HCF.out (Nat.le_refl _)) (Nat.le_refl _)) (Nat.le_refl _)⟩
          · have b3 : (x.k == 3) = false := by rw [beq_eq_false_iff_ne]; exact g3
            have HCX : Hid (Cw (W.alloc (Obj.cells #[.int .i64 0, .int .i64 0, .string ⟨#[]⟩] 26)) c d wk) := HCK.out
            clear g1 g2 g3
            go_wp2_with fail
            refine (HBE.out 5 wk (by omega) (by omega) HCX.out).mono ?_
            rintro e wb ⟨k5, rfl, hk5, hcb⟩
            have HCB : Hid (Cw (W.alloc (Obj.cells #[.int .i64 0, .int .i64 0, .string ⟨#[]⟩] 26)) c d wb) := hcb
            clear hcb HCX
            obtain rfl | rfl | rfl | rfl | rfl : k5 = 0 ∨ k5 = 1 ∨ k5 = 2 ∨ k5 = 3 ∨ k5 = 4 := by omega
            · have HPI : Hid (Calls Tryd.prog 30 #[.pointer (some ⟨c, 0, none⟩), .slice (some ⟨wb.heap.size, 0, none⟩) 6 6] (wb.alloc (Obj.cells #[.int .i64 0, .int .i64 1, .int .i64 7, .int .i64 (-3), .int .i64 1000000, .int .i64 40] 3)) fun e W' => ∃ x, e = .returned (.int .i64 x) ∧ x ∈ [(0 : Int), 1, 7, -3, 1000000, 40] ∧ Cw (W.alloc (Obj.cells #[.int .i64 0, .int .i64 0, .string ⟨#[]⟩] 26)) c d W') := pickI_cw [0, 1, 7, -3, 1000000, 40] _ c d wb.heap.size 6 wb HCB.out rfl (by simp) (by simp) _ rfl
              go_wp2_with fail
              refine HPI.out.mono ?_
              rintro e wd ⟨x, rfl, hx, hcd⟩
              have HCC : Hid (Cw (W.alloc (Obj.cells #[.int .i64 0, .int .i64 0, .string ⟨#[]⟩] 26)) c d wd) := hcd
              have hxb : -1000000 ≤ x ∧ x ≤ 1000001 := by simp at hx; rcases hx with rfl | rfl | rfl | rfl | rfl | rfl <;> omega
              clear hcd HPI hx
              have k9 : wd.heap[W.heap.size]? = some (Obj.cells #[.int .i64 0, .int .i64 0, .string ⟨#[]⟩] 26) := Cw_blk HCC.out hk0 (by omega)
              have K9 : Hid (wd.heap[W.heap.size]? = some (Obj.cells #[.int .i64 0, .int .i64 0, .string ⟨#[]⟩] 26)) := k9
              have c0 := cell_blk (j := 0) k9 rfl
              have c1 := cell_blk (j := 1) k9 rfl
              have c2 := cell_blk (j := 2) k9 rfl
              have f0 := frozen_blk k9 0
              have f1 := frozen_blk k9 1
              have f2 := frozen_blk k9 2
              have HCF : Hid (Cw W c d wd) := Cw_lit HCC.out hcw
              clear k9
              go_wp2
              refine bodyPost_ret (results_cell_row rfl _ _ W.heap.size 26 #[_, _, _] (0, 0) _ rfl (put_blk _ _ _ K9.out) Tryd.underlying26 rfl (by kernel_rfl)) rfl ?_
              exact ⟨⟨1, x, ⟨#[]⟩⟩, rfl, ⟨by show (-10 : Int) ≤ 1; omega, by show (1 : Int) ≤ 20; omega, hxb.1, hxb.2, by show (0 : Nat) ≤ 40; omega⟩, Cw_set (Cw_set (Cw_set HCF.out (Nat.le_refl _)) (Nat.le_refl _)) (Nat.le_refl _)⟩
            · have HPI : Hid (Calls Tryd.prog 30 #[.pointer (some ⟨c, 0, none⟩), .slice (some ⟨wb.heap.size, 0, none⟩) 6 6] (wb.alloc (Obj.cells #[.int .i64 0, .int .i64 1, .int .i64 7, .int .i64 (-3), .int .i64 1000000, .int .i64 40] 3)) fun e W' => ∃ x, e = .returned (.int .i64 x) ∧ x ∈ [(0 : Int), 1, 7, -3, 1000000, 40] ∧ Cw (W.alloc (Obj.cells #[.int .i64 0, .int .i64 0, .string ⟨#[]⟩] 26)) c d W') := pickI_cw [0, 1, 7, -3, 1000000, 40] _ c d wb.heap.size 6 wb HCB.out rfl (by simp) (by simp) _ rfl
              go_wp2_with fail
              refine HPI.out.mono ?_
              rintro e wd ⟨x, rfl, hx, hcd⟩
              have HCC : Hid (Cw (W.alloc (Obj.cells #[.int .i64 0, .int .i64 0, .string ⟨#[]⟩] 26)) c d wd) := hcd
              have hxb : -1000000 ≤ x ∧ x ≤ 1000001 := by simp at hx; rcases hx with rfl | rfl | rfl | rfl | rfl | rfl <;> omega
              clear hcd HPI hx
              have k9 : wd.heap[W.heap.size]? = some (Obj.cells #[.int .i64 0, .int .i64 0, .string ⟨#[]⟩] 26) := Cw_blk HCC.out hk0 (by omega)
              have K9 : Hid (wd.heap[W.heap.size]? = some (Obj.cells #[.int .i64 0, .int .i64 0, .string ⟨#[]⟩] 26)) := k9
              have c0 := cell_blk (j := 0) k9 rfl
              have c1 := cell_blk (j := 1) k9 rfl
              have c2 := cell_blk (j := 2) k9 rfl
              have f0 := frozen_blk k9 0
              have f1 := frozen_blk k9 1
              have f2 := frozen_blk k9 2
              have HCF : Hid (Cw W c d wd) := Cw_lit HCC.out hcw
              clear k9
              go_wp2
              refine bodyPost_ret (results_cell_row rfl _ _ W.heap.size 26 #[_, _, _] (0, 0) _ rfl (put_blk _ _ _ K9.out) Tryd.underlying26 rfl (by kernel_rfl)) rfl ?_
              exact ⟨⟨1, x, ⟨#[]⟩⟩, rfl, ⟨by show (-10 : Int) ≤ 1; omega, by show (1 : Int) ≤ 20; omega, hxb.1, hxb.2, by show (0 : Nat) ≤ 40; omega⟩, Cw_set (Cw_set (Cw_set HCF.out (Nat.le_refl _)) (Nat.le_refl _)) (Nat.le_refl _)⟩
            · go_wp2_with fail
              refine (HBE.out 2 wb (by omega) (by omega) HCB.out).mono ?_
              rintro e wd ⟨x, rfl, hx, hcd⟩
              have HCC : Hid (Cw (W.alloc (Obj.cells #[.int .i64 0, .int .i64 0, .string ⟨#[]⟩] 26)) c d wd) := hcd
              clear hcd
              have k9 : wd.heap[W.heap.size]? = some (Obj.cells #[.int .i64 0, .int .i64 0, .string ⟨#[]⟩] 26) := Cw_blk HCC.out hk0 (by omega)
              have K9 : Hid (wd.heap[W.heap.size]? = some (Obj.cells #[.int .i64 0, .int .i64 0, .string ⟨#[]⟩] 26)) := k9
              have c0 := cell_blk (j := 0) k9 rfl
              have c1 := cell_blk (j := 1) k9 rfl
              have c2 := cell_blk (j := 2) k9 rfl
              have f0 := frozen_blk k9 0
              have f1 := frozen_blk k9 1
              have f2 := frozen_blk k9 2
              have HCF : Hid (Cw W c d wd) := Cw_lit HCC.out hcw
              clear k9
              go_wp2
              refine bodyPost_ret (results_cell_row rfl _ _ W.heap.size 26 #[_, _, _] (0, 0) _ rfl (put_blk _ _ _ K9.out) Tryd.underlying26 rfl (by kernel_rfl)) rfl ?_
              exact ⟨⟨2, x, ⟨#[]⟩⟩, rfl, ⟨by show (-10 : Int) ≤ 2; omega, by show (2 : Int) ≤ 20; omega, by show (-1000000 : Int) ≤ x; omega, by show (x : Int) ≤ 1000001; omega, by show (0 : Nat) ≤ 40; omega⟩, Cw_set (Cw_set (Cw_set HCF.out (Nat.le_refl _)) (Nat.le_refl _)) (Nat.le_refl _)⟩
            · have HCC : Hid (Cw (W.alloc (Obj.cells #[.int .i64 0, .int .i64 0, .string ⟨#[]⟩] 26)) c d wb) := HCB.out
              have k9 : wb.heap[W.heap.size]? = some (Obj.cells #[.int .i64 0, .int .i64 0, .string ⟨#[]⟩] 26) := Cw_blk HCC.out hk0 (by omega)
              have K9 : Hid (wb.heap[W.heap.size]? = some (Obj.cells #[.int .i64 0, .int .i64 0, .string ⟨#[]⟩] 26)) := k9
              have c0 := cell_blk (j := 0) k9 rfl
              have c1 := cell_blk (j := 1) k9 rfl
              have c2 := cell_blk (j := 2) k9 rfl
              have f0 := frozen_blk k9 0
              have f1 := frozen_blk k9 1
              have f2 := frozen_blk k9 2
              have HCF : Hid (Cw W c d wb) := Cw_lit HCC.out hcw
              clear k9
              go_wp2
              refine bodyPost_ret (results_cell_row rfl _ _ W.heap.size 26 #[_, _, _] (0, 0) _ rfl (put_blk _ _ _ K9.out) Tryd.underlying26 rfl (by kernel_rfl)) rfl ?_
              exact ⟨⟨3, 0, ⟨#[]⟩⟩, rfl, ⟨by decide, by decide, by decide, by decide, by decide⟩, Cw_set (Cw_set (Cw_set HCF.out (Nat.le_refl _)) (Nat.le_refl _)) (Nat.le_refl _)⟩
            · have HPS : Hid (Calls Tryd.prog 31 #[.pointer (some ⟨c, 0, none⟩), .slice (some ⟨wb.heap.size, 0, none⟩) 3 3] (wb.alloc (Obj.cells #[.string ⟨#[97]⟩, .string ⟨#[120]⟩, .string ⟨#[105, 102]⟩] 9)) fun e W' => ∃ t, e = .returned (.string t) ∧ t.size ≤ 40 ∧ Cw (W.alloc (Obj.cells #[.int .i64 0, .int .i64 0, .string ⟨#[]⟩] 26)) c d W') := Cu.pick_cw [⟨#[97]⟩, ⟨#[120]⟩, ⟨#[105, 102]⟩] _ c d wb.heap.size 3 wb HCB.out rfl (by simp) (by simp) _ rfl (by intro x hx; simp at hx; rcases hx with rfl | rfl | rfl <;> decide)
              go_wp2_with fail
              refine HPS.out.mono ?_
              rintro e wd ⟨x, rfl, hx, hcd⟩
              have HCC : Hid (Cw (W.alloc (Obj.cells #[.int .i64 0, .int .i64 0, .string ⟨#[]⟩] 26)) c d wd) := hcd
              clear hcd HPS
              have k9 : wd.heap[W.heap.size]? = some (Obj.cells #[.int .i64 0, .int .i64 0, .string ⟨#[]⟩] 26) := Cw_blk HCC.out hk0 (by omega)
              have K9 : Hid (wd.heap[W.heap.size]? = some (Obj.cells #[.int .i64 0, .int .i64 0, .string ⟨#[]⟩] 26)) := k9
              have c0 := cell_blk (j := 0) k9 rfl
              have c1 := cell_blk (j := 1) k9 rfl
              have c2 := cell_blk (j := 2) k9 rfl
              have f0 := frozen_blk k9 0
              have f1 := frozen_blk k9 1
              have f2 := frozen_blk k9 2
              have HCF : Hid (Cw W c d wd) := Cw_lit HCC.out hcw
              clear k9
              go_wp2
              refine bodyPost_ret (results_cell_row rfl _ _ W.heap.size 26 #[_, _, _] (0, 0) _ rfl (put_blk _ _ _ K9.out) Tryd.underlying26 rfl (by kernel_rfl)) rfl ?_
              exact ⟨⟨4, 0, x⟩, rfl, ⟨by show (-10 : Int) ≤ 4; omega, by show (4 : Int) ≤ 20; omega, by show (-1000000 : Int) ≤ 0; omega, by show (0 : Int) ≤ 1000001; omega, hx⟩, Cw_set (Cw_set (Cw_set HCF.out (Nat.le_refl _)) (Nat.le_refl _)) (Nat.le_refl _)⟩
end Go.Proofs.YtkbpnjigoipgeaaDoor
