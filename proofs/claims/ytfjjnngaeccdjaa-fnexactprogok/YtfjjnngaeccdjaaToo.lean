/- A node that comes in, copied. -/
import Derived.Test.YtfjjnngaeccdjaaTon
namespace Go.Proofs.Ytfjjnngaeccdjaa
open Go.ChangeShapes Go.WideShapes Go.ChangeAt Go.RowKit
/-- What toNode leaves. -/
def TnPost (d : Nod) (w : World) (e : Ending) (w' : World) : Prop := ∃ g h, e = .returned (.agg #[.int .i64 d.k, .int .i64 d.n, .string d.s, .slice (some ⟨g, 0, none⟩) d.names.length d.names.length, .slice (some ⟨h, 0, none⟩) d.args.length d.args.length]) ∧
  NodRows w' (fun b => w.heap.size ≤ b ∧ b < w'.heap.size) (some ⟨g, 0, none⟩) d.names.length (some ⟨h, 0, none⟩) d.args.length d ∧ Below w.heap.size w w'
set_option maxRecDepth 100000 in
set_option maxHeartbeats 1000000 in
theorem toNode_any (d : Nod) (an aa : Option Addr) (cn ca : Nat) (w : World) (hs : d.small) (hr : NodRows w (fun b => b < w.heap.size) an cn aa ca d) :
    Calls Try.prog 30 #[.agg #[.int .i64 d.k, .int .i64 d.n, .string d.s, .slice an d.names.length cn, .slice aa d.args.length ca]] w fun e w' => TnPost d w e w' := by
  obtain ⟨hrs, hri, -, -⟩ := hr
  obtain ⟨_, _, _, s4, s5, _⟩ := hs
  have HS : Hid (∀ w1, Below w.heap.size w w1 → Calls Try.prog 42 #[.slice an d.names.length cn] w1 fun e w' => ∃ g, e = .returned (.slice (some ⟨g, 0, none⟩) d.names.length d.names.length) ∧ w1.heap.size ≤ g ∧ g < w'.heap.size ∧ RowSP w' (fun b => b = g) (some ⟨g, 0, none⟩) d.names ∧ Below w1.heap.size w1 w') := fun w1 h => toStringS_any an d.names cn w1 s4 (hrs.keep fun b hb => ⟨by have := h.size; omega, h.block b hb⟩)
  have HI : Hid (∀ w1, Below w.heap.size w w1 → Calls Try.prog 43 #[.slice aa d.args.length ca] w1 fun e w' => ∃ g, e = .returned (.slice (some ⟨g, 0, none⟩) d.args.length d.args.length) ∧ w1.heap.size ≤ g ∧ g < w'.heap.size ∧ RowIP w' (fun b => b = g) (some ⟨g, 0, none⟩) d.args ∧ Below w1.heap.size w1 w') := fun w1 h => toIntS_any aa d.args ca w1 s5 (hri.keep fun b hb => ⟨by have := h.size; omega, h.block b hb⟩)
  clear hrs hri
  go_enter Try.func30, Try.ntmps30
  go_wp2_with fail
  have hbA : Below w.heap.size w (((w.alloc (Obj.cells #[.int .i64 d.k, .int .i64 d.n, .string d.s, .slice an d.names.length cn, .slice aa d.args.length ca] 48)).alloc (Obj.cells #[.int .i64 0, .int .i64 0, .string ⟨#[]⟩, .slice none 0 0, .slice none 0 0] 41)).alloc (Obj.cells #[.int .i64 d.k, .int .i64 d.n, .string d.s, .slice none 0 0, .slice none 0 0] 41)) := (((Below.refl _ _).alloc (Nat.le_refl _) _).alloc (by simp) _).alloc (by simp; omega) _
  have k0 : (((w.alloc (Obj.cells #[.int .i64 d.k, .int .i64 d.n, .string d.s, .slice an d.names.length cn, .slice aa d.args.length ca] 48)).alloc (Obj.cells #[.int .i64 0, .int .i64 0, .string ⟨#[]⟩, .slice none 0 0, .slice none 0 0] 41)).alloc (Obj.cells #[.int .i64 d.k, .int .i64 d.n, .string d.s, .slice none 0 0, .slice none 0 0] 41)).heap[w.heap.size]? = some (Obj.cells #[.int .i64 d.k, .int .i64 d.n, .string d.s, .slice an d.names.length cn, .slice aa d.args.length ca] 48) := blk_past (blk_past (blk_at _ _ _ rfl))
  have k1 : (((w.alloc (Obj.cells #[.int .i64 d.k, .int .i64 d.n, .string d.s, .slice an d.names.length cn, .slice aa d.args.length ca] 48)).alloc (Obj.cells #[.int .i64 0, .int .i64 0, .string ⟨#[]⟩, .slice none 0 0, .slice none 0 0] 41)).alloc (Obj.cells #[.int .i64 d.k, .int .i64 d.n, .string d.s, .slice none 0 0, .slice none 0 0] 41)).heap[w.heap.size + 1]? = some (Obj.cells #[.int .i64 0, .int .i64 0, .string ⟨#[]⟩, .slice none 0 0, .slice none 0 0] 41) := blk_past (blk_at _ _ _ (by simp))
  have k2 : (((w.alloc (Obj.cells #[.int .i64 d.k, .int .i64 d.n, .string d.s, .slice an d.names.length cn, .slice aa d.args.length ca] 48)).alloc (Obj.cells #[.int .i64 0, .int .i64 0, .string ⟨#[]⟩, .slice none 0 0, .slice none 0 0] 41)).alloc (Obj.cells #[.int .i64 d.k, .int .i64 d.n, .string d.s, .slice none 0 0, .slice none 0 0] 41)).heap[w.heap.size + 1 + 1]? = some (Obj.cells #[.int .i64 d.k, .int .i64 d.n, .string d.s, .slice none 0 0, .slice none 0 0] 41) := blk_at _ _ _ (by simp)
  have hsA : (((w.alloc (Obj.cells #[.int .i64 d.k, .int .i64 d.n, .string d.s, .slice an d.names.length cn, .slice aa d.args.length ca] 48)).alloc (Obj.cells #[.int .i64 0, .int .i64 0, .string ⟨#[]⟩, .slice none 0 0, .slice none 0 0] 41)).alloc (Obj.cells #[.int .i64 d.k, .int .i64 d.n, .string d.s, .slice none 0 0, .slice none 0 0] 41)).heap.size = w.heap.size + 3 := by simp
  generalize (((w.alloc (Obj.cells #[.int .i64 d.k, .int .i64 d.n, .string d.s, .slice an d.names.length cn, .slice aa d.args.length ca] 48)).alloc (Obj.cells #[.int .i64 0, .int .i64 0, .string ⟨#[]⟩, .slice none 0 0, .slice none 0 0] 41)).alloc (Obj.cells #[.int .i64 d.k, .int .i64 d.n, .string d.s, .slice none 0 0, .slice none 0 0] 41)) = wA at *
  refine (HS.out _ hbA).mono ?_
  rintro e w1 ⟨g, rfl, hg1, hg2, hrw, hb1⟩
  have hb2 : Below w.heap.size w w1 := hbA.trans (hb1.mono hbA.size)
  have k0 := blk_keep k0 hb1 (by omega)
  have k1 := blk_keep k1 hb1 (by omega)
  have k2 := blk_keep k2 hb1 (by omega)
  have hc0 := cell_blk (j := 4) k0 rfl
  have hc1 := cell_blk (j := 3) k2 rfl
  have hf1 := frozen_blk k2 3
  have hs1 := hb1.size
  have K1 : Hid (w1.heap[w.heap.size + 1]? = some (Obj.cells #[.int .i64 0, .int .i64 0, .string ⟨#[]⟩, .slice none 0 0, .slice none 0 0] 41)) := k1
  have K2 : Hid (w1.heap[w.heap.size + 1 + 1]? = some (Obj.cells #[.int .i64 d.k, .int .i64 d.n, .string d.s, .slice none 0 0, .slice none 0 0] 41)) := k2
  have HRW : Hid (RowSP w1 (fun b => b = g) (some ⟨g, 0, none⟩) d.names) := hrw
  clear k0 k1 k2 hbA hb1 hrw
  go_wp2_with fail
  clear hc0 hc1 hf1
  have k1 : (w1.setCell ⟨w.heap.size + 1 + 1, 3, none⟩ (.slice (some ⟨g, 0, none⟩) d.names.length d.names.length)).heap[w.heap.size + 1]? = some (Obj.cells #[.int .i64 0, .int .i64 0, .string ⟨#[]⟩, .slice none 0 0, .slice none 0 0] 41) := by
    rw [heap_setCell_other _ _ _ _ (by simp)]; exact K1.out
  have k2 : (w1.setCell ⟨w.heap.size + 1 + 1, 3, none⟩ (.slice (some ⟨g, 0, none⟩) d.names.length d.names.length)).heap[w.heap.size + 1 + 1]? = some (Obj.cells #[.int .i64 d.k, .int .i64 d.n, .string d.s, .slice (some ⟨g, 0, none⟩) d.names.length d.names.length, .slice none 0 0] 41) := heap_setCell_same _ _ _ _ _ _ K2.out
  have hb3 : Below w.heap.size w (w1.setCell ⟨w.heap.size + 1 + 1, 3, none⟩ (.slice (some ⟨g, 0, none⟩) d.names.length d.names.length)) := hb2.setCell (p := ⟨_, _, none⟩) (by simp; omega) _
  have hrw : RowSP (w1.setCell ⟨w.heap.size + 1 + 1, 3, none⟩ (.slice (some ⟨g, 0, none⟩) d.names.length d.names.length)) (fun b => b = g) (some ⟨g, 0, none⟩) d.names := HRW.out.keep fun b hb => by
    have hb' : b = g := hb
    exact ⟨hb, heap_setCell_other _ _ _ _ (by show b ≠ w.heap.size + 1 + 1; omega)⟩
  have hsB : (w1.setCell ⟨w.heap.size + 1 + 1, 3, none⟩ (.slice (some ⟨g, 0, none⟩) d.names.length d.names.length)).heap.size = w1.heap.size := by simp
  generalize w1.setCell ⟨w.heap.size + 1 + 1, 3, none⟩ (.slice (some ⟨g, 0, none⟩) d.names.length d.names.length) = wB at *
  refine (HI.out _ hb3).mono ?_
  rintro e w2 ⟨h, rfl, hh1, hh2, hri, hb4⟩
  have hb5 : Below w.heap.size w w2 := hb3.trans (hb4.mono hb3.size)
  have k1 := blk_keep k1 hb4 (by omega)
  have k2 := blk_keep k2 hb4 (by omega)
  have hrw2 : RowSP w2 (fun b => b = g) (some ⟨g, 0, none⟩) d.names := hrw.keep fun b hb => by
    have hb' : b = g := hb
    exact ⟨hb, hb4.block b (by omega)⟩
  have hs2 := hb4.size
  have p0 := cell_blk (j := 0) k1 rfl
  have p1 := cell_blk (j := 1) k1 rfl
  have p2 := cell_blk (j := 2) k1 rfl
  have p3 := cell_blk (j := 3) k1 rfl
  have p4 := cell_blk (j := 4) k1 rfl
  have r0 := cell_blk (j := 0) k2 rfl
  have r1 := cell_blk (j := 1) k2 rfl
  have r2 := cell_blk (j := 2) k2 rfl
  have r3 := cell_blk (j := 3) k2 rfl
  have r4 := cell_blk (j := 4) k2 rfl
  have f0 := frozen_blk k1 0
  have f1 := frozen_blk k1 1
  have f2 := frozen_blk k1 2
  have f3 := frozen_blk k1 3
  have f4 := frozen_blk k1 4
  have g4 := frozen_blk k2 4
  have K1 : Hid (w2.heap[w.heap.size + 1]? = some (Obj.cells #[.int .i64 0, .int .i64 0, .string ⟨#[]⟩, .slice none 0 0, .slice none 0 0] 41)) := k1
  have HRE : Hid (RowSP w2 (fun b => b = g) (some ⟨g, 0, none⟩) d.names) := hrw2
  have HRI : Hid (RowIP w2 (fun b => b = h) (some ⟨h, 0, none⟩) d.args) := hri
  clear k1 k2 hri hrw hrw2 hb3 hb4 HRW K2 HI HS
  go_wp2
  have K3 : (w2.setCell ⟨w.heap.size + 1 + 1, 4, none⟩ (.slice (some ⟨h, 0, none⟩) d.args.length d.args.length)).heap[w.heap.size + 1]? = some (Obj.cells #[.int .i64 0, .int .i64 0, .string ⟨#[]⟩, .slice none 0 0, .slice none 0 0] 41) := by
    rw [heap_setCell_other _ _ _ _ (by simp)]; exact K1.out
  refine bodyPost_ret (results_cell_row rfl _ _ (w.heap.size + 1) 41 #[.int .i64 d.k, .int .i64 d.n, .string d.s, (.slice (some ⟨g, 0, none⟩) d.names.length d.names.length), (.slice (some ⟨h, 0, none⟩) d.args.length d.args.length)] (0, 0) _ rfl (heap_setCell_same _ _ _ _ _ _ (heap_setCell_same _ _ _ _ _ _ (heap_setCell_same _ _ _ _ _ _ (heap_setCell_same _ _ _ _ _ _ (heap_setCell_same _ _ _ _ _ _ K3))))) Try.underlying41 rfl (by kernel_rfl)) rfl ?_
  have hoth : ∀ b, b ≠ w.heap.size + 1 → b ≠ w.heap.size + 1 + 1 → ((((((w2.setCell ⟨w.heap.size + 1 + 1, 4, none⟩ (.slice (some ⟨h, 0, none⟩) d.args.length d.args.length)).setCell ⟨w.heap.size + 1, 0, none⟩ (.int .i64 d.k)).setCell ⟨w.heap.size + 1, 1, none⟩ (.int .i64 d.n)).setCell ⟨w.heap.size + 1, 2, none⟩ (.string d.s)).setCell ⟨w.heap.size + 1, 3, none⟩ (.slice (some ⟨g, 0, none⟩) d.names.length d.names.length)).setCell ⟨w.heap.size + 1, 4, none⟩ (.slice (some ⟨h, 0, none⟩) d.args.length d.args.length)).heap[b]? = w2.heap[b]? := by
    intro b h1 h2
    rw [heap_setCell_other _ _ _ _ (by simpa using h1), heap_setCell_other _ _ _ _ (by simpa using h1), heap_setCell_other _ _ _ _ (by simpa using h1), heap_setCell_other _ _ _ _ (by simpa using h1), heap_setCell_other _ _ _ _ (by simpa using h1), heap_setCell_other _ _ _ _ (by simpa using h2)]
  refine ⟨g, h, rfl, ⟨HRE.out.keep fun b hb => ?_, HRI.out.keep fun b hb => ?_, Nat.le_refl _, Nat.le_refl _⟩, (((((hb5.setCell (p := ⟨_, _, none⟩) (by simp; omega) _).setCell (p := ⟨_, _, none⟩) (by simp) _).setCell (p := ⟨_, _, none⟩) (by simp) _).setCell (p := ⟨_, _, none⟩) (by simp) _).setCell (p := ⟨_, _, none⟩) (by simp) _).setCell (p := ⟨_, _, none⟩) (by simp) _⟩
  · have hb' : b = g := hb
    exact ⟨⟨by omega, by simp; omega⟩, hoth b (by omega) (by omega)⟩
  · have hb' : b = h := hb
    exact ⟨⟨by omega, by simp; omega⟩, hoth b (by omega) (by omega)⟩
end Go.Proofs.Ytfjjnngaeccdjaa
