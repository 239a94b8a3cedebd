/- Size: the model's and the program's. -/
import Derived.Test.YtmnkomgdcebniaaGreatSsd
import Derived.Test.YtmnkomgdcebniaaGreatSie
set_option linter.unusedVariables false
namespace Go.Proofs.YtmnkomgdcebniaaGreat
open Go.ChangeShapes Go.WideShapes Go.ChangeAt Go.RowKit
/-- How many cells, Insts and units a right system has. -/
noncomputable def Sy.size (y : Sy) : Int := if y.ok = true then (y.heap.length : Int) + y.insts.length + y.units.length else 0
set_option maxRecDepth 100000 in
set_option maxHeartbeats 1000000 in
theorem specSize_any (y : Sy) (y1 y2 y3 y4 : Option Addr) (d1 d2 d3 d4 : Nat) (w : World) (hs : y.small) (hr : SyRows w (fun b => b < w.heap.size) y1 y2 y3 y4 d1 d2 d3 d4 y) (hfl : ∀ u ∈ y.units, (flat u.prog.nodes).length ≤ 1048576) :
    Calls Tryz.prog 16 #[.agg #[.slice y1 y.heap.length d1, .slice y2 y.insts.length d2, .slice y3 y.units.length d3, .slice y4 y.out.length d4]] w fun e w' => Ans w (.int .i64 y.size) e w' := by
  have hb0 : Below w.heap.size w (w.alloc (Obj.cells #[.slice y1 y.heap.length d1, .slice y2 y.insts.length d2, .slice y3 y.units.length d3, .slice y4 y.out.length d4] 34)) := (Below.refl _ _).alloc (Nat.le_refl _) _
  have k0 : (w.alloc (Obj.cells #[.slice y1 y.heap.length d1, .slice y2 y.insts.length d2, .slice y3 y.units.length d3, .slice y4 y.out.length d4] 34)).heap[w.heap.size]? = some (Obj.cells #[.slice y1 y.heap.length d1, .slice y2 y.insts.length d2, .slice y3 y.units.length d3, .slice y4 y.out.length d4] 34) := blk_at _ _ _ rfl
  have HC : Hid (Calls Tryz.prog 9 #[.agg #[.slice y1 y.heap.length d1, .slice y2 y.insts.length d2, .slice y3 y.units.length d3, .slice y4 y.out.length d4]] (w.alloc (Obj.cells #[.slice y1 y.heap.length d1, .slice y2 y.insts.length d2, .slice y3 y.units.length d3, .slice y4 y.out.length d4] 34)) fun e w' => Ans (w.alloc (Obj.cells #[.slice y1 y.heap.length d1, .slice y2 y.insts.length d2, .slice y3 y.units.length d3, .slice y4 y.out.length d4] 34)) (.bool y.ok) e w') := specSys_any y y1 y2 y3 y4 d1 d2 d3 d4 _ hs (hr.keep fun b hb => ⟨Nat.lt_of_lt_of_le hb hb0.size, hb0.block b hb⟩) hfl
  have l1 := hs.1.1
  have l2 := hs.2.1.1
  have l3 := hs.2.2.1.1
  clear hs hr hfl
  go_enter Tryz.func16, Tryz.ntmps16
  go_wp2_with fail
  refine HC.out.mono ?_
  rintro e w1 ⟨rfl, hb1⟩
  have hb2 := hb0.trans (hb1.mono hb0.size)
  have k1 := blk_keep k0 hb1 (by simp)
  have e0 := cell_blk (j := 0) k1 rfl
  have e1 := cell_blk (j := 1) k1 rfl
  have e2 := cell_blk (j := 2) k1 rfl
  clear k0 k1 HC
  cases h : y.ok
  · have HQ : Hid (y.size = 0) := by show _ = _; unfold Sy.size; rw [h]; rfl
    clear h
    go_wp2
    go_ret
    exact ⟨by rw [HQ.out]; rfl, hb2⟩
  · have HQ : Hid (y.size = (y.heap.length : Int) + y.insts.length + y.units.length) := by show _ = _; unfold Sy.size; rw [h]; rfl
    clear h
    go_wp2
    go_ret
    exact ⟨by rw [HQ.out]; rfl, hb2⟩
set_option maxRecDepth 100000 in
set_option maxHeartbeats 1000000 in
theorem implSize_any (y : Sy) (y1 y2 y3 y4 : Option Addr) (d1 d2 d3 d4 : Nat) (w : World) (hs : y.small) (hr : SyRows w (fun b => b < w.heap.size) y1 y2 y3 y4 d1 d2 d3 d4 y) :
    Calls Tryz.prog 17 #[.agg #[.slice y1 y.heap.length d1, .slice y2 y.insts.length d2, .slice y3 y.units.length d3, .slice y4 y.out.length d4]] w fun e w' => Ans w (.int .i64 y.size) e w' := by
  have hb0 : Below w.heap.size w (w.alloc (Obj.cells #[.slice y1 y.heap.length d1, .slice y2 y.insts.length d2, .slice y3 y.units.length d3, .slice y4 y.out.length d4] 34)) := (Below.refl _ _).alloc (Nat.le_refl _) _
  have k0 : (w.alloc (Obj.cells #[.slice y1 y.heap.length d1, .slice y2 y.insts.length d2, .slice y3 y.units.length d3, .slice y4 y.out.length d4] 34)).heap[w.heap.size]? = some (Obj.cells #[.slice y1 y.heap.length d1, .slice y2 y.insts.length d2, .slice y3 y.units.length d3, .slice y4 y.out.length d4] 34) := blk_at _ _ _ rfl
  have HC : Hid (Calls Tryz.prog 11 #[.agg #[.slice y1 y.heap.length d1, .slice y2 y.insts.length d2, .slice y3 y.units.length d3, .slice y4 y.out.length d4]] (w.alloc (Obj.cells #[.slice y1 y.heap.length d1, .slice y2 y.insts.length d2, .slice y3 y.units.length d3, .slice y4 y.out.length d4] 34)) fun e w' => Ans (w.alloc (Obj.cells #[.slice y1 y.heap.length d1, .slice y2 y.insts.length d2, .slice y3 y.units.length d3, .slice y4 y.out.length d4] 34)) (.bool y.ok) e w') := implSys_any y y1 y2 y3 y4 d1 d2 d3 d4 _ hs (hr.keep fun b hb => ⟨Nat.lt_of_lt_of_le hb hb0.size, hb0.block b hb⟩)
  have l1 := hs.1.1
  have l2 := hs.2.1.1
  have l3 := hs.2.2.1.1
  clear hs hr
  go_enter Tryz.func17, Tryz.ntmps17
  go_wp2_with fail
  refine HC.out.mono ?_
  rintro e w1 ⟨rfl, hb1⟩
  have hb2 := hb0.trans (hb1.mono hb0.size)
  have k1 := blk_keep k0 hb1 (by simp)
  have e0 := cell_blk (j := 0) k1 rfl
  have e1 := cell_blk (j := 1) k1 rfl
  have e2 := cell_blk (j := 2) k1 rfl
  clear k0 k1 HC
  cases h : y.ok
  · have HQ : Hid (y.size = 0) := by show _ = _; unfold Sy.size; rw [h]; rfl
    clear h
    go_wp2
    go_ret
    exact ⟨by rw [HQ.out]; rfl, hb2⟩
  · have HQ : Hid (y.size = (y.heap.length : Int) + y.insts.length + y.units.length) := by show _ = _; unfold Sy.size; rw [h]; rfl
    clear h
    go_wp2
    go_ret
    exact ⟨by rw [HQ.out]; rfl, hb2⟩
end Go.Proofs.YtmnkomgdcebniaaGreat
