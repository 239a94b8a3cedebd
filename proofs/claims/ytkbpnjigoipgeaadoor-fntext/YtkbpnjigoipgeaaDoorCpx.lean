/- The program's copies: of texts, of values, of rows of them. The program's copies: of values in a row, of a heap. The program's copy of a heap. -/
import Derived.Shelf.LaysM
import Derived.Shelf.Strconv.Clone
import Derived.Lib.SliceRun
import Derived.Test.YtkbpnjigoipgeaaDoorCpa
set_option linter.unusedVariables false
namespace Go.Proofs
def Tryd.laysM316_ren : Go.Shelf.Ren := ⟨fun | 316 => 57 | n => n, fun | 9 => 9 | 3 => 3 | 4 => 4 | 37 => 22 | 0 => 0 | 127 => 87 | 5 => 5 | n => n, fun | n => n⟩
theorem Tryd.laysM316 : Go.Proofs.LaysM.n316 Tryd.prog Tryd.laysM316_ren := {
  mixed := by kernel_rfl
  f316 := Tryd.func57.trans (congrArg some (by kernel_rfl))
  t0 := Tryd.underlying0
  a0 := Tryd.isAgg0
  z0 := Tryd.sizeOf0
  v0 := Tryd.zeroValue0
  t3 := Tryd.underlying3
  a3 := Tryd.isAgg3
  z3 := Tryd.sizeOf3
  v3 := Tryd.zeroValue3
  t4 := Tryd.underlying4
  a4 := Tryd.isAgg4
  z4 := Tryd.sizeOf4
  v4 := Tryd.zeroValue4
  t9 := Tryd.underlying9
  a9 := Tryd.isAgg9
  z9 := Tryd.sizeOf9
  v9 := Tryd.zeroValue9
  t37 := Tryd.underlying22
  a37 := Tryd.isAgg22
  z37 := Tryd.sizeOf22
  v37 := Tryd.zeroValue22
  t127 := Tryd.underlying87
  a127 := Tryd.isAgg87
  z127 := Tryd.sizeOf87
  v127 := Tryd.zeroValue87
  t5 := Tryd.underlying5
  a5 := Tryd.isAgg5
  z5 := Tryd.sizeOf5
  v5 := Tryd.zeroValue5
  i0 := by kernel_rfl
  i3 := by kernel_rfl
  i4 := by kernel_rfl
  i5 := by kernel_rfl
  i9 := by kernel_rfl
  i37 := by kernel_rfl
  i127 := by kernel_rfl }
open Go.RowKit in
theorem Tryd.stringslite_Clone (s : ByteArray) (w : World) (hlim : s.size ≤ 281474976710656) :
    Calls Tryd.prog 57 #[.string s] w fun e w' => e = .returned (.string s) ∧ Below w.heap.size w w' := Any.stringslite_Clone Tryd.laysM316 s w hlim
end Go.Proofs
namespace Go.Proofs.YtkbpnjigoipgeaaDoor
open Go.ChangeShapes Go.WideShapes Go.ChangeAt Go.RowKit
theorem clone_any (s : ByteArray) (w : World) (hs : s.size ≤ 1048576) : Calls Tryd.prog 53 #[.string s] w fun e w' => Ans w (.string s) e w' := by
  have HC : Hid (Calls Tryd.prog 57 #[.string s] w fun e w' => e = .returned (.string s) ∧ Below w.heap.size w w') := Tryd.stringslite_Clone s w (by omega)
  go_enter Tryd.func53, Tryd.ntmps53
  go_wp2_with (go_at_call 57; refine HC.out.mono ?_; rintro e w2 ⟨rfl, hb⟩)
  go_ret
  exact ⟨rfl, hb⟩
set_option maxRecDepth 100000 in
set_option maxHeartbeats 1000000 in
theorem copyValue_any (d : Val) (w : World) (hs : d.s.size ≤ 1048576) : Calls Tryd.prog 42 #[.agg #[.int .i64 d.k, .int .i64 d.n, .string d.s]] w fun e w' => Ans w (.agg #[.int .i64 d.k, .int .i64 d.n, .string d.s]) e w' := by
  have HC : Hid (∀ w, Calls Tryd.prog 53 #[.string d.s] w fun e w' => Ans w (.string d.s) e w') := fun w => clone_any d.s w hs
  have hb0 : Below w.heap.size w ((w.alloc (Obj.cells #[.int .i64 d.k, .int .i64 d.n, .string d.s] 26)).alloc (Obj.cells #[.int .i64 0, .int .i64 0, .string ⟨#[]⟩] 26)) := ((Below.refl _ _).alloc (Nat.le_refl _) _).alloc (by simp) _
  have k0 : ((w.alloc (Obj.cells #[.int .i64 d.k, .int .i64 d.n, .string d.s] 26)).alloc (Obj.cells #[.int .i64 0, .int .i64 0, .string ⟨#[]⟩] 26)).heap[w.heap.size]? = some (Obj.cells #[.int .i64 d.k, .int .i64 d.n, .string d.s] 26) := blk_past (blk_at _ _ _ rfl)
  have k1 : ((w.alloc (Obj.cells #[.int .i64 d.k, .int .i64 d.n, .string d.s] 26)).alloc (Obj.cells #[.int .i64 0, .int .i64 0, .string ⟨#[]⟩] 26)).heap[w.heap.size + 1]? = some (Obj.cells #[.int .i64 0, .int .i64 0, .string ⟨#[]⟩] 26) := blk_at _ _ _ (by simp)
  have hs0 : ((w.alloc (Obj.cells #[.int .i64 d.k, .int .i64 d.n, .string d.s] 26)).alloc (Obj.cells #[.int .i64 0, .int .i64 0, .string ⟨#[]⟩] 26)).heap.size = w.heap.size + 2 := by simp
  go_enter Tryd.func42, Tryd.ntmps42
  go_wp2_with fail
  refine (HC.out _).mono ?_
  rintro e w1 ⟨rfl, hb1⟩
  have k2 := blk_keep k0 hb1 (by omega)
  have k3 := blk_keep k1 hb1 (by omega)
  have c0 := cell_blk (j := 0) k2 rfl
  have c1 := cell_blk (j := 1) k2 rfl
  have c2 := cell_blk (j := 2) k2 rfl
  have f2 := frozen_blk k2 2
  have d0 := cell_blk (j := 0) k3 rfl
  have d1 := cell_blk (j := 1) k3 rfl
  have d2 := cell_blk (j := 2) k3 rfl
  have g0 := frozen_blk k3 0
  have g1 := frozen_blk k3 1
  have g2 := frozen_blk k3 2
  have HB : Hid (Below w.heap.size w w1) := hb0.trans (hb1.mono hb0.size)
  have K3 : Hid (w1.heap[w.heap.size + 1]? = some (Obj.cells #[.int .i64 0, .int .i64 0, .string ⟨#[]⟩] 26)) := k3
  clear hb0 hb1 k0 k1 k2 k3 hs0 HC
  go_wp2
  have K4 : (w1.setCell ⟨w.heap.size, 2, none⟩ (.string d.s)).heap[w.heap.size + 1]? = some (Obj.cells #[.int .i64 0, .int .i64 0, .string ⟨#[]⟩] 26) := (heap_setCell_other _ _ _ _ (by show w.heap.size + 1 ≠ w.heap.size; omega)).trans K3.out
  refine bodyPost_ret (results_cell_row rfl _ _ (w.heap.size + 1) 26 #[.int .i64 d.k, .int .i64 d.n, .string d.s] (0, 0) _ rfl (heap_setCell_same _ _ _ _ _ _ (heap_setCell_same _ _ _ _ _ _ (heap_setCell_same _ _ _ _ _ _ K4))) Tryd.underlying26 rfl (by kernel_rfl)) rfl ?_
  exact ⟨rfl, (((HB.out.setCell (p := ⟨_, _, none⟩) (Nat.le_refl _) _).setCell (p := ⟨_, _, none⟩) (by simp) _).setCell (p := ⟨_, _, none⟩) (by simp) _).setCell (p := ⟨_, _, none⟩) (by simp) _⟩
end Go.Proofs.YtkbpnjigoipgeaaDoor
