/- A system that comes in, copied into blocks that may be written. -/
import Derived.Test.YtamjofdgikifnaaGreatFtr
import Derived.Test.YtamjofdgikifnaaGreatApw
import Derived.Test.YtamjofdgikifnaaGreatSzc
set_option linter.unusedVariables false
namespace Go.Proofs.YtamjofdgikifnaaGreat
open Go.ChangeShapes Go.WideShapes Go.ChangeAt Go.RowKit
theorem tu_string (a : Option Addr) (l : List ByteArray) (cap : Nat) (w : World) (hn : l.length ≤ 1048576) (hsm : ∀ d ∈ l, smS d) (hr : rgS.Row w (fun b => b < w.heap.size) a l) :
  Calls Tryz.prog 9 #[.slice a l.length cap] w fun e w' => MadeU rgS l w e w' :=
 (toStringS_u a l cap w hn (rowS_iff.1 hr)).mono fun e w' ⟨g, he, h1, h2, hrow, hu, hb⟩ => ⟨g, he, rowSP_iff.2 (hrow.keep fun b hbg => ⟨⟨by have : b = g := hbg; omega, by have : b = g := hbg; omega, by have : b = g := hbg; rw [this]; exact hu⟩, rfl⟩), hb⟩
theorem tu_int (a : Option Addr) (l : List Int) (cap : Nat) (w : World) (hn : l.length ≤ 1048576) (hr : rgJ.Row w (fun b => b < w.heap.size) a l) :
  Calls Tryz.prog 123 #[.slice a l.length cap] w fun e w' => MadeU rgJ l w e w' :=
 (toIntS_u a l cap w hn (rowIP_iff.1 hr)).mono fun e w' ⟨g, he, h1, h2, hrow, hu, hb⟩ => ⟨g, he, rowIP_iff.2 (hrow.keep fun b hbg => ⟨⟨by have : b = g := hbg; omega, by have : b = g := hbg; omega, by have : b = g := hbg; rw [this]; exact hu⟩, rfl⟩), hb⟩
set_option maxRecDepth 100000 in
set_option maxHeartbeats 2000000 in
theorem tuE_Node (x : Nod) (a1 a2 : Option Addr) (c1 c2 : Nat) (w : World) (hs : x.small) (hr : NodRows w (fun b => b < w.heap.size) a1 c1 a2 c2 x) :
  Calls Tryz.prog 116 #[.agg #[.int .i64 x.k, .int .i64 x.n, .string x.s, .slice a1 x.names.length c1, .slice a2 x.args.length c2]] w fun e w' => MadeEU rgN x w e w' := by
 obtain ⟨_, _, _, q3, q4, q6⟩ := hs
 have u3 := And.intro q3 q6
 have u4 := And.intro q4 True.intro
 obtain ⟨r1, r2, t1, t2⟩ := hr
 have r1 := rowSP_iff.2 r1
 have r2 := rowIP_iff.2 r2
 have HC0 : Hid (∀ w2, Below w.heap.size w w2 → Calls Tryz.prog 9 #[.slice a1 x.names.length c1] w2 fun e w' => MadeU rgS x.names w2 e w') := fun w2 h2 => tu_string a1 x.names c1 w2 u3.1 u3.2 (r1.keep fun b h => ⟨by have := h2.size; omega, h2.block b h⟩)
 have HC1 : Hid (∀ w2, Below w.heap.size w w2 → Calls Tryz.prog 123 #[.slice a2 x.args.length c2] w2 fun e w' => MadeU rgJ x.args w2 e w') := fun w2 h2 => tu_int a2 x.args c2 w2 u4.1 (r2.keep fun b h => ⟨by have := h2.size; omega, h2.block b h⟩)
 clear r1 r2
 go_enter Tryz.func116, Tryz.ntmps116
 go_wp2_with fail
 have hb : Below w.heap.size w (((w.alloc (Obj.cells #[.int .i64 x.k, .int .i64 x.n, .string x.s, .slice a1 x.names.length c1, .slice a2 x.args.length c2] 146)).alloc (Obj.cells #[.int .i64 0, .int .i64 0, .string ⟨#[]⟩, .slice none 0 0, .slice none 0 0] 96)).alloc (Obj.cells #[.int .i64 x.k, .int .i64 x.n, .string x.s, .slice none 0 0, .slice none 0 0] 96)) := (((Below.refl _ _).alloc (Nat.le_refl _) _).alloc (by simp) _).alloc (by simp; omega) _
 have k0 : (((w.alloc (Obj.cells #[.int .i64 x.k, .int .i64 x.n, .string x.s, .slice a1 x.names.length c1, .slice a2 x.args.length c2] 146)).alloc (Obj.cells #[.int .i64 0, .int .i64 0, .string ⟨#[]⟩, .slice none 0 0, .slice none 0 0] 96)).alloc (Obj.cells #[.int .i64 x.k, .int .i64 x.n, .string x.s, .slice none 0 0, .slice none 0 0] 96)).heap[w.heap.size]? = some (Obj.cells #[.int .i64 x.k, .int .i64 x.n, .string x.s, .slice a1 x.names.length c1, .slice a2 x.args.length c2] 146) := blk_past (blk_past (blk_at _ _ _ rfl))
 have k1 : (((w.alloc (Obj.cells #[.int .i64 x.k, .int .i64 x.n, .string x.s, .slice a1 x.names.length c1, .slice a2 x.args.length c2] 146)).alloc (Obj.cells #[.int .i64 0, .int .i64 0, .string ⟨#[]⟩, .slice none 0 0, .slice none 0 0] 96)).alloc (Obj.cells #[.int .i64 x.k, .int .i64 x.n, .string x.s, .slice none 0 0, .slice none 0 0] 96)).heap[w.heap.size + 1]? = some (Obj.cells #[.int .i64 0, .int .i64 0, .string ⟨#[]⟩, .slice none 0 0, .slice none 0 0] 96) := blk_past (blk_at _ _ _ (by simp))
 have k2 : (((w.alloc (Obj.cells #[.int .i64 x.k, .int .i64 x.n, .string x.s, .slice a1 x.names.length c1, .slice a2 x.args.length c2] 146)).alloc (Obj.cells #[.int .i64 0, .int .i64 0, .string ⟨#[]⟩, .slice none 0 0, .slice none 0 0] 96)).alloc (Obj.cells #[.int .i64 x.k, .int .i64 x.n, .string x.s, .slice none 0 0, .slice none 0 0] 96)).heap[w.heap.size + 1 + 1]? = some (Obj.cells #[.int .i64 x.k, .int .i64 x.n, .string x.s, .slice none 0 0, .slice none 0 0] 96) := blk_at _ _ _ (by simp)
 have hz : w.heap.size + 3 ≤ (((w.alloc (Obj.cells #[.int .i64 x.k, .int .i64 x.n, .string x.s, .slice a1 x.names.length c1, .slice a2 x.args.length c2] 146)).alloc (Obj.cells #[.int .i64 0, .int .i64 0, .string ⟨#[]⟩, .slice none 0 0, .slice none 0 0] 96)).alloc (Obj.cells #[.int .i64 x.k, .int .i64 x.n, .string x.s, .slice none 0 0, .slice none 0 0] 96)).heap.size := by simp
 generalize (((w.alloc (Obj.cells #[.int .i64 x.k, .int .i64 x.n, .string x.s, .slice a1 x.names.length c1, .slice a2 x.args.length c2] 146)).alloc (Obj.cells #[.int .i64 0, .int .i64 0, .string ⟨#[]⟩, .slice none 0 0, .slice none 0 0] 96)).alloc (Obj.cells #[.int .i64 x.k, .int .i64 x.n, .string x.s, .slice none 0 0, .slice none 0 0] 96)) = wA at *
 refine (HC0.out _ hb).mono ?_
 rintro e v0 ⟨g0, rfl, hrow, hv⟩
 have hb1 : Below w.heap.size w v0 := hb.trans (hv.mono hb.size)
 have hsv := hv.size
 have k0 := blk_keep k0 hv (by omega)
 have k1 := blk_keep k1 hv (by omega)
 have k2 := blk_keep k2 hv (by omega)
 have R0_0 : rgS.Row v0 (fun b => w.heap.size + 3 ≤ b ∧ b < v0.heap.size ∧ Unf v0 b) (some ⟨g0, 0, none⟩) x.names := hrow.keep fun b h => ⟨⟨by have := h.1; omega, h.2⟩, rfl⟩
 clear hb hv hrow
 have R0_0 : Hid (rgS.Row v0 (fun b => w.heap.size + 3 ≤ b ∧ b < v0.heap.size ∧ Unf v0 b) (some ⟨g0, 0, none⟩) x.names) := R0_0
 have p0 := cell_blk (j := 0) k0 rfl
 have p1 := cell_blk (j := 1) k0 rfl
 have p2 := cell_blk (j := 2) k0 rfl
 have p3 := cell_blk (j := 3) k0 rfl
 have p4 := cell_blk (j := 4) k0 rfl
 have o0 := cell_blk (j := 0) k2 rfl
 have o1 := cell_blk (j := 1) k2 rfl
 have o2 := cell_blk (j := 2) k2 rfl
 have o3 := cell_blk (j := 3) k2 rfl
 have o4 := cell_blk (j := 4) k2 rfl
 have f3 := frozen_blk k2 3
 have K0 : Hid (v0.heap[w.heap.size]? = some (Obj.cells #[.int .i64 x.k, .int .i64 x.n, .string x.s, .slice a1 x.names.length c1, .slice a2 x.args.length c2] 146)) := k0
 have K1 : Hid (v0.heap[w.heap.size + 1]? = some (Obj.cells #[.int .i64 0, .int .i64 0, .string ⟨#[]⟩, .slice none 0 0, .slice none 0 0] 96)) := k1
 have K2 : Hid (v0.heap[w.heap.size + 1 + 1]? = some (Obj.cells #[.int .i64 x.k, .int .i64 x.n, .string x.s, .slice none 0 0, .slice none 0 0] 96)) := k2
 clear k0 k1 k2
 go_wp2_with fail
 have k0 : (v0.setCell ⟨w.heap.size + 1 + 1, 3, none⟩ (.slice (some ⟨g0, 0, none⟩) x.names.length x.names.length)).heap[w.heap.size]? = some (Obj.cells #[.int .i64 x.k, .int .i64 x.n, .string x.s, .slice a1 x.names.length c1, .slice a2 x.args.length c2] 146) := by
  rw [heap_setCell_other _ _ _ _ (by simp; try omega)]; exact K0.out
 have k1 : (v0.setCell ⟨w.heap.size + 1 + 1, 3, none⟩ (.slice (some ⟨g0, 0, none⟩) x.names.length x.names.length)).heap[w.heap.size + 1]? = some (Obj.cells #[.int .i64 0, .int .i64 0, .string ⟨#[]⟩, .slice none 0 0, .slice none 0 0] 96) := by
  rw [heap_setCell_other _ _ _ _ (by simp)]; exact K1.out
 have k2 : (v0.setCell ⟨w.heap.size + 1 + 1, 3, none⟩ (.slice (some ⟨g0, 0, none⟩) x.names.length x.names.length)).heap[w.heap.size + 1 + 1]? = some (Obj.cells #[.int .i64 x.k, .int .i64 x.n, .string x.s, .slice (some ⟨g0, 0, none⟩) x.names.length x.names.length, .slice none 0 0] 96) := heap_setCell_same _ _ _ _ _ _ (K2.out)
 have hb : Below w.heap.size w (v0.setCell ⟨w.heap.size + 1 + 1, 3, none⟩ (.slice (some ⟨g0, 0, none⟩) x.names.length x.names.length)) := hb1.setCell (p := ⟨_, _, none⟩) (by simp; omega) _
 have hz : w.heap.size + 3 ≤ (v0.setCell ⟨w.heap.size + 1 + 1, 3, none⟩ (.slice (some ⟨g0, 0, none⟩) x.names.length x.names.length)).heap.size := by simp; omega
 have hoE : ∀ b, w.heap.size + 3 ≤ b → (v0.setCell ⟨w.heap.size + 1 + 1, 3, none⟩ (.slice (some ⟨g0, 0, none⟩) x.names.length x.names.length)).heap[b]? = v0.heap[b]? := by
  intro b h
  rw [heap_setCell_other _ _ _ _ (by show b ≠ w.heap.size + 1 + 1; omega)]
 have R0_0 : Hid (rgS.Row (v0.setCell ⟨w.heap.size + 1 + 1, 3, none⟩ (.slice (some ⟨g0, 0, none⟩) x.names.length x.names.length)) (fun b => w.heap.size + 3 ≤ b ∧ b < (v0.setCell ⟨w.heap.size + 1 + 1, 3, none⟩ (.slice (some ⟨g0, 0, none⟩) x.names.length x.names.length)).heap.size ∧ Unf (v0.setCell ⟨w.heap.size + 1 + 1, 3, none⟩ (.slice (some ⟨g0, 0, none⟩) x.names.length x.names.length)) b) (some ⟨g0, 0, none⟩) x.names) := R0_0.out.keep fun b h => ⟨⟨h.1, by have := h.2.1; simpa using this, h.2.2.keep (hoE b h.1)⟩, hoE b h.1⟩
 clear hoE K0 K1 K2 hb1 hsv p0 o0 p1 o1 p2 o2 p3 o3 p4 o4 f3
 generalize (v0.setCell ⟨w.heap.size + 1 + 1, 3, none⟩ (.slice (some ⟨g0, 0, none⟩) x.names.length x.names.length)) = w0A at *
 refine (HC1.out _ hb).mono ?_
 rintro e v1 ⟨g1, rfl, hrow, hv⟩
 have hb1 : Below w.heap.size w v1 := hb.trans (hv.mono hb.size)
 have hsv := hv.size
 have k0 := blk_keep k0 hv (by omega)
 have k1 := blk_keep k1 hv (by omega)
 have k2 := blk_keep k2 hv (by omega)
 have R0_0 : rgS.Row v1 (fun b => w.heap.size + 3 ≤ b ∧ b < v1.heap.size ∧ Unf v1 b) (some ⟨g0, 0, none⟩) x.names := R0_0.out.keep fun b h => ⟨⟨h.1, by have := h.2.1; omega, h.2.2.keep (hv.block b h.2.1)⟩, hv.block b h.2.1⟩
 have R1_0 : rgJ.Row v1 (fun b => w.heap.size + 3 ≤ b ∧ b < v1.heap.size ∧ Unf v1 b) (some ⟨g1, 0, none⟩) x.args := hrow.keep fun b h => ⟨⟨by have := h.1; omega, h.2⟩, rfl⟩
 clear hb hv hrow
 have R0_0 : Hid (rgS.Row v1 (fun b => w.heap.size + 3 ≤ b ∧ b < v1.heap.size ∧ Unf v1 b) (some ⟨g0, 0, none⟩) x.names) := R0_0
 have R1_0 : Hid (rgJ.Row v1 (fun b => w.heap.size + 3 ≤ b ∧ b < v1.heap.size ∧ Unf v1 b) (some ⟨g1, 0, none⟩) x.args) := R1_0
 have p0 := cell_blk (j := 0) k0 rfl
 have p1 := cell_blk (j := 1) k0 rfl
 have p2 := cell_blk (j := 2) k0 rfl
 have p3 := cell_blk (j := 3) k0 rfl
 have p4 := cell_blk (j := 4) k0 rfl
 have o0 := cell_blk (j := 0) k2 rfl
 have o1 := cell_blk (j := 1) k2 rfl
 have o2 := cell_blk (j := 2) k2 rfl
 have o3 := cell_blk (j := 3) k2 rfl
 have o4 := cell_blk (j := 4) k2 rfl
 have f4 := frozen_blk k2 4
 have s0 := cell_blk (j := 0) k1 rfl
 have l0 := frozen_blk k1 0
 have s1 := cell_blk (j := 1) k1 rfl
 have l1 := frozen_blk k1 1
 have s2 := cell_blk (j := 2) k1 rfl
 have l2 := frozen_blk k1 2
 have s3 := cell_blk (j := 3) k1 rfl
 have l3 := frozen_blk k1 3
 have s4 := cell_blk (j := 4) k1 rfl
 have l4 := frozen_blk k1 4
 have K0 : Hid (v1.heap[w.heap.size]? = some (Obj.cells #[.int .i64 x.k, .int .i64 x.n, .string x.s, .slice a1 x.names.length c1, .slice a2 x.args.length c2] 146)) := k0
 have K1 : Hid (v1.heap[w.heap.size + 1]? = some (Obj.cells #[.int .i64 0, .int .i64 0, .string ⟨#[]⟩, .slice none 0 0, .slice none 0 0] 96)) := k1
 have K2 : Hid (v1.heap[w.heap.size + 1 + 1]? = some (Obj.cells #[.int .i64 x.k, .int .i64 x.n, .string x.s, .slice (some ⟨g0, 0, none⟩) x.names.length x.names.length, .slice none 0 0] 96)) := k2
 clear k0 k1 k2
 go_wp2
 have K3 : (v1.setCell ⟨w.heap.size + 1 + 1, 4, none⟩ (.slice (some ⟨g1, 0, none⟩) x.args.length x.args.length)).heap[w.heap.size + 1]? = some (Obj.cells #[.int .i64 0, .int .i64 0, .string ⟨#[]⟩, .slice none 0 0, .slice none 0 0] 96) := by
  rw [heap_setCell_other _ _ _ _ (by simp)]; exact K1.out
 refine bodyPost_ret (results_cell_row rfl _ _ (w.heap.size + 1) 96 #[.int .i64 x.k, .int .i64 x.n, .string x.s, .slice (some ⟨g0, 0, none⟩) x.names.length x.names.length, .slice (some ⟨g1, 0, none⟩) x.args.length x.args.length] (0, 0) _ rfl (heap_setCell_same _ _ _ _ _ _ (heap_setCell_same _ _ _ _ _ _ (heap_setCell_same _ _ _ _ _ _ (heap_setCell_same _ _ _ _ _ _ (heap_setCell_same _ _ _ _ _ _ (K3)))))) Tryz.underlying96 rfl (by kernel_rfl)) rfl ?_
 have hoth : ∀ b, w.heap.size + 3 ≤ b → ((((((v1.setCell ⟨w.heap.size + 1 + 1, 4, none⟩ (.slice (some ⟨g1, 0, none⟩) x.args.length x.args.length)).setCell ⟨w.heap.size + 1, 0, none⟩ (.int .i64 x.k)).setCell ⟨w.heap.size + 1, 1, none⟩ (.int .i64 x.n)).setCell ⟨w.heap.size + 1, 2, none⟩ (.string x.s)).setCell ⟨w.heap.size + 1, 3, none⟩ (.slice (some ⟨g0, 0, none⟩) x.names.length x.names.length)).setCell ⟨w.heap.size + 1, 4, none⟩ (.slice (some ⟨g1, 0, none⟩) x.args.length x.args.length)).heap[b]? = v1.heap[b]? := by
  intro b h
  rw [heap_setCell_other _ _ _ _ (by show b ≠ w.heap.size + 1; omega), heap_setCell_other _ _ _ _ (by show b ≠ w.heap.size + 1; omega), heap_setCell_other _ _ _ _ (by show b ≠ w.heap.size + 1; omega), heap_setCell_other _ _ _ _ (by show b ≠ w.heap.size + 1; omega), heap_setCell_other _ _ _ _ (by show b ≠ w.heap.size + 1; omega), heap_setCell_other _ _ _ _ (by show b ≠ w.heap.size + 1 + 1; omega)]
 exact ⟨_, rfl, ⟨_, _, _, _, rfl, rowSP_iff.1 (R0_0.out.keep fun b h => ⟨⟨by have := h.1; omega, by have := h.2.1; simpa using this, h.2.2.keep (hoth b h.1)⟩, hoth b h.1⟩), rowIP_iff.1 (R1_0.out.keep fun b h => ⟨⟨by have := h.1; omega, by have := h.2.1; simpa using this, h.2.2.keep (hoth b h.1)⟩, hoth b h.1⟩), Nat.le_refl _, Nat.le_refl _⟩, (((((hb1.setCell (p := ⟨_, _, none⟩) (by simp <;> omega) _).setCell (p := ⟨_, _, none⟩) (by simp <;> omega) _).setCell (p := ⟨_, _, none⟩) (by simp <;> omega) _).setCell (p := ⟨_, _, none⟩) (by simp <;> omega) _).setCell (p := ⟨_, _, none⟩) (by simp <;> omega) _).setCell (p := ⟨_, _, none⟩) (by simp <;> omega) _⟩
theorem Tryz.infu_Node : (Tryz.prog.info? 96).map (fun i => (i.zero, i.size, i.bytes)) = some (some (.agg #[.int .i64 0, .int .i64 0, .string ⟨#[]⟩, .slice none 0 0, .slice none 0 0]), 5, 80) := by kernel_rfl
set_option maxRecDepth 100000 in
set_option maxHeartbeats 2000000 in
theorem tu_Node (a : Option Addr) (l : List Nod) (cap : Nat) (w : World) (hn : l.length ≤ 1048576) (hsm : ∀ d ∈ l, Nod.small d) (hr : rgN.Row w (fun b => b < w.heap.size) a l) :
  Calls Tryz.prog 105 #[.slice a l.length cap] w fun e w' => MadeU rgN l w e w' := by
 obtain ⟨i0, hi, hz0, hz1, hz2⟩ := info_parts Tryz.infu_Node
 have HR : Hid (rgN.Row w (fun b => b < w.heap.size) a l) := hr
 have HS : Hid (∀ d ∈ l, Nod.small d) := hsm
 clear hr hsm
 go_enter Tryz.func105, Tryz.ntmps105
 go_wp2_with (at_make; refine wpList_make_full _ rfl _ _ 52 rfl w.heap.size 96 i0 _ 5 Tryz.underlying52 hi hz0 hz1 .i64 .i64 _ _ l.length rfl rfl rfl rfl ?c1 ?c2 ?c3 ?_)
 case c1 => rw [hz2]; omega
 case c2 => simp [maxLen]; omega
 case c3 => exact Nat.le_refl _
 intro w1 hown1 hgr1
 go_wp2
 have hb1 : Below w.heap.size w w1 := (Below.refl _ _).grown hgr1 (Nat.le_refl _) (fun _ h => by cases h)
 obtain ⟨hlen, ⟨h0, _⟩ | ⟨g, cp, cur, hv, _, hblk, _, _, hcs, _⟩⟩ := hown1
 ·cases h0
 simp only [Value.slice.injEq, Option.some.injEq, Addr.mk.injEq] at hv
 obtain ⟨⟨rfl, _⟩, _, rfl⟩ := hv
 clear hlen
 go_loopw [4] (fun o wr => ∃ (i : Nat) (cur : Array Value), i ≤ l.length ∧ wr.heap[w.heap.size]? = some (.cells cur 96 (0, 0)) ∧ cur.size = l.length * 5 ∧ LaidU rgN wr w.heap.size i l ∧ o = .int .i64 i ∧ Below w.heap.size w wr)
  (fun o _ => l.length - (intOf o).toNat)
 case atStart => exact ⟨0, cur, by omega, hblk, hcs, LaidU.zero, rfl, hb1⟩
 case round =>
  clear hblk hcs hb1 hgr1
  obtain ⟨i, cur, hi, hblk, hcs, hat0, rfl, hb⟩ := hrel
  have HA : Hid (LaidU rgN wr w.heap.size i l) := hat0
  have HK : Hid (wr.heap[w.heap.size]? = some (.cells cur 96 (0, 0))) := hblk
  have hlt2 : w.heap.size < wr.heap.size := (Array.getElem?_eq_some_iff.1 hblk).1
  clear hat0 hblk
  by_cases hlt : i < l.length
  ·obtain ⟨d, hd⟩ : ∃ d, l[i]? = some d := ⟨_, List.getElem?_eq_getElem hlt⟩
   obtain ⟨b1, o1, cs, rfl, hbb, hat, hlies⟩ := HR.out i d hd
   obtain ⟨a1, c1, a2, c2, rfl, hrows⟩ := hat
   have cx0 : wr.cell? ⟨b1, o1 + i * 5, none⟩ = some (.int .i64 d.k) := cell_keep (hlies 0 _ rfl) hb hbb
   have cx1 : wr.cell? ⟨b1, o1 + i * 5 + 1, none⟩ = some (.int .i64 d.n) := cell_keep (hlies 1 _ rfl) hb hbb
   have cx2 : wr.cell? ⟨b1, o1 + i * 5 + 2, none⟩ = some (.string d.s) := cell_keep (hlies 2 _ rfl) hb hbb
   have cx3 : wr.cell? ⟨b1, o1 + i * 5 + 3, none⟩ = some (.slice a1 d.names.length c1) := cell_keep (hlies 3 _ rfl) hb hbb
   have cx4 : wr.cell? ⟨b1, o1 + i * 5 + 4, none⟩ = some (.slice a2 d.args.length c2) := cell_keep (hlies 4 _ rfl) hb hbb
   have hsz := hb.size
   have HT : Hid (Calls Tryz.prog 116 #[.agg #[.int .i64 d.k, .int .i64 d.n, .string d.s, .slice a1 d.names.length c1, .slice a2 d.args.length c2]] wr fun e w' => MadeEU rgN d wr e w') := tuE_Node d a1 a2 c1 c2 wr (HS.out d (List.mem_of_getElem? hd)) (hrows.keep fun b h => ⟨by omega, hb.block b h⟩)
   have HD : Hid (l[i]? = some d) := hd
   clear hlies hd hrows
   go_wp2_with fail
   refine HT.out.mono ?_
   rintro e w2 ⟨cs2, rfl, hat2, hb2⟩
   obtain ⟨a1', c1', a2', c2', rfl, hrows2⟩ := hat2
   have HA2 : Hid (rgN.At w2 (fun b => wr.heap.size ≤ b ∧ b < w2.heap.size ∧ Unf w2 b) [.int .i64 d.k, .int .i64 d.n, .string d.s, .slice a1' d.names.length c1', .slice a2' d.args.length c2'] d) := ⟨a1', c1', a2', c2', rfl, hrows2⟩
   have hk2 := blk_keep HK.out hb2 hlt2
   have f0 := frozen_blk hk2 (i * 5)
   obtain ⟨x0, e0⟩ := cell_blk' hk2 (i * 5) (by omega)
   have f1 := frozen_blk hk2 (i * 5 + 1)
   obtain ⟨x1, e1⟩ := cell_blk' hk2 (i * 5 + 1) (by omega)
   have f2 := frozen_blk hk2 (i * 5 + 2)
   obtain ⟨x2, e2⟩ := cell_blk' hk2 (i * 5 + 2) (by omega)
   have f3 := frozen_blk hk2 (i * 5 + 3)
   obtain ⟨x3, e3⟩ := cell_blk' hk2 (i * 5 + 3) (by omega)
   have f4 := frozen_blk hk2 (i * 5 + 4)
   obtain ⟨x4, e4⟩ := cell_blk' hk2 (i * 5 + 4) (by omega)
   have HK2 : Hid (w2.heap[w.heap.size]? = some (.cells cur 96 (0, 0))) := hk2
   have HB2 : Hid (Below wr.heap.size wr w2) := hb2
   clear hk2 HT hb2 hrows2
   go_wp2
   go_roundw
   case rel =>
    have hput : putL w2 w.heap.size (i * 5) [.int .i64 d.k, .int .i64 d.n, .string d.s, .slice a1' d.names.length c1', .slice a2' d.args.length c2'] = (((((w2.setCell ⟨w.heap.size, i * 5, none⟩ (.int .i64 d.k)).setCell ⟨w.heap.size, i * 5 + 1, none⟩ (.int .i64 d.n)).setCell ⟨w.heap.size, i * 5 + 2, none⟩ (.string d.s)).setCell ⟨w.heap.size, i * 5 + 3, none⟩ (.slice a1' d.names.length c1')).setCell ⟨w.heap.size, i * 5 + 4, none⟩ (.slice a2' d.args.length c2')) := by simp only [putL, Nat.add_assoc, Nat.reduceAdd]
    rw [← hput]
    obtain ⟨ys, hy1, hy2⟩ := putL_blk [.int .i64 d.k, .int .i64 d.n, .string d.s, .slice a1' d.names.length c1', .slice a2' d.args.length c2'] (i * 5) HK2.out
    refine ⟨i + 1, ys, by omega, hy1, by omega, HA.out.next HD.out hlt2 HB2.out HA2.out HK2.out (by show i * 5 + 5 ≤ cur.size; omega), by go_num, putL_below [.int .i64 d.k, .int .i64 d.n, .string d.s, .slice a1' d.names.length c1', .slice a2' d.args.length c2'] (i * 5) (hb.trans (HB2.out.mono hsz)) (Nat.le_refl _)⟩
   case measure => simp [intOf]; omega
  ·have hlt' : decide ((i : Int) < (l.length : Int)) = false := by simp; omega
   obtain rfl : i = l.length := by omega
   go_wp2
   go_ret
   exact ⟨w.heap.size, rfl, HA.out.row hlt2 ⟨_, _, HK.out⟩, hb⟩
set_option maxRecDepth 100000 in
set_option maxHeartbeats 2000000 in
theorem tuE_Prog (x : Prg) (a1 : Option Addr) (c1 : Nat) (w : World) (hs : x.small) (hr : PrgRows w (fun b => b < w.heap.size) a1 c1 x) :
  Calls Tryz.prog 85 #[.agg #[.slice a1 x.nodes.length c1, .int .i64 x.root]] w fun e w' => MadeEU rgP x w e w' := by
 obtain ⟨u0, u1⟩ := hs
 obtain ⟨r1, t1⟩ := hr
 have HC0 : Hid (∀ w2, Below w.heap.size w w2 → Calls Tryz.prog 105 #[.slice a1 x.nodes.length c1] w2 fun e w' => MadeU rgN x.nodes w2 e w') := fun w2 h2 => tu_Node a1 x.nodes c1 w2 u0.1 u0.2 (r1.keep fun b h => ⟨by have := h2.size; omega, h2.block b h⟩)
 clear r1
 go_enter Tryz.func85, Tryz.ntmps85
 go_wp2_with fail
 have hb : Below w.heap.size w (((w.alloc (Obj.cells #[.slice a1 x.nodes.length c1, .int .i64 x.root] 86)).alloc (Obj.cells #[.slice none 0 0, .int .i64 0] 54)).alloc (Obj.cells #[.slice none 0 0, .int .i64 0] 54)) := (((Below.refl _ _).alloc (Nat.le_refl _) _).alloc (by simp) _).alloc (by simp; omega) _
 have k0 : (((w.alloc (Obj.cells #[.slice a1 x.nodes.length c1, .int .i64 x.root] 86)).alloc (Obj.cells #[.slice none 0 0, .int .i64 0] 54)).alloc (Obj.cells #[.slice none 0 0, .int .i64 0] 54)).heap[w.heap.size]? = some (Obj.cells #[.slice a1 x.nodes.length c1, .int .i64 x.root] 86) := blk_past (blk_past (blk_at _ _ _ rfl))
 have k1 : (((w.alloc (Obj.cells #[.slice a1 x.nodes.length c1, .int .i64 x.root] 86)).alloc (Obj.cells #[.slice none 0 0, .int .i64 0] 54)).alloc (Obj.cells #[.slice none 0 0, .int .i64 0] 54)).heap[w.heap.size + 1]? = some (Obj.cells #[.slice none 0 0, .int .i64 0] 54) := blk_past (blk_at _ _ _ (by simp))
 have k2 : (((w.alloc (Obj.cells #[.slice a1 x.nodes.length c1, .int .i64 x.root] 86)).alloc (Obj.cells #[.slice none 0 0, .int .i64 0] 54)).alloc (Obj.cells #[.slice none 0 0, .int .i64 0] 54)).heap[w.heap.size + 1 + 1]? = some (Obj.cells #[.slice none 0 0, .int .i64 0] 54) := blk_at _ _ _ (by simp)
 have hz : w.heap.size + 3 ≤ (((w.alloc (Obj.cells #[.slice a1 x.nodes.length c1, .int .i64 x.root] 86)).alloc (Obj.cells #[.slice none 0 0, .int .i64 0] 54)).alloc (Obj.cells #[.slice none 0 0, .int .i64 0] 54)).heap.size := by simp
 generalize (((w.alloc (Obj.cells #[.slice a1 x.nodes.length c1, .int .i64 x.root] 86)).alloc (Obj.cells #[.slice none 0 0, .int .i64 0] 54)).alloc (Obj.cells #[.slice none 0 0, .int .i64 0] 54)) = wA at *
 refine (HC0.out _ hb).mono ?_
 rintro e v0 ⟨g0, rfl, hrow, hv⟩
 have hb1 : Below w.heap.size w v0 := hb.trans (hv.mono hb.size)
 have hsv := hv.size
 have k0 := blk_keep k0 hv (by omega)
 have k1 := blk_keep k1 hv (by omega)
 have k2 := blk_keep k2 hv (by omega)
 have R0_0 : rgN.Row v0 (fun b => w.heap.size + 3 ≤ b ∧ b < v0.heap.size ∧ Unf v0 b) (some ⟨g0, 0, none⟩) x.nodes := hrow.keep fun b h => ⟨⟨by have := h.1; omega, h.2⟩, rfl⟩
 clear hb hv hrow
 have R0_0 : Hid (rgN.Row v0 (fun b => w.heap.size + 3 ≤ b ∧ b < v0.heap.size ∧ Unf v0 b) (some ⟨g0, 0, none⟩) x.nodes) := R0_0
 have p0 := cell_blk (j := 0) k0 rfl
 have p1 := cell_blk (j := 1) k0 rfl
 have o0 := cell_blk (j := 0) k2 rfl
 have o1 := cell_blk (j := 1) k2 rfl
 have f0 := frozen_blk k2 0
 have f1 := frozen_blk k2 1
 have s0 := cell_blk (j := 0) k1 rfl
 have l0 := frozen_blk k1 0
 have s1 := cell_blk (j := 1) k1 rfl
 have l1 := frozen_blk k1 1
 have K0 : Hid (v0.heap[w.heap.size]? = some (Obj.cells #[.slice a1 x.nodes.length c1, .int .i64 x.root] 86)) := k0
 have K1 : Hid (v0.heap[w.heap.size + 1]? = some (Obj.cells #[.slice none 0 0, .int .i64 0] 54)) := k1
 have K2 : Hid (v0.heap[w.heap.size + 1 + 1]? = some (Obj.cells #[.slice none 0 0, .int .i64 0] 54)) := k2
 clear k0 k1 k2
 go_wp2
 have K3 : ((v0.setCell ⟨w.heap.size + 1 + 1, 0, none⟩ (.slice (some ⟨g0, 0, none⟩) x.nodes.length x.nodes.length)).setCell ⟨w.heap.size + 1 + 1, 1, none⟩ (.int .i64 x.root)).heap[w.heap.size + 1]? = some (Obj.cells #[.slice none 0 0, .int .i64 0] 54) := by
  rw [heap_setCell_other _ _ _ _ (by simp), heap_setCell_other _ _ _ _ (by simp)]; exact K1.out
 refine bodyPost_ret (results_cell_row rfl _ _ (w.heap.size + 1) 54 #[.slice (some ⟨g0, 0, none⟩) x.nodes.length x.nodes.length, .int .i64 x.root] (0, 0) _ rfl (heap_setCell_same _ _ _ _ _ _ (heap_setCell_same _ _ _ _ _ _ (K3))) Tryz.underlying54 rfl (by kernel_rfl)) rfl ?_
 have hoth : ∀ b, w.heap.size + 3 ≤ b → ((((v0.setCell ⟨w.heap.size + 1 + 1, 0, none⟩ (.slice (some ⟨g0, 0, none⟩) x.nodes.length x.nodes.length)).setCell ⟨w.heap.size + 1 + 1, 1, none⟩ (.int .i64 x.root)).setCell ⟨w.heap.size + 1, 0, none⟩ (.slice (some ⟨g0, 0, none⟩) x.nodes.length x.nodes.length)).setCell ⟨w.heap.size + 1, 1, none⟩ (.int .i64 x.root)).heap[b]? = v0.heap[b]? := by
  intro b h
  rw [heap_setCell_other _ _ _ _ (by show b ≠ w.heap.size + 1; omega), heap_setCell_other _ _ _ _ (by show b ≠ w.heap.size + 1; omega), heap_setCell_other _ _ _ _ (by show b ≠ w.heap.size + 1 + 1; omega), heap_setCell_other _ _ _ _ (by show b ≠ w.heap.size + 1 + 1; omega)]
 exact ⟨_, rfl, ⟨_, _, rfl, ⟨R0_0.out.keep fun b h => ⟨⟨by have := h.1; omega, by have := h.2.1; simpa using this, h.2.2.keep (hoth b h.1)⟩, hoth b h.1⟩, Nat.le_refl _⟩⟩, (((hb1.setCell (p := ⟨_, _, none⟩) (by simp <;> omega) _).setCell (p := ⟨_, _, none⟩) (by simp <;> omega) _).setCell (p := ⟨_, _, none⟩) (by simp <;> omega) _).setCell (p := ⟨_, _, none⟩) (by simp <;> omega) _⟩
set_option maxRecDepth 100000 in
set_option maxHeartbeats 2000000 in
theorem tuE_Type (x : Typ) (w : World) (hs : x.small) :
  Calls Tryz.prog 59 #[.agg #[.string x.name, .int .i64 x.size]] w fun e w' => MadeEU rgT x w e w' := by
 go_enter Tryz.func59, Tryz.ntmps59
 go_wp2
 refine bodyPost_ret (results_cell_row rfl _ _ (w.heap.size + 1) 77 #[.string x.name, .int .i64 x.size] (0, 0) _ rfl (blk_past (blk_at _ _ _ (by simp))) Tryz.underlying77 rfl (by kernel_rfl)) rfl ?_
 exact ⟨_, rfl, rfl, (((Below.refl _ _).alloc (Nat.le_refl _) _).alloc (by simp) _).alloc (by simp; omega) _⟩
theorem Tryz.infu_Type : (Tryz.prog.info? 77).map (fun i => (i.zero, i.size, i.bytes)) = some (some (.agg #[.string ⟨#[]⟩, .int .i64 0]), 2, 24) := by kernel_rfl
set_option maxRecDepth 100000 in
set_option maxHeartbeats 2000000 in
theorem tu_Type (a : Option Addr) (l : List Typ) (cap : Nat) (w : World) (hn : l.length ≤ 1048576) (hsm : ∀ d ∈ l, Typ.small d) (hr : rgT.Row w (fun b => b < w.heap.size) a l) :
  Calls Tryz.prog 29 #[.slice a l.length cap] w fun e w' => MadeU rgT l w e w' := by
 obtain ⟨i0, hi, hz0, hz1, hz2⟩ := info_parts Tryz.infu_Type
 have HR : Hid (rgT.Row w (fun b => b < w.heap.size) a l) := hr
 have HS : Hid (∀ d ∈ l, Typ.small d) := hsm
 clear hr hsm
 go_enter Tryz.func29, Tryz.ntmps29
 go_wp2_with (at_make; refine wpList_make_full _ rfl _ _ 31 rfl w.heap.size 77 i0 _ 2 Tryz.underlying31 hi hz0 hz1 .i64 .i64 _ _ l.length rfl rfl rfl rfl ?c1 ?c2 ?c3 ?_)
 case c1 => rw [hz2]; omega
 case c2 => simp [maxLen]; omega
 case c3 => exact Nat.le_refl _
 intro w1 hown1 hgr1
 go_wp2
 have hb1 : Below w.heap.size w w1 := (Below.refl _ _).grown hgr1 (Nat.le_refl _) (fun _ h => by cases h)
 obtain ⟨hlen, ⟨h0, _⟩ | ⟨g, cp, cur, hv, _, hblk, _, _, hcs, _⟩⟩ := hown1
 ·cases h0
 simp only [Value.slice.injEq, Option.some.injEq, Addr.mk.injEq] at hv
 obtain ⟨⟨rfl, _⟩, _, rfl⟩ := hv
 clear hlen
 go_loopw [4] (fun o wr => ∃ (i : Nat) (cur : Array Value), i ≤ l.length ∧ wr.heap[w.heap.size]? = some (.cells cur 77 (0, 0)) ∧ cur.size = l.length * 2 ∧ LaidU rgT wr w.heap.size i l ∧ o = .int .i64 i ∧ Below w.heap.size w wr)
  (fun o _ => l.length - (intOf o).toNat)
 case atStart => exact ⟨0, cur, by omega, hblk, hcs, LaidU.zero, rfl, hb1⟩
 case round =>
  clear hblk hcs hb1 hgr1
  obtain ⟨i, cur, hi, hblk, hcs, hat0, rfl, hb⟩ := hrel
  have HA : Hid (LaidU rgT wr w.heap.size i l) := hat0
  have HK : Hid (wr.heap[w.heap.size]? = some (.cells cur 77 (0, 0))) := hblk
  have hlt2 : w.heap.size < wr.heap.size := (Array.getElem?_eq_some_iff.1 hblk).1
  clear hat0 hblk
  by_cases hlt : i < l.length
  ·obtain ⟨d, hd⟩ : ∃ d, l[i]? = some d := ⟨_, List.getElem?_eq_getElem hlt⟩
   obtain ⟨b1, o1, cs, rfl, hbb, hat, hlies⟩ := HR.out i d hd
   obtain rfl := hat
   have cx0 : wr.cell? ⟨b1, o1 + i * 2, none⟩ = some (.string d.name) := cell_keep (hlies 0 _ rfl) hb hbb
   have cx1 : wr.cell? ⟨b1, o1 + i * 2 + 1, none⟩ = some (.int .i64 d.size) := cell_keep (hlies 1 _ rfl) hb hbb
   have hsz := hb.size
   have HT : Hid (Calls Tryz.prog 59 #[.agg #[.string d.name, .int .i64 d.size]] wr fun e w' => MadeEU rgT d wr e w') := tuE_Type d   wr (HS.out d (List.mem_of_getElem? hd))
   have HD : Hid (l[i]? = some d) := hd
   clear hlies hd
   go_wp2_with fail
   refine HT.out.mono ?_
   rintro e w2 ⟨cs2, rfl, hat2, hb2⟩
   obtain rfl := hat2
   have HA2 : Hid (rgT.At w2 (fun b => wr.heap.size ≤ b ∧ b < w2.heap.size ∧ Unf w2 b) [.string d.name, .int .i64 d.size] d) := rfl
   have hk2 := blk_keep HK.out hb2 hlt2
   have f0 := frozen_blk hk2 (i * 2)
   obtain ⟨x0, e0⟩ := cell_blk' hk2 (i * 2) (by omega)
   have f1 := frozen_blk hk2 (i * 2 + 1)
   obtain ⟨x1, e1⟩ := cell_blk' hk2 (i * 2 + 1) (by omega)
   have HK2 : Hid (w2.heap[w.heap.size]? = some (.cells cur 77 (0, 0))) := hk2
   have HB2 : Hid (Below wr.heap.size wr w2) := hb2
   clear hk2 HT hb2
   go_wp2
   go_roundw
   case rel =>
    have hput : putL w2 w.heap.size (i * 2) [.string d.name, .int .i64 d.size] = ((w2.setCell ⟨w.heap.size, i * 2, none⟩ (.string d.name)).setCell ⟨w.heap.size, i * 2 + 1, none⟩ (.int .i64 d.size)) := by simp only [putL]
    rw [← hput]
    obtain ⟨ys, hy1, hy2⟩ := putL_blk [.string d.name, .int .i64 d.size] (i * 2) HK2.out
    refine ⟨i + 1, ys, by omega, hy1, by omega, HA.out.next HD.out hlt2 HB2.out HA2.out HK2.out (by show i * 2 + 2 ≤ cur.size; omega), by go_num, putL_below [.string d.name, .int .i64 d.size] (i * 2) (hb.trans (HB2.out.mono hsz)) (Nat.le_refl _)⟩
   case measure => simp [intOf]; omega
  ·have hlt' : decide ((i : Int) < (l.length : Int)) = false := by simp; omega
   obtain rfl : i = l.length := by omega
   go_wp2
   go_ret
   exact ⟨w.heap.size, rfl, HA.out.row hlt2 ⟨_, _, HK.out⟩, hb⟩
set_option maxRecDepth 100000 in
set_option maxHeartbeats 2000000 in
theorem tuE_Def (x : Dfn) (a1 : Option Addr) (c1 : Nat) (w : World) (hs : x.small) (hr : DfnRows w (fun b => b < w.heap.size) a1 c1 x) :
  Calls Tryz.prog 60 #[.agg #[.string x.name, .slice a1 x.prog.nodes.length c1, .int .i64 x.prog.root]] w fun e w' => MadeEU rgD x w e w' := by
 obtain ⟨u0, u1⟩ := hs
 obtain ⟨r1, t1⟩ := hr
 have HC0 : Hid (∀ w2, Below w.heap.size w w2 → Calls Tryz.prog 85 #[.agg #[.slice a1 x.prog.nodes.length c1, .int .i64 x.prog.root]] w2 fun e w' => MadeEU rgP x.prog w2 e w') := fun w2 h2 => tuE_Prog x.prog a1 c1 w2 u1 (PrgRows.keep (w := w) (p := (fun b => b < w.heap.size)) ⟨r1, t1⟩ fun b h => ⟨by have := h2.size; omega, h2.block b h⟩)
 clear r1
 go_enter Tryz.func60, Tryz.ntmps60
 go_wp2_with fail
 have hb : Below w.heap.size w (((w.alloc (Obj.cells #[.string x.name, .slice a1 x.prog.nodes.length c1, .int .i64 x.prog.root] 88)).alloc (Obj.cells #[.string ⟨#[]⟩, .slice none 0 0, .int .i64 0] 63)).alloc (Obj.cells #[.string x.name, .slice none 0 0, .int .i64 0] 63)) := (((Below.refl _ _).alloc (Nat.le_refl _) _).alloc (by simp) _).alloc (by simp; omega) _
 have k0 : (((w.alloc (Obj.cells #[.string x.name, .slice a1 x.prog.nodes.length c1, .int .i64 x.prog.root] 88)).alloc (Obj.cells #[.string ⟨#[]⟩, .slice none 0 0, .int .i64 0] 63)).alloc (Obj.cells #[.string x.name, .slice none 0 0, .int .i64 0] 63)).heap[w.heap.size]? = some (Obj.cells #[.string x.name, .slice a1 x.prog.nodes.length c1, .int .i64 x.prog.root] 88) := blk_past (blk_past (blk_at _ _ _ rfl))
 have k1 : (((w.alloc (Obj.cells #[.string x.name, .slice a1 x.prog.nodes.length c1, .int .i64 x.prog.root] 88)).alloc (Obj.cells #[.string ⟨#[]⟩, .slice none 0 0, .int .i64 0] 63)).alloc (Obj.cells #[.string x.name, .slice none 0 0, .int .i64 0] 63)).heap[w.heap.size + 1]? = some (Obj.cells #[.string ⟨#[]⟩, .slice none 0 0, .int .i64 0] 63) := blk_past (blk_at _ _ _ (by simp))
 have k2 : (((w.alloc (Obj.cells #[.string x.name, .slice a1 x.prog.nodes.length c1, .int .i64 x.prog.root] 88)).alloc (Obj.cells #[.string ⟨#[]⟩, .slice none 0 0, .int .i64 0] 63)).alloc (Obj.cells #[.string x.name, .slice none 0 0, .int .i64 0] 63)).heap[w.heap.size + 1 + 1]? = some (Obj.cells #[.string x.name, .slice none 0 0, .int .i64 0] 63) := blk_at _ _ _ (by simp)
 have hz : w.heap.size + 3 ≤ (((w.alloc (Obj.cells #[.string x.name, .slice a1 x.prog.nodes.length c1, .int .i64 x.prog.root] 88)).alloc (Obj.cells #[.string ⟨#[]⟩, .slice none 0 0, .int .i64 0] 63)).alloc (Obj.cells #[.string x.name, .slice none 0 0, .int .i64 0] 63)).heap.size := by simp
 generalize (((w.alloc (Obj.cells #[.string x.name, .slice a1 x.prog.nodes.length c1, .int .i64 x.prog.root] 88)).alloc (Obj.cells #[.string ⟨#[]⟩, .slice none 0 0, .int .i64 0] 63)).alloc (Obj.cells #[.string x.name, .slice none 0 0, .int .i64 0] 63)) = wA at *
 refine (HC0.out _ hb).mono ?_
 rintro e v0 ⟨cs, rfl, ⟨y0_1, z0_1, rfl, hrows⟩, hv⟩
 obtain ⟨hrow1, hlen0_1⟩ := hrows
 have hb1 : Below w.heap.size w v0 := hb.trans (hv.mono hb.size)
 have hsv := hv.size
 have k0 := blk_keep k0 hv (by omega)
 have k1 := blk_keep k1 hv (by omega)
 have k2 := blk_keep k2 hv (by omega)
 have R0_0 : rgN.Row v0 (fun b => w.heap.size + 3 ≤ b ∧ b < v0.heap.size ∧ Unf v0 b) y0_1 x.prog.nodes := hrow1.keep fun b h => ⟨⟨by have := h.1; omega, h.2⟩, rfl⟩
 clear hb hv hrow1
 have R0_0 : Hid (rgN.Row v0 (fun b => w.heap.size + 3 ≤ b ∧ b < v0.heap.size ∧ Unf v0 b) y0_1 x.prog.nodes) := R0_0
 have p0 := cell_blk (j := 0) k0 rfl
 have p1 := cell_blk (j := 1) k0 rfl
 have p2 := cell_blk (j := 2) k0 rfl
 have o0 := cell_blk (j := 0) k2 rfl
 have o1 := cell_blk (j := 1) k2 rfl
 have o2 := cell_blk (j := 2) k2 rfl
 have f1 := frozen_blk k2 1
 have f2 := frozen_blk k2 2
 have s0 := cell_blk (j := 0) k1 rfl
 have l0 := frozen_blk k1 0
 have s1 := cell_blk (j := 1) k1 rfl
 have l1 := frozen_blk k1 1
 have s2 := cell_blk (j := 2) k1 rfl
 have l2 := frozen_blk k1 2
 have K0 : Hid (v0.heap[w.heap.size]? = some (Obj.cells #[.string x.name, .slice a1 x.prog.nodes.length c1, .int .i64 x.prog.root] 88)) := k0
 have K1 : Hid (v0.heap[w.heap.size + 1]? = some (Obj.cells #[.string ⟨#[]⟩, .slice none 0 0, .int .i64 0] 63)) := k1
 have K2 : Hid (v0.heap[w.heap.size + 1 + 1]? = some (Obj.cells #[.string x.name, .slice none 0 0, .int .i64 0] 63)) := k2
 clear k0 k1 k2
 go_wp2
 have K3 : ((v0.setCell ⟨w.heap.size + 1 + 1, 1, none⟩ (.slice y0_1 x.prog.nodes.length z0_1)).setCell ⟨w.heap.size + 1 + 1, 2, none⟩ (.int .i64 x.prog.root)).heap[w.heap.size + 1]? = some (Obj.cells #[.string ⟨#[]⟩, .slice none 0 0, .int .i64 0] 63) := by
  rw [heap_setCell_other _ _ _ _ (by simp), heap_setCell_other _ _ _ _ (by simp)]; exact K1.out
 refine bodyPost_ret (results_cell_row rfl _ _ (w.heap.size + 1) 63 #[.string x.name, .slice y0_1 x.prog.nodes.length z0_1, .int .i64 x.prog.root] (0, 0) _ rfl (heap_setCell_same _ _ _ _ _ _ (heap_setCell_same _ _ _ _ _ _ (heap_setCell_same _ _ _ _ _ _ (K3)))) Tryz.underlying63 rfl (by kernel_rfl)) rfl ?_
 have hoth : ∀ b, w.heap.size + 3 ≤ b → (((((v0.setCell ⟨w.heap.size + 1 + 1, 1, none⟩ (.slice y0_1 x.prog.nodes.length z0_1)).setCell ⟨w.heap.size + 1 + 1, 2, none⟩ (.int .i64 x.prog.root)).setCell ⟨w.heap.size + 1, 0, none⟩ (.string x.name)).setCell ⟨w.heap.size + 1, 1, none⟩ (.slice y0_1 x.prog.nodes.length z0_1)).setCell ⟨w.heap.size + 1, 2, none⟩ (.int .i64 x.prog.root)).heap[b]? = v0.heap[b]? := by
  intro b h
  rw [heap_setCell_other _ _ _ _ (by show b ≠ w.heap.size + 1; omega), heap_setCell_other _ _ _ _ (by show b ≠ w.heap.size + 1; omega), heap_setCell_other _ _ _ _ (by show b ≠ w.heap.size + 1; omega), heap_setCell_other _ _ _ _ (by show b ≠ w.heap.size + 1 + 1; omega), heap_setCell_other _ _ _ _ (by show b ≠ w.heap.size + 1 + 1; omega)]
 exact ⟨_, rfl, ⟨_, _, rfl, ⟨R0_0.out.keep fun b h => ⟨⟨by have := h.1; omega, by have := h.2.1; simpa using this, h.2.2.keep (hoth b h.1)⟩, hoth b h.1⟩, hlen0_1⟩⟩, ((((hb1.setCell (p := ⟨_, _, none⟩) (by simp <;> omega) _).setCell (p := ⟨_, _, none⟩) (by simp <;> omega) _).setCell (p := ⟨_, _, none⟩) (by simp <;> omega) _).setCell (p := ⟨_, _, none⟩) (by simp <;> omega) _).setCell (p := ⟨_, _, none⟩) (by simp <;> omega) _⟩
theorem Tryz.infu_Def : (Tryz.prog.info? 63).map (fun i => (i.zero, i.size, i.bytes)) = some (some (.agg #[.string ⟨#[]⟩, .slice none 0 0, .int .i64 0]), 3, 48) := by kernel_rfl
set_option maxRecDepth 100000 in
set_option maxHeartbeats 2000000 in
theorem tu_Def (a : Option Addr) (l : List Dfn) (cap : Nat) (w : World) (hn : l.length ≤ 1048576) (hsm : ∀ d ∈ l, Dfn.small d) (hr : rgD.Row w (fun b => b < w.heap.size) a l) :
  Calls Tryz.prog 30 #[.slice a l.length cap] w fun e w' => MadeU rgD l w e w' := by
 obtain ⟨i0, hi, hz0, hz1, hz2⟩ := info_parts Tryz.infu_Def
 have HR : Hid (rgD.Row w (fun b => b < w.heap.size) a l) := hr
 have HS : Hid (∀ d ∈ l, Dfn.small d) := hsm
 clear hr hsm
 go_enter Tryz.func30, Tryz.ntmps30
 go_wp2_with (at_make; refine wpList_make_full _ rfl _ _ 32 rfl w.heap.size 63 i0 _ 3 Tryz.underlying32 hi hz0 hz1 .i64 .i64 _ _ l.length rfl rfl rfl rfl ?c1 ?c2 ?c3 ?_)
 case c1 => rw [hz2]; omega
 case c2 => simp [maxLen]; omega
 case c3 => exact Nat.le_refl _
 intro w1 hown1 hgr1
 go_wp2
 have hb1 : Below w.heap.size w w1 := (Below.refl _ _).grown hgr1 (Nat.le_refl _) (fun _ h => by cases h)
 obtain ⟨hlen, ⟨h0, _⟩ | ⟨g, cp, cur, hv, _, hblk, _, _, hcs, _⟩⟩ := hown1
 ·cases h0
 simp only [Value.slice.injEq, Option.some.injEq, Addr.mk.injEq] at hv
 obtain ⟨⟨rfl, _⟩, _, rfl⟩ := hv
 clear hlen
 go_loopw [4] (fun o wr => ∃ (i : Nat) (cur : Array Value), i ≤ l.length ∧ wr.heap[w.heap.size]? = some (.cells cur 63 (0, 0)) ∧ cur.size = l.length * 3 ∧ LaidU rgD wr w.heap.size i l ∧ o = .int .i64 i ∧ Below w.heap.size w wr)
  (fun o _ => l.length - (intOf o).toNat)
 case atStart => exact ⟨0, cur, by omega, hblk, hcs, LaidU.zero, rfl, hb1⟩
 case round =>
  clear hblk hcs hb1 hgr1
  obtain ⟨i, cur, hi, hblk, hcs, hat0, rfl, hb⟩ := hrel
  have HA : Hid (LaidU rgD wr w.heap.size i l) := hat0
  have HK : Hid (wr.heap[w.heap.size]? = some (.cells cur 63 (0, 0))) := hblk
  have hlt2 : w.heap.size < wr.heap.size := (Array.getElem?_eq_some_iff.1 hblk).1
  clear hat0 hblk
  by_cases hlt : i < l.length
  ·obtain ⟨d, hd⟩ : ∃ d, l[i]? = some d := ⟨_, List.getElem?_eq_getElem hlt⟩
   obtain ⟨b1, o1, cs, rfl, hbb, hat, hlies⟩ := HR.out i d hd
   obtain ⟨a1, c1, rfl, hrows⟩ := hat
   have cx0 : wr.cell? ⟨b1, o1 + i * 3, none⟩ = some (.string d.name) := cell_keep (hlies 0 _ rfl) hb hbb
   have cx1 : wr.cell? ⟨b1, o1 + i * 3 + 1, none⟩ = some (.slice a1 d.prog.nodes.length c1) := cell_keep (hlies 1 _ rfl) hb hbb
   have cx2 : wr.cell? ⟨b1, o1 + i * 3 + 2, none⟩ = some (.int .i64 d.prog.root) := cell_keep (hlies 2 _ rfl) hb hbb
   have hsz := hb.size
   have HT : Hid (Calls Tryz.prog 60 #[.agg #[.string d.name, .slice a1 d.prog.nodes.length c1, .int .i64 d.prog.root]] wr fun e w' => MadeEU rgD d wr e w') := tuE_Def d a1 c1 wr (HS.out d (List.mem_of_getElem? hd)) (hrows.keep fun b h => ⟨by omega, hb.block b h⟩)
   have HD : Hid (l[i]? = some d) := hd
   clear hlies hd hrows
   go_wp2_with fail
   refine HT.out.mono ?_
   rintro e w2 ⟨cs2, rfl, hat2, hb2⟩
   obtain ⟨a1', c1', rfl, hrows2⟩ := hat2
   have HA2 : Hid (rgD.At w2 (fun b => wr.heap.size ≤ b ∧ b < w2.heap.size ∧ Unf w2 b) [.string d.name, .slice a1' d.prog.nodes.length c1', .int .i64 d.prog.root] d) := ⟨a1', c1', rfl, hrows2⟩
   have hk2 := blk_keep HK.out hb2 hlt2
   have f0 := frozen_blk hk2 (i * 3)
   obtain ⟨x0, e0⟩ := cell_blk' hk2 (i * 3) (by omega)
   have f1 := frozen_blk hk2 (i * 3 + 1)
   obtain ⟨x1, e1⟩ := cell_blk' hk2 (i * 3 + 1) (by omega)
   have f2 := frozen_blk hk2 (i * 3 + 2)
   obtain ⟨x2, e2⟩ := cell_blk' hk2 (i * 3 + 2) (by omega)
   have HK2 : Hid (w2.heap[w.heap.size]? = some (.cells cur 63 (0, 0))) := hk2
   have HB2 : Hid (Below wr.heap.size wr w2) := hb2
   clear hk2 HT hb2 hrows2
   go_wp2
   go_roundw
   case rel =>
    have hput : putL w2 w.heap.size (i * 3) [.string d.name, .slice a1' d.prog.nodes.length c1', .int .i64 d.prog.root] = (((w2.setCell ⟨w.heap.size, i * 3, none⟩ (.string d.name)).setCell ⟨w.heap.size, i * 3 + 1, none⟩ (.slice a1' d.prog.nodes.length c1')).setCell ⟨w.heap.size, i * 3 + 2, none⟩ (.int .i64 d.prog.root)) := by simp only [putL, Nat.add_assoc, Nat.reduceAdd]
    rw [← hput]
    obtain ⟨ys, hy1, hy2⟩ := putL_blk [.string d.name, .slice a1' d.prog.nodes.length c1', .int .i64 d.prog.root] (i * 3) HK2.out
    refine ⟨i + 1, ys, by omega, hy1, by omega, HA.out.next HD.out hlt2 HB2.out HA2.out HK2.out (by show i * 3 + 3 ≤ cur.size; omega), by go_num, putL_below [.string d.name, .slice a1' d.prog.nodes.length c1', .int .i64 d.prog.root] (i * 3) (hb.trans (HB2.out.mono hsz)) (Nat.le_refl _)⟩
   case measure => simp [intOf]; omega
  ·have hlt' : decide ((i : Int) < (l.length : Int)) = false := by simp; omega
   obtain rfl : i = l.length := by omega
   go_wp2
   go_ret
   exact ⟨w.heap.size, rfl, HA.out.row hlt2 ⟨_, _, HK.out⟩, hb⟩
set_option maxRecDepth 100000 in
set_option maxHeartbeats 2000000 in
theorem tuE_Src (x : Srx) (a1 a2 a3 a4 a5 : Option Addr) (c1 c2 c3 c4 c5 : Nat) (w : World) (hs : x.small) (hr : SrxRows w (fun b => b < w.heap.size) a1 a2 a3 a4 a5 c1 c2 c3 c4 c5 x) :
  Calls Tryz.prog 8 #[.agg #[.string x.name, .slice a1 x.imps.length c1, .slice a2 x.exps.length c2, .slice a3 x.types.length c3, .slice a4 x.defs.length c4, .slice a5 x.convs.length c5]] w fun e w' => MadeEU rgX x w e w' := by
 obtain ⟨u0, u1, u2, u3, u4, u5⟩ := hs
 obtain ⟨⟨r1, t1⟩, ⟨r2, t2⟩, ⟨r3, t3⟩, ⟨r4, t4⟩, ⟨r5, t5⟩⟩ := hr
 have HC0 : Hid (∀ w2, Below w.heap.size w w2 → Calls Tryz.prog 9 #[.slice a1 x.imps.length c1] w2 fun e w' => MadeU rgS x.imps w2 e w') := fun w2 h2 => tu_string a1 x.imps c1 w2 u1.1 u1.2 (r1.keep fun b h => ⟨by have := h2.size; omega, h2.block b h⟩)
 have HC1 : Hid (∀ w2, Below w.heap.size w w2 → Calls Tryz.prog 9 #[.slice a2 x.exps.length c2] w2 fun e w' => MadeU rgS x.exps w2 e w') := fun w2 h2 => tu_string a2 x.exps c2 w2 u2.1 u2.2 (r2.keep fun b h => ⟨by have := h2.size; omega, h2.block b h⟩)
 have HC2 : Hid (∀ w2, Below w.heap.size w w2 → Calls Tryz.prog 29 #[.slice a3 x.types.length c3] w2 fun e w' => MadeU rgT x.types w2 e w') := fun w2 h2 => tu_Type a3 x.types c3 w2 u3.1 u3.2 (r3.keep fun b h => ⟨by have := h2.size; omega, h2.block b h⟩)
 have HC3 : Hid (∀ w2, Below w.heap.size w w2 → Calls Tryz.prog 30 #[.slice a4 x.defs.length c4] w2 fun e w' => MadeU rgD x.defs w2 e w') := fun w2 h2 => tu_Def a4 x.defs c4 w2 u4.1 u4.2 (r4.keep fun b h => ⟨by have := h2.size; omega, h2.block b h⟩)
 have HC4 : Hid (∀ w2, Below w.heap.size w w2 → Calls Tryz.prog 30 #[.slice a5 x.convs.length c5] w2 fun e w' => MadeU rgD x.convs w2 e w') := fun w2 h2 => tu_Def a5 x.convs c5 w2 u5.1 u5.2 (r5.keep fun b h => ⟨by have := h2.size; omega, h2.block b h⟩)
 clear r1 r2 r3 r4 r5
 go_enter Tryz.func8, Tryz.ntmps8
 go_wp2_with fail
 have hb : Below w.heap.size w (((w.alloc (Obj.cells #[.string x.name, .slice a1 x.imps.length c1, .slice a2 x.exps.length c2, .slice a3 x.types.length c3, .slice a4 x.defs.length c4, .slice a5 x.convs.length c5] 26)).alloc (Obj.cells #[.string ⟨#[]⟩, .slice none 0 0, .slice none 0 0, .slice none 0 0, .slice none 0 0, .slice none 0 0] 34)).alloc (Obj.cells #[.string x.name, .slice none 0 0, .slice none 0 0, .slice none 0 0, .slice none 0 0, .slice none 0 0] 34)) := (((Below.refl _ _).alloc (Nat.le_refl _) _).alloc (by simp) _).alloc (by simp; omega) _
 have k0 : (((w.alloc (Obj.cells #[.string x.name, .slice a1 x.imps.length c1, .slice a2 x.exps.length c2, .slice a3 x.types.length c3, .slice a4 x.defs.length c4, .slice a5 x.convs.length c5] 26)).alloc (Obj.cells #[.string ⟨#[]⟩, .slice none 0 0, .slice none 0 0, .slice none 0 0, .slice none 0 0, .slice none 0 0] 34)).alloc (Obj.cells #[.string x.name, .slice none 0 0, .slice none 0 0, .slice none 0 0, .slice none 0 0, .slice none 0 0] 34)).heap[w.heap.size]? = some (Obj.cells #[.string x.name, .slice a1 x.imps.length c1, .slice a2 x.exps.length c2, .slice a3 x.types.length c3, .slice a4 x.defs.length c4, .slice a5 x.convs.length c5] 26) := blk_past (blk_past (blk_at _ _ _ rfl))
 have k1 : (((w.alloc (Obj.cells #[.string x.name, .slice a1 x.imps.length c1, .slice a2 x.exps.length c2, .slice a3 x.types.length c3, .slice a4 x.defs.length c4, .slice a5 x.convs.length c5] 26)).alloc (Obj.cells #[.string ⟨#[]⟩, .slice none 0 0, .slice none 0 0, .slice none 0 0, .slice none 0 0, .slice none 0 0] 34)).alloc (Obj.cells #[.string x.name, .slice none 0 0, .slice none 0 0, .slice none 0 0, .slice none 0 0, .slice none 0 0] 34)).heap[w.heap.size + 1]? = some (Obj.cells #[.string ⟨#[]⟩, .slice none 0 0, .slice none 0 0, .slice none 0 0, .slice none 0 0, .slice none 0 0] 34) := blk_past (blk_at _ _ _ (by simp))
 have k2 : (((w.alloc (Obj.cells #[.string x.name, .slice a1 x.imps.length c1, .slice a2 x.exps.length c2, .slice a3 x.types.length c3, .slice a4 x.defs.length c4, .slice a5 x.convs.length c5] 26)).alloc (Obj.cells #[.string ⟨#[]⟩, .slice none 0 0, .slice none 0 0, .slice none 0 0, .slice none 0 0, .slice none 0 0] 34)).alloc (Obj.cells #[.string x.name, .slice none 0 0, .slice none 0 0, .slice none 0 0, .slice none 0 0, .slice none 0 0] 34)).heap[w.heap.size + 1 + 1]? = some (Obj.cells #[.string x.name, .slice none 0 0, .slice none 0 0, .slice none 0 0, .slice none 0 0, .slice none 0 0] 34) := blk_at _ _ _ (by simp)
 have hz : w.heap.size + 3 ≤ (((w.alloc (Obj.cells #[.string x.name, .slice a1 x.imps.length c1, .slice a2 x.exps.length c2, .slice a3 x.types.length c3, .slice a4 x.defs.length c4, .slice a5 x.convs.length c5] 26)).alloc (Obj.cells #[.string ⟨#[]⟩, .slice none 0 0, .slice none 0 0, .slice none 0 0, .slice none 0 0, .slice none 0 0] 34)).alloc (Obj.cells #[.string x.name, .slice none 0 0, .slice none 0 0, .slice none 0 0, .slice none 0 0, .slice none 0 0] 34)).heap.size := by simp
 generalize (((w.alloc (Obj.cells #[.string x.name, .slice a1 x.imps.length c1, .slice a2 x.exps.length c2, .slice a3 x.types.length c3, .slice a4 x.defs.length c4, .slice a5 x.convs.length c5] 26)).alloc (Obj.cells #[.string ⟨#[]⟩, .slice none 0 0, .slice none 0 0, .slice none 0 0, .slice none 0 0, .slice none 0 0] 34)).alloc (Obj.cells #[.string x.name, .slice none 0 0, .slice none 0 0, .slice none 0 0, .slice none 0 0, .slice none 0 0] 34)) = wA at *
 refine (HC0.out _ hb).mono ?_
 rintro e v0 ⟨g0, rfl, hrow, hv⟩
 have hb1 : Below w.heap.size w v0 := hb.trans (hv.mono hb.size)
 have hsv := hv.size
 have k0 := blk_keep k0 hv (by omega)
 have k1 := blk_keep k1 hv (by omega)
 have k2 := blk_keep k2 hv (by omega)
 have R0_0 : rgS.Row v0 (fun b => w.heap.size + 3 ≤ b ∧ b < v0.heap.size ∧ Unf v0 b) (some ⟨g0, 0, none⟩) x.imps := hrow.keep fun b h => ⟨⟨by have := h.1; omega, h.2⟩, rfl⟩
 clear hb hv hrow
 have R0_0 : Hid (rgS.Row v0 (fun b => w.heap.size + 3 ≤ b ∧ b < v0.heap.size ∧ Unf v0 b) (some ⟨g0, 0, none⟩) x.imps) := R0_0
 have p0 := cell_blk (j := 0) k0 rfl
 have p1 := cell_blk (j := 1) k0 rfl
 have p2 := cell_blk (j := 2) k0 rfl
 have p3 := cell_blk (j := 3) k0 rfl
 have p4 := cell_blk (j := 4) k0 rfl
 have p5 := cell_blk (j := 5) k0 rfl
 have o0 := cell_blk (j := 0) k2 rfl
 have o1 := cell_blk (j := 1) k2 rfl
 have o2 := cell_blk (j := 2) k2 rfl
 have o3 := cell_blk (j := 3) k2 rfl
 have o4 := cell_blk (j := 4) k2 rfl
 have o5 := cell_blk (j := 5) k2 rfl
 have f1 := frozen_blk k2 1
 have K0 : Hid (v0.heap[w.heap.size]? = some (Obj.cells #[.string x.name, .slice a1 x.imps.length c1, .slice a2 x.exps.length c2, .slice a3 x.types.length c3, .slice a4 x.defs.length c4, .slice a5 x.convs.length c5] 26)) := k0
 have K1 : Hid (v0.heap[w.heap.size + 1]? = some (Obj.cells #[.string ⟨#[]⟩, .slice none 0 0, .slice none 0 0, .slice none 0 0, .slice none 0 0, .slice none 0 0] 34)) := k1
 have K2 : Hid (v0.heap[w.heap.size + 1 + 1]? = some (Obj.cells #[.string x.name, .slice none 0 0, .slice none 0 0, .slice none 0 0, .slice none 0 0, .slice none 0 0] 34)) := k2
 clear k0 k1 k2
 go_wp2_with fail
 have k0 : (v0.setCell ⟨w.heap.size + 1 + 1, 1, none⟩ (.slice (some ⟨g0, 0, none⟩) x.imps.length x.imps.length)).heap[w.heap.size]? = some (Obj.cells #[.string x.name, .slice a1 x.imps.length c1, .slice a2 x.exps.length c2, .slice a3 x.types.length c3, .slice a4 x.defs.length c4, .slice a5 x.convs.length c5] 26) := by
  rw [heap_setCell_other _ _ _ _ (by simp; try omega)]; exact K0.out
 have k1 : (v0.setCell ⟨w.heap.size + 1 + 1, 1, none⟩ (.slice (some ⟨g0, 0, none⟩) x.imps.length x.imps.length)).heap[w.heap.size + 1]? = some (Obj.cells #[.string ⟨#[]⟩, .slice none 0 0, .slice none 0 0, .slice none 0 0, .slice none 0 0, .slice none 0 0] 34) := by
  rw [heap_setCell_other _ _ _ _ (by simp)]; exact K1.out
 have k2 : (v0.setCell ⟨w.heap.size + 1 + 1, 1, none⟩ (.slice (some ⟨g0, 0, none⟩) x.imps.length x.imps.length)).heap[w.heap.size + 1 + 1]? = some (Obj.cells #[.string x.name, .slice (some ⟨g0, 0, none⟩) x.imps.length x.imps.length, .slice none 0 0, .slice none 0 0, .slice none 0 0, .slice none 0 0] 34) := heap_setCell_same _ _ _ _ _ _ (K2.out)
 have hb : Below w.heap.size w (v0.setCell ⟨w.heap.size + 1 + 1, 1, none⟩ (.slice (some ⟨g0, 0, none⟩) x.imps.length x.imps.length)) := hb1.setCell (p := ⟨_, _, none⟩) (by simp; omega) _
 have hz : w.heap.size + 3 ≤ (v0.setCell ⟨w.heap.size + 1 + 1, 1, none⟩ (.slice (some ⟨g0, 0, none⟩) x.imps.length x.imps.length)).heap.size := by simp; omega
 have hoE : ∀ b, w.heap.size + 3 ≤ b → (v0.setCell ⟨w.heap.size + 1 + 1, 1, none⟩ (.slice (some ⟨g0, 0, none⟩) x.imps.length x.imps.length)).heap[b]? = v0.heap[b]? := by
  intro b h
  rw [heap_setCell_other _ _ _ _ (by show b ≠ w.heap.size + 1 + 1; omega)]
 have R0_0 : Hid (rgS.Row (v0.setCell ⟨w.heap.size + 1 + 1, 1, none⟩ (.slice (some ⟨g0, 0, none⟩) x.imps.length x.imps.length)) (fun b => w.heap.size + 3 ≤ b ∧ b < (v0.setCell ⟨w.heap.size + 1 + 1, 1, none⟩ (.slice (some ⟨g0, 0, none⟩) x.imps.length x.imps.length)).heap.size ∧ Unf (v0.setCell ⟨w.heap.size + 1 + 1, 1, none⟩ (.slice (some ⟨g0, 0, none⟩) x.imps.length x.imps.length)) b) (some ⟨g0, 0, none⟩) x.imps) := R0_0.out.keep fun b h => ⟨⟨h.1, by have := h.2.1; simpa using this, h.2.2.keep (hoE b h.1)⟩, hoE b h.1⟩
 clear hoE K0 K1 K2 hb1 hsv p0 o0 p1 o1 p2 o2 p3 o3 p4 o4 p5 o5 f1
 generalize (v0.setCell ⟨w.heap.size + 1 + 1, 1, none⟩ (.slice (some ⟨g0, 0, none⟩) x.imps.length x.imps.length)) = w0A at *
 refine (HC1.out _ hb).mono ?_
 rintro e v1 ⟨g1, rfl, hrow, hv⟩
 have hb1 : Below w.heap.size w v1 := hb.trans (hv.mono hb.size)
 have hsv := hv.size
 have k0 := blk_keep k0 hv (by omega)
 have k1 := blk_keep k1 hv (by omega)
 have k2 := blk_keep k2 hv (by omega)
 have R0_0 : rgS.Row v1 (fun b => w.heap.size + 3 ≤ b ∧ b < v1.heap.size ∧ Unf v1 b) (some ⟨g0, 0, none⟩) x.imps := R0_0.out.keep fun b h => ⟨⟨h.1, by have := h.2.1; omega, h.2.2.keep (hv.block b h.2.1)⟩, hv.block b h.2.1⟩
 have R1_0 : rgS.Row v1 (fun b => w.heap.size + 3 ≤ b ∧ b < v1.heap.size ∧ Unf v1 b) (some ⟨g1, 0, none⟩) x.exps := hrow.keep fun b h => ⟨⟨by have := h.1; omega, h.2⟩, rfl⟩
 clear hb hv hrow
 have R0_0 : Hid (rgS.Row v1 (fun b => w.heap.size + 3 ≤ b ∧ b < v1.heap.size ∧ Unf v1 b) (some ⟨g0, 0, none⟩) x.imps) := R0_0
 have R1_0 : Hid (rgS.Row v1 (fun b => w.heap.size + 3 ≤ b ∧ b < v1.heap.size ∧ Unf v1 b) (some ⟨g1, 0, none⟩) x.exps) := R1_0
 have p0 := cell_blk (j := 0) k0 rfl
 have p1 := cell_blk (j := 1) k0 rfl
 have p2 := cell_blk (j := 2) k0 rfl
 have p3 := cell_blk (j := 3) k0 rfl
 have p4 := cell_blk (j := 4) k0 rfl
 have p5 := cell_blk (j := 5) k0 rfl
 have o0 := cell_blk (j := 0) k2 rfl
 have o1 := cell_blk (j := 1) k2 rfl
 have o2 := cell_blk (j := 2) k2 rfl
 have o3 := cell_blk (j := 3) k2 rfl
 have o4 := cell_blk (j := 4) k2 rfl
 have o5 := cell_blk (j := 5) k2 rfl
 have f2 := frozen_blk k2 2
 have K0 : Hid (v1.heap[w.heap.size]? = some (Obj.cells #[.string x.name, .slice a1 x.imps.length c1, .slice a2 x.exps.length c2, .slice a3 x.types.length c3, .slice a4 x.defs.length c4, .slice a5 x.convs.length c5] 26)) := k0
 have K1 : Hid (v1.heap[w.heap.size + 1]? = some (Obj.cells #[.string ⟨#[]⟩, .slice none 0 0, .slice none 0 0, .slice none 0 0, .slice none 0 0, .slice none 0 0] 34)) := k1
 have K2 : Hid (v1.heap[w.heap.size + 1 + 1]? = some (Obj.cells #[.string x.name, .slice (some ⟨g0, 0, none⟩) x.imps.length x.imps.length, .slice none 0 0, .slice none 0 0, .slice none 0 0, .slice none 0 0] 34)) := k2
 clear k0 k1 k2
 go_wp2_with fail
 have k0 : (v1.setCell ⟨w.heap.size + 1 + 1, 2, none⟩ (.slice (some ⟨g1, 0, none⟩) x.exps.length x.exps.length)).heap[w.heap.size]? = some (Obj.cells #[.string x.name, .slice a1 x.imps.length c1, .slice a2 x.exps.length c2, .slice a3 x.types.length c3, .slice a4 x.defs.length c4, .slice a5 x.convs.length c5] 26) := by
  rw [heap_setCell_other _ _ _ _ (by simp; try omega)]; exact K0.out
 have k1 : (v1.setCell ⟨w.heap.size + 1 + 1, 2, none⟩ (.slice (some ⟨g1, 0, none⟩) x.exps.length x.exps.length)).heap[w.heap.size + 1]? = some (Obj.cells #[.string ⟨#[]⟩, .slice none 0 0, .slice none 0 0, .slice none 0 0, .slice none 0 0, .slice none 0 0] 34) := by
  rw [heap_setCell_other _ _ _ _ (by simp)]; exact K1.out
 have k2 : (v1.setCell ⟨w.heap.size + 1 + 1, 2, none⟩ (.slice (some ⟨g1, 0, none⟩) x.exps.length x.exps.length)).heap[w.heap.size + 1 + 1]? = some (Obj.cells #[.string x.name, .slice (some ⟨g0, 0, none⟩) x.imps.length x.imps.length, .slice (some ⟨g1, 0, none⟩) x.exps.length x.exps.length, .slice none 0 0, .slice none 0 0, .slice none 0 0] 34) := heap_setCell_same _ _ _ _ _ _ (K2.out)
 have hb : Below w.heap.size w (v1.setCell ⟨w.heap.size + 1 + 1, 2, none⟩ (.slice (some ⟨g1, 0, none⟩) x.exps.length x.exps.length)) := hb1.setCell (p := ⟨_, _, none⟩) (by simp; omega) _
 have hz : w.heap.size + 3 ≤ (v1.setCell ⟨w.heap.size + 1 + 1, 2, none⟩ (.slice (some ⟨g1, 0, none⟩) x.exps.length x.exps.length)).heap.size := by simp; omega
 have hoE : ∀ b, w.heap.size + 3 ≤ b → (v1.setCell ⟨w.heap.size + 1 + 1, 2, none⟩ (.slice (some ⟨g1, 0, none⟩) x.exps.length x.exps.length)).heap[b]? = v1.heap[b]? := by
  intro b h
  rw [heap_setCell_other _ _ _ _ (by show b ≠ w.heap.size + 1 + 1; omega)]
 have R0_0 : Hid (rgS.Row (v1.setCell ⟨w.heap.size + 1 + 1, 2, none⟩ (.slice (some ⟨g1, 0, none⟩) x.exps.length x.exps.length)) (fun b => w.heap.size + 3 ≤ b ∧ b < (v1.setCell ⟨w.heap.size + 1 + 1, 2, none⟩ (.slice (some ⟨g1, 0, none⟩) x.exps.length x.exps.length)).heap.size ∧ Unf (v1.setCell ⟨w.heap.size + 1 + 1, 2, none⟩ (.slice (some ⟨g1, 0, none⟩) x.exps.length x.exps.length)) b) (some ⟨g0, 0, none⟩) x.imps) := R0_0.out.keep fun b h => ⟨⟨h.1, by have := h.2.1; simpa using this, h.2.2.keep (hoE b h.1)⟩, hoE b h.1⟩
 have R1_0 : Hid (rgS.Row (v1.setCell ⟨w.heap.size + 1 + 1, 2, none⟩ (.slice (some ⟨g1, 0, none⟩) x.exps.length x.exps.length)) (fun b => w.heap.size + 3 ≤ b ∧ b < (v1.setCell ⟨w.heap.size + 1 + 1, 2, none⟩ (.slice (some ⟨g1, 0, none⟩) x.exps.length x.exps.length)).heap.size ∧ Unf (v1.setCell ⟨w.heap.size + 1 + 1, 2, none⟩ (.slice (some ⟨g1, 0, none⟩) x.exps.length x.exps.length)) b) (some ⟨g1, 0, none⟩) x.exps) := R1_0.out.keep fun b h => ⟨⟨h.1, by have := h.2.1; simpa using this, h.2.2.keep (hoE b h.1)⟩, hoE b h.1⟩
 clear hoE K0 K1 K2 hb1 hsv p0 o0 p1 o1 p2 o2 p3 o3 p4 o4 p5 o5 f2
 generalize (v1.setCell ⟨w.heap.size + 1 + 1, 2, none⟩ (.slice (some ⟨g1, 0, none⟩) x.exps.length x.exps.length)) = w1A at *
 refine (HC2.out _ hb).mono ?_
 rintro e v2 ⟨g2, rfl, hrow, hv⟩
 have hb1 : Below w.heap.size w v2 := hb.trans (hv.mono hb.size)
 have hsv := hv.size
 have k0 := blk_keep k0 hv (by omega)
 have k1 := blk_keep k1 hv (by omega)
 have k2 := blk_keep k2 hv (by omega)
 have R0_0 : rgS.Row v2 (fun b => w.heap.size + 3 ≤ b ∧ b < v2.heap.size ∧ Unf v2 b) (some ⟨g0, 0, none⟩) x.imps := R0_0.out.keep fun b h => ⟨⟨h.1, by have := h.2.1; omega, h.2.2.keep (hv.block b h.2.1)⟩, hv.block b h.2.1⟩
 have R1_0 : rgS.Row v2 (fun b => w.heap.size + 3 ≤ b ∧ b < v2.heap.size ∧ Unf v2 b) (some ⟨g1, 0, none⟩) x.exps := R1_0.out.keep fun b h => ⟨⟨h.1, by have := h.2.1; omega, h.2.2.keep (hv.block b h.2.1)⟩, hv.block b h.2.1⟩
 have R2_0 : rgT.Row v2 (fun b => w.heap.size + 3 ≤ b ∧ b < v2.heap.size ∧ Unf v2 b) (some ⟨g2, 0, none⟩) x.types := hrow.keep fun b h => ⟨⟨by have := h.1; omega, h.2⟩, rfl⟩
 clear hb hv hrow
 have R0_0 : Hid (rgS.Row v2 (fun b => w.heap.size + 3 ≤ b ∧ b < v2.heap.size ∧ Unf v2 b) (some ⟨g0, 0, none⟩) x.imps) := R0_0
 have R1_0 : Hid (rgS.Row v2 (fun b => w.heap.size + 3 ≤ b ∧ b < v2.heap.size ∧ Unf v2 b) (some ⟨g1, 0, none⟩) x.exps) := R1_0
 have R2_0 : Hid (rgT.Row v2 (fun b => w.heap.size + 3 ≤ b ∧ b < v2.heap.size ∧ Unf v2 b) (some ⟨g2, 0, none⟩) x.types) := R2_0
 have p0 := cell_blk (j := 0) k0 rfl
 have p1 := cell_blk (j := 1) k0 rfl
 have p2 := cell_blk (j := 2) k0 rfl
 have p3 := cell_blk (j := 3) k0 rfl
 have p4 := cell_blk (j := 4) k0 rfl
 have p5 := cell_blk (j := 5) k0 rfl
 have o0 := cell_blk (j := 0) k2 rfl
 have o1 := cell_blk (j := 1) k2 rfl
 have o2 := cell_blk (j := 2) k2 rfl
 have o3 := cell_blk (j := 3) k2 rfl
 have o4 := cell_blk (j := 4) k2 rfl
 have o5 := cell_blk (j := 5) k2 rfl
 have f3 := frozen_blk k2 3
 have K0 : Hid (v2.heap[w.heap.size]? = some (Obj.cells #[.string x.name, .slice a1 x.imps.length c1, .slice a2 x.exps.length c2, .slice a3 x.types.length c3, .slice a4 x.defs.length c4, .slice a5 x.convs.length c5] 26)) := k0
 have K1 : Hid (v2.heap[w.heap.size + 1]? = some (Obj.cells #[.string ⟨#[]⟩, .slice none 0 0, .slice none 0 0, .slice none 0 0, .slice none 0 0, .slice none 0 0] 34)) := k1
 have K2 : Hid (v2.heap[w.heap.size + 1 + 1]? = some (Obj.cells #[.string x.name, .slice (some ⟨g0, 0, none⟩) x.imps.length x.imps.length, .slice (some ⟨g1, 0, none⟩) x.exps.length x.exps.length, .slice none 0 0, .slice none 0 0, .slice none 0 0] 34)) := k2
 clear k0 k1 k2
 go_wp2_with fail
 have k0 : (v2.setCell ⟨w.heap.size + 1 + 1, 3, none⟩ (.slice (some ⟨g2, 0, none⟩) x.types.length x.types.length)).heap[w.heap.size]? = some (Obj.cells #[.string x.name, .slice a1 x.imps.length c1, .slice a2 x.exps.length c2, .slice a3 x.types.length c3, .slice a4 x.defs.length c4, .slice a5 x.convs.length c5] 26) := by
  rw [heap_setCell_other _ _ _ _ (by simp; try omega)]; exact K0.out
 have k1 : (v2.setCell ⟨w.heap.size + 1 + 1, 3, none⟩ (.slice (some ⟨g2, 0, none⟩) x.types.length x.types.length)).heap[w.heap.size + 1]? = some (Obj.cells #[.string ⟨#[]⟩, .slice none 0 0, .slice none 0 0, .slice none 0 0, .slice none 0 0, .slice none 0 0] 34) := by
  rw [heap_setCell_other _ _ _ _ (by simp)]; exact K1.out
 have k2 : (v2.setCell ⟨w.heap.size + 1 + 1, 3, none⟩ (.slice (some ⟨g2, 0, none⟩) x.types.length x.types.length)).heap[w.heap.size + 1 + 1]? = some (Obj.cells #[.string x.name, .slice (some ⟨g0, 0, none⟩) x.imps.length x.imps.length, .slice (some ⟨g1, 0, none⟩) x.exps.length x.exps.length, .slice (some ⟨g2, 0, none⟩) x.types.length x.types.length, .slice none 0 0, .slice none 0 0] 34) := heap_setCell_same _ _ _ _ _ _ (K2.out)
 have hb : Below w.heap.size w (v2.setCell ⟨w.heap.size + 1 + 1, 3, none⟩ (.slice (some ⟨g2, 0, none⟩) x.types.length x.types.length)) := hb1.setCell (p := ⟨_, _, none⟩) (by simp; omega) _
 have hz : w.heap.size + 3 ≤ (v2.setCell ⟨w.heap.size + 1 + 1, 3, none⟩ (.slice (some ⟨g2, 0, none⟩) x.types.length x.types.length)).heap.size := by simp; omega
 have hoE : ∀ b, w.heap.size + 3 ≤ b → (v2.setCell ⟨w.heap.size + 1 + 1, 3, none⟩ (.slice (some ⟨g2, 0, none⟩) x.types.length x.types.length)).heap[b]? = v2.heap[b]? := by
  intro b h
  rw [heap_setCell_other _ _ _ _ (by show b ≠ w.heap.size + 1 + 1; omega)]
 have R0_0 : Hid (rgS.Row (v2.setCell ⟨w.heap.size + 1 + 1, 3, none⟩ (.slice (some ⟨g2, 0, none⟩) x.types.length x.types.length)) (fun b => w.heap.size + 3 ≤ b ∧ b < (v2.setCell ⟨w.heap.size + 1 + 1, 3, none⟩ (.slice (some ⟨g2, 0, none⟩) x.types.length x.types.length)).heap.size ∧ Unf (v2.setCell ⟨w.heap.size + 1 + 1, 3, none⟩ (.slice (some ⟨g2, 0, none⟩) x.types.length x.types.length)) b) (some ⟨g0, 0, none⟩) x.imps) := R0_0.out.keep fun b h => ⟨⟨h.1, by have := h.2.1; simpa using this, h.2.2.keep (hoE b h.1)⟩, hoE b h.1⟩
 have R1_0 : Hid (rgS.Row (v2.setCell ⟨w.heap.size + 1 + 1, 3, none⟩ (.slice (some ⟨g2, 0, none⟩) x.types.length x.types.length)) (fun b => w.heap.size + 3 ≤ b ∧ b < (v2.setCell ⟨w.heap.size + 1 + 1, 3, none⟩ (.slice (some ⟨g2, 0, none⟩) x.types.length x.types.length)).heap.size ∧ Unf (v2.setCell ⟨w.heap.size + 1 + 1, 3, none⟩ (.slice (some ⟨g2, 0, none⟩) x.types.length x.types.length)) b) (some ⟨g1, 0, none⟩) x.exps) := R1_0.out.keep fun b h => ⟨⟨h.1, by have := h.2.1; simpa using this, h.2.2.keep (hoE b h.1)⟩, hoE b h.1⟩
 have R2_0 : Hid (rgT.Row (v2.setCell ⟨w.heap.size + 1 + 1, 3, none⟩ (.slice (some ⟨g2, 0, none⟩) x.types.length x.types.length)) (fun b => w.heap.size + 3 ≤ b ∧ b < (v2.setCell ⟨w.heap.size + 1 + 1, 3, none⟩ (.slice (some ⟨g2, 0, none⟩) x.types.length x.types.length)).heap.size ∧ Unf (v2.setCell ⟨w.heap.size + 1 + 1, 3, none⟩ (.slice (some ⟨g2, 0, none⟩) x.types.length x.types.length)) b) (some ⟨g2, 0, none⟩) x.types) := R2_0.out.keep fun b h => ⟨⟨h.1, by have := h.2.1; simpa using this, h.2.2.keep (hoE b h.1)⟩, hoE b h.1⟩
 clear hoE K0 K1 K2 hb1 hsv p0 o0 p1 o1 p2 o2 p3 o3 p4 o4 p5 o5 f3
 generalize (v2.setCell ⟨w.heap.size + 1 + 1, 3, none⟩ (.slice (some ⟨g2, 0, none⟩) x.types.length x.types.length)) = w2A at *
 refine (HC3.out _ hb).mono ?_
 rintro e v3 ⟨g3, rfl, hrow, hv⟩
 have hb1 : Below w.heap.size w v3 := hb.trans (hv.mono hb.size)
 have hsv := hv.size
 have k0 := blk_keep k0 hv (by omega)
 have k1 := blk_keep k1 hv (by omega)
 have k2 := blk_keep k2 hv (by omega)
 have R0_0 : rgS.Row v3 (fun b => w.heap.size + 3 ≤ b ∧ b < v3.heap.size ∧ Unf v3 b) (some ⟨g0, 0, none⟩) x.imps := R0_0.out.keep fun b h => ⟨⟨h.1, by have := h.2.1; omega, h.2.2.keep (hv.block b h.2.1)⟩, hv.block b h.2.1⟩
 have R1_0 : rgS.Row v3 (fun b => w.heap.size + 3 ≤ b ∧ b < v3.heap.size ∧ Unf v3 b) (some ⟨g1, 0, none⟩) x.exps := R1_0.out.keep fun b h => ⟨⟨h.1, by have := h.2.1; omega, h.2.2.keep (hv.block b h.2.1)⟩, hv.block b h.2.1⟩
 have R2_0 : rgT.Row v3 (fun b => w.heap.size + 3 ≤ b ∧ b < v3.heap.size ∧ Unf v3 b) (some ⟨g2, 0, none⟩) x.types := R2_0.out.keep fun b h => ⟨⟨h.1, by have := h.2.1; omega, h.2.2.keep (hv.block b h.2.1)⟩, hv.block b h.2.1⟩
 have R3_0 : rgD.Row v3 (fun b => w.heap.size + 3 ≤ b ∧ b < v3.heap.size ∧ Unf v3 b) (some ⟨g3, 0, none⟩) x.defs := hrow.keep fun b h => ⟨⟨by have := h.1; omega, h.2⟩, rfl⟩
 clear hb hv hrow
 have R0_0 : Hid (rgS.Row v3 (fun b => w.heap.size + 3 ≤ b ∧ b < v3.heap.size ∧ Unf v3 b) (some ⟨g0, 0, none⟩) x.imps) := R0_0
 have R1_0 : Hid (rgS.Row v3 (fun b => w.heap.size + 3 ≤ b ∧ b < v3.heap.size ∧ Unf v3 b) (some ⟨g1, 0, none⟩) x.exps) := R1_0
 have R2_0 : Hid (rgT.Row v3 (fun b => w.heap.size + 3 ≤ b ∧ b < v3.heap.size ∧ Unf v3 b) (some ⟨g2, 0, none⟩) x.types) := R2_0
 have R3_0 : Hid (rgD.Row v3 (fun b => w.heap.size + 3 ≤ b ∧ b < v3.heap.size ∧ Unf v3 b) (some ⟨g3, 0, none⟩) x.defs) := R3_0
 have p0 := cell_blk (j := 0) k0 rfl
 have p1 := cell_blk (j := 1) k0 rfl
 have p2 := cell_blk (j := 2) k0 rfl
 have p3 := cell_blk (j := 3) k0 rfl
 have p4 := cell_blk (j := 4) k0 rfl
 have p5 := cell_blk (j := 5) k0 rfl
 have o0 := cell_blk (j := 0) k2 rfl
 have o1 := cell_blk (j := 1) k2 rfl
 have o2 := cell_blk (j := 2) k2 rfl
 have o3 := cell_blk (j := 3) k2 rfl
 have o4 := cell_blk (j := 4) k2 rfl
 have o5 := cell_blk (j := 5) k2 rfl
 have f4 := frozen_blk k2 4
 have K0 : Hid (v3.heap[w.heap.size]? = some (Obj.cells #[.string x.name, .slice a1 x.imps.length c1, .slice a2 x.exps.length c2, .slice a3 x.types.length c3, .slice a4 x.defs.length c4, .slice a5 x.convs.length c5] 26)) := k0
 have K1 : Hid (v3.heap[w.heap.size + 1]? = some (Obj.cells #[.string ⟨#[]⟩, .slice none 0 0, .slice none 0 0, .slice none 0 0, .slice none 0 0, .slice none 0 0] 34)) := k1
 have K2 : Hid (v3.heap[w.heap.size + 1 + 1]? = some (Obj.cells #[.string x.name, .slice (some ⟨g0, 0, none⟩) x.imps.length x.imps.length, .slice (some ⟨g1, 0, none⟩) x.exps.length x.exps.length, .slice (some ⟨g2, 0, none⟩) x.types.length x.types.length, .slice none 0 0, .slice none 0 0] 34)) := k2
 clear k0 k1 k2
 go_wp2_with fail
 have k0 : (v3.setCell ⟨w.heap.size + 1 + 1, 4, none⟩ (.slice (some ⟨g3, 0, none⟩) x.defs.length x.defs.length)).heap[w.heap.size]? = some (Obj.cells #[.string x.name, .slice a1 x.imps.length c1, .slice a2 x.exps.length c2, .slice a3 x.types.length c3, .slice a4 x.defs.length c4, .slice a5 x.convs.length c5] 26) := by
  rw [heap_setCell_other _ _ _ _ (by simp; try omega)]; exact K0.out
 have k1 : (v3.setCell ⟨w.heap.size + 1 + 1, 4, none⟩ (.slice (some ⟨g3, 0, none⟩) x.defs.length x.defs.length)).heap[w.heap.size + 1]? = some (Obj.cells #[.string ⟨#[]⟩, .slice none 0 0, .slice none 0 0, .slice none 0 0, .slice none 0 0, .slice none 0 0] 34) := by
  rw [heap_setCell_other _ _ _ _ (by simp)]; exact K1.out
 have k2 : (v3.setCell ⟨w.heap.size + 1 + 1, 4, none⟩ (.slice (some ⟨g3, 0, none⟩) x.defs.length x.defs.length)).heap[w.heap.size + 1 + 1]? = some (Obj.cells #[.string x.name, .slice (some ⟨g0, 0, none⟩) x.imps.length x.imps.length, .slice (some ⟨g1, 0, none⟩) x.exps.length x.exps.length, .slice (some ⟨g2, 0, none⟩) x.types.length x.types.length, .slice (some ⟨g3, 0, none⟩) x.defs.length x.defs.length, .slice none 0 0] 34) := heap_setCell_same _ _ _ _ _ _ (K2.out)
 have hb : Below w.heap.size w (v3.setCell ⟨w.heap.size + 1 + 1, 4, none⟩ (.slice (some ⟨g3, 0, none⟩) x.defs.length x.defs.length)) := hb1.setCell (p := ⟨_, _, none⟩) (by simp; omega) _
 have hz : w.heap.size + 3 ≤ (v3.setCell ⟨w.heap.size + 1 + 1, 4, none⟩ (.slice (some ⟨g3, 0, none⟩) x.defs.length x.defs.length)).heap.size := by simp; omega
 have hoE : ∀ b, w.heap.size + 3 ≤ b → (v3.setCell ⟨w.heap.size + 1 + 1, 4, none⟩ (.slice (some ⟨g3, 0, none⟩) x.defs.length x.defs.length)).heap[b]? = v3.heap[b]? := by
  intro b h
  rw [heap_setCell_other _ _ _ _ (by show b ≠ w.heap.size + 1 + 1; omega)]
 have R0_0 : Hid (rgS.Row (v3.setCell ⟨w.heap.size + 1 + 1, 4, none⟩ (.slice (some ⟨g3, 0, none⟩) x.defs.length x.defs.length)) (fun b => w.heap.size + 3 ≤ b ∧ b < (v3.setCell ⟨w.heap.size + 1 + 1, 4, none⟩ (.slice (some ⟨g3, 0, none⟩) x.defs.length x.defs.length)).heap.size ∧ Unf (v3.setCell ⟨w.heap.size + 1 + 1, 4, none⟩ (.slice (some ⟨g3, 0, none⟩) x.defs.length x.defs.length)) b) (some ⟨g0, 0, none⟩) x.imps) := R0_0.out.keep fun b h => ⟨⟨h.1, by have := h.2.1; simpa using this, h.2.2.keep (hoE b h.1)⟩, hoE b h.1⟩
 have R1_0 : Hid (rgS.Row (v3.setCell ⟨w.heap.size + 1 + 1, 4, none⟩ (.slice (some ⟨g3, 0, none⟩) x.defs.length x.defs.length)) (fun b => w.heap.size + 3 ≤ b ∧ b < (v3.setCell ⟨w.heap.size + 1 + 1, 4, none⟩ (.slice (some ⟨g3, 0, none⟩) x.defs.length x.defs.length)).heap.size ∧ Unf (v3.setCell ⟨w.heap.size + 1 + 1, 4, none⟩ (.slice (some ⟨g3, 0, none⟩) x.defs.length x.defs.length)) b) (some ⟨g1, 0, none⟩) x.exps) := R1_0.out.keep fun b h => ⟨⟨h.1, by have := h.2.1; simpa using this, h.2.2.keep (hoE b h.1)⟩, hoE b h.1⟩
 have R2_0 : Hid (rgT.Row (v3.setCell ⟨w.heap.size + 1 + 1, 4, none⟩ (.slice (some ⟨g3, 0, none⟩) x.defs.length x.defs.length)) (fun b => w.heap.size + 3 ≤ b ∧ b < (v3.setCell ⟨w.heap.size + 1 + 1, 4, none⟩ (.slice (some ⟨g3, 0, none⟩) x.defs.length x.defs.length)).heap.size ∧ Unf (v3.setCell ⟨w.heap.size + 1 + 1, 4, none⟩ (.slice (some ⟨g3, 0, none⟩) x.defs.length x.defs.length)) b) (some ⟨g2, 0, none⟩) x.types) := R2_0.out.keep fun b h => ⟨⟨h.1, by have := h.2.1; simpa using this, h.2.2.keep (hoE b h.1)⟩, hoE b h.1⟩
 have R3_0 : Hid (rgD.Row (v3.setCell ⟨w.heap.size + 1 + 1, 4, none⟩ (.slice (some ⟨g3, 0, none⟩) x.defs.length x.defs.length)) (fun b => w.heap.size + 3 ≤ b ∧ b < (v3.setCell ⟨w.heap.size + 1 + 1, 4, none⟩ (.slice (some ⟨g3, 0, none⟩) x.defs.length x.defs.length)).heap.size ∧ Unf (v3.setCell ⟨w.heap.size + 1 + 1, 4, none⟩ (.slice (some ⟨g3, 0, none⟩) x.defs.length x.defs.length)) b) (some ⟨g3, 0, none⟩) x.defs) := R3_0.out.keep fun b h => ⟨⟨h.1, by have := h.2.1; simpa using this, h.2.2.keep (hoE b h.1)⟩, hoE b h.1⟩
 clear hoE K0 K1 K2 hb1 hsv p0 o0 p1 o1 p2 o2 p3 o3 p4 o4 p5 o5 f4
 generalize (v3.setCell ⟨w.heap.size + 1 + 1, 4, none⟩ (.slice (some ⟨g3, 0, none⟩) x.defs.length x.defs.length)) = w3A at *
 refine (HC4.out _ hb).mono ?_
 rintro e v4 ⟨g4, rfl, hrow, hv⟩
 have hb1 : Below w.heap.size w v4 := hb.trans (hv.mono hb.size)
 have hsv := hv.size
 have k0 := blk_keep k0 hv (by omega)
 have k1 := blk_keep k1 hv (by omega)
 have k2 := blk_keep k2 hv (by omega)
 have R0_0 : rgS.Row v4 (fun b => w.heap.size + 3 ≤ b ∧ b < v4.heap.size ∧ Unf v4 b) (some ⟨g0, 0, none⟩) x.imps := R0_0.out.keep fun b h => ⟨⟨h.1, by have := h.2.1; omega, h.2.2.keep (hv.block b h.2.1)⟩, hv.block b h.2.1⟩
 have R1_0 : rgS.Row v4 (fun b => w.heap.size + 3 ≤ b ∧ b < v4.heap.size ∧ Unf v4 b) (some ⟨g1, 0, none⟩) x.exps := R1_0.out.keep fun b h => ⟨⟨h.1, by have := h.2.1; omega, h.2.2.keep (hv.block b h.2.1)⟩, hv.block b h.2.1⟩
 have R2_0 : rgT.Row v4 (fun b => w.heap.size + 3 ≤ b ∧ b < v4.heap.size ∧ Unf v4 b) (some ⟨g2, 0, none⟩) x.types := R2_0.out.keep fun b h => ⟨⟨h.1, by have := h.2.1; omega, h.2.2.keep (hv.block b h.2.1)⟩, hv.block b h.2.1⟩
 have R3_0 : rgD.Row v4 (fun b => w.heap.size + 3 ≤ b ∧ b < v4.heap.size ∧ Unf v4 b) (some ⟨g3, 0, none⟩) x.defs := R3_0.out.keep fun b h => ⟨⟨h.1, by have := h.2.1; omega, h.2.2.keep (hv.block b h.2.1)⟩, hv.block b h.2.1⟩
 have R4_0 : rgD.Row v4 (fun b => w.heap.size + 3 ≤ b ∧ b < v4.heap.size ∧ Unf v4 b) (some ⟨g4, 0, none⟩) x.convs := hrow.keep fun b h => ⟨⟨by have := h.1; omega, h.2⟩, rfl⟩
 clear hb hv hrow
 have R0_0 : Hid (rgS.Row v4 (fun b => w.heap.size + 3 ≤ b ∧ b < v4.heap.size ∧ Unf v4 b) (some ⟨g0, 0, none⟩) x.imps) := R0_0
 have R1_0 : Hid (rgS.Row v4 (fun b => w.heap.size + 3 ≤ b ∧ b < v4.heap.size ∧ Unf v4 b) (some ⟨g1, 0, none⟩) x.exps) := R1_0
 have R2_0 : Hid (rgT.Row v4 (fun b => w.heap.size + 3 ≤ b ∧ b < v4.heap.size ∧ Unf v4 b) (some ⟨g2, 0, none⟩) x.types) := R2_0
 have R3_0 : Hid (rgD.Row v4 (fun b => w.heap.size + 3 ≤ b ∧ b < v4.heap.size ∧ Unf v4 b) (some ⟨g3, 0, none⟩) x.defs) := R3_0
 have R4_0 : Hid (rgD.Row v4 (fun b => w.heap.size + 3 ≤ b ∧ b < v4.heap.size ∧ Unf v4 b) (some ⟨g4, 0, none⟩) x.convs) := R4_0
 have p0 := cell_blk (j := 0) k0 rfl
 have p1 := cell_blk (j := 1) k0 rfl
 have p2 := cell_blk (j := 2) k0 rfl
 have p3 := cell_blk (j := 3) k0 rfl
 have p4 := cell_blk (j := 4) k0 rfl
 have p5 := cell_blk (j := 5) k0 rfl
 have o0 := cell_blk (j := 0) k2 rfl
 have o1 := cell_blk (j := 1) k2 rfl
 have o2 := cell_blk (j := 2) k2 rfl
 have o3 := cell_blk (j := 3) k2 rfl
 have o4 := cell_blk (j := 4) k2 rfl
 have o5 := cell_blk (j := 5) k2 rfl
 have f5 := frozen_blk k2 5
 have s0 := cell_blk (j := 0) k1 rfl
 have l0 := frozen_blk k1 0
 have s1 := cell_blk (j := 1) k1 rfl
 have l1 := frozen_blk k1 1
 have s2 := cell_blk (j := 2) k1 rfl
 have l2 := frozen_blk k1 2
 have s3 := cell_blk (j := 3) k1 rfl
 have l3 := frozen_blk k1 3
 have s4 := cell_blk (j := 4) k1 rfl
 have l4 := frozen_blk k1 4
 have s5 := cell_blk (j := 5) k1 rfl
 have l5 := frozen_blk k1 5
 have K0 : Hid (v4.heap[w.heap.size]? = some (Obj.cells #[.string x.name, .slice a1 x.imps.length c1, .slice a2 x.exps.length c2, .slice a3 x.types.length c3, .slice a4 x.defs.length c4, .slice a5 x.convs.length c5] 26)) := k0
 have K1 : Hid (v4.heap[w.heap.size + 1]? = some (Obj.cells #[.string ⟨#[]⟩, .slice none 0 0, .slice none 0 0, .slice none 0 0, .slice none 0 0, .slice none 0 0] 34)) := k1
 have K2 : Hid (v4.heap[w.heap.size + 1 + 1]? = some (Obj.cells #[.string x.name, .slice (some ⟨g0, 0, none⟩) x.imps.length x.imps.length, .slice (some ⟨g1, 0, none⟩) x.exps.length x.exps.length, .slice (some ⟨g2, 0, none⟩) x.types.length x.types.length, .slice (some ⟨g3, 0, none⟩) x.defs.length x.defs.length, .slice none 0 0] 34)) := k2
 clear k0 k1 k2
 go_wp2
 have K3 : (v4.setCell ⟨w.heap.size + 1 + 1, 5, none⟩ (.slice (some ⟨g4, 0, none⟩) x.convs.length x.convs.length)).heap[w.heap.size + 1]? = some (Obj.cells #[.string ⟨#[]⟩, .slice none 0 0, .slice none 0 0, .slice none 0 0, .slice none 0 0, .slice none 0 0] 34) := by
  rw [heap_setCell_other _ _ _ _ (by simp)]; exact K1.out
 refine bodyPost_ret (results_cell_row rfl _ _ (w.heap.size + 1) 34 #[.string x.name, .slice (some ⟨g0, 0, none⟩) x.imps.length x.imps.length, .slice (some ⟨g1, 0, none⟩) x.exps.length x.exps.length, .slice (some ⟨g2, 0, none⟩) x.types.length x.types.length, .slice (some ⟨g3, 0, none⟩) x.defs.length x.defs.length, .slice (some ⟨g4, 0, none⟩) x.convs.length x.convs.length] (0, 0) _ rfl (heap_setCell_same _ _ _ _ _ _ (heap_setCell_same _ _ _ _ _ _ (heap_setCell_same _ _ _ _ _ _ (heap_setCell_same _ _ _ _ _ _ (heap_setCell_same _ _ _ _ _ _ (heap_setCell_same _ _ _ _ _ _ (K3))))))) Tryz.underlying34 rfl (by kernel_rfl)) rfl ?_
 have hoth : ∀ b, w.heap.size + 3 ≤ b → (((((((v4.setCell ⟨w.heap.size + 1 + 1, 5, none⟩ (.slice (some ⟨g4, 0, none⟩) x.convs.length x.convs.length)).setCell ⟨w.heap.size + 1, 0, none⟩ (.string x.name)).setCell ⟨w.heap.size + 1, 1, none⟩ (.slice (some ⟨g0, 0, none⟩) x.imps.length x.imps.length)).setCell ⟨w.heap.size + 1, 2, none⟩ (.slice (some ⟨g1, 0, none⟩) x.exps.length x.exps.length)).setCell ⟨w.heap.size + 1, 3, none⟩ (.slice (some ⟨g2, 0, none⟩) x.types.length x.types.length)).setCell ⟨w.heap.size + 1, 4, none⟩ (.slice (some ⟨g3, 0, none⟩) x.defs.length x.defs.length)).setCell ⟨w.heap.size + 1, 5, none⟩ (.slice (some ⟨g4, 0, none⟩) x.convs.length x.convs.length)).heap[b]? = v4.heap[b]? := by
  intro b h
  rw [heap_setCell_other _ _ _ _ (by show b ≠ w.heap.size + 1; omega), heap_setCell_other _ _ _ _ (by show b ≠ w.heap.size + 1; omega), heap_setCell_other _ _ _ _ (by show b ≠ w.heap.size + 1; omega), heap_setCell_other _ _ _ _ (by show b ≠ w.heap.size + 1; omega), heap_setCell_other _ _ _ _ (by show b ≠ w.heap.size + 1; omega), heap_setCell_other _ _ _ _ (by show b ≠ w.heap.size + 1; omega), heap_setCell_other _ _ _ _ (by show b ≠ w.heap.size + 1 + 1; omega)]
 exact ⟨_, rfl, ⟨_, _, _, _, _, _, _, _, _, _, rfl, ⟨⟨R0_0.out.keep fun b h => ⟨⟨by have := h.1; omega, by have := h.2.1; simpa using this, h.2.2.keep (hoth b h.1)⟩, hoth b h.1⟩, Nat.le_refl _⟩, ⟨R1_0.out.keep fun b h => ⟨⟨by have := h.1; omega, by have := h.2.1; simpa using this, h.2.2.keep (hoth b h.1)⟩, hoth b h.1⟩, Nat.le_refl _⟩, ⟨R2_0.out.keep fun b h => ⟨⟨by have := h.1; omega, by have := h.2.1; simpa using this, h.2.2.keep (hoth b h.1)⟩, hoth b h.1⟩, Nat.le_refl _⟩, ⟨R3_0.out.keep fun b h => ⟨⟨by have := h.1; omega, by have := h.2.1; simpa using this, h.2.2.keep (hoth b h.1)⟩, hoth b h.1⟩, Nat.le_refl _⟩, ⟨R4_0.out.keep fun b h => ⟨⟨by have := h.1; omega, by have := h.2.1; simpa using this, h.2.2.keep (hoth b h.1)⟩, hoth b h.1⟩, Nat.le_refl _⟩⟩⟩, ((((((hb1.setCell (p := ⟨_, _, none⟩) (by simp <;> omega) _).setCell (p := ⟨_, _, none⟩) (by simp <;> omega) _).setCell (p := ⟨_, _, none⟩) (by simp <;> omega) _).setCell (p := ⟨_, _, none⟩) (by simp <;> omega) _).setCell (p := ⟨_, _, none⟩) (by simp <;> omega) _).setCell (p := ⟨_, _, none⟩) (by simp <;> omega) _).setCell (p := ⟨_, _, none⟩) (by simp <;> omega) _⟩
end Go.Proofs.YtamjofdgikifnaaGreat
