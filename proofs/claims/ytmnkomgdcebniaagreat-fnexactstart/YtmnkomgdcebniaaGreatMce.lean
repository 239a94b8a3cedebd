/- Like machines are told alike. -/
import Derived.Test.YtmnkomgdcebniaaGreatMcp
import Derived.Test.YtmnkomgdcebniaaGreatSye
set_option linter.unusedVariables false
namespace Go.Proofs.YtmnkomgdcebniaaGreat
open Go.ChangeShapes Go.WideShapes Go.ChangeAt Go.RowKit
theorem eqE_Value (x : Val) (w : World) (hs : x.small) :
  Calls Tryz.prog 15 #[.agg #[.int .i64 x.k, .int .i64 x.n, .string x.s], .agg #[.int .i64 x.k, .int .i64 x.n, .string x.s]] w fun e w' => Ans w (.bool true) e w' := eqValue_same x w
set_option maxRecDepth 100000 in
set_option maxHeartbeats 1000000 in
theorem eqE_Bind (x : Bnd) (w : World) (hs : x.small) :
  Calls Tryz.prog 99 #[.agg #[.string x.name, .int .i64 x.val.k, .int .i64 x.val.n, .string x.val.s], .agg #[.string x.name, .int .i64 x.val.k, .int .i64 x.val.n, .string x.val.s]] w fun e w' => Ans w (.bool true) e w' := by
 obtain ⟨u0, u1⟩ := hs
 have hb : Below w.heap.size w ((w.alloc (Obj.cells #[.string x.name, .int .i64 x.val.k, .int .i64 x.val.n, .string x.val.s] 170)).alloc (Obj.cells #[.string x.name, .int .i64 x.val.k, .int .i64 x.val.n, .string x.val.s] 170)) := ((Below.refl _ _).alloc (Nat.le_refl _) _).alloc (by simp) _
 have k0 : ((w.alloc (Obj.cells #[.string x.name, .int .i64 x.val.k, .int .i64 x.val.n, .string x.val.s] 170)).alloc (Obj.cells #[.string x.name, .int .i64 x.val.k, .int .i64 x.val.n, .string x.val.s] 170)).heap[w.heap.size]? = some (Obj.cells #[.string x.name, .int .i64 x.val.k, .int .i64 x.val.n, .string x.val.s] 170) := blk_past (blk_at _ _ _ rfl)
 have k1 : ((w.alloc (Obj.cells #[.string x.name, .int .i64 x.val.k, .int .i64 x.val.n, .string x.val.s] 170)).alloc (Obj.cells #[.string x.name, .int .i64 x.val.k, .int .i64 x.val.n, .string x.val.s] 170)).heap[w.heap.size + 1]? = some (Obj.cells #[.string x.name, .int .i64 x.val.k, .int .i64 x.val.n, .string x.val.s] 170) := blk_at _ _ _ (by simp)
 have HC0 : Hid (∀ w2, Below w.heap.size w w2 → Calls Tryz.prog 15 #[.agg #[.int .i64 x.val.k, .int .i64 x.val.n, .string x.val.s], .agg #[.int .i64 x.val.k, .int .i64 x.val.n, .string x.val.s]] w2 fun e w' => Ans w2 (.bool true) e w') := fun w2 hh => eqE_Value x.val w2 u1
 go_enter Tryz.func99, Tryz.ntmps99
 go_wp2_with fail
 refine (HC0.out _ hb).mono ?_
 rintro e v0 ⟨rfl, hv⟩
 have hb0 : Below w.heap.size w v0 := hb.trans (hv.mono hb.size)
 have k0 := blk_keep k0 hv (Array.getElem?_eq_some_iff.1 k0).1
 have k1 := blk_keep k1 hv (Array.getElem?_eq_some_iff.1 k1).1
 clear hv
 have p0_0 := cell_blk (j := 0) k0 rfl
 have q0_0 := cell_blk (j := 0) k1 rfl
 have p0_1 := cell_blk (j := 1) k0 rfl
 have q0_1 := cell_blk (j := 1) k1 rfl
 have p0_2 := cell_blk (j := 2) k0 rfl
 have q0_2 := cell_blk (j := 2) k1 rfl
 have p0_3 := cell_blk (j := 3) k0 rfl
 have q0_3 := cell_blk (j := 3) k1 rfl
 go_wp2
 go_ret
 exact ⟨rfl, hb0⟩
set_option maxRecDepth 100000 in
set_option maxHeartbeats 1000000 in
theorem eq_Bind (a b : Option Addr) (l : List Bnd) (ca cb : Nat) (w : World) (hn : l.length ≤ 1048576) (hsm : ∀ d ∈ l, Bnd.small d) (hr : rgB.Row w (fun b => b < w.heap.size) a l) (hr' : rgB.Row w (fun b => b < w.heap.size) b l) :
  Calls Tryz.prog 51 #[.slice a l.length ca, .slice b l.length cb] w fun e w' => Ans w (.bool true) e w' := by
 have HR : Hid (rgB.Row w (fun b => b < w.heap.size) a l) := hr
 have HR' : Hid (rgB.Row w (fun b => b < w.heap.size) b l) := hr'
 have HS : Hid (∀ d ∈ l, Bnd.small d) := hsm
 clear hr hr' hsm
 go_enter Tryz.func51, Tryz.ntmps51
 go_wp2
 go_loopw [5] (fun o wr => ∃ (i : Nat), i ≤ l.length ∧ o = .int .i64 i ∧ Below w.heap.size w wr)
  (fun o _ => l.length - (intOf o).toNat)
 case atStart => exact ⟨0, by omega, rfl, Below.refl _ _⟩
 case round =>
  obtain ⟨i, hi, rfl, hb⟩ := hrel
  by_cases hlt : i < l.length
  ·obtain ⟨d, hd⟩ : ∃ d, l[i]? = some d := ⟨_, List.getElem?_eq_getElem hlt⟩
   have hsz := hb.size
   obtain ⟨b1, o1, cs1, rfl, hbb, hat, hl1⟩ := (HR.out.below hb) i d hd
   obtain ⟨b2, o2, cs2, rfl, hbb', hat', hl2⟩ := (HR'.out.below hb) i d hd
   obtain rfl := hat
   obtain rfl := hat'
   have cx0 : wr.cell? ⟨b1, o1 + i * 4, none⟩ = some (.string d.name) := hl1 0 _ rfl
   have cy0 : wr.cell? ⟨b2, o2 + i * 4, none⟩ = some (.string d.name) := hl2 0 _ rfl
   have cx1 : wr.cell? ⟨b1, o1 + i * 4 + 1, none⟩ = some (.int .i64 d.val.k) := hl1 1 _ rfl
   have cy1 : wr.cell? ⟨b2, o2 + i * 4 + 1, none⟩ = some (.int .i64 d.val.k) := hl2 1 _ rfl
   have cx2 : wr.cell? ⟨b1, o1 + i * 4 + 2, none⟩ = some (.int .i64 d.val.n) := hl1 2 _ rfl
   have cy2 : wr.cell? ⟨b2, o2 + i * 4 + 2, none⟩ = some (.int .i64 d.val.n) := hl2 2 _ rfl
   have cx3 : wr.cell? ⟨b1, o1 + i * 4 + 3, none⟩ = some (.string d.val.s) := hl1 3 _ rfl
   have cy3 : wr.cell? ⟨b2, o2 + i * 4 + 3, none⟩ = some (.string d.val.s) := hl2 3 _ rfl
   have HE : Hid (∀ w1, Below w.heap.size wr w1 → Calls Tryz.prog 99 #[.agg #[.string d.name, .int .i64 d.val.k, .int .i64 d.val.n, .string d.val.s], .agg #[.string d.name, .int .i64 d.val.k, .int .i64 d.val.n, .string d.val.s]] w1 fun e w' => Ans w1 (.bool true) e w') := fun w1 h => eqE_Bind d   w1 (HS.out d (List.mem_of_getElem? hd))
   clear hd hl1 hl2
   go_wp2_with fail
   go_region_with (go_at_call 99; refine (HE.out _ (eqb_dn (Below.refl _ _) 1)).mono ?_; rintro e w2 ⟨rfl, hb2⟩)
   all_goals
    go_wp2
    go_roundw
    case rel => exact ⟨i + 1, by omega, by go_num, (eqb_dn hb _).trans (hb2.mono hsz)⟩
    case measure => simp [intOf]; omega
  ·have hlt' : decide ((i : Int) < (l.length : Int)) = false := by simp; omega
   go_wp2
   go_ret
   exact ⟨rfl, hb⟩
set_option maxRecDepth 100000 in
set_option maxHeartbeats 1000000 in
theorem eqE_Frame (x : Frm) (a1 a2 : Option Addr) (c1 c2 : Nat) (aq1 aq2 : Option Addr) (cq1 cq2 : Nat) (w : World) (hs : x.small) (h1 : FrmRows w (fun b => b < w.heap.size) a1 a2 c1 c2 x) (h2 : FrmRows w (fun b => b < w.heap.size) aq1 aq2 cq1 cq2 x) :
  Calls Tryz.prog 100 #[.agg #[.int .i64 x.unit, .int .i64 x.node, .slice a1 x.vals.length c1, .slice a2 x.env.length c2], .agg #[.int .i64 x.unit, .int .i64 x.node, .slice aq1 x.vals.length cq1, .slice aq2 x.env.length cq2]] w fun e w' => Ans w (.bool true) e w' := by
 obtain ⟨u0, u1, u2, u3⟩ := hs
 obtain ⟨⟨r1, rt1⟩, ⟨r2, rt2⟩⟩ := h1
 obtain ⟨⟨s1, st1⟩, ⟨s2, st2⟩⟩ := h2
 have hb : Below w.heap.size w ((w.alloc (Obj.cells #[.int .i64 x.unit, .int .i64 x.node, .slice a1 x.vals.length c1, .slice a2 x.env.length c2] 108)).alloc (Obj.cells #[.int .i64 x.unit, .int .i64 x.node, .slice aq1 x.vals.length cq1, .slice aq2 x.env.length cq2] 108)) := ((Below.refl _ _).alloc (Nat.le_refl _) _).alloc (by simp) _
 have k0 : ((w.alloc (Obj.cells #[.int .i64 x.unit, .int .i64 x.node, .slice a1 x.vals.length c1, .slice a2 x.env.length c2] 108)).alloc (Obj.cells #[.int .i64 x.unit, .int .i64 x.node, .slice aq1 x.vals.length cq1, .slice aq2 x.env.length cq2] 108)).heap[w.heap.size]? = some (Obj.cells #[.int .i64 x.unit, .int .i64 x.node, .slice a1 x.vals.length c1, .slice a2 x.env.length c2] 108) := blk_past (blk_at _ _ _ rfl)
 have k1 : ((w.alloc (Obj.cells #[.int .i64 x.unit, .int .i64 x.node, .slice a1 x.vals.length c1, .slice a2 x.env.length c2] 108)).alloc (Obj.cells #[.int .i64 x.unit, .int .i64 x.node, .slice aq1 x.vals.length cq1, .slice aq2 x.env.length cq2] 108)).heap[w.heap.size + 1]? = some (Obj.cells #[.int .i64 x.unit, .int .i64 x.node, .slice aq1 x.vals.length cq1, .slice aq2 x.env.length cq2] 108) := blk_at _ _ _ (by simp)
 have HC0 : Hid (∀ w2, Below w.heap.size w w2 → Calls Tryz.prog 137 #[.slice a1 x.vals.length c1, .slice aq1 x.vals.length cq1] w2 fun e w' => Ans w2 (.bool true) e w') := fun w2 hh => eq_Value a1 aq1 x.vals c1 cq1 w2 u2.1 u2.2 (r1.keep fun b h => ⟨by have := hh.size; omega, hh.block b h⟩) (s1.keep fun b h => ⟨by have := hh.size; omega, hh.block b h⟩)
 have HC1 : Hid (∀ w2, Below w.heap.size w w2 → Calls Tryz.prog 51 #[.slice a2 x.env.length c2, .slice aq2 x.env.length cq2] w2 fun e w' => Ans w2 (.bool true) e w') := fun w2 hh => eq_Bind a2 aq2 x.env c2 cq2 w2 u3.1 u3.2 (r2.keep fun b h => ⟨by have := hh.size; omega, hh.block b h⟩) (s2.keep fun b h => ⟨by have := hh.size; omega, hh.block b h⟩)
 clear r1 s1 r2 s2
 go_enter Tryz.func100, Tryz.ntmps100
 go_wp2_with fail
 refine (HC0.out _ hb).mono ?_
 rintro e v0 ⟨rfl, hv⟩
 have hb0 : Below w.heap.size w v0 := hb.trans (hv.mono hb.size)
 have k0 := blk_keep k0 hv (Array.getElem?_eq_some_iff.1 k0).1
 have k1 := blk_keep k1 hv (Array.getElem?_eq_some_iff.1 k1).1
 clear hv
 have p0_0 := cell_blk (j := 0) k0 rfl
 have q0_0 := cell_blk (j := 0) k1 rfl
 have p0_1 := cell_blk (j := 1) k0 rfl
 have q0_1 := cell_blk (j := 1) k1 rfl
 have p0_2 := cell_blk (j := 2) k0 rfl
 have q0_2 := cell_blk (j := 2) k1 rfl
 have p0_3 := cell_blk (j := 3) k0 rfl
 have q0_3 := cell_blk (j := 3) k1 rfl
 go_wp2_with fail
 refine (HC1.out _ hb0).mono ?_
 rintro e v1 ⟨rfl, hv⟩
 have hb1 : Below w.heap.size w v1 := hb0.trans (hv.mono hb0.size)
 have k0 := blk_keep k0 hv (Array.getElem?_eq_some_iff.1 k0).1
 have k1 := blk_keep k1 hv (Array.getElem?_eq_some_iff.1 k1).1
 clear hv
 have p1_0 := cell_blk (j := 0) k0 rfl
 have q1_0 := cell_blk (j := 0) k1 rfl
 have p1_1 := cell_blk (j := 1) k0 rfl
 have q1_1 := cell_blk (j := 1) k1 rfl
 have p1_2 := cell_blk (j := 2) k0 rfl
 have q1_2 := cell_blk (j := 2) k1 rfl
 have p1_3 := cell_blk (j := 3) k0 rfl
 have q1_3 := cell_blk (j := 3) k1 rfl
 go_wp2
 go_ret
 exact ⟨rfl, hb1⟩
set_option maxRecDepth 100000 in
set_option maxHeartbeats 1000000 in
theorem eq_Frame (a b : Option Addr) (l : List Frm) (ca cb : Nat) (w : World) (hn : l.length ≤ 1048576) (hsm : ∀ d ∈ l, Frm.small d) (hr : rgF.Row w (fun b => b < w.heap.size) a l) (hr' : rgF.Row w (fun b => b < w.heap.size) b l) :
  Calls Tryz.prog 52 #[.slice a l.length ca, .slice b l.length cb] w fun e w' => Ans w (.bool true) e w' := by
 have HR : Hid (rgF.Row w (fun b => b < w.heap.size) a l) := hr
 have HR' : Hid (rgF.Row w (fun b => b < w.heap.size) b l) := hr'
 have HS : Hid (∀ d ∈ l, Frm.small d) := hsm
 clear hr hr' hsm
 go_enter Tryz.func52, Tryz.ntmps52
 go_wp2
 go_loopw [5] (fun o wr => ∃ (i : Nat), i ≤ l.length ∧ o = .int .i64 i ∧ Below w.heap.size w wr)
  (fun o _ => l.length - (intOf o).toNat)
 case atStart => exact ⟨0, by omega, rfl, Below.refl _ _⟩
 case round =>
  obtain ⟨i, hi, rfl, hb⟩ := hrel
  by_cases hlt : i < l.length
  ·obtain ⟨d, hd⟩ : ∃ d, l[i]? = some d := ⟨_, List.getElem?_eq_getElem hlt⟩
   have hsz := hb.size
   obtain ⟨b1, o1, cs1, rfl, hbb, hat, hl1⟩ := (HR.out.below hb) i d hd
   obtain ⟨b2, o2, cs2, rfl, hbb', hat', hl2⟩ := (HR'.out.below hb) i d hd
   obtain ⟨a1, a2, c1, c2, rfl, hrows⟩ := hat
   obtain ⟨aq1, aq2, cq1, cq2, rfl, hrowsq⟩ := hat'
   have cx0 : wr.cell? ⟨b1, o1 + i * 4, none⟩ = some (.int .i64 d.unit) := hl1 0 _ rfl
   have cy0 : wr.cell? ⟨b2, o2 + i * 4, none⟩ = some (.int .i64 d.unit) := hl2 0 _ rfl
   have cx1 : wr.cell? ⟨b1, o1 + i * 4 + 1, none⟩ = some (.int .i64 d.node) := hl1 1 _ rfl
   have cy1 : wr.cell? ⟨b2, o2 + i * 4 + 1, none⟩ = some (.int .i64 d.node) := hl2 1 _ rfl
   have cx2 : wr.cell? ⟨b1, o1 + i * 4 + 2, none⟩ = some (.slice a1 d.vals.length c1) := hl1 2 _ rfl
   have cy2 : wr.cell? ⟨b2, o2 + i * 4 + 2, none⟩ = some (.slice aq1 d.vals.length cq1) := hl2 2 _ rfl
   have cx3 : wr.cell? ⟨b1, o1 + i * 4 + 3, none⟩ = some (.slice a2 d.env.length c2) := hl1 3 _ rfl
   have cy3 : wr.cell? ⟨b2, o2 + i * 4 + 3, none⟩ = some (.slice aq2 d.env.length cq2) := hl2 3 _ rfl
   have HE : Hid (∀ w1, Below w.heap.size wr w1 → Calls Tryz.prog 100 #[.agg #[.int .i64 d.unit, .int .i64 d.node, .slice a1 d.vals.length c1, .slice a2 d.env.length c2], .agg #[.int .i64 d.unit, .int .i64 d.node, .slice aq1 d.vals.length cq1, .slice aq2 d.env.length cq2]] w1 fun e w' => Ans w1 (.bool true) e w') := fun w1 h => eqE_Frame d a1 a2 c1 c2 aq1 aq2 cq1 cq2 w1 (HS.out d (List.mem_of_getElem? hd)) (hrows.keep fun b hb' => ⟨by have := h.size; omega, h.block b hb'⟩) (hrowsq.keep fun b hb' => ⟨by have := h.size; omega, h.block b hb'⟩)
   clear hd hl1 hl2 hrows hrowsq
   go_wp2_with fail
   go_region_with (go_at_call 100; refine (HE.out _ (eqb_dn (Below.refl _ _) 1)).mono ?_; rintro e w2 ⟨rfl, hb2⟩)
   all_goals
    go_wp2
    go_roundw
    case rel => exact ⟨i + 1, by omega, by go_num, (eqb_dn hb _).trans (hb2.mono hsz)⟩
    case measure => simp [intOf]; omega
  ·have hlt' : decide ((i : Int) < (l.length : Int)) = false := by simp; omega
   go_wp2
   go_ret
   exact ⟨rfl, hb⟩
set_option maxRecDepth 100000 in
set_option maxHeartbeats 1000000 in
theorem eqE_Machine (x : Mac) (a1 a2 : Option Addr) (c1 c2 : Nat) (aq1 aq2 : Option Addr) (cq1 cq2 : Nat) (w : World) (hs : x.small) (h1 : MacRows w (fun b => b < w.heap.size) a1 a2 c1 c2 x) (h2 : MacRows w (fun b => b < w.heap.size) aq1 aq2 cq1 cq2 x) :
  Calls Tryz.prog 20 #[.agg #[.int .i64 x.mode, .int .i64 x.unit, .int .i64 x.node, .slice a1 x.env.length c1, .int .i64 x.val.k, .int .i64 x.val.n, .string x.val.s, .slice a2 x.stack.length c2, .int .i64 x.end_], .agg #[.int .i64 x.mode, .int .i64 x.unit, .int .i64 x.node, .slice aq1 x.env.length cq1, .int .i64 x.val.k, .int .i64 x.val.n, .string x.val.s, .slice aq2 x.stack.length cq2, .int .i64 x.end_]] w fun e w' => Ans w (.bool true) e w' := by
 obtain ⟨u0, u1, u2, u3, u4, u5, u6⟩ := hs
 obtain ⟨⟨r1, rt1⟩, ⟨r2, rt2⟩⟩ := h1
 obtain ⟨⟨s1, st1⟩, ⟨s2, st2⟩⟩ := h2
 have hb : Below w.heap.size w ((w.alloc (Obj.cells #[.int .i64 x.mode, .int .i64 x.unit, .int .i64 x.node, .slice a1 x.env.length c1, .int .i64 x.val.k, .int .i64 x.val.n, .string x.val.s, .slice a2 x.stack.length c2, .int .i64 x.end_] 48)).alloc (Obj.cells #[.int .i64 x.mode, .int .i64 x.unit, .int .i64 x.node, .slice aq1 x.env.length cq1, .int .i64 x.val.k, .int .i64 x.val.n, .string x.val.s, .slice aq2 x.stack.length cq2, .int .i64 x.end_] 48)) := ((Below.refl _ _).alloc (Nat.le_refl _) _).alloc (by simp) _
 have k0 : ((w.alloc (Obj.cells #[.int .i64 x.mode, .int .i64 x.unit, .int .i64 x.node, .slice a1 x.env.length c1, .int .i64 x.val.k, .int .i64 x.val.n, .string x.val.s, .slice a2 x.stack.length c2, .int .i64 x.end_] 48)).alloc (Obj.cells #[.int .i64 x.mode, .int .i64 x.unit, .int .i64 x.node, .slice aq1 x.env.length cq1, .int .i64 x.val.k, .int .i64 x.val.n, .string x.val.s, .slice aq2 x.stack.length cq2, .int .i64 x.end_] 48)).heap[w.heap.size]? = some (Obj.cells #[.int .i64 x.mode, .int .i64 x.unit, .int .i64 x.node, .slice a1 x.env.length c1, .int .i64 x.val.k, .int .i64 x.val.n, .string x.val.s, .slice a2 x.stack.length c2, .int .i64 x.end_] 48) := blk_past (blk_at _ _ _ rfl)
 have k1 : ((w.alloc (Obj.cells #[.int .i64 x.mode, .int .i64 x.unit, .int .i64 x.node, .slice a1 x.env.length c1, .int .i64 x.val.k, .int .i64 x.val.n, .string x.val.s, .slice a2 x.stack.length c2, .int .i64 x.end_] 48)).alloc (Obj.cells #[.int .i64 x.mode, .int .i64 x.unit, .int .i64 x.node, .slice aq1 x.env.length cq1, .int .i64 x.val.k, .int .i64 x.val.n, .string x.val.s, .slice aq2 x.stack.length cq2, .int .i64 x.end_] 48)).heap[w.heap.size + 1]? = some (Obj.cells #[.int .i64 x.mode, .int .i64 x.unit, .int .i64 x.node, .slice aq1 x.env.length cq1, .int .i64 x.val.k, .int .i64 x.val.n, .string x.val.s, .slice aq2 x.stack.length cq2, .int .i64 x.end_] 48) := blk_at _ _ _ (by simp)
 have HC0 : Hid (∀ w2, Below w.heap.size w w2 → Calls Tryz.prog 51 #[.slice a1 x.env.length c1, .slice aq1 x.env.length cq1] w2 fun e w' => Ans w2 (.bool true) e w') := fun w2 hh => eq_Bind a1 aq1 x.env c1 cq1 w2 u3.1 u3.2 (r1.keep fun b h => ⟨by have := hh.size; omega, hh.block b h⟩) (s1.keep fun b h => ⟨by have := hh.size; omega, hh.block b h⟩)
 have HC1 : Hid (∀ w2, Below w.heap.size w w2 → Calls Tryz.prog 15 #[.agg #[.int .i64 x.val.k, .int .i64 x.val.n, .string x.val.s], .agg #[.int .i64 x.val.k, .int .i64 x.val.n, .string x.val.s]] w2 fun e w' => Ans w2 (.bool true) e w') := fun w2 hh => eqE_Value x.val w2 u4
 have HC2 : Hid (∀ w2, Below w.heap.size w w2 → Calls Tryz.prog 52 #[.slice a2 x.stack.length c2, .slice aq2 x.stack.length cq2] w2 fun e w' => Ans w2 (.bool true) e w') := fun w2 hh => eq_Frame a2 aq2 x.stack c2 cq2 w2 u5.1 u5.2 (r2.keep fun b h => ⟨by have := hh.size; omega, hh.block b h⟩) (s2.keep fun b h => ⟨by have := hh.size; omega, hh.block b h⟩)
 clear r1 s1 r2 s2
 go_enter Tryz.func20, Tryz.ntmps20
 go_wp2_with fail
 refine (HC0.out _ hb).mono ?_
 rintro e v0 ⟨rfl, hv⟩
 have hb0 : Below w.heap.size w v0 := hb.trans (hv.mono hb.size)
 have k0 := blk_keep k0 hv (Array.getElem?_eq_some_iff.1 k0).1
 have k1 := blk_keep k1 hv (Array.getElem?_eq_some_iff.1 k1).1
 clear hv
 have p0_0 := cell_blk (j := 0) k0 rfl
 have q0_0 := cell_blk (j := 0) k1 rfl
 have p0_1 := cell_blk (j := 1) k0 rfl
 have q0_1 := cell_blk (j := 1) k1 rfl
 have p0_2 := cell_blk (j := 2) k0 rfl
 have q0_2 := cell_blk (j := 2) k1 rfl
 have p0_3 := cell_blk (j := 3) k0 rfl
 have q0_3 := cell_blk (j := 3) k1 rfl
 have p0_4 := cell_blk (j := 4) k0 rfl
 have q0_4 := cell_blk (j := 4) k1 rfl
 have p0_5 := cell_blk (j := 5) k0 rfl
 have q0_5 := cell_blk (j := 5) k1 rfl
 have p0_6 := cell_blk (j := 6) k0 rfl
 have q0_6 := cell_blk (j := 6) k1 rfl
 have p0_7 := cell_blk (j := 7) k0 rfl
 have q0_7 := cell_blk (j := 7) k1 rfl
 have p0_8 := cell_blk (j := 8) k0 rfl
 have q0_8 := cell_blk (j := 8) k1 rfl
 go_wp2_with fail
 refine (HC1.out _ hb0).mono ?_
 rintro e v1 ⟨rfl, hv⟩
 have hb1 : Below w.heap.size w v1 := hb0.trans (hv.mono hb0.size)
 have k0 := blk_keep k0 hv (Array.getElem?_eq_some_iff.1 k0).1
 have k1 := blk_keep k1 hv (Array.getElem?_eq_some_iff.1 k1).1
 clear hv
 have p1_0 := cell_blk (j := 0) k0 rfl
 have q1_0 := cell_blk (j := 0) k1 rfl
 have p1_1 := cell_blk (j := 1) k0 rfl
 have q1_1 := cell_blk (j := 1) k1 rfl
 have p1_2 := cell_blk (j := 2) k0 rfl
 have q1_2 := cell_blk (j := 2) k1 rfl
 have p1_3 := cell_blk (j := 3) k0 rfl
 have q1_3 := cell_blk (j := 3) k1 rfl
 have p1_4 := cell_blk (j := 4) k0 rfl
 have q1_4 := cell_blk (j := 4) k1 rfl
 have p1_5 := cell_blk (j := 5) k0 rfl
 have q1_5 := cell_blk (j := 5) k1 rfl
 have p1_6 := cell_blk (j := 6) k0 rfl
 have q1_6 := cell_blk (j := 6) k1 rfl
 have p1_7 := cell_blk (j := 7) k0 rfl
 have q1_7 := cell_blk (j := 7) k1 rfl
 have p1_8 := cell_blk (j := 8) k0 rfl
 have q1_8 := cell_blk (j := 8) k1 rfl
 go_wp2_with fail
 refine (HC2.out _ hb1).mono ?_
 rintro e v2 ⟨rfl, hv⟩
 have hb2 : Below w.heap.size w v2 := hb1.trans (hv.mono hb1.size)
 have k0 := blk_keep k0 hv (Array.getElem?_eq_some_iff.1 k0).1
 have k1 := blk_keep k1 hv (Array.getElem?_eq_some_iff.1 k1).1
 clear hv
 have p2_0 := cell_blk (j := 0) k0 rfl
 have q2_0 := cell_blk (j := 0) k1 rfl
 have p2_1 := cell_blk (j := 1) k0 rfl
 have q2_1 := cell_blk (j := 1) k1 rfl
 have p2_2 := cell_blk (j := 2) k0 rfl
 have q2_2 := cell_blk (j := 2) k1 rfl
 have p2_3 := cell_blk (j := 3) k0 rfl
 have q2_3 := cell_blk (j := 3) k1 rfl
 have p2_4 := cell_blk (j := 4) k0 rfl
 have q2_4 := cell_blk (j := 4) k1 rfl
 have p2_5 := cell_blk (j := 5) k0 rfl
 have q2_5 := cell_blk (j := 5) k1 rfl
 have p2_6 := cell_blk (j := 6) k0 rfl
 have q2_6 := cell_blk (j := 6) k1 rfl
 have p2_7 := cell_blk (j := 7) k0 rfl
 have q2_7 := cell_blk (j := 7) k1 rfl
 have p2_8 := cell_blk (j := 8) k0 rfl
 have q2_8 := cell_blk (j := 8) k1 rfl
 go_wp2
 go_ret
 exact ⟨rfl, hb2⟩
end Go.Proofs.YtmnkomgdcebniaaGreat
