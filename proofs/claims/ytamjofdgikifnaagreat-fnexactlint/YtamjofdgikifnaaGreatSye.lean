/- Like systems are told alike. -/
import Derived.Test.YtamjofdgikifnaaGreatApw
import Derived.Test.YtamjofdgikifnaaGreatEqn
import Derived.Deep.RegionWith
set_option linter.unusedVariables false
namespace Go.Proofs.YtamjofdgikifnaaGreat
open Go.ChangeShapes Go.WideShapes Go.ChangeAt Go.RowKit
theorem eqb_dn {B : Nat} {w wr : World} (h : Below B w wr) (n : Nat) : Below B w (wr.drewN n) := ⟨h.os, h.tape, h.output, h.size, h.block⟩
theorem eq_string (a b : Option Addr) (l : List ByteArray) (ca cb : Nat) (w : World) (hn : l.length ≤ 1048576) (hsm : ∀ d ∈ l, smS d) (hr : rgS.Row w (fun b => b < w.heap.size) a l) (hr' : rgS.Row w (fun b => b < w.heap.size) b l) :
  Calls Tryz.prog 13 #[.slice a l.length ca, .slice b l.length cb] w fun e w' => Ans w (.bool true) e w' := eqStringS_same a b l ca cb w hn (rowS_iff.1 hr) (rowS_iff.1 hr')
theorem eq_Node (a b : Option Addr) (l : List Nod) (ca cb : Nat) (w : World) (hn : l.length ≤ 1048576) (hsm : ∀ d ∈ l, Nod.small d) (hr : rgN.Row w (fun b => b < w.heap.size) a l) (hr' : rgN.Row w (fun b => b < w.heap.size) b l) :
  Calls Tryz.prog 111 #[.slice a l.length ca, .slice b l.length cb] w fun e w' => Ans w (.bool true) e w' := eqNodeS_same a b l ca cb w hn hsm (rowN_iff.1 hr) (rowN_iff.1 hr')
set_option maxRecDepth 100000 in
set_option maxHeartbeats 1000000 in
theorem eqE_Prog (x : Prg) (a1 : Option Addr) (c1 : Nat) (aq1 : Option Addr) (cq1 : Nat) (w : World) (hs : x.small) (h1 : PrgRows w (fun b => b < w.heap.size) a1 c1 x) (h2 : PrgRows w (fun b => b < w.heap.size) aq1 cq1 x) :
  Calls Tryz.prog 96 #[.agg #[.slice a1 x.nodes.length c1, .int .i64 x.root], .agg #[.slice aq1 x.nodes.length cq1, .int .i64 x.root]] w fun e w' => Ans w (.bool true) e w' := by
 obtain ⟨u0, u1⟩ := hs
 obtain ⟨r1, rt1⟩ := h1
 obtain ⟨s1, st1⟩ := h2
 have hb : Below w.heap.size w ((w.alloc (Obj.cells #[.slice a1 x.nodes.length c1, .int .i64 x.root] 54)).alloc (Obj.cells #[.slice aq1 x.nodes.length cq1, .int .i64 x.root] 54)) := ((Below.refl _ _).alloc (Nat.le_refl _) _).alloc (by simp) _
 have k0 : ((w.alloc (Obj.cells #[.slice a1 x.nodes.length c1, .int .i64 x.root] 54)).alloc (Obj.cells #[.slice aq1 x.nodes.length cq1, .int .i64 x.root] 54)).heap[w.heap.size]? = some (Obj.cells #[.slice a1 x.nodes.length c1, .int .i64 x.root] 54) := blk_past (blk_at _ _ _ rfl)
 have k1 : ((w.alloc (Obj.cells #[.slice a1 x.nodes.length c1, .int .i64 x.root] 54)).alloc (Obj.cells #[.slice aq1 x.nodes.length cq1, .int .i64 x.root] 54)).heap[w.heap.size + 1]? = some (Obj.cells #[.slice aq1 x.nodes.length cq1, .int .i64 x.root] 54) := blk_at _ _ _ (by simp)
 have HC0 : Hid (∀ w2, Below w.heap.size w w2 → Calls Tryz.prog 111 #[.slice a1 x.nodes.length c1, .slice aq1 x.nodes.length cq1] w2 fun e w' => Ans w2 (.bool true) e w') := fun w2 hh => eq_Node a1 aq1 x.nodes c1 cq1 w2 u0.1 u0.2 (r1.keep fun b h => ⟨by have := hh.size; omega, hh.block b h⟩) (s1.keep fun b h => ⟨by have := hh.size; omega, hh.block b h⟩)
 clear r1 s1
 go_enter Tryz.func96, Tryz.ntmps96
 go_wp2_with fail
 refine (HC0.out _ hb).mono ?_
 rintro e v0 ⟨rfl, hv⟩
 have hb0 : Below w.heap.size w v0 := hb.trans (hv.mono hb.size)
 have k0 := blk_keep k0 hv (Array.getElem?_eq_some_iff.1 k0).1
 have k1 := blk_keep k1 hv (Array.getElem?_eq_some_iff.1 k1).1
 clear hv
 have p0_0 := cell_blk (j := 0) k0 rfl
 have q0_0 := cell_blk (j := 0) k1 rfl
 have p0_1 := cell_blk (j := 1) k0 rfl
 have q0_1 := cell_blk (j := 1) k1 rfl
 go_wp2
 go_ret
 exact ⟨rfl, hb0⟩
set_option maxRecDepth 100000 in
set_option maxHeartbeats 1000000 in
theorem eqE_Type (x : Typ) (w : World) (hs : x.small) :
  Calls Tryz.prog 73 #[.agg #[.string x.name, .int .i64 x.size], .agg #[.string x.name, .int .i64 x.size]] w fun e w' => Ans w (.bool true) e w' := by
 have hb : Below w.heap.size w ((w.alloc (Obj.cells #[.string x.name, .int .i64 x.size] 77)).alloc (Obj.cells #[.string x.name, .int .i64 x.size] 77)) := ((Below.refl _ _).alloc (Nat.le_refl _) _).alloc (by simp) _
 have k0 : ((w.alloc (Obj.cells #[.string x.name, .int .i64 x.size] 77)).alloc (Obj.cells #[.string x.name, .int .i64 x.size] 77)).heap[w.heap.size]? = some (Obj.cells #[.string x.name, .int .i64 x.size] 77) := blk_past (blk_at _ _ _ rfl)
 have k1 : ((w.alloc (Obj.cells #[.string x.name, .int .i64 x.size] 77)).alloc (Obj.cells #[.string x.name, .int .i64 x.size] 77)).heap[w.heap.size + 1]? = some (Obj.cells #[.string x.name, .int .i64 x.size] 77) := blk_at _ _ _ (by simp)
 go_enter Tryz.func73, Tryz.ntmps73
 go_wp2
 go_ret
 exact ⟨rfl, hb⟩
set_option maxRecDepth 100000 in
set_option maxHeartbeats 1000000 in
theorem eq_Type (a b : Option Addr) (l : List Typ) (ca cb : Nat) (w : World) (hn : l.length ≤ 1048576) (hsm : ∀ d ∈ l, Typ.small d) (hr : rgT.Row w (fun b => b < w.heap.size) a l) (hr' : rgT.Row w (fun b => b < w.heap.size) b l) :
  Calls Tryz.prog 40 #[.slice a l.length ca, .slice b l.length cb] w fun e w' => Ans w (.bool true) e w' := by
 have HR : Hid (rgT.Row w (fun b => b < w.heap.size) a l) := hr
 have HR' : Hid (rgT.Row w (fun b => b < w.heap.size) b l) := hr'
 have HS : Hid (∀ d ∈ l, Typ.small d) := hsm
 clear hr hr' hsm
 go_enter Tryz.func40, Tryz.ntmps40
 go_wp2
 go_loopw [5] (fun o wr => ∃ (i : Nat), i ≤ l.length ∧ o = .int .i64 i ∧ Below w.heap.size w wr)
  (fun o _ => l.length - (intOf o).toNat)
 case atStart => exact ⟨0, by omega, rfl, Below.refl _ _⟩
 case round =>
  obtain ⟨i, hi, rfl, hb⟩ := hrel
  by_cases hlt : i < l.length
  ·obtain ⟨d, hd⟩ : ∃ d, l[i]? = some d := ⟨_, List.getElem?_eq_getElem hlt⟩
   have hsz := hb.size
   obtain ⟨b1, o1, cs1, rfl, hbb, hat, hl1⟩ := (HR.out.below hb) i d hd
   obtain ⟨b2, o2, cs2, rfl, hbb', hat', hl2⟩ := (HR'.out.below hb) i d hd
   obtain rfl := hat
   obtain rfl := hat'
   have cx0 : wr.cell? ⟨b1, o1 + i * 2, none⟩ = some (.string d.name) := hl1 0 _ rfl
   have cy0 : wr.cell? ⟨b2, o2 + i * 2, none⟩ = some (.string d.name) := hl2 0 _ rfl
   have cx1 : wr.cell? ⟨b1, o1 + i * 2 + 1, none⟩ = some (.int .i64 d.size) := hl1 1 _ rfl
   have cy1 : wr.cell? ⟨b2, o2 + i * 2 + 1, none⟩ = some (.int .i64 d.size) := hl2 1 _ rfl
   have HE : Hid (∀ w1, Below w.heap.size wr w1 → Calls Tryz.prog 73 #[.agg #[.string d.name, .int .i64 d.size], .agg #[.string d.name, .int .i64 d.size]] w1 fun e w' => Ans w1 (.bool true) e w') := fun w1 h => eqE_Type d   w1 (HS.out d (List.mem_of_getElem? hd))
   clear hd hl1 hl2
   go_wp2_with fail
   go_region_with (go_at_call 73; refine (HE.out _ (eqb_dn (Below.refl _ _) 1)).mono ?_; rintro e w2 ⟨rfl, hb2⟩)
   all_goals
    go_wp2
    go_roundw
    case rel => exact ⟨i + 1, by omega, by go_num, (eqb_dn hb _).trans (hb2.mono hsz)⟩
    case measure => simp [intOf]; omega
  ·have hlt' : decide ((i : Int) < (l.length : Int)) = false := by simp; omega
   go_wp2
   go_ret
   exact ⟨rfl, hb⟩
set_option maxRecDepth 100000 in
set_option maxHeartbeats 1000000 in
theorem eqE_Def (x : Dfn) (a1 : Option Addr) (c1 : Nat) (aq1 : Option Addr) (cq1 : Nat) (w : World) (hs : x.small) (h1 : DfnRows w (fun b => b < w.heap.size) a1 c1 x) (h2 : DfnRows w (fun b => b < w.heap.size) aq1 cq1 x) :
  Calls Tryz.prog 74 #[.agg #[.string x.name, .slice a1 x.prog.nodes.length c1, .int .i64 x.prog.root], .agg #[.string x.name, .slice aq1 x.prog.nodes.length cq1, .int .i64 x.prog.root]] w fun e w' => Ans w (.bool true) e w' := by
 obtain ⟨u0, u1⟩ := hs
 obtain ⟨r1, rt1⟩ := h1
 obtain ⟨s1, st1⟩ := h2
 have hb : Below w.heap.size w ((w.alloc (Obj.cells #[.string x.name, .slice a1 x.prog.nodes.length c1, .int .i64 x.prog.root] 63)).alloc (Obj.cells #[.string x.name, .slice aq1 x.prog.nodes.length cq1, .int .i64 x.prog.root] 63)) := ((Below.refl _ _).alloc (Nat.le_refl _) _).alloc (by simp) _
 have k0 : ((w.alloc (Obj.cells #[.string x.name, .slice a1 x.prog.nodes.length c1, .int .i64 x.prog.root] 63)).alloc (Obj.cells #[.string x.name, .slice aq1 x.prog.nodes.length cq1, .int .i64 x.prog.root] 63)).heap[w.heap.size]? = some (Obj.cells #[.string x.name, .slice a1 x.prog.nodes.length c1, .int .i64 x.prog.root] 63) := blk_past (blk_at _ _ _ rfl)
 have k1 : ((w.alloc (Obj.cells #[.string x.name, .slice a1 x.prog.nodes.length c1, .int .i64 x.prog.root] 63)).alloc (Obj.cells #[.string x.name, .slice aq1 x.prog.nodes.length cq1, .int .i64 x.prog.root] 63)).heap[w.heap.size + 1]? = some (Obj.cells #[.string x.name, .slice aq1 x.prog.nodes.length cq1, .int .i64 x.prog.root] 63) := blk_at _ _ _ (by simp)
 have HC0 : Hid (∀ w2, Below w.heap.size w w2 → Calls Tryz.prog 96 #[.agg #[.slice a1 x.prog.nodes.length c1, .int .i64 x.prog.root], .agg #[.slice aq1 x.prog.nodes.length cq1, .int .i64 x.prog.root]] w2 fun e w' => Ans w2 (.bool true) e w') := fun w2 hh => eqE_Prog x.prog a1 c1 aq1 cq1 w2 u1 (PrgRows.keep (w := w) (p := (fun b => b < w.heap.size)) ⟨r1, rt1⟩ fun b h => ⟨by have := hh.size; omega, hh.block b h⟩) (PrgRows.keep (w := w) (p := (fun b => b < w.heap.size)) ⟨s1, st1⟩ fun b h => ⟨by have := hh.size; omega, hh.block b h⟩)
 clear r1 s1
 go_enter Tryz.func74, Tryz.ntmps74
 go_wp2_with fail
 refine (HC0.out _ hb).mono ?_
 rintro e v0 ⟨rfl, hv⟩
 have hb0 : Below w.heap.size w v0 := hb.trans (hv.mono hb.size)
 have k0 := blk_keep k0 hv (Array.getElem?_eq_some_iff.1 k0).1
 have k1 := blk_keep k1 hv (Array.getElem?_eq_some_iff.1 k1).1
 clear hv
 have p0_0 := cell_blk (j := 0) k0 rfl
 have q0_0 := cell_blk (j := 0) k1 rfl
 have p0_1 := cell_blk (j := 1) k0 rfl
 have q0_1 := cell_blk (j := 1) k1 rfl
 have p0_2 := cell_blk (j := 2) k0 rfl
 have q0_2 := cell_blk (j := 2) k1 rfl
 go_wp2
 go_ret
 exact ⟨rfl, hb0⟩
set_option maxRecDepth 100000 in
set_option maxHeartbeats 1000000 in
theorem eq_Def (a b : Option Addr) (l : List Dfn) (ca cb : Nat) (w : World) (hn : l.length ≤ 1048576) (hsm : ∀ d ∈ l, Dfn.small d) (hr : rgD.Row w (fun b => b < w.heap.size) a l) (hr' : rgD.Row w (fun b => b < w.heap.size) b l) :
  Calls Tryz.prog 41 #[.slice a l.length ca, .slice b l.length cb] w fun e w' => Ans w (.bool true) e w' := by
 have HR : Hid (rgD.Row w (fun b => b < w.heap.size) a l) := hr
 have HR' : Hid (rgD.Row w (fun b => b < w.heap.size) b l) := hr'
 have HS : Hid (∀ d ∈ l, Dfn.small d) := hsm
 clear hr hr' hsm
 go_enter Tryz.func41, Tryz.ntmps41
 go_wp2
 go_loopw [5] (fun o wr => ∃ (i : Nat), i ≤ l.length ∧ o = .int .i64 i ∧ Below w.heap.size w wr)
  (fun o _ => l.length - (intOf o).toNat)
 case atStart => exact ⟨0, by omega, rfl, Below.refl _ _⟩
 case round =>
  obtain ⟨i, hi, rfl, hb⟩ := hrel
  by_cases hlt : i < l.length
  ·obtain ⟨d, hd⟩ : ∃ d, l[i]? = some d := ⟨_, List.getElem?_eq_getElem hlt⟩
   have hsz := hb.size
   obtain ⟨b1, o1, cs1, rfl, hbb, hat, hl1⟩ := (HR.out.below hb) i d hd
   obtain ⟨b2, o2, cs2, rfl, hbb', hat', hl2⟩ := (HR'.out.below hb) i d hd
   obtain ⟨a1, c1, rfl, hrows⟩ := hat
   obtain ⟨aq1, cq1, rfl, hrowsq⟩ := hat'
   have cx0 : wr.cell? ⟨b1, o1 + i * 3, none⟩ = some (.string d.name) := hl1 0 _ rfl
   have cy0 : wr.cell? ⟨b2, o2 + i * 3, none⟩ = some (.string d.name) := hl2 0 _ rfl
   have cx1 : wr.cell? ⟨b1, o1 + i * 3 + 1, none⟩ = some (.slice a1 d.prog.nodes.length c1) := hl1 1 _ rfl
   have cy1 : wr.cell? ⟨b2, o2 + i * 3 + 1, none⟩ = some (.slice aq1 d.prog.nodes.length cq1) := hl2 1 _ rfl
   have cx2 : wr.cell? ⟨b1, o1 + i * 3 + 2, none⟩ = some (.int .i64 d.prog.root) := hl1 2 _ rfl
   have cy2 : wr.cell? ⟨b2, o2 + i * 3 + 2, none⟩ = some (.int .i64 d.prog.root) := hl2 2 _ rfl
   have HE : Hid (∀ w1, Below w.heap.size wr w1 → Calls Tryz.prog 74 #[.agg #[.string d.name, .slice a1 d.prog.nodes.length c1, .int .i64 d.prog.root], .agg #[.string d.name, .slice aq1 d.prog.nodes.length cq1, .int .i64 d.prog.root]] w1 fun e w' => Ans w1 (.bool true) e w') := fun w1 h => eqE_Def d a1 c1 aq1 cq1 w1 (HS.out d (List.mem_of_getElem? hd)) (hrows.keep fun b hb' => ⟨by have := h.size; omega, h.block b hb'⟩) (hrowsq.keep fun b hb' => ⟨by have := h.size; omega, h.block b hb'⟩)
   clear hd hl1 hl2 hrows hrowsq
   go_wp2_with fail
   go_region_with (go_at_call 74; refine (HE.out _ (eqb_dn (Below.refl _ _) 1)).mono ?_; rintro e w2 ⟨rfl, hb2⟩)
   all_goals
    go_wp2
    go_roundw
    case rel => exact ⟨i + 1, by omega, by go_num, (eqb_dn hb _).trans (hb2.mono hsz)⟩
    case measure => simp [intOf]; omega
  ·have hlt' : decide ((i : Int) < (l.length : Int)) = false := by simp; omega
   go_wp2
   go_ret
   exact ⟨rfl, hb⟩
set_option maxRecDepth 100000 in
set_option maxHeartbeats 1000000 in
theorem eqE_Src (x : Srx) (a1 a2 a3 a4 a5 : Option Addr) (c1 c2 c3 c4 c5 : Nat) (aq1 aq2 aq3 aq4 aq5 : Option Addr) (cq1 cq2 cq3 cq4 cq5 : Nat) (w : World) (hs : x.small) (h1 : SrxRows w (fun b => b < w.heap.size) a1 a2 a3 a4 a5 c1 c2 c3 c4 c5 x) (h2 : SrxRows w (fun b => b < w.heap.size) aq1 aq2 aq3 aq4 aq5 cq1 cq2 cq3 cq4 cq5 x) :
  Calls Tryz.prog 12 #[.agg #[.string x.name, .slice a1 x.imps.length c1, .slice a2 x.exps.length c2, .slice a3 x.types.length c3, .slice a4 x.defs.length c4, .slice a5 x.convs.length c5], .agg #[.string x.name, .slice aq1 x.imps.length cq1, .slice aq2 x.exps.length cq2, .slice aq3 x.types.length cq3, .slice aq4 x.defs.length cq4, .slice aq5 x.convs.length cq5]] w fun e w' => Ans w (.bool true) e w' := by
 obtain ⟨u0, u1, u2, u3, u4, u5⟩ := hs
 obtain ⟨⟨r1, rt1⟩, ⟨r2, rt2⟩, ⟨r3, rt3⟩, ⟨r4, rt4⟩, ⟨r5, rt5⟩⟩ := h1
 obtain ⟨⟨s1, st1⟩, ⟨s2, st2⟩, ⟨s3, st3⟩, ⟨s4, st4⟩, ⟨s5, st5⟩⟩ := h2
 have hb : Below w.heap.size w ((w.alloc (Obj.cells #[.string x.name, .slice a1 x.imps.length c1, .slice a2 x.exps.length c2, .slice a3 x.types.length c3, .slice a4 x.defs.length c4, .slice a5 x.convs.length c5] 34)).alloc (Obj.cells #[.string x.name, .slice aq1 x.imps.length cq1, .slice aq2 x.exps.length cq2, .slice aq3 x.types.length cq3, .slice aq4 x.defs.length cq4, .slice aq5 x.convs.length cq5] 34)) := ((Below.refl _ _).alloc (Nat.le_refl _) _).alloc (by simp) _
 have k0 : ((w.alloc (Obj.cells #[.string x.name, .slice a1 x.imps.length c1, .slice a2 x.exps.length c2, .slice a3 x.types.length c3, .slice a4 x.defs.length c4, .slice a5 x.convs.length c5] 34)).alloc (Obj.cells #[.string x.name, .slice aq1 x.imps.length cq1, .slice aq2 x.exps.length cq2, .slice aq3 x.types.length cq3, .slice aq4 x.defs.length cq4, .slice aq5 x.convs.length cq5] 34)).heap[w.heap.size]? = some (Obj.cells #[.string x.name, .slice a1 x.imps.length c1, .slice a2 x.exps.length c2, .slice a3 x.types.length c3, .slice a4 x.defs.length c4, .slice a5 x.convs.length c5] 34) := blk_past (blk_at _ _ _ rfl)
 have k1 : ((w.alloc (Obj.cells #[.string x.name, .slice a1 x.imps.length c1, .slice a2 x.exps.length c2, .slice a3 x.types.length c3, .slice a4 x.defs.length c4, .slice a5 x.convs.length c5] 34)).alloc (Obj.cells #[.string x.name, .slice aq1 x.imps.length cq1, .slice aq2 x.exps.length cq2, .slice aq3 x.types.length cq3, .slice aq4 x.defs.length cq4, .slice aq5 x.convs.length cq5] 34)).heap[w.heap.size + 1]? = some (Obj.cells #[.string x.name, .slice aq1 x.imps.length cq1, .slice aq2 x.exps.length cq2, .slice aq3 x.types.length cq3, .slice aq4 x.defs.length cq4, .slice aq5 x.convs.length cq5] 34) := blk_at _ _ _ (by simp)
 have HC0 : Hid (∀ w2, Below w.heap.size w w2 → Calls Tryz.prog 13 #[.slice a1 x.imps.length c1, .slice aq1 x.imps.length cq1] w2 fun e w' => Ans w2 (.bool true) e w') := fun w2 hh => eq_string a1 aq1 x.imps c1 cq1 w2 u1.1 u1.2 (r1.keep fun b h => ⟨by have := hh.size; omega, hh.block b h⟩) (s1.keep fun b h => ⟨by have := hh.size; omega, hh.block b h⟩)
 have HC1 : Hid (∀ w2, Below w.heap.size w w2 → Calls Tryz.prog 13 #[.slice a2 x.exps.length c2, .slice aq2 x.exps.length cq2] w2 fun e w' => Ans w2 (.bool true) e w') := fun w2 hh => eq_string a2 aq2 x.exps c2 cq2 w2 u2.1 u2.2 (r2.keep fun b h => ⟨by have := hh.size; omega, hh.block b h⟩) (s2.keep fun b h => ⟨by have := hh.size; omega, hh.block b h⟩)
 have HC2 : Hid (∀ w2, Below w.heap.size w w2 → Calls Tryz.prog 40 #[.slice a3 x.types.length c3, .slice aq3 x.types.length cq3] w2 fun e w' => Ans w2 (.bool true) e w') := fun w2 hh => eq_Type a3 aq3 x.types c3 cq3 w2 u3.1 u3.2 (r3.keep fun b h => ⟨by have := hh.size; omega, hh.block b h⟩) (s3.keep fun b h => ⟨by have := hh.size; omega, hh.block b h⟩)
 have HC3 : Hid (∀ w2, Below w.heap.size w w2 → Calls Tryz.prog 41 #[.slice a4 x.defs.length c4, .slice aq4 x.defs.length cq4] w2 fun e w' => Ans w2 (.bool true) e w') := fun w2 hh => eq_Def a4 aq4 x.defs c4 cq4 w2 u4.1 u4.2 (r4.keep fun b h => ⟨by have := hh.size; omega, hh.block b h⟩) (s4.keep fun b h => ⟨by have := hh.size; omega, hh.block b h⟩)
 have HC4 : Hid (∀ w2, Below w.heap.size w w2 → Calls Tryz.prog 41 #[.slice a5 x.convs.length c5, .slice aq5 x.convs.length cq5] w2 fun e w' => Ans w2 (.bool true) e w') := fun w2 hh => eq_Def a5 aq5 x.convs c5 cq5 w2 u5.1 u5.2 (r5.keep fun b h => ⟨by have := hh.size; omega, hh.block b h⟩) (s5.keep fun b h => ⟨by have := hh.size; omega, hh.block b h⟩)
 clear r1 s1 r2 s2 r3 s3 r4 s4 r5 s5
 go_enter Tryz.func12, Tryz.ntmps12
 go_wp2_with fail
 refine (HC0.out _ hb).mono ?_
 rintro e v0 ⟨rfl, hv⟩
 have hb0 : Below w.heap.size w v0 := hb.trans (hv.mono hb.size)
 have k0 := blk_keep k0 hv (Array.getElem?_eq_some_iff.1 k0).1
 have k1 := blk_keep k1 hv (Array.getElem?_eq_some_iff.1 k1).1
 clear hv
 have p0_0 := cell_blk (j := 0) k0 rfl
 have q0_0 := cell_blk (j := 0) k1 rfl
 have p0_1 := cell_blk (j := 1) k0 rfl
 have q0_1 := cell_blk (j := 1) k1 rfl
 have p0_2 := cell_blk (j := 2) k0 rfl
 have q0_2 := cell_blk (j := 2) k1 rfl
 have p0_3 := cell_blk (j := 3) k0 rfl
 have q0_3 := cell_blk (j := 3) k1 rfl
 have p0_4 := cell_blk (j := 4) k0 rfl
 have q0_4 := cell_blk (j := 4) k1 rfl
 have p0_5 := cell_blk (j := 5) k0 rfl
 have q0_5 := cell_blk (j := 5) k1 rfl
 go_wp2_with fail
 refine (HC1.out _ hb0).mono ?_
 rintro e v1 ⟨rfl, hv⟩
 have hb1 : Below w.heap.size w v1 := hb0.trans (hv.mono hb0.size)
 have k0 := blk_keep k0 hv (Array.getElem?_eq_some_iff.1 k0).1
 have k1 := blk_keep k1 hv (Array.getElem?_eq_some_iff.1 k1).1
 clear hv
 have p1_0 := cell_blk (j := 0) k0 rfl
 have q1_0 := cell_blk (j := 0) k1 rfl
 have p1_1 := cell_blk (j := 1) k0 rfl
 have q1_1 := cell_blk (j := 1) k1 rfl
 have p1_2 := cell_blk (j := 2) k0 rfl
 have q1_2 := cell_blk (j := 2) k1 rfl
 have p1_3 := cell_blk (j := 3) k0 rfl
 have q1_3 := cell_blk (j := 3) k1 rfl
 have p1_4 := cell_blk (j := 4) k0 rfl
 have q1_4 := cell_blk (j := 4) k1 rfl
 have p1_5 := cell_blk (j := 5) k0 rfl
 have q1_5 := cell_blk (j := 5) k1 rfl
 go_wp2_with fail
 refine (HC2.out _ hb1).mono ?_
 rintro e v2 ⟨rfl, hv⟩
 have hb2 : Below w.heap.size w v2 := hb1.trans (hv.mono hb1.size)
 have k0 := blk_keep k0 hv (Array.getElem?_eq_some_iff.1 k0).1
 have k1 := blk_keep k1 hv (Array.getElem?_eq_some_iff.1 k1).1
 clear hv
 have p2_0 := cell_blk (j := 0) k0 rfl
 have q2_0 := cell_blk (j := 0) k1 rfl
 have p2_1 := cell_blk (j := 1) k0 rfl
 have q2_1 := cell_blk (j := 1) k1 rfl
 have p2_2 := cell_blk (j := 2) k0 rfl
 have q2_2 := cell_blk (j := 2) k1 rfl
 have p2_3 := cell_blk (j := 3) k0 rfl
 have q2_3 := cell_blk (j := 3) k1 rfl
 have p2_4 := cell_blk (j := 4) k0 rfl
 have q2_4 := cell_blk (j := 4) k1 rfl
 have p2_5 := cell_blk (j := 5) k0 rfl
 have q2_5 := cell_blk (j := 5) k1 rfl
 go_wp2_with fail
 refine (HC3.out _ hb2).mono ?_
 rintro e v3 ⟨rfl, hv⟩
 have hb3 : Below w.heap.size w v3 := hb2.trans (hv.mono hb2.size)
 have k0 := blk_keep k0 hv (Array.getElem?_eq_some_iff.1 k0).1
 have k1 := blk_keep k1 hv (Array.getElem?_eq_some_iff.1 k1).1
 clear hv
 have p3_0 := cell_blk (j := 0) k0 rfl
 have q3_0 := cell_blk (j := 0) k1 rfl
 have p3_1 := cell_blk (j := 1) k0 rfl
 have q3_1 := cell_blk (j := 1) k1 rfl
 have p3_2 := cell_blk (j := 2) k0 rfl
 have q3_2 := cell_blk (j := 2) k1 rfl
 have p3_3 := cell_blk (j := 3) k0 rfl
 have q3_3 := cell_blk (j := 3) k1 rfl
 have p3_4 := cell_blk (j := 4) k0 rfl
 have q3_4 := cell_blk (j := 4) k1 rfl
 have p3_5 := cell_blk (j := 5) k0 rfl
 have q3_5 := cell_blk (j := 5) k1 rfl
 go_wp2_with fail
 refine (HC4.out _ hb3).mono ?_
 rintro e v4 ⟨rfl, hv⟩
 have hb4 : Below w.heap.size w v4 := hb3.trans (hv.mono hb3.size)
 have k0 := blk_keep k0 hv (Array.getElem?_eq_some_iff.1 k0).1
 have k1 := blk_keep k1 hv (Array.getElem?_eq_some_iff.1 k1).1
 clear hv
 have p4_0 := cell_blk (j := 0) k0 rfl
 have q4_0 := cell_blk (j := 0) k1 rfl
 have p4_1 := cell_blk (j := 1) k0 rfl
 have q4_1 := cell_blk (j := 1) k1 rfl
 have p4_2 := cell_blk (j := 2) k0 rfl
 have q4_2 := cell_blk (j := 2) k1 rfl
 have p4_3 := cell_blk (j := 3) k0 rfl
 have q4_3 := cell_blk (j := 3) k1 rfl
 have p4_4 := cell_blk (j := 4) k0 rfl
 have q4_4 := cell_blk (j := 4) k1 rfl
 have p4_5 := cell_blk (j := 5) k0 rfl
 have q4_5 := cell_blk (j := 5) k1 rfl
 go_wp2
 go_ret
 exact ⟨rfl, hb4⟩
end Go.Proofs.YtamjofdgikifnaaGreat
