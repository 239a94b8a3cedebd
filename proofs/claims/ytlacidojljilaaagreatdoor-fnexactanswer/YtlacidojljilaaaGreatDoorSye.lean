/- Like systems are told alike. All Args of a program are no more than what the law lets by. -/
import Derived.Test.YtlacidojljilaaaGreatDoorSyp
import Derived.Test.YtlacidojljilaaaGreatDoorEqn
set_option linter.unusedVariables false
set_option maxRecDepth 100000
set_option maxHeartbeats 8000000
namespace Go.Proofs.YtlacidojljilaaaGreatDoor
open Go.ChangeShapes Go.WideShapes Go.ChangeAt Go.RowKit
theorem eqb_dn {B : Nat} {w wr : World} (h : Below B w wr) (n : Nat) : Below B w (wr.drewN n) := ⟨h.os, h.tape, h.output, h.size, h.block⟩
theorem eq_string (a b : Option Addr) (l : List ByteArray) (ca cb : Nat) (w : World) (hn : l.length ≤ 1048576) (hsm : ∀ d ∈ l, smS d) (hr : rgS.Row w (fun b => b < w.heap.size) a l) (hr' : rgS.Row w (fun b => b < w.heap.size) b l) :
  Calls Tryz.prog 34 #[.slice a l.length ca, .slice b l.length cb] w fun e w' => Ans w (.bool true) e w' := eqStringS_same a b l ca cb w hn (rowS_iff.1 hr) (rowS_iff.1 hr')
theorem eq_Value (a b : Option Addr) (l : List Val) (ca cb : Nat) (w : World) (hn : l.length ≤ 1048576) (hsm : ∀ d ∈ l, Val.small d) (hr : rgV.Row w (fun b => b < w.heap.size) a l) (hr' : rgV.Row w (fun b => b < w.heap.size) b l) :
  Calls Tryz.prog 94 #[.slice a l.length ca, .slice b l.length cb] w fun e w' => Ans w (.bool true) e w' := eqValueS_same a b l ca cb w hn (rowV_iff.1 hr) (rowV_iff.1 hr')
theorem eq_Cell (a b : Option Addr) (l : List Cel) (ca cb : Nat) (w : World) (hn : l.length ≤ 1048576) (hsm : ∀ d ∈ l, Cel.small d) (hr : rgC.Row w (fun b => b < w.heap.size) a l) (hr' : rgC.Row w (fun b => b < w.heap.size) b l) :
  Calls Tryz.prog 31 #[.slice a l.length ca, .slice b l.length cb] w fun e w' => Ans w (.bool true) e w' := eqCellS_same a b l ca cb w hn hsm (rowC_iff.1 hr) (rowC_iff.1 hr')
theorem eq_Node (a b : Option Addr) (l : List Nod) (ca cb : Nat) (w : World) (hn : l.length ≤ 1048576) (hsm : ∀ d ∈ l, Nod.small d) (hr : rgN.Row w (fun b => b < w.heap.size) a l) (hr' : rgN.Row w (fun b => b < w.heap.size) b l) :
  Calls Tryz.prog 127 #[.slice a l.length ca, .slice b l.length cb] w fun e w' => Ans w (.bool true) e w' := eqNodeS_same a b l ca cb w hn hsm (rowN_iff.1 hr) (rowN_iff.1 hr')
theorem eqE_Prog (x : Prg) (a1 : Option Addr) (c1 : Nat) (aq1 : Option Addr) (cq1 : Nat) (w : World) (hs : x.small) (h1 : PrgRows w (fun b => b < w.heap.size) a1 c1 x) (h2 : PrgRows w (fun b => b < w.heap.size) aq1 cq1 x) :
  Calls Tryz.prog 97 #[.agg #[.slice a1 x.nodes.length c1, .int .i64 x.root], .agg #[.slice aq1 x.nodes.length cq1, .int .i64 x.root]] w fun e w' => Ans w (.bool true) e w' := by
 obtain ⟨u0, u1⟩ := hs
 obtain ⟨r1, rt1⟩ := h1
 obtain ⟨s1, st1⟩ := h2
 have hb : Below w.heap.size w ((w.alloc (Obj.cells #[.slice a1 x.nodes.length c1, .int .i64 x.root] 116)).alloc (Obj.cells #[.slice aq1 x.nodes.length cq1, .int .i64 x.root] 116)) := (bR _ _).alloc (by simp) _
 have k0 : ((w.alloc (Obj.cells #[.slice a1 x.nodes.length c1, .int .i64 x.root] 116)).alloc (Obj.cells #[.slice aq1 x.nodes.length cq1, .int .i64 x.root] 116)).heap[w.heap.size]? = some (Obj.cells #[.slice a1 x.nodes.length c1, .int .i64 x.root] 116) := blk_past (blk_at _ _ _ rfl)
 have k1 : ((w.alloc (Obj.cells #[.slice a1 x.nodes.length c1, .int .i64 x.root] 116)).alloc (Obj.cells #[.slice aq1 x.nodes.length cq1, .int .i64 x.root] 116)).heap[w.heap.size + 1]? = some (Obj.cells #[.slice aq1 x.nodes.length cq1, .int .i64 x.root] 116) := blk_at _ _ _ (by simp)
 have HC0 : Hid (∀ w2, Below w.heap.size w w2 → Calls Tryz.prog 127 #[.slice a1 x.nodes.length c1, .slice aq1 x.nodes.length cq1] w2 fun e w' => Ans w2 (.bool true) e w') := fun w2 hh => eq_Node a1 aq1 x.nodes c1 cq1 w2 u0.1 u0.2 (r1.keep fun b h => ⟨by have := hh.size; omega, hh.block b h⟩) (s1.keep fun b h => ⟨by have := hh.size; omega, hh.block b h⟩)
 clear r1 s1
 go_enter Tryz.func97, Tryz.ntmps97
 go_wp2_with fail
 refine (HC0.out _ hb).mono ?_
 rintro e v0 ⟨rfl, hv⟩
 have hb0 : Below w.heap.size w v0 := bT hb hv
 have k0 := bK k0 hv
 have k1 := bK k1 hv
 clear hv
 have p0_0 := zB 0 k0 rfl
 have q0_0 := zB 0 k1 rfl
 have p0_1 := zB 1 k0 rfl
 have q0_1 := zB 1 k1 rfl
 go_wp2
 go_ret
 exact ⟨rfl, hb0⟩
theorem eqE_Link (x : Lnk) (w : World) (hs : x.small) :
  Calls Tryz.prog 125 #[.agg #[.string x.name, .int .i64 x.inst, .string x.at_], .agg #[.string x.name, .int .i64 x.inst, .string x.at_]] w fun e w' => Ans w (.bool true) e w' := by
 have hb : Below w.heap.size w ((w.alloc (Obj.cells #[.string x.name, .int .i64 x.inst, .string x.at_] 184)).alloc (Obj.cells #[.string x.name, .int .i64 x.inst, .string x.at_] 184)) := (bR _ _).alloc (by simp) _
 have k0 : ((w.alloc (Obj.cells #[.string x.name, .int .i64 x.inst, .string x.at_] 184)).alloc (Obj.cells #[.string x.name, .int .i64 x.inst, .string x.at_] 184)).heap[w.heap.size]? = some (Obj.cells #[.string x.name, .int .i64 x.inst, .string x.at_] 184) := blk_past (blk_at _ _ _ rfl)
 have k1 : ((w.alloc (Obj.cells #[.string x.name, .int .i64 x.inst, .string x.at_] 184)).alloc (Obj.cells #[.string x.name, .int .i64 x.inst, .string x.at_] 184)).heap[w.heap.size + 1]? = some (Obj.cells #[.string x.name, .int .i64 x.inst, .string x.at_] 184) := blk_at _ _ _ (by simp)
 go_enter Tryz.func125, Tryz.ntmps125
 go_wp2
 go_ret
 exact ⟨rfl, hb⟩
theorem eq_Link (a b : Option Addr) (l : List Lnk) (ca cb : Nat) (w : World) (hn : l.length ≤ 1048576) (hsm : ∀ d ∈ l, Lnk.small d) (hr : rgL.Row w (fun b => b < w.heap.size) a l) (hr' : rgL.Row w (fun b => b < w.heap.size) b l) :
  Calls Tryz.prog 95 #[.slice a l.length ca, .slice b l.length cb] w fun e w' => Ans w (.bool true) e w' := by
 have HR : Hid (rgL.Row w (fun b => b < w.heap.size) a l) := hr
 have HR' : Hid (rgL.Row w (fun b => b < w.heap.size) b l) := hr'
 have HS : Hid (∀ d ∈ l, Lnk.small d) := hsm
 clear hr hr' hsm
 go_enter Tryz.func95, Tryz.ntmps95
 go_wp2
 go_loopw [5] (fun o wr => ∃ (i : Nat), i ≤ l.length ∧ o = .int .i64 i ∧ Below w.heap.size w wr)
  (fun o _ => l.length - (intOf o).toNat)
 case atStart => exact ⟨0, by omega, rfl, Below.refl _ _⟩
 case round =>
  obtain ⟨i, hi, rfl, hb⟩ := hrel
  by_cases hlt : i < l.length
  ·obtain ⟨d, hd⟩ : ∃ d, l[i]? = some d := ⟨_, List.getElem?_eq_getElem hlt⟩
   have hsz := hb.size
   obtain ⟨b1, o1, cs1, rfl, hbb, hat, hl1⟩ := (HR.out.below hb) i d hd
   obtain ⟨b2, o2, cs2, rfl, hbb', hat', hl2⟩ := (HR'.out.below hb) i d hd
   obtain rfl := hat
   obtain rfl := hat'
   have cx0 : wr.cell? ⟨b1, o1 + i * 3, none⟩ = some (.string d.name) := hl1 0 _ rfl
   have cy0 : wr.cell? ⟨b2, o2 + i * 3, none⟩ = some (.string d.name) := hl2 0 _ rfl
   have cx1 : wr.cell? ⟨b1, o1 + i * 3 + 1, none⟩ = some (.int .i64 d.inst) := hl1 1 _ rfl
   have cy1 : wr.cell? ⟨b2, o2 + i * 3 + 1, none⟩ = some (.int .i64 d.inst) := hl2 1 _ rfl
   have cx2 : wr.cell? ⟨b1, o1 + i * 3 + 2, none⟩ = some (.string d.at_) := hl1 2 _ rfl
   have cy2 : wr.cell? ⟨b2, o2 + i * 3 + 2, none⟩ = some (.string d.at_) := hl2 2 _ rfl
   have HE : Hid (∀ w1, Below w.heap.size wr w1 → Calls Tryz.prog 125 #[.agg #[.string d.name, .int .i64 d.inst, .string d.at_], .agg #[.string d.name, .int .i64 d.inst, .string d.at_]] w1 fun e w' => Ans w1 (.bool true) e w') := fun w1 h => eqE_Link d   w1 (HS.out d (List.mem_of_getElem? hd))
   clear hd hl1 hl2
   go_wp2_with fail
   go_region_with (go_at_call 125; refine (HE.out _ (eqb_dn (Below.refl _ _) 1)).mono ?_; rintro e w2 ⟨rfl, hb2⟩)
   all_goals
    go_wp2
    go_roundw
    case rel => exact ⟨i + 1, by omega, by go_num, (eqb_dn hb _).trans (hb2.mono hsz)⟩
    case measure => simp [intOf]; omega
  ·have hlt' : decide ((i : Int) < (l.length : Int)) = false := by simp; omega
   go_wp2
   go_ret
   exact ⟨rfl, hb⟩
theorem eqE_Type (x : Typ) (w : World) (hs : x.small) :
  Calls Tryz.prog 126 #[.agg #[.string x.name, .int .i64 x.size], .agg #[.string x.name, .int .i64 x.size]] w fun e w' => Ans w (.bool true) e w' := by
 have hb : Below w.heap.size w ((w.alloc (Obj.cells #[.string x.name, .int .i64 x.size] 186)).alloc (Obj.cells #[.string x.name, .int .i64 x.size] 186)) := (bR _ _).alloc (by simp) _
 have k0 : ((w.alloc (Obj.cells #[.string x.name, .int .i64 x.size] 186)).alloc (Obj.cells #[.string x.name, .int .i64 x.size] 186)).heap[w.heap.size]? = some (Obj.cells #[.string x.name, .int .i64 x.size] 186) := blk_past (blk_at _ _ _ rfl)
 have k1 : ((w.alloc (Obj.cells #[.string x.name, .int .i64 x.size] 186)).alloc (Obj.cells #[.string x.name, .int .i64 x.size] 186)).heap[w.heap.size + 1]? = some (Obj.cells #[.string x.name, .int .i64 x.size] 186) := blk_at _ _ _ (by simp)
 go_enter Tryz.func126, Tryz.ntmps126
 go_wp2
 go_ret
 exact ⟨rfl, hb⟩
theorem eq_Type (a b : Option Addr) (l : List Typ) (ca cb : Nat) (w : World) (hn : l.length ≤ 1048576) (hsm : ∀ d ∈ l, Typ.small d) (hr : rgT.Row w (fun b => b < w.heap.size) a l) (hr' : rgT.Row w (fun b => b < w.heap.size) b l) :
  Calls Tryz.prog 96 #[.slice a l.length ca, .slice b l.length cb] w fun e w' => Ans w (.bool true) e w' := by
 have HR : Hid (rgT.Row w (fun b => b < w.heap.size) a l) := hr
 have HR' : Hid (rgT.Row w (fun b => b < w.heap.size) b l) := hr'
 have HS : Hid (∀ d ∈ l, Typ.small d) := hsm
 clear hr hr' hsm
 go_enter Tryz.func96, Tryz.ntmps96
 go_wp2
 go_loopw [5] (fun o wr => ∃ (i : Nat), i ≤ l.length ∧ o = .int .i64 i ∧ Below w.heap.size w wr)
  (fun o _ => l.length - (intOf o).toNat)
 case atStart => exact ⟨0, by omega, rfl, Below.refl _ _⟩
 case round =>
  obtain ⟨i, hi, rfl, hb⟩ := hrel
  by_cases hlt : i < l.length
  ·obtain ⟨d, hd⟩ : ∃ d, l[i]? = some d := ⟨_, List.getElem?_eq_getElem hlt⟩
   have hsz := hb.size
   obtain ⟨b1, o1, cs1, rfl, hbb, hat, hl1⟩ := (HR.out.below hb) i d hd
   obtain ⟨b2, o2, cs2, rfl, hbb', hat', hl2⟩ := (HR'.out.below hb) i d hd
   obtain rfl := hat
   obtain rfl := hat'
   have cx0 : wr.cell? ⟨b1, o1 + i * 2, none⟩ = some (.string d.name) := hl1 0 _ rfl
   have cy0 : wr.cell? ⟨b2, o2 + i * 2, none⟩ = some (.string d.name) := hl2 0 _ rfl
   have cx1 : wr.cell? ⟨b1, o1 + i * 2 + 1, none⟩ = some (.int .i64 d.size) := hl1 1 _ rfl
   have cy1 : wr.cell? ⟨b2, o2 + i * 2 + 1, none⟩ = some (.int .i64 d.size) := hl2 1 _ rfl
   have HE : Hid (∀ w1, Below w.heap.size wr w1 → Calls Tryz.prog 126 #[.agg #[.string d.name, .int .i64 d.size], .agg #[.string d.name, .int .i64 d.size]] w1 fun e w' => Ans w1 (.bool true) e w') := fun w1 h => eqE_Type d   w1 (HS.out d (List.mem_of_getElem? hd))
   clear hd hl1 hl2
   go_wp2_with fail
   go_region_with (go_at_call 126; refine (HE.out _ (eqb_dn (Below.refl _ _) 1)).mono ?_; rintro e w2 ⟨rfl, hb2⟩)
   all_goals
    go_wp2
    go_roundw
    case rel => exact ⟨i + 1, by omega, by go_num, (eqb_dn hb _).trans (hb2.mono hsz)⟩
    case measure => simp [intOf]; omega
  ·have hlt' : decide ((i : Int) < (l.length : Int)) = false := by simp; omega
   go_wp2
   go_ret
   exact ⟨rfl, hb⟩
theorem eqE_Inst (x : Ins) (a1 a2 a3 a4 : Option Addr) (c1 c2 c3 c4 : Nat) (aq1 aq2 aq3 aq4 : Option Addr) (cq1 cq2 cq3 cq4 : Nat) (w : World) (hs : x.small) (h1 : InsRows w (fun b => b < w.heap.size) a1 a2 a3 a4 c1 c2 c3 c4 x) (h2 : InsRows w (fun b => b < w.heap.size) aq1 aq2 aq3 aq4 cq1 cq2 cq3 cq4 x) :
  Calls Tryz.prog 62 #[.agg #[.string x.lib, .int .i64 x.ver, .slice a1 x.names.length c1, .slice a2 x.vals.length c2, .slice a3 x.links.length c3, .slice a4 x.types.length c4], .agg #[.string x.lib, .int .i64 x.ver, .slice aq1 x.names.length cq1, .slice aq2 x.vals.length cq2, .slice aq3 x.links.length cq3, .slice aq4 x.types.length cq4]] w fun e w' => Ans w (.bool true) e w' := by
 obtain ⟨u0, u1, u2, u3, u4, u5⟩ := hs
 obtain ⟨⟨r1, rt1⟩, ⟨r2, rt2⟩, ⟨r3, rt3⟩, ⟨r4, rt4⟩⟩ := h1
 obtain ⟨⟨s1, st1⟩, ⟨s2, st2⟩, ⟨s3, st3⟩, ⟨s4, st4⟩⟩ := h2
 have hb : Below w.heap.size w ((w.alloc (Obj.cells #[.string x.lib, .int .i64 x.ver, .slice a1 x.names.length c1, .slice a2 x.vals.length c2, .slice a3 x.links.length c3, .slice a4 x.types.length c4] 112)).alloc (Obj.cells #[.string x.lib, .int .i64 x.ver, .slice aq1 x.names.length cq1, .slice aq2 x.vals.length cq2, .slice aq3 x.links.length cq3, .slice aq4 x.types.length cq4] 112)) := (bR _ _).alloc (by simp) _
 have k0 : ((w.alloc (Obj.cells #[.string x.lib, .int .i64 x.ver, .slice a1 x.names.length c1, .slice a2 x.vals.length c2, .slice a3 x.links.length c3, .slice a4 x.types.length c4] 112)).alloc (Obj.cells #[.string x.lib, .int .i64 x.ver, .slice aq1 x.names.length cq1, .slice aq2 x.vals.length cq2, .slice aq3 x.links.length cq3, .slice aq4 x.types.length cq4] 112)).heap[w.heap.size]? = some (Obj.cells #[.string x.lib, .int .i64 x.ver, .slice a1 x.names.length c1, .slice a2 x.vals.length c2, .slice a3 x.links.length c3, .slice a4 x.types.length c4] 112) := blk_past (blk_at _ _ _ rfl)
 have k1 : ((w.alloc (Obj.cells #[.string x.lib, .int .i64 x.ver, .slice a1 x.names.length c1, .slice a2 x.vals.length c2, .slice a3 x.links.length c3, .slice a4 x.types.length c4] 112)).alloc (Obj.cells #[.string x.lib, .int .i64 x.ver, .slice aq1 x.names.length cq1, .slice aq2 x.vals.length cq2, .slice aq3 x.links.length cq3, .slice aq4 x.types.length cq4] 112)).heap[w.heap.size + 1]? = some (Obj.cells #[.string x.lib, .int .i64 x.ver, .slice aq1 x.names.length cq1, .slice aq2 x.vals.length cq2, .slice aq3 x.links.length cq3, .slice aq4 x.types.length cq4] 112) := blk_at _ _ _ (by simp)
 have HC0 : Hid (∀ w2, Below w.heap.size w w2 → Calls Tryz.prog 34 #[.slice a1 x.names.length c1, .slice aq1 x.names.length cq1] w2 fun e w' => Ans w2 (.bool true) e w') := fun w2 hh => eq_string a1 aq1 x.names c1 cq1 w2 u2.1 u2.2 (r1.keep fun b h => ⟨by have := hh.size; omega, hh.block b h⟩) (s1.keep fun b h => ⟨by have := hh.size; omega, hh.block b h⟩)
 have HC1 : Hid (∀ w2, Below w.heap.size w w2 → Calls Tryz.prog 94 #[.slice a2 x.vals.length c2, .slice aq2 x.vals.length cq2] w2 fun e w' => Ans w2 (.bool true) e w') := fun w2 hh => eq_Value a2 aq2 x.vals c2 cq2 w2 u3.1 u3.2 (r2.keep fun b h => ⟨by have := hh.size; omega, hh.block b h⟩) (s2.keep fun b h => ⟨by have := hh.size; omega, hh.block b h⟩)
 have HC2 : Hid (∀ w2, Below w.heap.size w w2 → Calls Tryz.prog 95 #[.slice a3 x.links.length c3, .slice aq3 x.links.length cq3] w2 fun e w' => Ans w2 (.bool true) e w') := fun w2 hh => eq_Link a3 aq3 x.links c3 cq3 w2 u4.1 u4.2 (r3.keep fun b h => ⟨by have := hh.size; omega, hh.block b h⟩) (s3.keep fun b h => ⟨by have := hh.size; omega, hh.block b h⟩)
 have HC3 : Hid (∀ w2, Below w.heap.size w w2 → Calls Tryz.prog 96 #[.slice a4 x.types.length c4, .slice aq4 x.types.length cq4] w2 fun e w' => Ans w2 (.bool true) e w') := fun w2 hh => eq_Type a4 aq4 x.types c4 cq4 w2 u5.1 u5.2 (r4.keep fun b h => ⟨by have := hh.size; omega, hh.block b h⟩) (s4.keep fun b h => ⟨by have := hh.size; omega, hh.block b h⟩)
 clear r1 s1 r2 s2 r3 s3 r4 s4
 go_enter Tryz.func62, Tryz.ntmps62
 go_wp2_with fail
 refine (HC0.out _ hb).mono ?_
 rintro e v0 ⟨rfl, hv⟩
 have hb0 : Below w.heap.size w v0 := bT hb hv
 have k0 := bK k0 hv
 have k1 := bK k1 hv
 clear hv
 have p0_0 := zB 0 k0 rfl
 have q0_0 := zB 0 k1 rfl
 have p0_1 := zB 1 k0 rfl
 have q0_1 := zB 1 k1 rfl
 have p0_2 := zB 2 k0 rfl
 have q0_2 := zB 2 k1 rfl
 have p0_3 := zB 3 k0 rfl
 have q0_3 := zB 3 k1 rfl
 have p0_4 := zB 4 k0 rfl
 have q0_4 := zB 4 k1 rfl
 have p0_5 := zB 5 k0 rfl
 have q0_5 := zB 5 k1 rfl
 go_wp2_with fail
 refine (HC1.out _ hb0).mono ?_
 rintro e v1 ⟨rfl, hv⟩
 have hb1 : Below w.heap.size w v1 := bT hb0 hv
 have k0 := bK k0 hv
 have k1 := bK k1 hv
 clear hv
 have p1_0 := zB 0 k0 rfl
 have q1_0 := zB 0 k1 rfl
 have p1_1 := zB 1 k0 rfl
 have q1_1 := zB 1 k1 rfl
 have p1_2 := zB 2 k0 rfl
 have q1_2 := zB 2 k1 rfl
 have p1_3 := zB 3 k0 rfl
 have q1_3 := zB 3 k1 rfl
 have p1_4 := zB 4 k0 rfl
 have q1_4 := zB 4 k1 rfl
 have p1_5 := zB 5 k0 rfl
 have q1_5 := zB 5 k1 rfl
 go_wp2_with fail
 refine (HC2.out _ hb1).mono ?_
 rintro e v2 ⟨rfl, hv⟩
 have hb2 : Below w.heap.size w v2 := bT hb1 hv
 have k0 := bK k0 hv
 have k1 := bK k1 hv
 clear hv
 have p2_0 := zB 0 k0 rfl
 have q2_0 := zB 0 k1 rfl
 have p2_1 := zB 1 k0 rfl
 have q2_1 := zB 1 k1 rfl
 have p2_2 := zB 2 k0 rfl
 have q2_2 := zB 2 k1 rfl
 have p2_3 := zB 3 k0 rfl
 have q2_3 := zB 3 k1 rfl
 have p2_4 := zB 4 k0 rfl
 have q2_4 := zB 4 k1 rfl
 have p2_5 := zB 5 k0 rfl
 have q2_5 := zB 5 k1 rfl
 go_wp2_with fail
 refine (HC3.out _ hb2).mono ?_
 rintro e v3 ⟨rfl, hv⟩
 have hb3 : Below w.heap.size w v3 := bT hb2 hv
 have k0 := bK k0 hv
 have k1 := bK k1 hv
 clear hv
 have p3_0 := zB 0 k0 rfl
 have q3_0 := zB 0 k1 rfl
 have p3_1 := zB 1 k0 rfl
 have q3_1 := zB 1 k1 rfl
 have p3_2 := zB 2 k0 rfl
 have q3_2 := zB 2 k1 rfl
 have p3_3 := zB 3 k0 rfl
 have q3_3 := zB 3 k1 rfl
 have p3_4 := zB 4 k0 rfl
 have q3_4 := zB 4 k1 rfl
 have p3_5 := zB 5 k0 rfl
 have q3_5 := zB 5 k1 rfl
 go_wp2
 go_ret
 exact ⟨rfl, hb3⟩
theorem eq_Inst (a b : Option Addr) (l : List Ins) (ca cb : Nat) (w : World) (hn : l.length ≤ 1048576) (hsm : ∀ d ∈ l, Ins.small d) (hr : rgX.Row w (fun b => b < w.heap.size) a l) (hr' : rgX.Row w (fun b => b < w.heap.size) b l) :
  Calls Tryz.prog 32 #[.slice a l.length ca, .slice b l.length cb] w fun e w' => Ans w (.bool true) e w' := by
 have HR : Hid (rgX.Row w (fun b => b < w.heap.size) a l) := hr
 have HR' : Hid (rgX.Row w (fun b => b < w.heap.size) b l) := hr'
 have HS : Hid (∀ d ∈ l, Ins.small d) := hsm
 clear hr hr' hsm
 go_enter Tryz.func32, Tryz.ntmps32
 go_wp2
 go_loopw [5] (fun o wr => ∃ (i : Nat), i ≤ l.length ∧ o = .int .i64 i ∧ Below w.heap.size w wr)
  (fun o _ => l.length - (intOf o).toNat)
 case atStart => exact ⟨0, by omega, rfl, Below.refl _ _⟩
 case round =>
  obtain ⟨i, hi, rfl, hb⟩ := hrel
  by_cases hlt : i < l.length
  ·obtain ⟨d, hd⟩ : ∃ d, l[i]? = some d := ⟨_, List.getElem?_eq_getElem hlt⟩
   have hsz := hb.size
   obtain ⟨b1, o1, cs1, rfl, hbb, hat, hl1⟩ := (HR.out.below hb) i d hd
   obtain ⟨b2, o2, cs2, rfl, hbb', hat', hl2⟩ := (HR'.out.below hb) i d hd
   obtain ⟨a1, a2, a3, a4, c1, c2, c3, c4, rfl, hrows⟩ := hat
   obtain ⟨aq1, aq2, aq3, aq4, cq1, cq2, cq3, cq4, rfl, hrowsq⟩ := hat'
   have cx0 : wr.cell? ⟨b1, o1 + i * 6, none⟩ = some (.string d.lib) := hl1 0 _ rfl
   have cy0 : wr.cell? ⟨b2, o2 + i * 6, none⟩ = some (.string d.lib) := hl2 0 _ rfl
   have cx1 : wr.cell? ⟨b1, o1 + i * 6 + 1, none⟩ = some (.int .i64 d.ver) := hl1 1 _ rfl
   have cy1 : wr.cell? ⟨b2, o2 + i * 6 + 1, none⟩ = some (.int .i64 d.ver) := hl2 1 _ rfl
   have cx2 : wr.cell? ⟨b1, o1 + i * 6 + 2, none⟩ = some (.slice a1 d.names.length c1) := hl1 2 _ rfl
   have cy2 : wr.cell? ⟨b2, o2 + i * 6 + 2, none⟩ = some (.slice aq1 d.names.length cq1) := hl2 2 _ rfl
   have cx3 : wr.cell? ⟨b1, o1 + i * 6 + 3, none⟩ = some (.slice a2 d.vals.length c2) := hl1 3 _ rfl
   have cy3 : wr.cell? ⟨b2, o2 + i * 6 + 3, none⟩ = some (.slice aq2 d.vals.length cq2) := hl2 3 _ rfl
   have cx4 : wr.cell? ⟨b1, o1 + i * 6 + 4, none⟩ = some (.slice a3 d.links.length c3) := hl1 4 _ rfl
   have cy4 : wr.cell? ⟨b2, o2 + i * 6 + 4, none⟩ = some (.slice aq3 d.links.length cq3) := hl2 4 _ rfl
   have cx5 : wr.cell? ⟨b1, o1 + i * 6 + 5, none⟩ = some (.slice a4 d.types.length c4) := hl1 5 _ rfl
   have cy5 : wr.cell? ⟨b2, o2 + i * 6 + 5, none⟩ = some (.slice aq4 d.types.length cq4) := hl2 5 _ rfl
   have HE : Hid (∀ w1, Below w.heap.size wr w1 → Calls Tryz.prog 62 #[.agg #[.string d.lib, .int .i64 d.ver, .slice a1 d.names.length c1, .slice a2 d.vals.length c2, .slice a3 d.links.length c3, .slice a4 d.types.length c4], .agg #[.string d.lib, .int .i64 d.ver, .slice aq1 d.names.length cq1, .slice aq2 d.vals.length cq2, .slice aq3 d.links.length cq3, .slice aq4 d.types.length cq4]] w1 fun e w' => Ans w1 (.bool true) e w') := fun w1 h => eqE_Inst d a1 a2 a3 a4 c1 c2 c3 c4 aq1 aq2 aq3 aq4 cq1 cq2 cq3 cq4 w1 (HS.out d (List.mem_of_getElem? hd)) (hrows.keep fun b hb' => ⟨by have := h.size; omega, h.block b hb'⟩) (hrowsq.keep fun b hb' => ⟨by have := h.size; omega, h.block b hb'⟩)
   clear hd hl1 hl2 hrows hrowsq
   go_wp2_with fail
   go_region_with (go_at_call 62; refine (HE.out _ (eqb_dn (Below.refl _ _) 1)).mono ?_; rintro e w2 ⟨rfl, hb2⟩)
   all_goals
    go_wp2
    go_roundw
    case rel => exact ⟨i + 1, by omega, by go_num, (eqb_dn hb _).trans (hb2.mono hsz)⟩
    case measure => simp [intOf]; omega
  ·have hlt' : decide ((i : Int) < (l.length : Int)) = false := by simp; omega
   go_wp2
   go_ret
   exact ⟨rfl, hb⟩
theorem eqE_Unit (x : Unt) (a1 : Option Addr) (c1 : Nat) (aq1 : Option Addr) (cq1 : Nat) (w : World) (hs : x.small) (h1 : UntRows w (fun b => b < w.heap.size) a1 c1 x) (h2 : UntRows w (fun b => b < w.heap.size) aq1 cq1 x) :
  Calls Tryz.prog 63 #[.agg #[.int .i64 x.home, .slice a1 x.prog.nodes.length c1, .int .i64 x.prog.root], .agg #[.int .i64 x.home, .slice aq1 x.prog.nodes.length cq1, .int .i64 x.prog.root]] w fun e w' => Ans w (.bool true) e w' := by
 obtain ⟨u0, u1⟩ := hs
 obtain ⟨r1, rt1⟩ := h1
 obtain ⟨s1, st1⟩ := h2
 have hb : Below w.heap.size w ((w.alloc (Obj.cells #[.int .i64 x.home, .slice a1 x.prog.nodes.length c1, .int .i64 x.prog.root] 118)).alloc (Obj.cells #[.int .i64 x.home, .slice aq1 x.prog.nodes.length cq1, .int .i64 x.prog.root] 118)) := (bR _ _).alloc (by simp) _
 have k0 : ((w.alloc (Obj.cells #[.int .i64 x.home, .slice a1 x.prog.nodes.length c1, .int .i64 x.prog.root] 118)).alloc (Obj.cells #[.int .i64 x.home, .slice aq1 x.prog.nodes.length cq1, .int .i64 x.prog.root] 118)).heap[w.heap.size]? = some (Obj.cells #[.int .i64 x.home, .slice a1 x.prog.nodes.length c1, .int .i64 x.prog.root] 118) := blk_past (blk_at _ _ _ rfl)
 have k1 : ((w.alloc (Obj.cells #[.int .i64 x.home, .slice a1 x.prog.nodes.length c1, .int .i64 x.prog.root] 118)).alloc (Obj.cells #[.int .i64 x.home, .slice aq1 x.prog.nodes.length cq1, .int .i64 x.prog.root] 118)).heap[w.heap.size + 1]? = some (Obj.cells #[.int .i64 x.home, .slice aq1 x.prog.nodes.length cq1, .int .i64 x.prog.root] 118) := blk_at _ _ _ (by simp)
 have HC0 : Hid (∀ w2, Below w.heap.size w w2 → Calls Tryz.prog 97 #[.agg #[.slice a1 x.prog.nodes.length c1, .int .i64 x.prog.root], .agg #[.slice aq1 x.prog.nodes.length cq1, .int .i64 x.prog.root]] w2 fun e w' => Ans w2 (.bool true) e w') := fun w2 hh => eqE_Prog x.prog a1 c1 aq1 cq1 w2 u1 (PrgRows.keep (w := w) (p := (fun b => b < w.heap.size)) ⟨r1, rt1⟩ fun b h => ⟨by have := hh.size; omega, hh.block b h⟩) (PrgRows.keep (w := w) (p := (fun b => b < w.heap.size)) ⟨s1, st1⟩ fun b h => ⟨by have := hh.size; omega, hh.block b h⟩)
 clear r1 s1
 go_enter Tryz.func63, Tryz.ntmps63
 go_wp2_with fail
 refine (HC0.out _ hb).mono ?_
 rintro e v0 ⟨rfl, hv⟩
 have hb0 : Below w.heap.size w v0 := bT hb hv
 have k0 := bK k0 hv
 have k1 := bK k1 hv
 clear hv
 have p0_0 := zB 0 k0 rfl
 have q0_0 := zB 0 k1 rfl
 have p0_1 := zB 1 k0 rfl
 have q0_1 := zB 1 k1 rfl
 have p0_2 := zB 2 k0 rfl
 have q0_2 := zB 2 k1 rfl
 go_wp2
 go_ret
 exact ⟨rfl, hb0⟩
theorem eq_Unit (a b : Option Addr) (l : List Unt) (ca cb : Nat) (w : World) (hn : l.length ≤ 1048576) (hsm : ∀ d ∈ l, Unt.small d) (hr : rgU.Row w (fun b => b < w.heap.size) a l) (hr' : rgU.Row w (fun b => b < w.heap.size) b l) :
  Calls Tryz.prog 33 #[.slice a l.length ca, .slice b l.length cb] w fun e w' => Ans w (.bool true) e w' := by
 have HR : Hid (rgU.Row w (fun b => b < w.heap.size) a l) := hr
 have HR' : Hid (rgU.Row w (fun b => b < w.heap.size) b l) := hr'
 have HS : Hid (∀ d ∈ l, Unt.small d) := hsm
 clear hr hr' hsm
 go_enter Tryz.func33, Tryz.ntmps33
 go_wp2
 go_loopw [5] (fun o wr => ∃ (i : Nat), i ≤ l.length ∧ o = .int .i64 i ∧ Below w.heap.size w wr)
  (fun o _ => l.length - (intOf o).toNat)
 case atStart => exact ⟨0, by omega, rfl, Below.refl _ _⟩
 case round =>
  obtain ⟨i, hi, rfl, hb⟩ := hrel
  by_cases hlt : i < l.length
  ·obtain ⟨d, hd⟩ : ∃ d, l[i]? = some d := ⟨_, List.getElem?_eq_getElem hlt⟩
   have hsz := hb.size
   obtain ⟨b1, o1, cs1, rfl, hbb, hat, hl1⟩ := (HR.out.below hb) i d hd
   obtain ⟨b2, o2, cs2, rfl, hbb', hat', hl2⟩ := (HR'.out.below hb) i d hd
   obtain ⟨a1, c1, rfl, hrows⟩ := hat
   obtain ⟨aq1, cq1, rfl, hrowsq⟩ := hat'
   have cx0 : wr.cell? ⟨b1, o1 + i * 3, none⟩ = some (.int .i64 d.home) := hl1 0 _ rfl
   have cy0 : wr.cell? ⟨b2, o2 + i * 3, none⟩ = some (.int .i64 d.home) := hl2 0 _ rfl
   have cx1 : wr.cell? ⟨b1, o1 + i * 3 + 1, none⟩ = some (.slice a1 d.prog.nodes.length c1) := hl1 1 _ rfl
   have cy1 : wr.cell? ⟨b2, o2 + i * 3 + 1, none⟩ = some (.slice aq1 d.prog.nodes.length cq1) := hl2 1 _ rfl
   have cx2 : wr.cell? ⟨b1, o1 + i * 3 + 2, none⟩ = some (.int .i64 d.prog.root) := hl1 2 _ rfl
   have cy2 : wr.cell? ⟨b2, o2 + i * 3 + 2, none⟩ = some (.int .i64 d.prog.root) := hl2 2 _ rfl
   have HE : Hid (∀ w1, Below w.heap.size wr w1 → Calls Tryz.prog 63 #[.agg #[.int .i64 d.home, .slice a1 d.prog.nodes.length c1, .int .i64 d.prog.root], .agg #[.int .i64 d.home, .slice aq1 d.prog.nodes.length cq1, .int .i64 d.prog.root]] w1 fun e w' => Ans w1 (.bool true) e w') := fun w1 h => eqE_Unit d a1 c1 aq1 cq1 w1 (HS.out d (List.mem_of_getElem? hd)) (hrows.keep fun b hb' => ⟨by have := h.size; omega, h.block b hb'⟩) (hrowsq.keep fun b hb' => ⟨by have := h.size; omega, h.block b hb'⟩)
   clear hd hl1 hl2 hrows hrowsq
   go_wp2_with fail
   go_region_with (go_at_call 63; refine (HE.out _ (eqb_dn (Below.refl _ _) 1)).mono ?_; rintro e w2 ⟨rfl, hb2⟩)
   all_goals
    go_wp2
    go_roundw
    case rel => exact ⟨i + 1, by omega, by go_num, (eqb_dn hb _).trans (hb2.mono hsz)⟩
    case measure => simp [intOf]; omega
  ·have hlt' : decide ((i : Int) < (l.length : Int)) = false := by simp; omega
   go_wp2
   go_ret
   exact ⟨rfl, hb⟩
theorem eqE_Sys (x : Sy) (a1 a2 a3 a4 : Option Addr) (c1 c2 c3 c4 : Nat) (aq1 aq2 aq3 aq4 : Option Addr) (cq1 cq2 cq3 cq4 : Nat) (w : World) (hs : x.small) (h1 : SyRows w (fun b => b < w.heap.size) a1 a2 a3 a4 c1 c2 c3 c4 x) (h2 : SyRows w (fun b => b < w.heap.size) aq1 aq2 aq3 aq4 cq1 cq2 cq3 cq4 x) :
  Calls Tryz.prog 10 #[.agg #[.slice a1 x.heap.length c1, .slice a2 x.insts.length c2, .slice a3 x.units.length c3, .slice a4 x.out.length c4], .agg #[.slice aq1 x.heap.length cq1, .slice aq2 x.insts.length cq2, .slice aq3 x.units.length cq3, .slice aq4 x.out.length cq4]] w fun e w' => Ans w (.bool true) e w' := by
 obtain ⟨u0, u1, u2, u3⟩ := hs
 obtain ⟨⟨r1, rt1⟩, ⟨r2, rt2⟩, ⟨r3, rt3⟩, ⟨r4, rt4⟩⟩ := h1
 obtain ⟨⟨s1, st1⟩, ⟨s2, st2⟩, ⟨s3, st3⟩, ⟨s4, st4⟩⟩ := h2
 have hb : Below w.heap.size w ((w.alloc (Obj.cells #[.slice a1 x.heap.length c1, .slice a2 x.insts.length c2, .slice a3 x.units.length c3, .slice a4 x.out.length c4] 41)).alloc (Obj.cells #[.slice aq1 x.heap.length cq1, .slice aq2 x.insts.length cq2, .slice aq3 x.units.length cq3, .slice aq4 x.out.length cq4] 41)) := (bR _ _).alloc (by simp) _
 have k0 : ((w.alloc (Obj.cells #[.slice a1 x.heap.length c1, .slice a2 x.insts.length c2, .slice a3 x.units.length c3, .slice a4 x.out.length c4] 41)).alloc (Obj.cells #[.slice aq1 x.heap.length cq1, .slice aq2 x.insts.length cq2, .slice aq3 x.units.length cq3, .slice aq4 x.out.length cq4] 41)).heap[w.heap.size]? = some (Obj.cells #[.slice a1 x.heap.length c1, .slice a2 x.insts.length c2, .slice a3 x.units.length c3, .slice a4 x.out.length c4] 41) := blk_past (blk_at _ _ _ rfl)
 have k1 : ((w.alloc (Obj.cells #[.slice a1 x.heap.length c1, .slice a2 x.insts.length c2, .slice a3 x.units.length c3, .slice a4 x.out.length c4] 41)).alloc (Obj.cells #[.slice aq1 x.heap.length cq1, .slice aq2 x.insts.length cq2, .slice aq3 x.units.length cq3, .slice aq4 x.out.length cq4] 41)).heap[w.heap.size + 1]? = some (Obj.cells #[.slice aq1 x.heap.length cq1, .slice aq2 x.insts.length cq2, .slice aq3 x.units.length cq3, .slice aq4 x.out.length cq4] 41) := blk_at _ _ _ (by simp)
 have HC0 : Hid (∀ w2, Below w.heap.size w w2 → Calls Tryz.prog 31 #[.slice a1 x.heap.length c1, .slice aq1 x.heap.length cq1] w2 fun e w' => Ans w2 (.bool true) e w') := fun w2 hh => eq_Cell a1 aq1 x.heap c1 cq1 w2 u0.1 u0.2 (r1.keep fun b h => ⟨by have := hh.size; omega, hh.block b h⟩) (s1.keep fun b h => ⟨by have := hh.size; omega, hh.block b h⟩)
 have HC1 : Hid (∀ w2, Below w.heap.size w w2 → Calls Tryz.prog 32 #[.slice a2 x.insts.length c2, .slice aq2 x.insts.length cq2] w2 fun e w' => Ans w2 (.bool true) e w') := fun w2 hh => eq_Inst a2 aq2 x.insts c2 cq2 w2 u1.1 u1.2 (r2.keep fun b h => ⟨by have := hh.size; omega, hh.block b h⟩) (s2.keep fun b h => ⟨by have := hh.size; omega, hh.block b h⟩)
 have HC2 : Hid (∀ w2, Below w.heap.size w w2 → Calls Tryz.prog 33 #[.slice a3 x.units.length c3, .slice aq3 x.units.length cq3] w2 fun e w' => Ans w2 (.bool true) e w') := fun w2 hh => eq_Unit a3 aq3 x.units c3 cq3 w2 u2.1 u2.2 (r3.keep fun b h => ⟨by have := hh.size; omega, hh.block b h⟩) (s3.keep fun b h => ⟨by have := hh.size; omega, hh.block b h⟩)
 have HC3 : Hid (∀ w2, Below w.heap.size w w2 → Calls Tryz.prog 34 #[.slice a4 x.out.length c4, .slice aq4 x.out.length cq4] w2 fun e w' => Ans w2 (.bool true) e w') := fun w2 hh => eq_string a4 aq4 x.out c4 cq4 w2 u3.1 u3.2 (r4.keep fun b h => ⟨by have := hh.size; omega, hh.block b h⟩) (s4.keep fun b h => ⟨by have := hh.size; omega, hh.block b h⟩)
 clear r1 s1 r2 s2 r3 s3 r4 s4
 go_enter Tryz.func10, Tryz.ntmps10
 go_wp2_with fail
 refine (HC0.out _ hb).mono ?_
 rintro e v0 ⟨rfl, hv⟩
 have hb0 : Below w.heap.size w v0 := bT hb hv
 have k0 := bK k0 hv
 have k1 := bK k1 hv
 clear hv
 have p0_0 := zB 0 k0 rfl
 have q0_0 := zB 0 k1 rfl
 have p0_1 := zB 1 k0 rfl
 have q0_1 := zB 1 k1 rfl
 have p0_2 := zB 2 k0 rfl
 have q0_2 := zB 2 k1 rfl
 have p0_3 := zB 3 k0 rfl
 have q0_3 := zB 3 k1 rfl
 go_wp2_with fail
 refine (HC1.out _ hb0).mono ?_
 rintro e v1 ⟨rfl, hv⟩
 have hb1 : Below w.heap.size w v1 := bT hb0 hv
 have k0 := bK k0 hv
 have k1 := bK k1 hv
 clear hv
 have p1_0 := zB 0 k0 rfl
 have q1_0 := zB 0 k1 rfl
 have p1_1 := zB 1 k0 rfl
 have q1_1 := zB 1 k1 rfl
 have p1_2 := zB 2 k0 rfl
 have q1_2 := zB 2 k1 rfl
 have p1_3 := zB 3 k0 rfl
 have q1_3 := zB 3 k1 rfl
 go_wp2_with fail
 refine (HC2.out _ hb1).mono ?_
 rintro e v2 ⟨rfl, hv⟩
 have hb2 : Below w.heap.size w v2 := bT hb1 hv
 have k0 := bK k0 hv
 have k1 := bK k1 hv
 clear hv
 have p2_0 := zB 0 k0 rfl
 have q2_0 := zB 0 k1 rfl
 have p2_1 := zB 1 k0 rfl
 have q2_1 := zB 1 k1 rfl
 have p2_2 := zB 2 k0 rfl
 have q2_2 := zB 2 k1 rfl
 have p2_3 := zB 3 k0 rfl
 have q2_3 := zB 3 k1 rfl
 go_wp2_with fail
 refine (HC3.out _ hb2).mono ?_
 rintro e v3 ⟨rfl, hv⟩
 have hb3 : Below w.heap.size w v3 := bT hb2 hv
 have k0 := bK k0 hv
 have k1 := bK k1 hv
 clear hv
 have p3_0 := zB 0 k0 rfl
 have q3_0 := zB 0 k1 rfl
 have p3_1 := zB 1 k0 rfl
 have q3_1 := zB 1 k1 rfl
 have p3_2 := zB 2 k0 rfl
 have q3_2 := zB 2 k1 rfl
 have p3_3 := zB 3 k0 rfl
 have q3_3 := zB 3 k1 rfl
 go_wp2
 go_ret
 exact ⟨rfl, hb3⟩
theorem Sy.flat_of {y : Sy} (h : y.bulk ≤ 1048576) : ∀ u ∈ y.units, (flat u.prog.nodes).length ≤ 1048576 := by
 intro u hu
 have h1 := bulkOf_mem Unt.bulk hu
 have h2 := bulkN_flat u.prog.nodes
 unfold Sy.bulk at h
 have h3 : u.bulk = bulkN u.prog.nodes := rfl
 omega
end Go.Proofs.YtlacidojljilaaaGreatDoor
