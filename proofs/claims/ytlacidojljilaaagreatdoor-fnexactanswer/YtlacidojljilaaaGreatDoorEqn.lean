/- Like heaps are told alike. Like programs are told alike. -/
import Derived.Test.YtlacidojljilaaaGreatDoorVlp
import Derived.Test.YtlacidojljilaaaGreatDoorPrp
set_option linter.unusedVariables false
set_option maxRecDepth 100000
set_option maxHeartbeats 8000000
namespace Go.Proofs.YtlacidojljilaaaGreatDoor
open Go.ChangeShapes Go.WideShapes Go.ChangeAt Go.RowKit
theorem eqStringS_same (a b : Option Addr) (ts : List ByteArray) (ca cb : Nat) (w : World) (hn : ts.length ≤ 1048576) (hr : RowS w w.heap.size a ts) (hr' : RowS w w.heap.size b ts) :
  Calls Tryz.prog 34 #[.slice a ts.length ca, .slice b ts.length cb] w fun e w' => Ans w (.bool true) e w' := by
 have HR : Hid (RowS w w.heap.size a ts) := hr
 have HR' : Hid (RowS w w.heap.size b ts) := hr'
 clear hr hr'
 go_enter Tryz.func34, Tryz.ntmps34
 go_wp2
 go_loopw [5] (fun o wr => ∃ (i : Nat), i ≤ ts.length ∧ o = .int .i64 i ∧ Below w.heap.size w wr)
  (fun o _ => ts.length - (intOf o).toNat)
 case atStart => exact ⟨0, by omega, rfl, Below.refl _ _⟩
 case round =>
  obtain ⟨i, hi, rfl, hb⟩ := hrel
  by_cases hlt : i < ts.length
  ·obtain ⟨d, hd⟩ : ∃ d, ts[i]? = some d := ⟨_, List.getElem?_eq_getElem hlt⟩
   obtain ⟨b1, o1, rfl, hbb, c0⟩ := (HR.out.below hb) i d hd
   obtain ⟨b2, o2, rfl, hbb', c5⟩ := (HR'.out.below hb) i d hd
   go_wp2
   go_quiet (fail)
   go_wp2
   go_roundw
   case rel => exact ⟨i + 1, by omega, by go_num, below_drewN hb _⟩
   case measure => simp [intOf]; omega
  ·have hlt' : decide ((i : Int) < (ts.length : Int)) = false := by simp; omega
   go_wp2
   go_ret
   exact ⟨rfl, hb⟩
theorem eqValue_same (d : Val) (w : World) :
  Calls Tryz.prog 36 #[.agg #[.int .i64 d.k, .int .i64 d.n, .string d.s], .agg #[.int .i64 d.k, .int .i64 d.n, .string d.s]] w fun e w' => Ans w (.bool true) e w' := by
 have hbA : Below w.heap.size w ((w.alloc (Obj.cells #[.int .i64 d.k, .int .i64 d.n, .string d.s] 44)).alloc (Obj.cells #[.int .i64 d.k, .int .i64 d.n, .string d.s] 44)) := (bR _ _).alloc (by simp) _
 go_enter Tryz.func36, Tryz.ntmps36
 go_wp2
 go_ret
 exact ⟨rfl, hbA⟩
theorem eqValueS_same (a b : Option Addr) (cs : List Val) (ca cb : Nat) (w : World) (hn : cs.length ≤ 1048576) (hr : RowV w w.heap.size a cs) (hr' : RowV w w.heap.size b cs) :
  Calls Tryz.prog 94 #[.slice a cs.length ca, .slice b cs.length cb] w fun e w' => Ans w (.bool true) e w' := by
 have HR : Hid (RowV w w.heap.size a cs) := hr
 have HR' : Hid (RowV w w.heap.size b cs) := hr'
 clear hr hr'
 go_enter Tryz.func94, Tryz.ntmps94
 go_wp2
 go_loopw [5] (fun o wr => ∃ (i : Nat), i ≤ cs.length ∧ o = .int .i64 i ∧ Below w.heap.size w wr)
  (fun o _ => cs.length - (intOf o).toNat)
 case atStart => exact ⟨0, by omega, rfl, Below.refl _ _⟩
 case round =>
  obtain ⟨i, hi, rfl, hb⟩ := hrel
  by_cases hlt : i < cs.length
  ·obtain ⟨d, hd⟩ : ∃ d, cs[i]? = some d := ⟨_, List.getElem?_eq_getElem hlt⟩
   have hsz := hb.size
   obtain ⟨b1, o1, rfl, hbb, c0, c1, c2⟩ := (HR.out.below hb) i d hd
   obtain ⟨b2, o2, rfl, hbb', c5, c6, c7⟩ := (HR'.out.below hb) i d hd
   have HE : Hid (∀ w1, Calls Tryz.prog 36 #[.agg #[.int .i64 d.k, .int .i64 d.n, .string d.s], .agg #[.int .i64 d.k, .int .i64 d.n, .string d.s]] w1 fun e w' => Ans w1 (.bool true) e w') := fun w1 => eqValue_same d w1
   clear hd
   go_wp2_with fail
   go_region_with (go_at_call 36; refine (HE.out _).mono ?_; rintro e w2 ⟨rfl, hb2⟩)
   all_goals
    go_wp2
    go_roundw
    case rel => exact ⟨i + 1, by omega, by go_num, (below_drewN hb _).trans (hb2.mono hsz)⟩
    case measure => simp [intOf]; omega
  ·have hlt' : decide ((i : Int) < (cs.length : Int)) = false := by simp; omega
   go_wp2
   go_ret
   exact ⟨rfl, hb⟩
theorem eqCell_same (d : Cel) (an aa an' aa' : Option Addr) (cn ca cn' ca' : Nat) (w : World) (hs : d.small) (h1 : CelRows w (fun b => b < w.heap.size) an cn aa ca d) (h2 : CelRows w (fun b => b < w.heap.size) an' cn' aa' ca' d) :
  Calls Tryz.prog 61 #[.agg #[.int .i64 d.k, .string d.s, .int .i64 d.a, .int .i64 d.b, .slice an d.names.length cn, .slice aa d.vals.length ca], .agg #[.int .i64 d.k, .string d.s, .int .i64 d.a, .int .i64 d.b, .slice an' d.names.length cn', .slice aa' d.vals.length ca']] w fun e w' => Ans w (.bool true) e w' := by
 obtain ⟨_, _, _, _, s4, s5, _⟩ := hs
 obtain ⟨r1, r2, -, -⟩ := h1
 obtain ⟨r3, r4, -, -⟩ := h2
 have HS : Hid (∀ w1, Below w.heap.size w w1 → Calls Tryz.prog 34 #[.slice an d.names.length cn, .slice an' d.names.length cn'] w1 fun e w' => Ans w1 (.bool true) e w') := fun w1 h => eqStringS_same an an' d.names cn cn' w1 s4 (r1.keep fun b hb => ⟨by have := h.size; omega, h.block b hb⟩) (r3.keep fun b hb => ⟨by have := h.size; omega, h.block b hb⟩)
 have HI : Hid (∀ w1, Below w.heap.size w w1 → Calls Tryz.prog 94 #[.slice aa d.vals.length ca, .slice aa' d.vals.length ca'] w1 fun e w' => Ans w1 (.bool true) e w') := fun w1 h => eqValueS_same aa aa' d.vals ca ca' w1 s5 (r2.keep fun b hb => ⟨by have := h.size; omega, h.block b hb⟩) (r4.keep fun b hb => ⟨by have := h.size; omega, h.block b hb⟩)
 clear r1 r2 r3 r4
 have hbA : Below w.heap.size w ((w.alloc (Obj.cells #[.int .i64 d.k, .string d.s, .int .i64 d.a, .int .i64 d.b, .slice an d.names.length cn, .slice aa d.vals.length ca] 107)).alloc (Obj.cells #[.int .i64 d.k, .string d.s, .int .i64 d.a, .int .i64 d.b, .slice an' d.names.length cn', .slice aa' d.vals.length ca'] 107)) := (bR _ _).alloc (by simp) _
 have k0 : ((w.alloc (Obj.cells #[.int .i64 d.k, .string d.s, .int .i64 d.a, .int .i64 d.b, .slice an d.names.length cn, .slice aa d.vals.length ca] 107)).alloc (Obj.cells #[.int .i64 d.k, .string d.s, .int .i64 d.a, .int .i64 d.b, .slice an' d.names.length cn', .slice aa' d.vals.length ca'] 107)).heap[w.heap.size]? = some (Obj.cells #[.int .i64 d.k, .string d.s, .int .i64 d.a, .int .i64 d.b, .slice an d.names.length cn, .slice aa d.vals.length ca] 107) := blk_past (blk_at _ _ _ rfl)
 have k1 : ((w.alloc (Obj.cells #[.int .i64 d.k, .string d.s, .int .i64 d.a, .int .i64 d.b, .slice an d.names.length cn, .slice aa d.vals.length ca] 107)).alloc (Obj.cells #[.int .i64 d.k, .string d.s, .int .i64 d.a, .int .i64 d.b, .slice an' d.names.length cn', .slice aa' d.vals.length ca'] 107)).heap[w.heap.size + 1]? = some (Obj.cells #[.int .i64 d.k, .string d.s, .int .i64 d.a, .int .i64 d.b, .slice an' d.names.length cn', .slice aa' d.vals.length ca'] 107) := blk_at _ _ _ (by simp)
 go_enter Tryz.func61, Tryz.ntmps61
 go_wp2_with (first | (go_at_call 34; refine (HS.out _ hbA).mono ?_; rintro e w1 ⟨rfl, hb1⟩; have hc0 := cell_blk (j := 5) (blk_keep k0 hb1 (by simp; omega)) rfl; have hc1 := cell_blk (j := 5) (blk_keep k1 hb1 (by simp)) rfl; have hb2 : Below w.heap.size w w1 := bT hbA hb1) | (go_at_call 94; refine (HI.out _ hb2).mono ?_; rintro e w2 ⟨rfl, hb3⟩))
 go_ret
 exact ⟨rfl, bT hb2 hb3⟩
theorem eqCellS_same (a b : Option Addr) (cs : List Cel) (ca cb : Nat) (w : World) (hn : cs.length ≤ 1048576) (hsm : ∀ d ∈ cs, d.small) (hr : RowC w w.heap.size a cs) (hr' : RowC w w.heap.size b cs) :
  Calls Tryz.prog 31 #[.slice a cs.length ca, .slice b cs.length cb] w fun e w' => Ans w (.bool true) e w' := by
 have HR : Hid (RowC w w.heap.size a cs) := hr
 have HR' : Hid (RowC w w.heap.size b cs) := hr'
 have HS : Hid (∀ d ∈ cs, d.small) := hsm
 clear hr hr' hsm
 go_enter Tryz.func31, Tryz.ntmps31
 go_wp2
 go_loopw [5] (fun o wr => ∃ (i : Nat), i ≤ cs.length ∧ o = .int .i64 i ∧ Below w.heap.size w wr)
  (fun o _ => cs.length - (intOf o).toNat)
 case atStart => exact ⟨0, by omega, rfl, Below.refl _ _⟩
 case round =>
  obtain ⟨i, hi, rfl, hb⟩ := hrel
  by_cases hlt : i < cs.length
  ·obtain ⟨d, hd⟩ : ∃ d, cs[i]? = some d := ⟨_, List.getElem?_eq_getElem hlt⟩
   have hsz := hb.size
   obtain ⟨b1, o1, rfl, hbb, an, cn, aa, ca2, c0, c1, c2, c3, c4, c5, hrows⟩ := (HR.out.below hb) i d hd
   obtain ⟨b2, o2, rfl, hbb', an', cn', aa', ca3, c6, c7, c8, c9, c10, c11, hrows'⟩ := (HR'.out.below hb) i d hd
   have HE : Hid (∀ w1, Below w.heap.size wr w1 → Calls Tryz.prog 61 #[.agg #[.int .i64 d.k, .string d.s, .int .i64 d.a, .int .i64 d.b, .slice an d.names.length cn, .slice aa d.vals.length ca2], .agg #[.int .i64 d.k, .string d.s, .int .i64 d.a, .int .i64 d.b, .slice an' d.names.length cn', .slice aa' d.vals.length ca3]] w1 fun e w' => Ans w1 (.bool true) e w') := fun w1 h => eqCell_same d an aa an' aa' cn ca2 cn' ca3 w1 (HS.out d (List.mem_of_getElem? hd)) (hrows.keep fun b hb' => ⟨by have := h.size; omega, h.block b hb'⟩) (hrows'.keep fun b hb' => ⟨by have := h.size; omega, h.block b hb'⟩)
   clear hrows hrows' hd
   go_wp2_with fail
   go_region_with (go_at_call 61; refine (HE.out _ (below_drewN (Below.refl _ _) 1)).mono ?_; rintro e w2 ⟨rfl, hb2⟩)
   all_goals
    go_wp2
    go_roundw
    case rel => exact ⟨i + 1, by omega, by go_num, (below_drewN hb _).trans (hb2.mono hsz)⟩
    case measure => simp [intOf]; omega
  ·have hlt' : decide ((i : Int) < (cs.length : Int)) = false := by simp; omega
   go_wp2
   go_ret
   exact ⟨rfl, hb⟩
theorem eqStringS_sameN (a b : Option Addr) (ts : List ByteArray) (ca cb : Nat) (w : World) (hn : ts.length ≤ 1048576) (hr : RowS w w.heap.size a ts) (hr' : RowS w w.heap.size b ts) :
  Calls Tryz.prog 34 #[.slice a ts.length ca, .slice b ts.length cb] w fun e w' => Ans w (.bool true) e w' := by
 have HR : Hid (RowS w w.heap.size a ts) := hr
 have HR' : Hid (RowS w w.heap.size b ts) := hr'
 clear hr hr'
 go_enter Tryz.func34, Tryz.ntmps34
 go_wp2
 go_loopw [5] (fun o wr => ∃ (i : Nat), i ≤ ts.length ∧ o = .int .i64 i ∧ Below w.heap.size w wr)
  (fun o _ => ts.length - (intOf o).toNat)
 case atStart => exact ⟨0, by omega, rfl, Below.refl _ _⟩
 case round =>
  obtain ⟨i, hi, rfl, hb⟩ := hrel
  by_cases hlt : i < ts.length
  ·obtain ⟨d, hd⟩ : ∃ d, ts[i]? = some d := ⟨_, List.getElem?_eq_getElem hlt⟩
   obtain ⟨b1, o1, rfl, hbb, c0⟩ := (HR.out.below hb) i d hd
   obtain ⟨b2, o2, rfl, hbb', c5⟩ := (HR'.out.below hb) i d hd
   go_wp2
   go_quiet (fail)
   go_wp2
   go_roundw
   case rel => exact ⟨i + 1, by omega, by go_num, below_drewN hb _⟩
   case measure => simp [intOf]; omega
  ·have hlt' : decide ((i : Int) < (ts.length : Int)) = false := by simp; omega
   go_wp2
   go_ret
   exact ⟨rfl, hb⟩
theorem eqIntS_same (a b : Option Addr) (ts : List Int) (ca cb : Nat) (w : World) (hn : ts.length ≤ 1048576) (hr : RowI w w.heap.size a ts) (hr' : RowI w w.heap.size b ts) :
  Calls Tryz.prog 156 #[.slice a ts.length ca, .slice b ts.length cb] w fun e w' => Ans w (.bool true) e w' := by
 have HR : Hid (RowI w w.heap.size a ts) := hr
 have HR' : Hid (RowI w w.heap.size b ts) := hr'
 clear hr hr'
 go_enter Tryz.func156, Tryz.ntmps156
 go_wp2
 go_loopw [5] (fun o wr => ∃ (i : Nat), i ≤ ts.length ∧ o = .int .i64 i ∧ Below w.heap.size w wr)
  (fun o _ => ts.length - (intOf o).toNat)
 case atStart => exact ⟨0, by omega, rfl, Below.refl _ _⟩
 case round =>
  obtain ⟨i, hi, rfl, hb⟩ := hrel
  by_cases hlt : i < ts.length
  ·obtain ⟨d, hd⟩ : ∃ d, ts[i]? = some d := ⟨_, List.getElem?_eq_getElem hlt⟩
   obtain ⟨b1, o1, rfl, hbb, c0⟩ := (HR.out.below hb) i d hd
   obtain ⟨b2, o2, rfl, hbb', c5⟩ := (HR'.out.below hb) i d hd
   go_wp2
   go_quiet (fail)
   go_wp2
   go_roundw
   case rel => exact ⟨i + 1, by omega, by go_num, below_drewN hb _⟩
   case measure => simp [intOf]; omega
  ·have hlt' : decide ((i : Int) < (ts.length : Int)) = false := by simp; omega
   go_wp2
   go_ret
   exact ⟨rfl, hb⟩
theorem eqNode_same (d : Nod) (an aa an' aa' : Option Addr) (cn ca cn' ca' : Nat) (w : World) (hs : d.small) (h1 : NodRows w (fun b => b < w.heap.size) an cn aa ca d) (h2 : NodRows w (fun b => b < w.heap.size) an' cn' aa' ca' d) :
  Calls Tryz.prog 146 #[.agg #[.int .i64 d.k, .int .i64 d.n, .string d.s, .slice an d.names.length cn, .slice aa d.args.length ca], .agg #[.int .i64 d.k, .int .i64 d.n, .string d.s, .slice an' d.names.length cn', .slice aa' d.args.length ca']] w fun e w' => Ans w (.bool true) e w' := by
 obtain ⟨_, _, _, s4, s5, _⟩ := hs
 obtain ⟨r1, r2, -, -⟩ := h1
 obtain ⟨r3, r4, -, -⟩ := h2
 have HS : Hid (∀ w1, Below w.heap.size w w1 → Calls Tryz.prog 34 #[.slice an d.names.length cn, .slice an' d.names.length cn'] w1 fun e w' => Ans w1 (.bool true) e w') := fun w1 h => eqStringS_sameN an an' d.names cn cn' w1 s4 (r1.keep fun b hb => ⟨by have := h.size; omega, h.block b hb⟩) (r3.keep fun b hb => ⟨by have := h.size; omega, h.block b hb⟩)
 have HI : Hid (∀ w1, Below w.heap.size w w1 → Calls Tryz.prog 156 #[.slice aa d.args.length ca, .slice aa' d.args.length ca'] w1 fun e w' => Ans w1 (.bool true) e w') := fun w1 h => eqIntS_same aa aa' d.args ca ca' w1 s5 (r2.keep fun b hb => ⟨by have := h.size; omega, h.block b hb⟩) (r4.keep fun b hb => ⟨by have := h.size; omega, h.block b hb⟩)
 clear r1 r2 r3 r4
 have hbA : Below w.heap.size w ((w.alloc (Obj.cells #[.int .i64 d.k, .int .i64 d.n, .string d.s, .slice an d.names.length cn, .slice aa d.args.length ca] 126)).alloc (Obj.cells #[.int .i64 d.k, .int .i64 d.n, .string d.s, .slice an' d.names.length cn', .slice aa' d.args.length ca'] 126)) := (bR _ _).alloc (by simp) _
 have k0 : ((w.alloc (Obj.cells #[.int .i64 d.k, .int .i64 d.n, .string d.s, .slice an d.names.length cn, .slice aa d.args.length ca] 126)).alloc (Obj.cells #[.int .i64 d.k, .int .i64 d.n, .string d.s, .slice an' d.names.length cn', .slice aa' d.args.length ca'] 126)).heap[w.heap.size]? = some (Obj.cells #[.int .i64 d.k, .int .i64 d.n, .string d.s, .slice an d.names.length cn, .slice aa d.args.length ca] 126) := blk_past (blk_at _ _ _ rfl)
 have k1 : ((w.alloc (Obj.cells #[.int .i64 d.k, .int .i64 d.n, .string d.s, .slice an d.names.length cn, .slice aa d.args.length ca] 126)).alloc (Obj.cells #[.int .i64 d.k, .int .i64 d.n, .string d.s, .slice an' d.names.length cn', .slice aa' d.args.length ca'] 126)).heap[w.heap.size + 1]? = some (Obj.cells #[.int .i64 d.k, .int .i64 d.n, .string d.s, .slice an' d.names.length cn', .slice aa' d.args.length ca'] 126) := blk_at _ _ _ (by simp)
 go_enter Tryz.func146, Tryz.ntmps146
 go_wp2_with (first | (go_at_call 34; refine (HS.out _ hbA).mono ?_; rintro e w1 ⟨rfl, hb1⟩; have hc0 := cell_blk (j := 4) (blk_keep k0 hb1 (by simp; omega)) rfl; have hc1 := cell_blk (j := 4) (blk_keep k1 hb1 (by simp)) rfl; have hb2 : Below w.heap.size w w1 := bT hbA hb1) | (go_at_call 156; refine (HI.out _ hb2).mono ?_; rintro e w2 ⟨rfl, hb3⟩))
 go_ret
 exact ⟨rfl, bT hb2 hb3⟩
theorem eqNodeS_same (a b : Option Addr) (cs : List Nod) (ca cb : Nat) (w : World) (hn : cs.length ≤ 1048576) (hsm : ∀ d ∈ cs, d.small) (hr : RowN w w.heap.size a cs) (hr' : RowN w w.heap.size b cs) :
  Calls Tryz.prog 127 #[.slice a cs.length ca, .slice b cs.length cb] w fun e w' => Ans w (.bool true) e w' := by
 have HR : Hid (RowN w w.heap.size a cs) := hr
 have HR' : Hid (RowN w w.heap.size b cs) := hr'
 have HS : Hid (∀ d ∈ cs, d.small) := hsm
 clear hr hr' hsm
 go_enter Tryz.func127, Tryz.ntmps127
 go_wp2
 go_loopw [5] (fun o wr => ∃ (i : Nat), i ≤ cs.length ∧ o = .int .i64 i ∧ Below w.heap.size w wr)
  (fun o _ => cs.length - (intOf o).toNat)
 case atStart => exact ⟨0, by omega, rfl, Below.refl _ _⟩
 case round =>
  obtain ⟨i, hi, rfl, hb⟩ := hrel
  by_cases hlt : i < cs.length
  ·obtain ⟨d, hd⟩ : ∃ d, cs[i]? = some d := ⟨_, List.getElem?_eq_getElem hlt⟩
   have hsz := hb.size
   obtain ⟨b1, o1, rfl, hbb, an, cn, aa, ca2, c0, c1, c2, c3, c4, hrows⟩ := (HR.out.below hb) i d hd
   obtain ⟨b2, o2, rfl, hbb', an', cn', aa', ca3, c5, c6, c7, c8, c9, hrows'⟩ := (HR'.out.below hb) i d hd
   have HE : Hid (∀ w1, Below w.heap.size wr w1 → Calls Tryz.prog 146 #[.agg #[.int .i64 d.k, .int .i64 d.n, .string d.s, .slice an d.names.length cn, .slice aa d.args.length ca2], .agg #[.int .i64 d.k, .int .i64 d.n, .string d.s, .slice an' d.names.length cn', .slice aa' d.args.length ca3]] w1 fun e w' => Ans w1 (.bool true) e w') := fun w1 h => eqNode_same d an aa an' aa' cn ca2 cn' ca3 w1 (HS.out d (List.mem_of_getElem? hd)) (hrows.keep fun b hb' => ⟨by have := h.size; omega, h.block b hb'⟩) (hrows'.keep fun b hb' => ⟨by have := h.size; omega, h.block b hb'⟩)
   clear hrows hrows' hd
   go_wp2_with fail
   go_region_with (go_at_call 146; refine (HE.out _ (below_drewN (Below.refl _ _) 1)).mono ?_; rintro e w2 ⟨rfl, hb2⟩)
   all_goals
    go_wp2
    go_roundw
    case rel => exact ⟨i + 1, by omega, by go_num, (below_drewN hb _).trans (hb2.mono hsz)⟩
    case measure => simp [intOf]; omega
  ·have hlt' : decide ((i : Int) < (cs.length : Int)) = false := by simp; omega
   go_wp2
   go_ret
   exact ⟨rfl, hb⟩
end Go.Proofs.YtlacidojljilaaaGreatDoor
