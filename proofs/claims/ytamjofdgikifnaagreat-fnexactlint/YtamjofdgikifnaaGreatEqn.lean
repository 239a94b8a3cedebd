/- Like heaps are told alike. Like programs are told alike. -/
import Derived.Test.YtamjofdgikifnaaGreatVlp
import Derived.Deep.RegionWith
import Derived.Test.YtamjofdgikifnaaGreatPrp
set_option linter.unusedVariables false
namespace Go.Proofs.YtamjofdgikifnaaGreat
open Go.ChangeShapes Go.WideShapes Go.ChangeAt Go.RowKit
set_option maxRecDepth 100000 in
set_option maxHeartbeats 1000000 in
theorem eqStringS_same (a b : Option Addr) (ts : List ByteArray) (ca cb : Nat) (w : World) (hn : ts.length ≤ 1048576) (hr : RowS w w.heap.size a ts) (hr' : RowS w w.heap.size b ts) :
  Calls Tryz.prog 13 #[.slice a ts.length ca, .slice b ts.length cb] w fun e w' => Ans w (.bool true) e w' := by
 have HR : Hid (RowS w w.heap.size a ts) := hr
 have HR' : Hid (RowS w w.heap.size b ts) := hr'
 clear hr hr'
 go_enter Tryz.func13, Tryz.ntmps13
 go_wp2
 go_loopw [5] (fun o wr => ∃ (i : Nat), i ≤ ts.length ∧ o = .int .i64 i ∧ Below w.heap.size w wr)
  (fun o _ => ts.length - (intOf o).toNat)
 case atStart => exact ⟨0, by omega, rfl, Below.refl _ _⟩
 case round =>
  obtain ⟨i, hi, rfl, hb⟩ := hrel
  by_cases hlt : i < ts.length
  ·obtain ⟨d, hd⟩ : ∃ d, ts[i]? = some d := ⟨_, List.getElem?_eq_getElem hlt⟩
   obtain ⟨b1, o1, rfl, hbb, c0⟩ := (HR.out.below hb) i d hd
   obtain ⟨b2, o2, rfl, hbb', c5⟩ := (HR'.out.below hb) i d hd
   go_wp2
   go_quiet (fail)
   go_wp2
   go_roundw
   case rel => exact ⟨i + 1, by omega, by go_num, below_drewN hb _⟩
   case measure => simp [intOf]; omega
  ·have hlt' : decide ((i : Int) < (ts.length : Int)) = false := by simp; omega
   go_wp2
   go_ret
   exact ⟨rfl, hb⟩
end Go.Proofs.YtamjofdgikifnaaGreat
namespace Go.Proofs.YtamjofdgikifnaaGreat
open Go.ChangeShapes Go.WideShapes Go.ChangeAt Go.RowKit
set_option maxRecDepth 100000 in
set_option maxHeartbeats 1000000 in
theorem eqStringS_sameN (a b : Option Addr) (ts : List ByteArray) (ca cb : Nat) (w : World) (hn : ts.length ≤ 1048576) (hr : RowS w w.heap.size a ts) (hr' : RowS w w.heap.size b ts) :
  Calls Tryz.prog 13 #[.slice a ts.length ca, .slice b ts.length cb] w fun e w' => Ans w (.bool true) e w' := by
 have HR : Hid (RowS w w.heap.size a ts) := hr
 have HR' : Hid (RowS w w.heap.size b ts) := hr'
 clear hr hr'
 go_enter Tryz.func13, Tryz.ntmps13
 go_wp2
 go_loopw [5] (fun o wr => ∃ (i : Nat), i ≤ ts.length ∧ o = .int .i64 i ∧ Below w.heap.size w wr)
  (fun o _ => ts.length - (intOf o).toNat)
 case atStart => exact ⟨0, by omega, rfl, Below.refl _ _⟩
 case round =>
  obtain ⟨i, hi, rfl, hb⟩ := hrel
  by_cases hlt : i < ts.length
  ·obtain ⟨d, hd⟩ : ∃ d, ts[i]? = some d := ⟨_, List.getElem?_eq_getElem hlt⟩
   obtain ⟨b1, o1, rfl, hbb, c0⟩ := (HR.out.below hb) i d hd
   obtain ⟨b2, o2, rfl, hbb', c5⟩ := (HR'.out.below hb) i d hd
   go_wp2
   go_quiet (fail)
   go_wp2
   go_roundw
   case rel => exact ⟨i + 1, by omega, by go_num, below_drewN hb _⟩
   case measure => simp [intOf]; omega
  ·have hlt' : decide ((i : Int) < (ts.length : Int)) = false := by simp; omega
   go_wp2
   go_ret
   exact ⟨rfl, hb⟩
set_option maxRecDepth 100000 in
set_option maxHeartbeats 1000000 in
theorem eqIntS_same (a b : Option Addr) (ts : List Int) (ca cb : Nat) (w : World) (hn : ts.length ≤ 1048576) (hr : RowI w w.heap.size a ts) (hr' : RowI w w.heap.size b ts) :
  Calls Tryz.prog 126 #[.slice a ts.length ca, .slice b ts.length cb] w fun e w' => Ans w (.bool true) e w' := by
 have HR : Hid (RowI w w.heap.size a ts) := hr
 have HR' : Hid (RowI w w.heap.size b ts) := hr'
 clear hr hr'
 go_enter Tryz.func126, Tryz.ntmps126
 go_wp2
 go_loopw [5] (fun o wr => ∃ (i : Nat), i ≤ ts.length ∧ o = .int .i64 i ∧ Below w.heap.size w wr)
  (fun o _ => ts.length - (intOf o).toNat)
 case atStart => exact ⟨0, by omega, rfl, Below.refl _ _⟩
 case round =>
  obtain ⟨i, hi, rfl, hb⟩ := hrel
  by_cases hlt : i < ts.length
  ·obtain ⟨d, hd⟩ : ∃ d, ts[i]? = some d := ⟨_, List.getElem?_eq_getElem hlt⟩
   obtain ⟨b1, o1, rfl, hbb, c0⟩ := (HR.out.below hb) i d hd
   obtain ⟨b2, o2, rfl, hbb', c5⟩ := (HR'.out.below hb) i d hd
   go_wp2
   go_quiet (fail)
   go_wp2
   go_roundw
   case rel => exact ⟨i + 1, by omega, by go_num, below_drewN hb _⟩
   case measure => simp [intOf]; omega
  ·have hlt' : decide ((i : Int) < (ts.length : Int)) = false := by simp; omega
   go_wp2
   go_ret
   exact ⟨rfl, hb⟩
set_option maxRecDepth 100000 in
set_option maxHeartbeats 1000000 in
theorem eqNode_same (d : Nod) (an aa an' aa' : Option Addr) (cn ca cn' ca' : Nat) (w : World) (hs : d.small) (h1 : NodRows w (fun b => b < w.heap.size) an cn aa ca d) (h2 : NodRows w (fun b => b < w.heap.size) an' cn' aa' ca' d) :
  Calls Tryz.prog 121 #[.agg #[.int .i64 d.k, .int .i64 d.n, .string d.s, .slice an d.names.length cn, .slice aa d.args.length ca], .agg #[.int .i64 d.k, .int .i64 d.n, .string d.s, .slice an' d.names.length cn', .slice aa' d.args.length ca']] w fun e w' => Ans w (.bool true) e w' := by
 obtain ⟨_, _, _, s4, s5, _⟩ := hs
 obtain ⟨r1, r2, -, -⟩ := h1
 obtain ⟨r3, r4, -, -⟩ := h2
 have HS : Hid (∀ w1, Below w.heap.size w w1 → Calls Tryz.prog 13 #[.slice an d.names.length cn, .slice an' d.names.length cn'] w1 fun e w' => Ans w1 (.bool true) e w') := fun w1 h => eqStringS_sameN an an' d.names cn cn' w1 s4 (r1.keep fun b hb => ⟨by have := h.size; omega, h.block b hb⟩) (r3.keep fun b hb => ⟨by have := h.size; omega, h.block b hb⟩)
 have HI : Hid (∀ w1, Below w.heap.size w w1 → Calls Tryz.prog 126 #[.slice aa d.args.length ca, .slice aa' d.args.length ca'] w1 fun e w' => Ans w1 (.bool true) e w') := fun w1 h => eqIntS_same aa aa' d.args ca ca' w1 s5 (r2.keep fun b hb => ⟨by have := h.size; omega, h.block b hb⟩) (r4.keep fun b hb => ⟨by have := h.size; omega, h.block b hb⟩)
 clear r1 r2 r3 r4
 have hbA : Below w.heap.size w ((w.alloc (Obj.cells #[.int .i64 d.k, .int .i64 d.n, .string d.s, .slice an d.names.length cn, .slice aa d.args.length ca] 96)).alloc (Obj.cells #[.int .i64 d.k, .int .i64 d.n, .string d.s, .slice an' d.names.length cn', .slice aa' d.args.length ca'] 96)) := ((Below.refl _ _).alloc (Nat.le_refl _) _).alloc (by simp) _
 have k0 : ((w.alloc (Obj.cells #[.int .i64 d.k, .int .i64 d.n, .string d.s, .slice an d.names.length cn, .slice aa d.args.length ca] 96)).alloc (Obj.cells #[.int .i64 d.k, .int .i64 d.n, .string d.s, .slice an' d.names.length cn', .slice aa' d.args.length ca'] 96)).heap[w.heap.size]? = some (Obj.cells #[.int .i64 d.k, .int .i64 d.n, .string d.s, .slice an d.names.length cn, .slice aa d.args.length ca] 96) := blk_past (blk_at _ _ _ rfl)
 have k1 : ((w.alloc (Obj.cells #[.int .i64 d.k, .int .i64 d.n, .string d.s, .slice an d.names.length cn, .slice aa d.args.length ca] 96)).alloc (Obj.cells #[.int .i64 d.k, .int .i64 d.n, .string d.s, .slice an' d.names.length cn', .slice aa' d.args.length ca'] 96)).heap[w.heap.size + 1]? = some (Obj.cells #[.int .i64 d.k, .int .i64 d.n, .string d.s, .slice an' d.names.length cn', .slice aa' d.args.length ca'] 96) := blk_at _ _ _ (by simp)
 go_enter Tryz.func121, Tryz.ntmps121
 go_wp2_with (first | (go_at_call 13; refine (HS.out _ hbA).mono ?_; rintro e w1 ⟨rfl, hb1⟩; have hc0 := cell_blk (j := 4) (blk_keep k0 hb1 (by simp; omega)) rfl; have hc1 := cell_blk (j := 4) (blk_keep k1 hb1 (by simp)) rfl; have hb2 : Below w.heap.size w w1 := hbA.trans (hb1.mono hbA.size)) | (go_at_call 126; refine (HI.out _ hb2).mono ?_; rintro e w2 ⟨rfl, hb3⟩))
 go_ret
 exact ⟨rfl, hb2.trans (hb3.mono hb2.size)⟩
set_option maxRecDepth 100000 in
set_option maxHeartbeats 1000000 in
theorem eqNodeS_same (a b : Option Addr) (cs : List Nod) (ca cb : Nat) (w : World) (hn : cs.length ≤ 1048576) (hsm : ∀ d ∈ cs, d.small) (hr : RowN w w.heap.size a cs) (hr' : RowN w w.heap.size b cs) :
  Calls Tryz.prog 111 #[.slice a cs.length ca, .slice b cs.length cb] w fun e w' => Ans w (.bool true) e w' := by
 have HR : Hid (RowN w w.heap.size a cs) := hr
 have HR' : Hid (RowN w w.heap.size b cs) := hr'
 have HS : Hid (∀ d ∈ cs, d.small) := hsm
 clear hr hr' hsm
 go_enter Tryz.func111, Tryz.ntmps111
 go_wp2
 go_loopw [5] (fun o wr => ∃ (i : Nat), i ≤ cs.length ∧ o = .int .i64 i ∧ Below w.heap.size w wr)
  (fun o _ => cs.length - (intOf o).toNat)
 case atStart => exact ⟨0, by omega, rfl, Below.refl _ _⟩
 case round =>
  obtain ⟨i, hi, rfl, hb⟩ := hrel
  by_cases hlt : i < cs.length
  ·obtain ⟨d, hd⟩ : ∃ d, cs[i]? = some d := ⟨_, List.getElem?_eq_getElem hlt⟩
   have hsz := hb.size
   obtain ⟨b1, o1, rfl, hbb, an, cn, aa, ca2, c0, c1, c2, c3, c4, hrows⟩ := (HR.out.below hb) i d hd
   obtain ⟨b2, o2, rfl, hbb', an', cn', aa', ca3, c5, c6, c7, c8, c9, hrows'⟩ := (HR'.out.below hb) i d hd
   have HE : Hid (∀ w1, Below w.heap.size wr w1 → Calls Tryz.prog 121 #[.agg #[.int .i64 d.k, .int .i64 d.n, .string d.s, .slice an d.names.length cn, .slice aa d.args.length ca2], .agg #[.int .i64 d.k, .int .i64 d.n, .string d.s, .slice an' d.names.length cn', .slice aa' d.args.length ca3]] w1 fun e w' => Ans w1 (.bool true) e w') := fun w1 h => eqNode_same d an aa an' aa' cn ca2 cn' ca3 w1 (HS.out d (List.mem_of_getElem? hd)) (hrows.keep fun b hb' => ⟨by have := h.size; omega, h.block b hb'⟩) (hrows'.keep fun b hb' => ⟨by have := h.size; omega, h.block b hb'⟩)
   clear hrows hrows' hd
   go_wp2_with fail
   go_region_with (go_at_call 121; refine (HE.out _ (below_drewN (Below.refl _ _) 1)).mono ?_; rintro e w2 ⟨rfl, hb2⟩)
   all_goals
    go_wp2
    go_roundw
    case rel => exact ⟨i + 1, by omega, by go_num, (below_drewN hb _).trans (hb2.mono hsz)⟩
    case measure => simp [intOf]; omega
  ·have hlt' : decide ((i : Int) < (cs.length : Int)) = false := by simp; omega
   go_wp2
   go_ret
   exact ⟨rfl, hb⟩
end Go.Proofs.YtamjofdgikifnaaGreat
