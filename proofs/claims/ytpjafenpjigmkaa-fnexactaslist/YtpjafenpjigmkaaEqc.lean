/- Like heaps are told alike. -/
import Derived.Test.YtpjafenpjigmkaaVlp
import Derived.Deep.RegionWith
set_option linter.unusedVariables false
namespace Go.Proofs.Ytpjafenpjigmkaa
open Go.ChangeShapes Go.WideShapes Go.ChangeAt Go.RowKit
set_option maxRecDepth 100000 in
set_option maxHeartbeats 1000000 in
theorem eqStringS_same (a b : Option Addr) (ts : List ByteArray) (ca cb : Nat) (w : World) (hn : ts.length ≤ 1048576) (hr : RowS w w.heap.size a ts) (hr' : RowS w w.heap.size b ts) :
    Calls Try.prog 38 #[.slice a ts.length ca, .slice b ts.length cb] w fun e w' => Ans w (.bool true) e w' := by
  have HR : Hid (RowS w w.heap.size a ts) := hr
  have HR' : Hid (RowS w w.heap.size b ts) := hr'
  clear hr hr'
  go_enter Try.func38, Try.ntmps38
  go_wp2
  go_loopw [5] (fun o wr => ∃ (i : Nat), i ≤ ts.length ∧ o = .int .i64 i ∧ Below w.heap.size w wr)
    (fun o _ => ts.length - (intOf o).toNat)
  case atStart => exact ⟨0, by omega, rfl, Below.refl _ _⟩
  case round =>
    obtain ⟨i, hi, rfl, hb⟩ := hrel
    by_cases hlt : i < ts.length
    · obtain ⟨d, hd⟩ : ∃ d, ts[i]? = some d := ⟨_, List.getElem?_eq_getElem hlt⟩
      obtain ⟨b1, o1, rfl, hbb, c0⟩ := (HR.out.below hb) i d hd
      obtain ⟨b2, o2, rfl, hbb', c5⟩ := (HR'.out.below hb) i d hd
      go_wp2
      go_quiet (fail)
      go_wp2
      go_roundw
      case rel => exact ⟨i + 1, by omega, by go_num, below_drewN hb _⟩
      case measure => simp [intOf]; omega
    · have hlt' : decide ((i : Int) < (ts.length : Int)) = false := by simp; omega
      go_wp2
      go_ret
      exact ⟨rfl, hb⟩
set_option maxRecDepth 100000 in
set_option maxHeartbeats 1000000 in
theorem eqValue_same (d : Val) (w : World) :
    Calls Try.prog 23 #[.agg #[.int .i64 d.k, .int .i64 d.n, .string d.s], .agg #[.int .i64 d.k, .int .i64 d.n, .string d.s]] w fun e w' => Ans w (.bool true) e w' := by
  have hbA : Below w.heap.size w ((w.alloc (Obj.cells #[.int .i64 d.k, .int .i64 d.n, .string d.s] 32)).alloc (Obj.cells #[.int .i64 d.k, .int .i64 d.n, .string d.s] 32)) := ((Below.refl _ _).alloc (Nat.le_refl _) _).alloc (by simp) _
  go_enter Try.func23, Try.ntmps23
  go_wp2
  go_ret
  exact ⟨rfl, hbA⟩
set_option maxRecDepth 100000 in
set_option maxHeartbeats 1000000 in
theorem eqValueS_same (a b : Option Addr) (cs : List Val) (ca cb : Nat) (w : World) (hn : cs.length ≤ 1048576) (hr : RowV w w.heap.size a cs) (hr' : RowV w w.heap.size b cs) :
    Calls Try.prog 10 #[.slice a cs.length ca, .slice b cs.length cb] w fun e w' => Ans w (.bool true) e w' := by
  have HR : Hid (RowV w w.heap.size a cs) := hr
  have HR' : Hid (RowV w w.heap.size b cs) := hr'
  clear hr hr'
  go_enter Try.func10, Try.ntmps10
  go_wp2
  go_loopw [5] (fun o wr => ∃ (i : Nat), i ≤ cs.length ∧ o = .int .i64 i ∧ Below w.heap.size w wr)
    (fun o _ => cs.length - (intOf o).toNat)
  case atStart => exact ⟨0, by omega, rfl, Below.refl _ _⟩
  case round =>
    obtain ⟨i, hi, rfl, hb⟩ := hrel
    by_cases hlt : i < cs.length
    · obtain ⟨d, hd⟩ : ∃ d, cs[i]? = some d := ⟨_, List.getElem?_eq_getElem hlt⟩
      have hsz := hb.size
      obtain ⟨b1, o1, rfl, hbb, c0, c1, c2⟩ := (HR.out.below hb) i d hd
      obtain ⟨b2, o2, rfl, hbb', c5, c6, c7⟩ := (HR'.out.below hb) i d hd
      have HE : Hid (∀ w1, Calls Try.prog 23 #[.agg #[.int .i64 d.k, .int .i64 d.n, .string d.s], .agg #[.int .i64 d.k, .int .i64 d.n, .string d.s]] w1 fun e w' => Ans w1 (.bool true) e w') := fun w1 => eqValue_same d w1
      clear hd
      go_wp2_with fail
      go_region_with (go_at_call 23; refine (HE.out _).mono ?_; rintro e w2 ⟨rfl, hb2⟩)
      all_goals
        go_wp2
        go_roundw
        case rel => exact ⟨i + 1, by omega, by go_num, (below_drewN hb _).trans (hb2.mono hsz)⟩
        case measure => simp [intOf]; omega
    · have hlt' : decide ((i : Int) < (cs.length : Int)) = false := by simp; omega
      go_wp2
      go_ret
      exact ⟨rfl, hb⟩
set_option maxRecDepth 100000 in
set_option maxHeartbeats 1000000 in
theorem eqCell_same (d : Cel) (an aa an' aa' : Option Addr) (cn ca cn' ca' : Nat) (w : World) (hs : d.small) (h1 : CelRows w (fun b => b < w.heap.size) an cn aa ca d) (h2 : CelRows w (fun b => b < w.heap.size) an' cn' aa' ca' d) :
    Calls Try.prog 24 #[.agg #[.int .i64 d.k, .string d.s, .int .i64 d.a, .int .i64 d.b, .slice an d.names.length cn, .slice aa d.vals.length ca], .agg #[.int .i64 d.k, .string d.s, .int .i64 d.a, .int .i64 d.b, .slice an' d.names.length cn', .slice aa' d.vals.length ca']] w fun e w' => Ans w (.bool true) e w' := by
  obtain ⟨_, _, _, _, s4, s5, _⟩ := hs
  obtain ⟨r1, r2, -, -⟩ := h1
  obtain ⟨r3, r4, -, -⟩ := h2
  have HS : Hid (∀ w1, Below w.heap.size w w1 → Calls Try.prog 38 #[.slice an d.names.length cn, .slice an' d.names.length cn'] w1 fun e w' => Ans w1 (.bool true) e w') := fun w1 h => eqStringS_same an an' d.names cn cn' w1 s4 (r1.keep fun b hb => ⟨by have := h.size; omega, h.block b hb⟩) (r3.keep fun b hb => ⟨by have := h.size; omega, h.block b hb⟩)
  have HI : Hid (∀ w1, Below w.heap.size w w1 → Calls Try.prog 10 #[.slice aa d.vals.length ca, .slice aa' d.vals.length ca'] w1 fun e w' => Ans w1 (.bool true) e w') := fun w1 h => eqValueS_same aa aa' d.vals ca ca' w1 s5 (r2.keep fun b hb => ⟨by have := h.size; omega, h.block b hb⟩) (r4.keep fun b hb => ⟨by have := h.size; omega, h.block b hb⟩)
  clear r1 r2 r3 r4
  have hbA : Below w.heap.size w ((w.alloc (Obj.cells #[.int .i64 d.k, .string d.s, .int .i64 d.a, .int .i64 d.b, .slice an d.names.length cn, .slice aa d.vals.length ca] 47)).alloc (Obj.cells #[.int .i64 d.k, .string d.s, .int .i64 d.a, .int .i64 d.b, .slice an' d.names.length cn', .slice aa' d.vals.length ca'] 47)) := ((Below.refl _ _).alloc (Nat.le_refl _) _).alloc (by simp) _
  have k0 : ((w.alloc (Obj.cells #[.int .i64 d.k, .string d.s, .int .i64 d.a, .int .i64 d.b, .slice an d.names.length cn, .slice aa d.vals.length ca] 47)).alloc (Obj.cells #[.int .i64 d.k, .string d.s, .int .i64 d.a, .int .i64 d.b, .slice an' d.names.length cn', .slice aa' d.vals.length ca'] 47)).heap[w.heap.size]? = some (Obj.cells #[.int .i64 d.k, .string d.s, .int .i64 d.a, .int .i64 d.b, .slice an d.names.length cn, .slice aa d.vals.length ca] 47) := blk_past (blk_at _ _ _ rfl)
  have k1 : ((w.alloc (Obj.cells #[.int .i64 d.k, .string d.s, .int .i64 d.a, .int .i64 d.b, .slice an d.names.length cn, .slice aa d.vals.length ca] 47)).alloc (Obj.cells #[.int .i64 d.k, .string d.s, .int .i64 d.a, .int .i64 d.b, .slice an' d.names.length cn', .slice aa' d.vals.length ca'] 47)).heap[w.heap.size + 1]? = some (Obj.cells #[.int .i64 d.k, .string d.s, .int .i64 d.a, .int .i64 d.b, .slice an' d.names.length cn', .slice aa' d.vals.length ca'] 47) := blk_at _ _ _ (by simp)
  go_enter Try.func24, Try.ntmps24
  go_wp2_with (first | (go_at_call 38; refine (HS.out _ hbA).mono ?_; rintro e w1 ⟨rfl, hb1⟩; have hc0 := cell_blk (j := 5) (blk_keep k0 hb1 (by simp; omega)) rfl; have hc1 := cell_blk (j := 5) (blk_keep k1 hb1 (by simp)) rfl; have hb2 : Below w.heap.size w w1 := hbA.trans (hb1.mono hbA.size)) | (go_at_call 10; refine (HI.out _ hb2).mono ?_; rintro e w2 ⟨rfl, hb3⟩))
  go_ret
  exact ⟨rfl, hb2.trans (hb3.mono hb2.size)⟩
set_option maxRecDepth 100000 in
set_option maxHeartbeats 1000000 in
theorem eqCellS_same (a b : Option Addr) (cs : List Cel) (ca cb : Nat) (w : World) (hn : cs.length ≤ 1048576) (hsm : ∀ d ∈ cs, d.small) (hr : RowC w w.heap.size a cs) (hr' : RowC w w.heap.size b cs) :
    Calls Try.prog 11 #[.slice a cs.length ca, .slice b cs.length cb] w fun e w' => Ans w (.bool true) e w' := by
  have HR : Hid (RowC w w.heap.size a cs) := hr
  have HR' : Hid (RowC w w.heap.size b cs) := hr'
  have HS : Hid (∀ d ∈ cs, d.small) := hsm
  clear hr hr' hsm
  go_enter Try.func11, Try.ntmps11
  go_wp2
  go_loopw [5] (fun o wr => ∃ (i : Nat), i ≤ cs.length ∧ o = .int .i64 i ∧ Below w.heap.size w wr)
    (fun o _ => cs.length - (intOf o).toNat)
  case atStart => exact ⟨0, by omega, rfl, Below.refl _ _⟩
  case round =>
    obtain ⟨i, hi, rfl, hb⟩ := hrel
    by_cases hlt : i < cs.length
    · obtain ⟨d, hd⟩ : ∃ d, cs[i]? = some d := ⟨_, List.getElem?_eq_getElem hlt⟩
      have hsz := hb.size
      obtain ⟨b1, o1, rfl, hbb, an, cn, aa, ca2, c0, c1, c2, c3, c4, c5, hrows⟩ := (HR.out.below hb) i d hd
      obtain ⟨b2, o2, rfl, hbb', an', cn', aa', ca3, c6, c7, c8, c9, c10, c11, hrows'⟩ := (HR'.out.below hb) i d hd
      have HE : Hid (∀ w1, Below w.heap.size wr w1 → Calls Try.prog 24 #[.agg #[.int .i64 d.k, .string d.s, .int .i64 d.a, .int .i64 d.b, .slice an d.names.length cn, .slice aa d.vals.length ca2], .agg #[.int .i64 d.k, .string d.s, .int .i64 d.a, .int .i64 d.b, .slice an' d.names.length cn', .slice aa' d.vals.length ca3]] w1 fun e w' => Ans w1 (.bool true) e w') := fun w1 h => eqCell_same d an aa an' aa' cn ca2 cn' ca3 w1 (HS.out d (List.mem_of_getElem? hd)) (hrows.keep fun b hb' => ⟨by have := h.size; omega, h.block b hb'⟩) (hrows'.keep fun b hb' => ⟨by have := h.size; omega, h.block b hb'⟩)
      clear hrows hrows' hd
      go_wp2_with fail
      go_region_with (go_at_call 24; refine (HE.out _ (below_drewN (Below.refl _ _) 1)).mono ?_; rintro e w2 ⟨rfl, hb2⟩)
      all_goals
        go_wp2
        go_roundw
        case rel => exact ⟨i + 1, by omega, by go_num, (below_drewN hb _).trans (hb2.mono hsz)⟩
        case measure => simp [intOf]; omega
    · have hlt' : decide ((i : Int) < (cs.length : Int)) = false := by simp; omega
      go_wp2
      go_ret
      exact ⟨rfl, hb⟩
end Go.Proofs.Ytpjafenpjigmkaa
