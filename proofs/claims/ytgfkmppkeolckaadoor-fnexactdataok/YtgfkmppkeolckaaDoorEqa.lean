/- Like data are told alike. -/
import Derived.Test.YtgfkmppkeolckaaDoorDat
import Derived.Deep.RegionWith
namespace Go.Proofs.YtgfkmppkeolckaaDoor
open Go.ChangeShapes Go.WideShapes Go.ChangeAt Go.RowKit
theorem eqDatum_same (d : Dat) (w : World) :
    Calls Tryd.prog 72 #[.agg #[.int .i64 d.k, .int .i64 d.n, .string d.s, .int .i64 d.l, .int .i64 d.r], .agg #[.int .i64 d.k, .int .i64 d.n, .string d.s, .int .i64 d.l, .int .i64 d.r]] w fun e w' => Ans w (.bool true) e w' := by
  go_enter Tryd.func72, Tryd.ntmps72
  go_wp2
  go_ret
  exact ⟨rfl, ((Below.refl _ _).alloc (Nat.le_refl _) _).alloc (by simp) _⟩
set_option maxRecDepth 100000 in
set_option maxHeartbeats 1000000 in
theorem eqDatumS_same (a b : Option Addr) (cs : List Dat) (ca cb : Nat) (w : World) (hn : cs.length ≤ 9223372036854775807) (hr : RowD w w.heap.size a cs) (hr' : RowD w w.heap.size b cs) :
    Calls Tryd.prog 44 #[.slice a cs.length ca, .slice b cs.length cb] w fun e w' => Ans w (.bool true) e w' := by
  have HR : Hid (RowD w w.heap.size a cs) := hr
  have HR' : Hid (RowD w w.heap.size b cs) := hr'
  clear hr hr'
  go_enter Tryd.func44, Tryd.ntmps44
  go_wp2
  go_loopw [5] (fun o wr => ∃ (i : Nat), i ≤ cs.length ∧ o = .int .i64 i ∧ Below w.heap.size w wr)
    (fun o _ => cs.length - (intOf o).toNat)
  case atStart => exact ⟨0, by omega, rfl, Below.refl _ _⟩
  case round =>
    obtain ⟨i, hi, rfl, hb⟩ := hrel
    by_cases hlt : i < cs.length
    · obtain ⟨d, hd⟩ : ∃ d, cs[i]? = some d := ⟨_, List.getElem?_eq_getElem hlt⟩
      obtain ⟨b1, o1, rfl, hbb, c0, c1, c2, c3, c4⟩ := (HR.out.below hb) i d hd
      obtain ⟨b2, o2, rfl, hbb', c5, c6, c7, c8, c9⟩ := (HR'.out.below hb) i d hd
      have hsz := hb.size
      go_wp2_with fail
      go_region_with (go_at_call 72; refine (eqDatum_same d _).mono ?_; rintro e w2 ⟨rfl, hb2⟩)
      all_goals
        go_wp2
        go_roundw
        case rel => exact ⟨i + 1, by omega, by go_num, (below_drewN hb _).trans (hb2.mono hsz)⟩
        case measure => simp [intOf]; omega
    · have hlt' : decide ((i : Int) < (cs.length : Int)) = false := by simp; omega
      go_wp2
      go_ret
      exact ⟨rfl, hb⟩
set_option maxRecDepth 100000 in
set_option maxHeartbeats 1000000 in
theorem eqIntS_same (a b : Option Addr) (ts : List Int) (ca cb : Nat) (w : World) (hn : ts.length ≤ 9223372036854775807) (hr : RowI w w.heap.size a ts) (hr' : RowI w w.heap.size b ts) :
    Calls Tryd.prog 45 #[.slice a ts.length ca, .slice b ts.length cb] w fun e w' => Ans w (.bool true) e w' := by
  have HR : Hid (RowI w w.heap.size a ts) := hr
  have HR' : Hid (RowI w w.heap.size b ts) := hr'
  clear hr hr'
  go_enter Tryd.func45, Tryd.ntmps45
  go_wp2
  go_loopw [5] (fun o wr => ∃ (i : Nat), i ≤ ts.length ∧ o = .int .i64 i ∧ Below w.heap.size w wr)
    (fun o _ => ts.length - (intOf o).toNat)
  case atStart => exact ⟨0, by omega, rfl, Below.refl _ _⟩
  case round =>
    obtain ⟨i, hi, rfl, hb⟩ := hrel
    by_cases hlt : i < ts.length
    · obtain ⟨d, hd⟩ : ∃ d, ts[i]? = some d := ⟨_, List.getElem?_eq_getElem hlt⟩
      obtain ⟨b1, o1, rfl, hbb, c0⟩ := (HR.out.below hb) i d hd
      obtain ⟨b2, o2, rfl, hbb', c5⟩ := (HR'.out.below hb) i d hd
      go_wp2
      go_quiet (fail)
      go_wp2
      go_roundw
      case rel => exact ⟨i + 1, by omega, by go_num, below_drewN hb _⟩
      case measure => simp [intOf]; omega
    · have hlt' : decide ((i : Int) < (ts.length : Int)) = false := by simp; omega
      go_wp2
      go_ret
      exact ⟨rfl, hb⟩
theorem eqData_same (a b a' b' : Option Addr) (cs : List Dat) (ts : List Int) (ca cb ca' cb' : Nat) (w : World) (hn : cs.length ≤ 9223372036854775807) (hn' : ts.length ≤ 9223372036854775807) (h1 : RowD w w.heap.size a cs) (h2 : RowI w w.heap.size b ts) (h3 : RowD w w.heap.size a' cs) (h4 : RowI w w.heap.size b' ts) :
    Calls Tryd.prog 18 #[.agg #[.slice a cs.length ca, .slice b ts.length cb], .agg #[.slice a' cs.length ca', .slice b' ts.length cb']] w fun e w' => Ans w (.bool true) e w' := by
  have HD : Hid (∀ w1, Below w.heap.size w w1 → Calls Tryd.prog 44 #[.slice a cs.length ca, .slice a' cs.length ca'] w1 fun e w' => Ans w1 (.bool true) e w') := fun w1 h => eqDatumS_same a a' cs ca ca' w1 hn ((h1.below h).mono h.size) ((h3.below h).mono h.size)
  have HI : Hid (∀ w1, Below w.heap.size w w1 → Calls Tryd.prog 45 #[.slice b ts.length cb, .slice b' ts.length cb'] w1 fun e w' => Ans w1 (.bool true) e w') := fun w1 h => eqIntS_same b b' ts cb cb' w1 hn' ((h2.below h).mono h.size) ((h4.below h).mono h.size)
  clear h1 h2 h3 h4
  go_enter Tryd.func18, Tryd.ntmps18
  go_wp2_with fail
  have hb0 : Below w.heap.size w ((w.alloc (Obj.cells #[Value.slice a cs.length ca, Value.slice b ts.length cb] 28)).alloc (Obj.cells #[Value.slice a' cs.length ca', Value.slice b' ts.length cb'] 28)) := ((Below.refl _ _).alloc (Nat.le_refl _) _).alloc (by simp) _
  have k0 : ((w.alloc (Obj.cells #[Value.slice a cs.length ca, Value.slice b ts.length cb] 28)).alloc (Obj.cells #[Value.slice a' cs.length ca', Value.slice b' ts.length cb'] 28)).heap[w.heap.size]? = some (Obj.cells #[Value.slice a cs.length ca, Value.slice b ts.length cb] 28) := blk_past (blk_at _ _ _ rfl)
  have k1 : ((w.alloc (Obj.cells #[Value.slice a cs.length ca, Value.slice b ts.length cb] 28)).alloc (Obj.cells #[Value.slice a' cs.length ca', Value.slice b' ts.length cb'] 28)).heap[w.heap.size + 1]? = some (Obj.cells #[Value.slice a' cs.length ca', Value.slice b' ts.length cb'] 28) := blk_at _ _ _ (by simp)
  refine (HD.out _ hb0).mono ?_
  rintro e w1 ⟨rfl, hb1⟩
  have hb2 : Below w.heap.size w w1 := hb0.trans (hb1.mono hb0.size)
  have hc0 := cell_blk (j := 1) (blk_keep k0 hb1 (by simp; omega)) rfl
  have hc1 := cell_blk (j := 1) (blk_keep k1 hb1 (by simp)) rfl
  clear k0 k1 hb0
  go_wp2_with fail
  refine (HI.out _ hb2).mono ?_
  rintro e w2 ⟨rfl, hb3⟩
  have hb4 : Below w.heap.size w w2 := hb2.trans (hb3.mono hb2.size)
  go_wp2
  go_ret
  exact ⟨rfl, hb4⟩
end Go.Proofs.YtgfkmppkeolckaaDoor
