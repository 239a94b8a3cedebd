/- The law's look at like data. -/
import Derived.Test.YtgfkmppkeolckaaDoorSan
set_option linter.unusedVariables false
namespace Go.Proofs.YtgfkmppkeolckaaDoor
open Go.ChangeShapes Go.WideShapes Go.ChangeAt Go.RowKit
set_option maxRecDepth 100000 in
set_option maxHeartbeats 1000000 in
theorem sameInts_same (a b : Option Addr) (ts : List Int) (ca cb : Nat) (w : World) (hn : ts.length ≤ 9223372036854775807) (hr : RowI w w.heap.size a ts) (hr' : RowI w w.heap.size b ts) :
    Calls Tryd.prog 36 #[.slice a ts.length ca, .slice b ts.length cb] w fun e w' => Ans w (.bool true) e w' := by
  have HR : Hid (RowI w w.heap.size a ts) := hr
  have HR' : Hid (RowI w w.heap.size b ts) := hr'
  clear hr hr'
  go_enter Tryd.func36, Tryd.ntmps36
  go_wp2
  go_loopw [5] (fun o wr => ∃ (i : Nat), i ≤ ts.length ∧ o = .int .i64 i ∧ Below w.heap.size w wr)
    (fun o _ => ts.length - (intOf o).toNat)
  case atStart => exact ⟨0, by omega, rfl, Below.refl _ _⟩
  case round =>
    obtain ⟨i, hi, rfl, hb⟩ := hrel
    by_cases hlt : i < ts.length
    · obtain ⟨d, hd⟩ : ∃ d, ts[i]? = some d := ⟨_, List.getElem?_eq_getElem hlt⟩
      obtain ⟨b1, o1, rfl, hbb, c0⟩ := (HR.out.below hb) i d hd
      obtain ⟨b2, o2, rfl, hbb', c5⟩ := (HR'.out.below hb) i d hd
      have q2 : (d != d) = false := by simp
      go_wp2
      go_quiet (fail)
      go_wp2
      go_roundw
      case rel => exact ⟨i + 1, by omega, by go_num, below_drewN hb _⟩
      case measure => simp [intOf]; omega
    · have hlt' : decide ((i : Int) < (ts.length : Int)) = false := by simp; omega
      go_wp2
      go_ret
      exact ⟨rfl, hb⟩
set_option maxRecDepth 100000 in
set_option maxHeartbeats 1000000 in
theorem sameData_same (a b a' b' : Option Addr) (cs : List Dat) (ts : List Int) (ca cb ca' cb' : Nat) (w : World) (hn : cs.length ≤ 9223372036854775807) (hn' : ts.length ≤ 9223372036854775807) (h1 : RowD w w.heap.size a cs) (h2 : RowI w w.heap.size b ts) (h3 : RowD w w.heap.size a' cs) (h4 : RowI w w.heap.size b' ts) :
    Calls Tryd.prog 13 #[.agg #[.slice a cs.length ca, .slice b ts.length cb], .agg #[.slice a' cs.length ca', .slice b' ts.length cb']] w fun e w' => Ans w (.bool true) e w' := by
  obtain ⟨v, hv⟩ : ∃ v, v = (w.alloc (Obj.cells #[Value.slice a cs.length ca, Value.slice b ts.length cb] 28)).alloc (Obj.cells #[Value.slice a' cs.length ca', Value.slice b' ts.length cb'] 28) := ⟨_, rfl⟩
  have hb0 : Below w.heap.size w v := by rw [hv]; exact ((Below.refl _ _).alloc (Nat.le_refl _) _).alloc (by simp) _
  have k0 : v.heap[w.heap.size]? = some (Obj.cells #[Value.slice a cs.length ca, Value.slice b ts.length cb] 28) := by rw [hv]; exact blk_past (blk_at _ _ _ rfl)
  have k1 : v.heap[w.heap.size + 1]? = some (Obj.cells #[Value.slice a' cs.length ca', Value.slice b' ts.length cb'] 28) := by rw [hv]; exact blk_at _ _ _ (by simp)
  have HI : Hid (Calls Tryd.prog 36 #[.slice b ts.length cb, .slice b' ts.length cb'] v fun e w' => Ans v (.bool true) e w') := sameInts_same b b' ts cb cb' v hn' ((h2.below hb0).mono hb0.size) ((h4.below hb0).mono hb0.size)
  have HV : Hid (v = (w.alloc (Obj.cells #[Value.slice a cs.length ca, Value.slice b ts.length cb] 28)).alloc (Obj.cells #[Value.slice a' cs.length ca', Value.slice b' ts.length cb'] 28)) := hv
  have HB0 : Hid (Below w.heap.size w v) := hb0
  have K0 : Hid (v.heap[w.heap.size]? = some (Obj.cells #[Value.slice a cs.length ca, Value.slice b ts.length cb] 28)) := k0
  have K1 : Hid (v.heap[w.heap.size + 1]? = some (Obj.cells #[Value.slice a' cs.length ca', Value.slice b' ts.length cb'] 28)) := k1
  have X1 : Hid (RowD w w.heap.size a cs) := h1
  have Y1 : Hid (RowD w w.heap.size a' cs) := h3
  clear h1 h2 h3 h4 hb0 k0 k1 hv
  go_enter Tryd.func13, Tryd.ntmps13
  go_wp2_with fail
  rw [← HV.out]
  refine HI.out.mono ?_
  rintro e w1 ⟨rfl, hb1⟩
  have hz := HB0.out.size
  have J0 : Hid (w1.heap[w.heap.size]? = some (Obj.cells #[Value.slice a cs.length ca, Value.slice b ts.length cb] 28)) := (hb1.block _ (Array.getElem?_eq_some_iff.1 K0.out).1).trans K0.out
  have J1 : Hid (w1.heap[w.heap.size + 1]? = some (Obj.cells #[Value.slice a' cs.length ca', Value.slice b' ts.length cb'] 28)) := (hb1.block _ (Array.getElem?_eq_some_iff.1 K1.out).1).trans K1.out
  have HB1 : Hid (Below w.heap.size w w1) := HB0.out.trans (hb1.mono hz)
  clear hb1 HI HV HB0 K0 K1
  go_wp2
  go_loopw [5] (fun o wr => ∃ (i : Nat), i ≤ cs.length ∧ o = .int .i64 i ∧ wr.heap[w.heap.size]? = some (Obj.cells #[Value.slice a cs.length ca, Value.slice b ts.length cb] 28) ∧ wr.heap[w.heap.size + 1]? = some (Obj.cells #[Value.slice a' cs.length ca', Value.slice b' ts.length cb'] 28) ∧ Below w.heap.size w wr)
    (fun o _ => cs.length - (intOf o).toNat)
  case atStart => exact ⟨0, by omega, rfl, J0.out, J1.out, HB1.out⟩
  case round =>
    clear J0 J1 HB1
    obtain ⟨i, hi, rfl, k0, k1, hb⟩ := hrel
    have K0 : Hid (wr.heap[w.heap.size]? = some (Obj.cells #[Value.slice a cs.length ca, Value.slice b ts.length cb] 28)) := k0
    have K1 : Hid (wr.heap[w.heap.size + 1]? = some (Obj.cells #[Value.slice a' cs.length ca', Value.slice b' ts.length cb'] 28)) := k1
    have z0 := cell_blk (j := 0) k0 rfl
    have z1 := cell_blk (j := 1) k0 rfl
    have z2 := cell_blk (j := 0) k1 rfl
    have z3 := cell_blk (j := 1) k1 rfl
    clear k0 k1
    by_cases hlt : i < cs.length
    · obtain ⟨d, hd⟩ : ∃ d, cs[i]? = some d := ⟨_, List.getElem?_eq_getElem hlt⟩
      obtain ⟨b1, o1, rfl, hbb, c0, c1, c2, c3, c4⟩ := (X1.out.below hb) i d hd
      obtain ⟨b2, o2, rfl, hbb', c5, c6, c7, c8, c9⟩ := (Y1.out.below hb) i d hd
      have hli : (i : Int) < (cs.length : Int) := by omega
      clear hd
      go_wp2
      go_quiet (fail)
      go_wp2
      go_roundw
      case rel => exact ⟨i + 1, by omega, by go_num, K0.out, K1.out, below_drewN hb _⟩
      case measure => simp [intOf]; omega
    · have hlt' : decide ((i : Int) < (cs.length : Int)) = false := by simp; omega
      go_wp2
      go_ret
      exact ⟨rfl, hb⟩
end Go.Proofs.YtgfkmppkeolckaaDoor
