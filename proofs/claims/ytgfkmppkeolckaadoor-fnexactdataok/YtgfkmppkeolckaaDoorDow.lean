/- The law FnExactDataOk walked: for whatever data the program's DataOk answers as the model's, and leaves its argument as it was. -/
import Derived.Test.YtgfkmppkeolckaaDoorDok
import Derived.Test.YtgfkmppkeolckaaDoorSza
import Derived.Test.YtgfkmppkeolckaaDoorEqa
set_option linter.unusedVariables false
namespace Go.Proofs.YtgfkmppkeolckaaDoor
open Go.ChangeShapes Go.WideShapes Go.ChangeAt Go.RowKit
theorem show_size {cs : List Dat} {ts : List Int} (hb : bulkD cs + ts.length ≤ 1048576) : (⟨(showR cs ts).toArray⟩ : ByteArray).size ≤ 33554432 := by
  show (showR cs ts).toArray.size ≤ 33554432
  rw [List.size_toArray]
  by_cases h : treeB cs ts = true
  · rw [showR_tree h]
    exact shAll_bound (treeB_tree h) hb
  · rw [showR_not (by simpa using h)]
    simp
namespace fnExactDataOk
set_option maxRecDepth 100000 in
set_option maxHeartbeats 4000000 in
theorem walk (a b : Option Addr) (ca cb : Nat) (cs : List Dat) (ts : List Int) (w : World) (hl1 : cs.length ≤ 9223372036854775807) (hl2 : ts.length ≤ 9223372036854775807) (hwf : ∀ d ∈ cs, d.wf) (hr : RowD w w.heap.size a cs) (hi : RowI w w.heap.size b ts) (h0 : 0 < w.heap.size) (htab : Lib.TabIs Tryd.prog w "internal/strconv.uint64pow10" .u64 Lib.pow10Tab) :
    Calls Tryd.prog 5 #[.agg #[.slice a cs.length ca, .slice b ts.length cb]] w fun e w' => Ans w (.bool true) e w' := by
  have HZ : Hid (∀ w1, Below w.heap.size w w1 → Calls Tryd.prog 15 #[.agg #[.slice a cs.length ca, .slice b ts.length cb], .int .i64 1048576] w1 fun e w' => Ans w1 (.int .i64 (leftOf 1048576 (bulkD cs + ts.length))) e w') := fun w1 h => szData_any a b cs ca cb ts.length 1048576 w1 (by omega) hl1 hl2 ((hr.below h).mono h.size) hwf
  have hb0 : Below w.heap.size w (w.alloc (Obj.cells #[Value.slice a cs.length ca, Value.slice b ts.length cb] 37)) := (Below.refl _ _).alloc (Nat.le_refl _) _
  by_cases hbk : 1048576 < bulkD cs + ts.length
  · rw [show leftOf 1048576 (bulkD cs + ts.length) = -1 from if_pos hbk] at HZ
    clear hr hi hwf htab
    go_enter Tryd.func5, Tryd.ntmps5
    go_wp2_with fail
    refine (HZ.out _ hb0).mono ?_
    rintro e w1 ⟨rfl, hb1⟩
    have hb2 := hb0.trans (hb1.mono hb0.size)
    go_wp2
    go_ret
    exact ⟨rfl, hb2⟩
  · have hln := bulkD_len cs
    have hbk' : bulkD cs + ts.length ≤ 1048576 := by omega
    obtain ⟨q, hq⟩ : ∃ q : Nat, leftOf 1048576 (bulkD cs + ts.length) = (q : Int) := ⟨1048576 - (bulkD cs + ts.length), by rw [show leftOf 1048576 (bulkD cs + ts.length) = ((1048576 : Nat) : Int) - ((bulkD cs + ts.length : Nat) : Int) from if_neg hbk]; omega⟩
    rw [hq] at HZ
    have HTO : Hid (∀ w1, Below w.heap.size w w1 → Calls Tryd.prog 17 #[.agg #[.slice a cs.length ca, .slice b ts.length cb]] w1 fun e w' => ∃ v, e = .returned v ∧ Copy w' w1.heap.size v cs ts ∧ Below w1.heap.size w1 w') := fun w1 h => toData_any a b cs ts ca cb w1 (by omega) (by omega) ((hr.below h).mono h.size) ((hi.below h).mono h.size)
    obtain ⟨cs', ts', p, hps, hm', hrs, hri⟩ := reads ⟨(showR cs ts).toArray⟩ (show_size hbk')
    obtain ⟨rr, hrr⟩ : ∃ rr, rr = (decide (p < 0) && (decide (cs' = cs) && decide (ts' = ts))) := ⟨_, rfl⟩
    have hr1 : p < 0 → rr = (decide (cs' = cs) && decide (ts' = ts)) := fun h => by rw [hrr, decide_eq_true h, Bool.true_and]
    have hr2 : 0 ≤ p → rr = false := fun h => by rw [hrr, decide_eq_false (by omega), Bool.false_and]
    have HSP : Hid (∀ (a b : Option Addr) (ca cb : Nat) (w1 : World), RowD w1 w1.heap.size a cs → RowI w1 w1.heap.size b ts → Calls Tryd.prog 14 #[.agg #[.slice a cs.length ca, .slice b ts.length cb]] w1 fun e w' => Ans w1 (.bool rr) e w') := fun a b ca cb w1 h1 h2 => specDok a b ca cb cs cs' ts ts' p _ w1 hm' h1 h2 (fun w2 h => specShow_any a b ca cb cs ts w2 hbk' hwf ((h1.below h).mono h.size) ((h2.below h).mono h.size)) hrs rr hr1 hr2
    have HIM : Hid (∀ (a b : Option Addr) (ca cb : Nat) (w1 : World), RowD w1 w1.heap.size a cs → RowI w1 w1.heap.size b ts → Below w.heap.size w w1 → Calls Tryd.prog 12 #[.agg #[.slice a cs.length ca, .slice b ts.length cb]] w1 fun e w' => Ans w1 (.bool rr) e w') := fun a b ca cb w1 h1 h2 hb => implDok a b ca cb cs cs' ts ts' p _ w1 hm' h1 h2 (fun w2 h => implShow_any a b ca cb cs ts w2 hbk' hwf ((h1.below h).mono h.size) ((h2.below h).mono h.size) (by have := hb.size; have := h.size; omega) (var?_below (hb.trans (h.mono hb.size)) gPow h0 htab)) hri rr (fun h => hr1 (by omega)) hps hr2
    have HEQ : Hid (∀ (a b a' b' : Option Addr) (ca cb ca' cb' : Nat) (w1 : World), RowD w1 w1.heap.size a cs → RowI w1 w1.heap.size b ts → RowD w1 w1.heap.size a' cs → RowI w1 w1.heap.size b' ts → Calls Tryd.prog 18 #[.agg #[.slice a cs.length ca, .slice b ts.length cb], .agg #[.slice a' cs.length ca', .slice b' ts.length cb']] w1 fun e w' => Ans w1 (.bool true) e w') := fun a b a' b' ca cb ca' cb' w1 h1 h2 h3 h4 => eqData_same a b a' b' cs ts ca cb ca' cb' w1 hl1 hl2 h1 h2 h3 h4
    clear hr hi hwf htab hbk hbk' hq hps hm' hrs hri hrr hr1 hr2
    go_enter Tryd.func5, Tryd.ntmps5
    go_wp2_with fail
    refine (HZ.out _ hb0).mono ?_
    rintro e w1 ⟨rfl, hb1⟩
    have hk1 := blk_keep (blk_alloc w (Obj.cells #[Value.slice a cs.length ca, Value.slice b ts.length cb] 37)) hb1 (by simp)
    have hb2 := hb0.trans (hb1.mono hb0.size)
    have e0 := cell_blk (j := 0) hk1 rfl
    have e1 := cell_blk (j := 1) hk1 rfl
    have HK1 : Hid _ := hk1
    have hs1 : w.heap.size < w1.heap.size := (Array.getElem?_eq_some_iff.1 hk1).1
    clear hb0 hb1 hk1
    go_wp2_with fail
    refine (HTO.out _ hb2).mono ?_
    rintro e w2 ⟨v2, rfl, ⟨g2, h2, rfl, hg2, hh2, hrd2, hri2⟩, hb3⟩
    have hb4 := hb2.trans (hb3.mono hb2.size)
    have hk2 := blk_keep HK1.out hb3 hs1
    have HK2 : Hid _ := hk2
    have f0 := cell_blk (j := 0) hk2 rfl
    have f1 := cell_blk (j := 1) hk2 rfl
    clear e0 e1 hk2
    go_wp2_with fail
    refine (HSP.out _ _ _ _ _ hrd2 hri2).mono ?_
    clear hrd2 hri2 hg2 hh2
    rintro e w3 ⟨rfl, hb5⟩
    have hb6 := hb4.trans (hb5.mono hb4.size)
    have hs2 := hb3.size
    have hk3 := blk_keep HK2.out hb5 (by omega)
    have HK3 : Hid _ := hk3
    have e0 := cell_blk (j := 0) hk3 rfl
    have e1 := cell_blk (j := 1) hk3 rfl
    clear f0 f1 hk3 hb3 hb5 hb2 hb4
    go_wp2_with fail
    refine (HTO.out _ hb6).mono ?_
    rintro e w4 ⟨v4, rfl, ⟨g4, h4, rfl, hg4, hh4, hrd4, hri4⟩, hb7⟩
    have hb8 := hb6.trans (hb7.mono hb6.size)
    have hs4 := hb7.size
    have hs3 : w.heap.size < w3.heap.size := (Array.getElem?_eq_some_iff.1 HK3.out).1
    have HK4 : Hid _ := blk_keep HK3.out hb7 hs3
    have HRD : Hid (RowD w4 w4.heap.size (some ⟨g4, 0, none⟩) cs) := hrd4
    have HRI : Hid (RowI w4 w4.heap.size (some ⟨h4, 0, none⟩) ts) := hri4
    clear e0 e1 hb6 hb7 hrd4 hri4 hg4 hh4 HK3 HK2 HK1
    go_wp2_with fail
    have hb9 : Below w4.heap.size w4 (w4.alloc (Obj.cells #[Value.slice (some ⟨g4, 0, none⟩) cs.length cs.length, Value.slice (some ⟨h4, 0, none⟩) ts.length ts.length] 28)) := (Below.refl _ _).alloc (Nat.le_refl _) _
    have hb10 := hb8.trans (hb9.mono hb8.size)
    refine (HIM.out _ _ _ _ _ ((HRD.out.below hb9).mono hb9.size) ((HRI.out.below hb9).mono hb9.size) hb10).mono ?_
    rintro e w5 ⟨rfl, hb11⟩
    have hb12 : Below w4.heap.size w4 w5 := hb9.trans (hb11.mono hb9.size)
    have hb13 := hb10.trans (hb11.mono hb10.size)
    have hk5 := blk_keep HK4.out hb12 (by omega)
    have hx5 := blk_keep (blk_alloc w4 (Obj.cells #[Value.slice (some ⟨g4, 0, none⟩) cs.length cs.length, Value.slice (some ⟨h4, 0, none⟩) ts.length ts.length] 28)) hb11 (by simp)
    have HD5 : Hid (RowD w5 w5.heap.size (some ⟨g4, 0, none⟩) cs) := (HRD.out.below hb12).mono hb12.size
    have HI5 : Hid (RowI w5 w5.heap.size (some ⟨h4, 0, none⟩) ts) := (HRI.out.below hb12).mono hb12.size
    have e0 := cell_blk (j := 0) hk5 rfl
    have e1 := cell_blk (j := 1) hk5 rfl
    have x0 := cell_blk (j := 0) hx5 rfl
    have x1 := cell_blk (j := 1) hx5 rfl
    have HX5 : Hid _ := hx5
    have hs5 : w4.heap.size < w5.heap.size := (Array.getElem?_eq_some_iff.1 hx5).1
    clear hb8 hb9 hb10 hb11 hb12 hk5 hx5 HRD HRI HK4
    go_wp2_with fail
    go_region_with (first
      | (go_at_call 17; refine (HTO.out _ ?_).mono ?_; exact below_drewN hb13 _; rintro e w6 ⟨v6, rfl, ⟨g6, h6, rfl, hg6, hh6, hrd6, hri6⟩, hb14⟩; have hx6 : w6.heap[w4.heap.size]? = some (Obj.cells #[Value.slice (some ⟨g4, 0, none⟩) cs.length cs.length, Value.slice (some ⟨h4, 0, none⟩) ts.length ts.length] 28) := (hb14.block _ hs5).trans HX5.out; have y0 := cell_blk (j := 0) hx6 rfl; have y1 := cell_blk (j := 1) hx6 rfl)
      | (go_at_call 18; refine (HEQ.out _ _ _ _ _ _ _ _ _ ?_ ?_ ?_ ?_).mono ?_; exact (RowD.mono (HD5.out.keep fun b hb => hb14.block b hb) hb14.size); exact (RowI.mono (HI5.out.keep fun b hb => hb14.block b hb) hb14.size); exact hrd6; exact hri6; rintro e w7 ⟨rfl, hb15⟩))
    all_goals
      have hb16 : Below w.heap.size w w7 := ((below_drewN hb13 _).trans (hb14.mono hb13.size)).trans (hb15.mono (Nat.le_trans hb13.size hb14.size))
      go_wp2
      go_ret
      exact ⟨rfl, hb16⟩
end fnExactDataOk
end Go.Proofs.YtgfkmppkeolckaaDoor
