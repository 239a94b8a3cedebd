/- The law FnExactProgOk walked: for whatever program the program's ProgOk and the model's say the same, and its argument stays as it was. -/
import Derived.Test.YtfjjnngaeccdjaaPsj
import Derived.Test.YtfjjnngaeccdjaaSzp
import Derived.Test.YtfjjnngaeccdjaaToq
import Derived.Test.YtfjjnngaeccdjaaEqn
set_option linter.unusedVariables false
namespace Go.Proofs.Ytfjjnngaeccdjaa
open Go.ChangeShapes Go.WideShapes Go.ChangeAt Go.RowKit
namespace fnExactProgOk
set_option maxRecDepth 100000 in
set_option maxHeartbeats 4000000 in
theorem walk (a : Option Addr) (ca : Nat) (cs : List Nod) (root : Int) (w : World) (hl1 : cs.length ≤ 9223372036854775807) (hwf : ∀ d ∈ cs, d.wf) (hr : RowN w w.heap.size a cs) :
    Calls Try.prog 3 #[.agg #[.slice a cs.length ca, .int .i64 root]] w fun e w' => Ans w (.bool true) e w' := by
  have HZ : Hid (∀ w1, Below w.heap.size w w1 → Calls Try.prog 6 #[.agg #[.slice a cs.length ca, .int .i64 root], .int .i64 1048576] w1 fun e w' => Ans w1 (.int .i64 (leftOf 1048576 (bulkN cs))) e w') := fun w1 h => szProg_any a cs ca root 1048576 w1 (by omega) hl1 ((hr.below h).mono h.size) hwf
  have hb0 : Below w.heap.size w (w.alloc (Obj.cells #[.slice a cs.length ca, .int .i64 root] 24)) := (Below.refl _ _).alloc (Nat.le_refl _) _
  by_cases hbk : 1048576 < bulkN cs
  · rw [leftOf_neg hbk] at HZ
    clear hr hwf
    go_enter Try.func3, Try.ntmps3
    go_wp2_with fail
    refine (HZ.out _ hb0).mono ?_
    rintro e w1 ⟨rfl, hb1⟩
    have hb2 := hb0.trans (hb1.mono hb0.size)
    go_wp2
    go_ret
    exact ⟨rfl, hb2⟩
  · have hln := bulkN_len cs
    have hbk' : bulkN cs ≤ 1048576 := by omega
    have hsm := small_of hwf hbk'
    have hfl : (flat cs).length ≤ 1048576 := Nat.le_trans (bulkN_flat cs) hbk'
    rw [leftOf_nat hbk] at HZ
    generalize 1048576 - bulkN cs = q at *
    have HTO : Hid (∀ w1, Below w.heap.size w w1 → Calls Try.prog 8 #[.agg #[.slice a cs.length ca, .int .i64 root]] w1 fun e w' => TpPost cs root w1 e w') := fun w1 h => toProg_any a cs ca root w1 (by omega) ((hr.below h).mono h.size) hsm
    have HSP : Hid (∀ (a : Option Addr) (ca : Nat) (w1 : World), RowN w1 w1.heap.size a cs → Calls Try.prog 7 #[.agg #[.slice a cs.length ca, .int .i64 root]] w1 fun e w' => OkPost cs root w1 e w') := fun a ca w1 h1 => specOk_any a cs ca root w1 (by omega) hfl h1 hsm
    have HIM : Hid (∀ (a : Option Addr) (ca : Nat) (w1 : World), RowN w1 w1.heap.size a cs → Calls Try.prog 9 #[.agg #[.slice a cs.length ca, .int .i64 root]] w1 fun e w' => OkPost cs root w1 e w') := fun a ca w1 h1 => implOk_any a cs ca root w1 (by omega) h1 hsm
    have HEQ : Hid (∀ (a a' : Option Addr) (ca ca' : Nat) (w1 : World), RowN w1 w1.heap.size a cs → RowN w1 w1.heap.size a' cs → Calls Try.prog 10 #[.agg #[.slice a cs.length ca, .int .i64 root], .agg #[.slice a' cs.length ca', .int .i64 root]] w1 fun e w' => Ans w1 (.bool true) e w') := fun a a' ca ca' w1 h1 h2 => eqProg_same a a' cs ca ca' root w1 (by omega) hsm h1 h2
    clear hr hwf hbk hbk' hsm hfl hln
    go_enter Try.func3, Try.ntmps3
    go_wp2_with fail
    refine (HZ.out _ hb0).mono ?_
    rintro e w1 ⟨rfl, hb1⟩
    have hk1 := blk_keep (blk_alloc w (Obj.cells #[.slice a cs.length ca, .int .i64 root] 24)) hb1 (by simp)
    have hb2 := hb0.trans (hb1.mono hb0.size)
    have e0 := cell_blk (j := 0) hk1 rfl
    have e1 := cell_blk (j := 1) hk1 rfl
    have HK1 : Hid (w1.heap[w.heap.size]? = some (Obj.cells #[.slice a cs.length ca, .int .i64 root] 24)) := hk1
    have hs1 : w.heap.size < w1.heap.size := (Array.getElem?_eq_some_iff.1 hk1).1
    clear hb0 hb1 hk1
    go_wp2_with fail
    refine (HTO.out _ hb2).mono ?_
    rintro e w2 ⟨g2, rfl, hrd2, hb3⟩
    have hb4 := hb2.trans (hb3.mono hb2.size)
    have HK2 : Hid (w2.heap[w.heap.size]? = some (Obj.cells #[.slice a cs.length ca, .int .i64 root] 24)) := blk_keep HK1.out hb3 hs1
    clear e0 e1
    go_wp2_with fail
    refine (HSP.out _ _ _ hrd2).mono ?_
    clear hrd2
    rintro e w3 ⟨b3, rfl, hq3, hb5⟩
    have HQ3 : Hid (b3 = true ↔ OkP cs root) := hq3
    have hb6 := hb4.trans (hb5.mono hb4.size)
    have hs2 := hb3.size
    have hk3 := blk_keep HK2.out hb5 (by omega)
    have HK3 : Hid (w3.heap[w.heap.size]? = some (Obj.cells #[.slice a cs.length ca, .int .i64 root] 24)) := hk3
    have e0 := cell_blk (j := 0) hk3 rfl
    have e1 := cell_blk (j := 1) hk3 rfl
    clear hk3 hb3 hb5 hb2 hb4 hq3
    go_wp2_with fail
    refine (HTO.out _ hb6).mono ?_
    rintro e w4 ⟨g4, rfl, hrd4, hb7⟩
    have hb8 := hb6.trans (hb7.mono hb6.size)
    have hs4 := hb7.size
    have hs3 : w.heap.size < w3.heap.size := (Array.getElem?_eq_some_iff.1 HK3.out).1
    have HK4 : Hid (w4.heap[w.heap.size]? = some (Obj.cells #[.slice a cs.length ca, .int .i64 root] 24)) := blk_keep HK3.out hb7 hs3
    have HRD : Hid (RowN w4 w4.heap.size (some ⟨g4, 0, none⟩) cs) := hrd4
    clear e0 e1 hb6 hb7 hrd4 HK3 HK2 HK1
    go_wp2_with fail
    have hb9 : Below w4.heap.size w4 (w4.alloc (Obj.cells #[.slice (some ⟨g4, 0, none⟩) cs.length cs.length, .int .i64 root] 29)) := (Below.refl _ _).alloc (Nat.le_refl _) _
    have hb10 := hb8.trans (hb9.mono hb8.size)
    refine (HIM.out _ _ _ ((HRD.out.below hb9).mono hb9.size)).mono ?_
    rintro e w5 ⟨b5, rfl, hq5, hb11⟩
    obtain rfl : b5 = b3 := by
      have h3 := HQ3.out
      cases b5 <;> cases b3
      · rfl
      · exact absurd (hq5.2 (h3.1 rfl)) (by simp)
      · exact absurd (h3.2 (hq5.1 rfl)) (by simp)
      · rfl
    have hb12 : Below w4.heap.size w4 w5 := hb9.trans (hb11.mono hb9.size)
    have hb13 := hb10.trans (hb11.mono hb10.size)
    have hk5 := blk_keep HK4.out hb12 (by omega)
    have hx5 := blk_keep (blk_alloc w4 (Obj.cells #[.slice (some ⟨g4, 0, none⟩) cs.length cs.length, .int .i64 root] 29)) hb11 (by simp)
    have HD5 : Hid (RowN w5 w4.heap.size (some ⟨g4, 0, none⟩) cs) := HRD.out.below hb12
    have e0 := cell_blk (j := 0) hk5 rfl
    have e1 := cell_blk (j := 1) hk5 rfl
    have x0 := cell_blk (j := 0) hx5 rfl
    have x1 := cell_blk (j := 1) hx5 rfl
    have HX5 : Hid (w5.heap[w4.heap.size]? = some (Obj.cells #[.slice (some ⟨g4, 0, none⟩) cs.length cs.length, .int .i64 root] 29)) := hx5
    have hs5 : w4.heap.size < w5.heap.size := (Array.getElem?_eq_some_iff.1 hx5).1
    clear hb8 hb9 hb10 hb11 hb12 hk5 hx5 HRD HK4 hq5 HQ3
    go_wp2_with fail
    go_region_with (first
      | (go_at_call 8; refine (HTO.out _ ?_).mono ?_; exact below_drewN hb13 _; rintro e w6 ⟨g6, rfl, hrd6, hb14⟩; have hx6 : w6.heap[w4.heap.size]? = some (Obj.cells #[.slice (some ⟨g4, 0, none⟩) cs.length cs.length, .int .i64 root] 29) := (hb14.block _ hs5).trans HX5.out; have y0 := cell_blk (j := 0) hx6 rfl; have y1 := cell_blk (j := 1) hx6 rfl; have hd6 : RowN w6 w6.heap.size (some ⟨g4, 0, none⟩) cs := (HD5.out.below ((below_drewN (Below.refl w4.heap.size w5) 1).trans (hb14.mono (Nat.le_of_lt hs5)))).mono (Nat.le_trans (Nat.le_of_lt hs5) hb14.size))
      | (go_at_call 10; refine (HEQ.out _ _ _ _ _ ?_ ?_).mono ?_; exact hd6; exact hrd6; rintro e w7 ⟨rfl, hb15⟩))
    all_goals
      have hb16 : Below w.heap.size w w7 := ((below_drewN hb13 _).trans (hb14.mono hb13.size)).trans (hb15.mono (Nat.le_trans hb13.size hb14.size))
      go_wp2
      go_ret
      exact ⟨rfl, hb16⟩
end fnExactProgOk
end Go.Proofs.Ytfjjnngaeccdjaa
