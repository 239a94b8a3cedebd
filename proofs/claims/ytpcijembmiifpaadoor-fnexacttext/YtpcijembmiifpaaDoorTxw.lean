/- The law FnExactText walked. -/
import Derived.Test.YtpcijembmiifpaaDoorTxh
import Derived.Test.YtpcijembmiifpaaDoorSzc
import Derived.Test.YtpcijembmiifpaaDoorToc
import Derived.Test.YtpcijembmiifpaaDoorEqc
set_option linter.unusedVariables false
namespace Go.Proofs.YtpcijembmiifpaaDoor
open Go.ChangeShapes Go.WideShapes Go.ChangeAt Go.RowKit
namespace fnExactText
set_option maxRecDepth 100000 in
set_option maxHeartbeats 4000000 in
theorem walk (a : Option Addr) (ca : Nat) (cs : List Cel) (v : Val) (w : World) (hl1 : cs.length ≤ 9223372036854775807) (hwf : ∀ d ∈ cs, d.wf) (hv : v.wf) (hr : RowC w w.heap.size a cs) (h0 : 0 < w.heap.size) (htab : Tab w) :
    Calls Tryd.prog 3 #[.slice a cs.length ca, .agg #[.int .i64 v.k, .int .i64 v.n, .string v.s]] w fun e w' => Ans w (.bool true) e w' := by
  have HZ : Hid (∀ w1, Below w.heap.size w w1 → Calls Tryd.prog 4 #[.slice a cs.length ca, .int .i64 1048576] w1 fun e w' => Ans w1 (.int .i64 (leftOf 1048576 (bulkC cs))) e w') := fun w1 h => szCellS_any a cs ca 1048576 w1 (by omega) hl1 ((hr.below h).mono h.size) hwf
  have hb0 : Below w.heap.size w (w.alloc (Obj.cells #[.int .i64 v.k, .int .i64 v.n, .string v.s] 24)) := (Below.refl _ _).alloc (Nat.le_refl _) _
  by_cases hbk : 1048576 < bulkC cs
  · rw [leftOf_neg hbk] at HZ
    clear hr hwf
    go_enter Tryd.func3, Tryd.ntmps3
    go_wp2_with fail
    refine (HZ.out _ hb0).mono ?_
    rintro e w1 ⟨rfl, hb1⟩
    have hb2 := hb0.trans (hb1.mono hb0.size)
    go_wp2
    go_ret
    exact ⟨rfl, hb2⟩
  · have hln : cs.length ≤ bulkC cs := bulkOf_len _ cs
    have hbk' : bulkC cs ≤ 1048576 := by omega
    have hsm := small_of hwf hbk'
    rw [leftOf_nat hbk] at HZ
    obtain ⟨q, hq⟩ : ∃ q, q = 1048576 - bulkC cs := ⟨_, rfl⟩
    rw [← hq] at HZ
    have hq' : q ≤ 1048576 := by omega
    have HY : Hid (∀ w1, Calls Tryd.prog 5 #[.agg #[.int .i64 v.k, .int .i64 v.n, .string v.s], .int .i64 q] w1 fun e w' => Ans w1 (.int .i64 (leftOf q v.s.size)) e w') := fun w1 => szValue_any v q w1 hq' hv.2.2
    by_cases hvs : q < v.s.size
    · rw [leftOf_neg hvs] at HY
      clear hr hwf hsm
      go_enter Tryd.func3, Tryd.ntmps3
      go_wp2_with fail
      refine (HZ.out _ hb0).mono ?_
      rintro e w1 ⟨rfl, hb1⟩
      have hk1 := blk_keep (blk_alloc w (Obj.cells #[.int .i64 v.k, .int .i64 v.n, .string v.s] 24)) hb1 (by simp)
      have hb2 := hb0.trans (hb1.mono hb0.size)
      have e0 := cell_blk (j := 0) hk1 rfl
      have e1 := cell_blk (j := 1) hk1 rfl
      have e2 := cell_blk (j := 2) hk1 rfl
      clear hk1 hq hvs hbk hbk' hln
      go_wp2_with fail
      refine (HY.out _).mono ?_
      rintro e w2 ⟨rfl, hb3⟩
      go_wp2
      go_ret
      exact ⟨rfl, hb2.trans (hb3.mono hb2.size)⟩
    · have hvl : v.s.size ≤ 1048576 := by omega
      rw [leftOf_nat hvs] at HY
      generalize q - v.s.size = q2 at *
      have HTO : Hid (∀ w1, Below w.heap.size w w1 → Calls Tryd.prog 7 #[.slice a cs.length ca] w1 fun e w' => TpPost cs w1 e w') := fun w1 h => toCellS_any a cs ca w1 (by omega) ((hr.below h).mono h.size) hsm
      have HTV : Hid (∀ w1, Calls Tryd.prog 8 #[.agg #[.int .i64 v.k, .int .i64 v.n, .string v.s]] w1 fun e w' => Ans w1 (.agg #[.int .i64 v.k, .int .i64 v.n, .string v.s]) e w') := fun w1 => toValue_any v w1
      have hvsm : v.small := ⟨hv.1, hv.2.1, hvl⟩
      have HSP : Hid (∀ (a : Option Addr) (ca : Nat) (w1 : World), RowC w1 w1.heap.size a cs → Calls Tryd.prog 6 #[.slice a cs.length ca, .agg #[.int .i64 v.k, .int .i64 v.n, .string v.s]] w1 fun e w' => TxPost cs v w1 e w') := fun a ca w1 h1 => specText_any a cs ca v w1 (by omega) hsm hvsm h1
      have HIM : Hid (∀ (a : Option Addr) (w1 : World), RowC w1 w1.heap.size a cs → Below w.heap.size w w1 → Calls Tryd.prog 9 #[.slice a cs.length cs.length, .agg #[.int .i64 v.k, .int .i64 v.n, .string v.s]] w1 fun e w' => TxPost cs v w1 e w') := fun a w1 h1 hb => implText_any a cs cs.length v w1 (by omega) (Nat.le_refl _) hsm hvsm h1 (Nat.lt_of_lt_of_le h0 hb.size) (var?_below hb gPow h0 htab)
      have HEQ : Hid (∀ (a a' : Option Addr) (ca ca' : Nat) (w1 : World), RowC w1 w1.heap.size a cs → RowC w1 w1.heap.size a' cs → Calls Tryd.prog 10 #[.slice a cs.length ca, .slice a' cs.length ca'] w1 fun e w' => Ans w1 (.bool true) e w') := fun a a' ca ca' w1 h1 h2 => eqCellS_same a a' cs ca ca' w1 (by omega) hsm h1 h2
      clear hr hwf hsm hq hvs hbk hbk' hln hvl hv hvsm htab
      go_enter Tryd.func3, Tryd.ntmps3
      go_wp2_with fail
      refine (HZ.out _ hb0).mono ?_
      rintro e w1 ⟨rfl, hb1⟩
      have hk1 := blk_keep (blk_alloc w (Obj.cells #[.int .i64 v.k, .int .i64 v.n, .string v.s] 24)) hb1 (by simp)
      have hb2 := hb0.trans (hb1.mono hb0.size)
      have hs1 : w.heap.size < w1.heap.size := (Array.getElem?_eq_some_iff.1 hk1).1
      have e0 := cell_blk (j := 0) hk1 rfl
      have e1 := cell_blk (j := 1) hk1 rfl
      have e2 := cell_blk (j := 2) hk1 rfl
      have HK1 : Hid (w1.heap[w.heap.size]? = some (Obj.cells #[.int .i64 v.k, .int .i64 v.n, .string v.s] 24)) := hk1
      clear hk1
      go_wp2_with fail
      refine (HY.out _).mono ?_
      rintro e w2 ⟨rfl, hb3⟩
      have hb4 := hb2.trans (hb3.mono hb2.size)
      have HK2 : Hid (w2.heap[w.heap.size]? = some (Obj.cells #[.int .i64 v.k, .int .i64 v.n, .string v.s] 24)) := blk_keep HK1.out hb3 hs1
      have hs2 := hb3.size
      clear e0 e1 e2 hb0 hb1 hb2 hb3
      have hs2' : w.heap.size < w2.heap.size := by omega
      have e0 := cell_blk (j := 0) HK2.out rfl
      have e1 := cell_blk (j := 1) HK2.out rfl
      have e2 := cell_blk (j := 2) HK2.out rfl
      go_wp2_with fail
      go_region_with (first
        | (go_at_call 7; refine (HTO.out _ ?_).mono ?_; exact below_drewN hb4 _; rintro e w3 ⟨g3, rfl, hrd3, hb5⟩; have hk3 : w3.heap[w.heap.size]? = some (Obj.cells #[.int .i64 v.k, .int .i64 v.n, .string v.s] 24) := (hb5.block _ hs2').trans HK2.out; have y0 := cell_blk (j := 0) hk3 rfl; have y1 := cell_blk (j := 1) hk3 rfl; have y2 := cell_blk (j := 2) hk3 rfl; have HRD3 : Hid (RowC w3 w3.heap.size (some ⟨g3, 0, none⟩) cs) := hrd3; clear hrd3)
        | (go_at_call 8; refine (HTV.out _).mono ?_; rintro e w4 ⟨rfl, hb6⟩; have hrd4 := (HRD3.out.below hb6).mono hb6.size)
        | (go_at_call 6; refine (HSP.out _ _ _ hrd4).mono ?_; rintro e w5 ⟨s5, rfl, ht5, hb7⟩; have HT5 : Hid (TextIs cs v s5) := ht5; clear ht5))
      all_goals
        have hb8 : Below w.heap.size w w3 := (below_drewN hb4 _).trans (hb5.mono hb4.size)
        have hb9 : Below w.heap.size w w4 := hb8.trans (hb6.mono hb8.size)
        have hb10 : Below w.heap.size w w5 := hb9.trans (hb7.mono hb9.size)
        have hs3 : w.heap.size < w3.heap.size := (Array.getElem?_eq_some_iff.1 hk3).1
        have hs4 := hb6.size
        have hk4 : w4.heap[w.heap.size]? = some (Obj.cells #[.int .i64 v.k, .int .i64 v.n, .string v.s] 24) := blk_keep hk3 hb6 hs3
        have hk5 : w5.heap[w.heap.size]? = some (Obj.cells #[.int .i64 v.k, .int .i64 v.n, .string v.s] 24) := blk_keep hk4 hb7 (by omega)
        have hs5 : w.heap.size < w5.heap.size := (Array.getElem?_eq_some_iff.1 hk5).1
        have HK5 : Hid (w5.heap[w.heap.size]? = some (Obj.cells #[.int .i64 v.k, .int .i64 v.n, .string v.s] 24)) := hk5
        clear e0 e1 e2 y0 y1 y2 hk3 hk4 hk5 hrd4 HRD3 hb4 hb5 hb6 hb7 hb8 hb9 HK1 HK2
        go_wp2_with fail
        refine (HTO.out _ hb10).mono ?_
        rintro e w6 ⟨g6, rfl, hrd6, hb11⟩
        have hb12 := hb10.trans (hb11.mono hb10.size)
        have hk6 : w6.heap[w.heap.size]? = some (Obj.cells #[.int .i64 v.k, .int .i64 v.n, .string v.s] 24) := blk_keep HK5.out hb11 hs5
        have hs6 : w.heap.size < w6.heap.size := (Array.getElem?_eq_some_iff.1 hk6).1
        have e0 := cell_blk (j := 0) hk6 rfl
        have e1 := cell_blk (j := 1) hk6 rfl
        have e2 := cell_blk (j := 2) hk6 rfl
        have HRD6 : Hid (RowC w6 w6.heap.size (some ⟨g6, 0, none⟩) cs) := hrd6
        clear hrd6 hk6 hb10 hb11 HK5
        go_wp2_with fail
        refine (HTV.out _).mono ?_
        rintro e w7 ⟨rfl, hb13⟩
        have hb14 := hb12.trans (hb13.mono hb12.size)
        have hrd7 := (HRD6.out.below hb13).mono hb13.size
        have HRD7 : Hid (RowC w7 w7.heap.size (some ⟨g6, 0, none⟩) cs) := hrd7
        clear e0 e1 e2 hb12 hb13 HRD6 hrd7
        go_wp2_with fail
        refine (HIM.out _ _ HRD7.out hb14).mono ?_
        rintro e w8 ⟨s8, rfl, ht8, hb15⟩
        obtain rfl : s5 = s8 := HT5.out.unique ht8
        clear ht8 HT5
        have hb16 := hb14.trans (hb15.mono hb14.size)
        have HRD8 : Hid (RowC w8 w8.heap.size (some ⟨g6, 0, none⟩) cs) := (HRD7.out.below hb15).mono hb15.size
        clear hb14 hb15 HRD7
        go_wp2_with fail
        refine (HTO.out _ hb16).mono ?_
        rintro e w9 ⟨g9, rfl, hrd9, hb17⟩
        have hb18 := hb16.trans (hb17.mono hb16.size)
        have hd9 : RowC w9 w9.heap.size (some ⟨g6, 0, none⟩) cs := (HRD8.out.below hb17).mono hb17.size
        have HD9 : Hid (RowC w9 w9.heap.size (some ⟨g6, 0, none⟩) cs) := hd9
        have HE9 : Hid (RowC w9 w9.heap.size (some ⟨g9, 0, none⟩) cs) := hrd9
        clear hd9 hrd9 HRD8 hb16 hb17
        go_wp2_with fail
        refine (HEQ.out _ _ _ _ _ HD9.out HE9.out).mono ?_
        rintro e w10 ⟨rfl, hb19⟩
        have hb20 := hb18.trans (hb19.mono hb18.size)
        go_wp2
        go_ret
        exact ⟨rfl, hb20⟩
end fnExactText
end Go.Proofs.YtpcijembmiifpaaDoor
