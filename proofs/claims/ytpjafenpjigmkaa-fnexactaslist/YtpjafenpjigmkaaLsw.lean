/- The law's walk over AsList. -/
import Derived.Test.YtpjafenpjigmkaaLsa
import Derived.Test.YtpjafenpjigmkaaTox
import Derived.Test.YtpjafenpjigmkaaSzc
import Derived.Test.YtpjafenpjigmkaaEqc
set_option linter.unusedVariables false
namespace Go.Proofs.Ytpjafenpjigmkaa
open Go.ChangeShapes Go.WideShapes Go.ChangeAt Go.RowKit
theorem wtH_bulk : ∀ h : List Cel, wtH h ≤ 4 * bulkC h
  | [] => by simp [wtH, bulkC, bulkOf]
  | c :: r => by
    have ih := wtH_bulk r
    have h1 := bulkOf_len ByteArray.size c.names
    have h2 := bulkOf_len (fun v : Val => v.s.size) c.vals
    simp only [wtH, bulkC, bulkOf, List.map_cons, List.sum_cons, wtC, Cel.bulk, bulkS, bulkV] at *
    omega
theorem OwnV.rowV {w : World} {B n cap : Nat} {a : Option Addr} {l : List Val} (h : OwnV w B (.slice a n cap) l) : RowV w w.heap.size a l := h.row.keep fun b hb => ⟨(h.blk hb).2.1, rfl⟩
theorem OwnV.below {w w' : World} {B : Nat} {v : Value} {l : List Val} (h : OwnV w B v l) (hb : Below w.heap.size w w') : OwnV w' B v l := h.keep fun b hv => hb.block b (h.blk hv).2.1
namespace fnExactAsList
set_option maxRecDepth 100000 in
set_option maxHeartbeats 8000000 in
theorem walk (a : Option Addr) (ca : Nat) (cs : List Cel) (v : Val) (w : World) (hl1 : cs.length ≤ 9223372036854775807) (hwf : ∀ d ∈ cs, d.wf) (hv : v.wf) (hr : RowC w w.heap.size a cs) :
    Calls Try.prog 3 #[.slice a cs.length ca, .agg #[.int .i64 v.k, .int .i64 v.n, .string v.s]] w fun e w' => Ans w (.bool true) e w' := by
  have HZ : Hid (∀ w1, Below w.heap.size w w1 → Calls Try.prog 4 #[.slice a cs.length ca, .int .i64 1048576] w1 fun e w' => Ans w1 (.int .i64 (leftOf 1048576 (bulkC cs))) e w') := fun w1 h => szCellS_any a cs ca 1048576 w1 (by omega) hl1 ((hr.below h).mono h.size) hwf
  have hb0 : Below w.heap.size w (w.alloc (Obj.cells #[.int .i64 v.k, .int .i64 v.n, .string v.s] 24)) := (Below.refl _ _).alloc (Nat.le_refl _) _
  by_cases hbk : 1048576 < bulkC cs
  · rw [leftOf_neg hbk] at HZ
    clear hr hwf
    go_enter Try.func3, Try.ntmps3
    go_wp2_with fail
    refine (HZ.out _ hb0).mono ?_
    rintro e w1 ⟨rfl, hb1⟩
    have hb2 := hb0.trans (hb1.mono hb0.size)
    go_wp2
    go_ret
    exact ⟨rfl, hb2⟩
  have hln : cs.length ≤ bulkC cs := bulkOf_len _ cs
  have hbk' : bulkC cs ≤ 1048576 := by omega
  have hsm := small_of hwf hbk'
  have hwt : wtH cs ≤ 4194304 := by have := wtH_bulk cs; omega
  rw [leftOf_nat hbk] at HZ
  obtain ⟨q, hq⟩ : ∃ q, q = 1048576 - bulkC cs := ⟨_, rfl⟩
  rw [← hq] at HZ
  have hq' : q ≤ 1048576 := by omega
  have HY : Hid (∀ w1, Calls Try.prog 5 #[.agg #[.int .i64 v.k, .int .i64 v.n, .string v.s], .int .i64 q] w1 fun e w' => Ans w1 (.int .i64 (leftOf q v.s.size)) e w') := fun w1 => szValue_any v q w1 hq' hv.2.2
  by_cases hvs : q < v.s.size
  · rw [leftOf_neg hvs] at HY
    clear hr hwf hsm
    go_enter Try.func3, Try.ntmps3
    go_wp2_with fail
    refine (HZ.out _ hb0).mono ?_
    rintro e w1 ⟨rfl, hb1⟩
    have hk1 := blk_keep (blk_alloc w (Obj.cells #[.int .i64 v.k, .int .i64 v.n, .string v.s] 24)) hb1 (by simp)
    have hb2 := hb0.trans (hb1.mono hb0.size)
    have e0 := cell_blk (j := 0) hk1 rfl
    have e1 := cell_blk (j := 1) hk1 rfl
    have e2 := cell_blk (j := 2) hk1 rfl
    clear hk1 hq hvs hbk hbk' hln
    go_wp2_with fail
    refine (HY.out _).mono ?_
    rintro e w2 ⟨rfl, hb3⟩
    go_wp2
    go_ret
    exact ⟨rfl, hb2.trans (hb3.mono hb2.size)⟩
  have hvl : v.s.size ≤ 1048576 := by omega
  rw [leftOf_nat hvs] at HY
  generalize q - v.s.size = q2 at *
  obtain ⟨L, bz, hR, hLl, hLs⟩ := asR_any cs v hsm
  have hcl : cs.length ≤ 1048576 := by omega
  have HTO : Hid (∀ w1, Below w.heap.size w w1 → Calls Try.prog 7 #[.slice a cs.length ca] w1 fun e w' => TpPostO cs w1 e w') := fun w1 h => toCellS_o a cs ca w1 hcl ((hr.below h).mono h.size) hsm
  have HTV : Hid (∀ w1, Calls Try.prog 8 #[.agg #[.int .i64 v.k, .int .i64 v.n, .string v.s]] w1 fun e w' => Ans w1 (.agg #[.int .i64 v.k, .int .i64 v.n, .string v.s]) e w') := fun w1 => toValue_any v w1
  have HSP : Hid (∀ (xa : Option Addr) (w1 : World), RowC w1 w1.heap.size xa cs → Calls Try.prog 6 #[.slice xa cs.length cs.length, .agg #[.int .i64 v.k, .int .i64 v.n, .string v.s]] w1 fun e w' => LsPost L bz w1 e w') := fun xa w1 h1 => specList_any v xa cs cs.length L bz w1 hcl hsm hvl hR hLl h1
  have HIM : Hid (∀ (xa : Option Addr) (w1 : World), RowC w1 w1.heap.size xa cs → Calls Try.prog 9 #[.slice xa cs.length cs.length, .agg #[.int .i64 v.k, .int .i64 v.n, .string v.s]] w1 fun e w' => LsPost L bz w1 e w') := fun xa w1 h1 => implList_any v xa cs cs.length L bz w1 hcl (Nat.le_refl _) hsm hvl hR hLl hLs h1
  obtain ⟨R, hRd⟩ : ∃ R, R = (if bz = true then L else []) := ⟨_, rfl⟩
  have hRl : R.length ≤ 300 := by rw [hRd]; split <;> simp [hLl]
  have HSP' : Hid (∀ (xa : Option Addr) (w1 : World), RowC w1 w1.heap.size xa cs → Calls Try.prog 6 #[.slice xa cs.length cs.length, .agg #[.int .i64 v.k, .int .i64 v.n, .string v.s]] w1 fun e w' => AsP R bz w1 e w') := by rw [hRd]; exact HSP.out
  have HIM' : Hid (∀ (xa : Option Addr) (w1 : World), RowC w1 w1.heap.size xa cs → Calls Try.prog 9 #[.slice xa cs.length cs.length, .agg #[.int .i64 v.k, .int .i64 v.n, .string v.s]] w1 fun e w' => AsP R bz w1 e w') := by rw [hRd]; exact HIM.out
  clear HSP HIM hRd hLl hLs hR
  have HE : Hid (∀ (xa ya : Option Addr) (cx cy : Nat) (w1 : World), RowV w1 w1.heap.size xa R → RowV w1 w1.heap.size ya R → Calls Try.prog 10 #[.slice xa R.length cx, .slice ya R.length cy] w1 fun e w' => Ans w1 (.bool true) e w') := fun xa ya cx cy w1 h1 h2 => eqValueS_same xa ya R cx cy w1 (by omega) h1 h2
  have HEC : Hid (∀ (xa ya : Option Addr) (cx cy : Nat) (w1 : World), RowC w1 w1.heap.size xa cs → RowC w1 w1.heap.size ya cs → Calls Try.prog 11 #[.slice xa cs.length cx, .slice ya cs.length cy] w1 fun e w' => Ans w1 (.bool true) e w') := fun xa ya cx cy w1 h1 h2 => eqCellS_same xa ya cs cx cy w1 hcl hsm h1 h2
  have HM0 : Hid (∀ (B T : Nat) (xa : Option Addr) (cap : Nat) (W : World), OwnH W B T (.slice xa cs.length cap) cs → T ≤ W.heap.size → Calls Try.prog 12 #[.slice xa cs.length cap, .int .i64 1] W fun e w' => e = .returned (.int .i64 ((1 + wtH cs : Nat) : Int)) ∧ OwnH w' B T (.slice xa cs.length cap) (marksH 1 cs) ∧ Only B T W w') := fun B T xa cap W h1 h2 => markCellS_o B T xa cs cap 1 W h1 h2 (by omega) (by omega)
  have HMG : Hid (∀ (B : Nat) (xa : Option Addr) (cap : Nat) (W : World), OwnV W B (.slice xa R.length cap) R → Calls Try.prog 13 #[.slice xa R.length cap, .int .i64 1] W fun e w' => e = .returned (.int .i64 ((1 + R.length * 3 : Nat) : Int)) ∧ OwnV w' B (.slice xa R.length cap) (marksV 1 R.length) ∧ W.grownBy w' (Value.slice xa R.length cap).ownBlock) := fun B xa cap W h1 => markValueS_o B xa R cap 1 W h1 (by omega) (by omega)
  have HHG : Hid (∀ (xa : Option Addr) (cap : Nat) (W : World), RowV W W.heap.size xa (marksV 1 R.length) → Calls Try.prog 14 #[.slice xa R.length cap, .int .i64 1] W fun e w' => Ans W (.int .i64 ((1 + R.length * 3 : Nat) : Int)) e w') := fun xa cap W h1 => heldValueS_o xa R.length cap 1 W (by omega) (by omega) h1
  have hbb : (bz != bz) = false := by simp
  have hk1 : decide (((1 + wtH cs : Nat) : Int) < 0) = false := by simp; omega
  have hk2 : decide (((1 + R.length * 3 : Nat) : Int) < 0) = false := by simp; omega
  have hk3 : (((1 + R.length * 3 : Nat) : Int) != ((1 + R.length * 3 : Nat) : Int)) = false := by simp
  have hRM : (marksV 1 R.length).length = R.length := marksV_len _ _
  generalize 1 + wtH cs = K1 at *
  generalize 1 + R.length * 3 = M1 at *
  generalize marksV 1 R.length = RM at *
  generalize marksH 1 cs = CM at *
  clear hr hwf hsm hq hvs hbk hbk' hln hvl hv hwt hcl hq' hRl hl1
  go_enter Try.func3, Try.ntmps3
  go_wp2_with fail
  refine (HZ.out _ hb0).mono ?_
  rintro e w1 ⟨rfl, hb1⟩
  have hk1' := blk_keep (blk_alloc w (Obj.cells #[.int .i64 v.k, .int .i64 v.n, .string v.s] 24)) hb1 (by simp)
  have hb2 := hb0.trans (hb1.mono hb0.size)
  have hs1 : w.heap.size < w1.heap.size := (Array.getElem?_eq_some_iff.1 hk1').1
  have e0 := cell_blk (j := 0) hk1' rfl
  have e1 := cell_blk (j := 1) hk1' rfl
  have e2 := cell_blk (j := 2) hk1' rfl
  have HK1 : Hid (w1.heap[w.heap.size]? = some (Obj.cells #[.int .i64 v.k, .int .i64 v.n, .string v.s] 24)) := hk1'
  clear hk1'
  go_wp2_with fail
  refine (HY.out _).mono ?_
  rintro e w2 ⟨rfl, hb3⟩
  have hb4 := hb2.trans (hb3.mono hb2.size)
  have HK2 : Hid (w2.heap[w.heap.size]? = some (Obj.cells #[.int .i64 v.k, .int .i64 v.n, .string v.s] 24)) := blk_keep HK1.out hb3 hs1
  have hs2 := hb3.size
  clear e0 e1 e2 hb0 hb1 hb2 hb3 HZ HY
  have hs2' : w.heap.size < w2.heap.size := by omega
  have e0 := cell_blk (j := 0) HK2.out rfl
  have e1 := cell_blk (j := 1) HK2.out rfl
  have e2 := cell_blk (j := 2) HK2.out rfl
  have HB4 : Hid (Below w.heap.size w w2) := hb4
  clear hb4 HK1 hs1 hs2
  go_wp2_with fail
  go_region_with (first
    | (go_at_call 7; refine (HTO.out _ ?_).mono ?_; exact below_drewN HB4.out _; rintro e w3 ⟨gw3, rfl, hgw3, hxw3, hbw3⟩; have hk3 : w3.heap[w.heap.size]? = some (Obj.cells #[.int .i64 v.k, .int .i64 v.n, .string v.s] 24) := (hbw3.block _ hs2').trans HK2.out; have y0 := cell_blk (j := 0) hk3 rfl; have y1 := cell_blk (j := 1) hk3 rfl; have y2 := cell_blk (j := 2) hk3 rfl; have HRD3 : Hid (RowC w3 w3.heap.size (some ⟨gw3, 0, none⟩) cs) := hxw3.row; clear hxw3 hgw3)
    | (go_at_call 8; refine (HTV.out _).mono ?_; rintro e w4 ⟨rfl, hbw4⟩; have hrd4 := (HRD3.out.below hbw4).mono hbw4.size)
    | (go_at_call 6; refine (HSP'.out _ _ hrd4).mono ?_; rintro e w5 ⟨r5, rfl, how5, hbw5⟩; obtain ⟨va5, vc5, rfl, hvcw5⟩ := how5.slice))
  all_goals
    have hsa : w2.heap.size ≤ w3.heap.size := hbw3.size
    have hsb : w3.heap.size ≤ w4.heap.size := hbw4.size
    have hsc : w4.heap.size ≤ w5.heap.size := hbw5.size
    have hb8 : Below w.heap.size w w3 := (below_drewN HB4.out _).trans (hbw3.mono HB4.out.size)
    have hb9 : Below w.heap.size w w4 := hb8.trans (hbw4.mono hb8.size)
    have HB5 : Hid (Below w.heap.size w w5) := hb9.trans (hbw5.mono hb9.size)
    have KV5 : Hid (w5.heap[w.heap.size]? = some (Obj.cells #[.int .i64 v.k, .int .i64 v.n, .string v.s] 24)) := blk_keep (blk_keep hk3 hbw4 (by omega)) hbw5 (by omega)
    have WAL : Hid (∀ b, (Value.slice va5 R.length vc5).ownBlock = some b → b < w5.heap.size) := fun b hv => (how5.blk hv).2.1
    have WA5 : Hid (OwnV w5 w4.heap.size (.slice va5 R.length vc5) R) := how5
    clear e0 e1 e2 y0 y1 y2 hk3 hrd4 HRD3 HB4 hbw3 hbw4 hbw5 hb8 hb9 HK2 how5 HSP' 
    go_wp2_with fail
    refine (HTO.out _ HB5.out).mono ?_
    rintro e w6 ⟨g6, rfl, hg6, hx6, hb6⟩
    have hs6 : w5.heap.size ≤ w6.heap.size := hb6.size
    have HB6 : Hid (Below w.heap.size w w6) := HB5.out.trans (hb6.mono HB5.out.size)
    have KV6 : Hid (w6.heap[w.heap.size]? = some (Obj.cells #[.int .i64 v.k, .int .i64 v.n, .string v.s] 24)) := blk_keep KV5.out hb6 (by omega)
    have WA6 : Hid (OwnV w6 w4.heap.size (.slice va5 R.length vc5) R) := WA5.out.below hb6
    clear HB5 KV5 WA5
    have XO6 : Hid (OwnH w6 w5.heap.size w6.heap.size (.slice (some ⟨g6, 0, none⟩) cs.length cs.length) cs) := hx6
    clear hx6 hb6 hg6
    have e0 := cell_blk (j := 0) KV6.out rfl
    have e1 := cell_blk (j := 1) KV6.out rfl
    have e2 := cell_blk (j := 2) KV6.out rfl
    go_wp2_with fail
    refine (HTV.out _).mono ?_
    rintro e w7 ⟨rfl, hb7⟩
    have hs7 : w6.heap.size ≤ w7.heap.size := hb7.size
    clear e0 e1 e2
    have HB7 : Hid (Below w.heap.size w w7) := HB6.out.trans (hb7.mono HB6.out.size)
    have KV7 : Hid (w7.heap[w.heap.size]? = some (Obj.cells #[.int .i64 v.k, .int .i64 v.n, .string v.s] 24)) := blk_keep KV6.out hb7 (by omega)
    have WA7 : Hid (OwnV w7 w4.heap.size (.slice va5 R.length vc5) R) := WA6.out.below hb7
    have XO7 : Hid (OwnH w7 w5.heap.size w6.heap.size (.slice (some ⟨g6, 0, none⟩) cs.length cs.length) cs) := XO6.out.below hb7
    clear HB6 KV6 WA6 XO6
    clear hb7
    go_wp2_with fail
    refine (HIM'.out _ _ XO7.out.row).mono ?_
    rintro e w8 ⟨r8, rfl, ho8, hb8⟩
    obtain ⟨va8, vc8, rfl, hvc8⟩ := ho8.slice
    have hs8 : w7.heap.size ≤ w8.heap.size := hb8.size
    have HB8 : Hid (Below w.heap.size w w8) := HB7.out.trans (hb8.mono HB7.out.size)
    have KV8 : Hid (w8.heap[w.heap.size]? = some (Obj.cells #[.int .i64 v.k, .int .i64 v.n, .string v.s] 24)) := blk_keep KV7.out hb8 (by omega)
    have WA8 : Hid (OwnV w8 w4.heap.size (.slice va5 R.length vc5) R) := WA7.out.below hb8
    have XO8 : Hid (OwnH w8 w5.heap.size w6.heap.size (.slice (some ⟨g6, 0, none⟩) cs.length cs.length) cs) := XO7.out.below hb8
    clear HB7 KV7 WA7 XO7
    have GO8 : Hid (OwnV w8 w7.heap.size (.slice va8 R.length vc8) R) := ho8
    clear ho8 hb8
    go_wp2_with fail
    refine (HE.out _ _ _ _ _ GO8.out.rowV WA8.out.rowV).mono ?_
    rintro e w9 ⟨rfl, hb9⟩
    have hs9 : w8.heap.size ≤ w9.heap.size := hb9.size
    have HB9 : Hid (Below w.heap.size w w9) := HB8.out.trans (hb9.mono HB8.out.size)
    have KV9 : Hid (w9.heap[w.heap.size]? = some (Obj.cells #[.int .i64 v.k, .int .i64 v.n, .string v.s] 24)) := blk_keep KV8.out hb9 (by omega)
    have WA9 : Hid (OwnV w9 w4.heap.size (.slice va5 R.length vc5) R) := WA8.out.below hb9
    have XO9 : Hid (OwnH w9 w5.heap.size w6.heap.size (.slice (some ⟨g6, 0, none⟩) cs.length cs.length) cs) := XO8.out.below hb9
    have GO9 : Hid (OwnV w9 w7.heap.size (.slice va8 R.length vc8) R) := GO8.out.below hb9
    clear HB8 KV8 WA8 XO8 GO8
    clear hb9
    go_wp2_with fail
    refine (HTO.out _ HB9.out).mono ?_
    rintro e w10 ⟨g10, rfl, hg10, hx10, hb10⟩
    have hs10 : w9.heap.size ≤ w10.heap.size := hb10.size
    have HB10 : Hid (Below w.heap.size w w10) := HB9.out.trans (hb10.mono HB9.out.size)
    have KV10 : Hid (w10.heap[w.heap.size]? = some (Obj.cells #[.int .i64 v.k, .int .i64 v.n, .string v.s] 24)) := blk_keep KV9.out hb10 (by omega)
    have WA10 : Hid (OwnV w10 w4.heap.size (.slice va5 R.length vc5) R) := WA9.out.below hb10
    have XO10 : Hid (OwnH w10 w5.heap.size w6.heap.size (.slice (some ⟨g6, 0, none⟩) cs.length cs.length) cs) := XO9.out.below hb10
    have GO10 : Hid (OwnV w10 w7.heap.size (.slice va8 R.length vc8) R) := GO9.out.below hb10
    clear HB9 KV9 WA9 XO9 GO9
    have XN10 : Hid (RowC w10 w10.heap.size (some ⟨g10, 0, none⟩) cs) := hx10.row
    clear hx10 hb10 hg10
    go_wp2_with fail
    refine (HEC.out _ _ _ _ _ XO10.out.row XN10.out).mono ?_
    rintro e w11 ⟨rfl, hb11⟩
    have hs11 : w10.heap.size ≤ w11.heap.size := hb11.size
    have HB11 : Hid (Below w.heap.size w w11) := HB10.out.trans (hb11.mono HB10.out.size)
    have KV11 : Hid (w11.heap[w.heap.size]? = some (Obj.cells #[.int .i64 v.k, .int .i64 v.n, .string v.s] 24)) := blk_keep KV10.out hb11 (by omega)
    have WA11 : Hid (OwnV w11 w4.heap.size (.slice va5 R.length vc5) R) := WA10.out.below hb11
    have XO11 : Hid (OwnH w11 w5.heap.size w6.heap.size (.slice (some ⟨g6, 0, none⟩) cs.length cs.length) cs) := XO10.out.below hb11
    have GO11 : Hid (OwnV w11 w7.heap.size (.slice va8 R.length vc8) R) := GO10.out.below hb11
    clear HB10 KV10 WA10 XO10 GO10
    clear hb11
    clear XN10
    go_wp2_with fail
    refine (HM0.out _ _ _ _ _ XO11.out (by omega)).mono ?_
    rintro e w12 ⟨rfl, -, hon⟩
    have hs12 : w11.heap.size ≤ w12.heap.size := hon.size
    have hbl : Below w5.heap.size w11 w12 := hon.below (Nat.le_refl _) (by omega)
    have HB12 : Hid (Below w.heap.size w w12) := HB11.out.trans (hbl.mono (by have := HB11.out.size; omega))
    have KV12 : Hid (w12.heap[w.heap.size]? = some (Obj.cells #[.int .i64 v.k, .int .i64 v.n, .string v.s] 24)) := (hbl.block _ (by omega)).trans KV11.out
    have WA12 : Hid (OwnV w12 w4.heap.size (.slice va5 R.length vc5) R) := WA11.out.keep fun b hv => hbl.block b (WAL.out b hv)
    have GO12 : Hid (OwnV w12 w7.heap.size (.slice va8 R.length vc8) R) := GO11.out.keep fun b hv => hon.same b (GO11.out.blk hv).2.1 (.inr (by have := (GO11.out.blk hv).1; omega))
    clear HB11 KV11 WA11 GO11 XO11 hon hbl
    go_wp2_with fail
    refine (HE.out _ _ _ _ _ GO12.out.rowV WA12.out.rowV).mono ?_
    rintro e w13 ⟨rfl, hb13⟩
    have hs13 : w12.heap.size ≤ w13.heap.size := hb13.size
    have HB13 : Hid (Below w.heap.size w w13) := HB12.out.trans (hb13.mono HB12.out.size)
    have KV13 : Hid (w13.heap[w.heap.size]? = some (Obj.cells #[.int .i64 v.k, .int .i64 v.n, .string v.s] 24)) := blk_keep KV12.out hb13 (by omega)
    have WA13 : Hid (OwnV w13 w4.heap.size (.slice va5 R.length vc5) R) := WA12.out.below hb13
    have GO13 : Hid (OwnV w13 w7.heap.size (.slice va8 R.length vc8) R) := GO12.out.below hb13
    clear HB12 KV12 WA12 GO12
    clear hb13
    go_wp2_with fail
    refine (HMG.out _ _ _ _ GO13.out).mono ?_
    rintro e w14 ⟨rfl, hgo, hgr⟩
    have hs14 : w13.heap.size ≤ w14.heap.size := hgr.size
    have hbl : Below w7.heap.size w13 w14 := (Below.refl _ _).grown hgr (by omega) (fun k hk => (GO13.out.blk hk).1)
    have HB14 : Hid (Below w.heap.size w w14) := HB13.out.trans (hbl.mono (by have := HB13.out.size; omega))
    have KV14 : Hid (w14.heap[w.heap.size]? = some (Obj.cells #[.int .i64 v.k, .int .i64 v.n, .string v.s] 24)) := (hbl.block _ (by omega)).trans KV13.out
    have WA14 : Hid (OwnV w14 w4.heap.size (.slice va5 R.length vc5) R) := WA13.out.keep fun b hv => hbl.block b (by have := WAL.out b hv; omega)
    have GO14 : Hid (OwnV w14 w7.heap.size (.slice va8 R.length vc8) RM) := hgo
    clear HB13 KV13 WA13 GO13 hgo hgr hbl
    go_wp2_with fail
    refine (HHG.out _ _ _ GO14.out.rowV).mono ?_
    rintro e w15 ⟨rfl, hb15⟩
    have hs15 : w14.heap.size ≤ w15.heap.size := hb15.size
    have HB15 : Hid (Below w.heap.size w w15) := HB14.out.trans (hb15.mono HB14.out.size)
    have KV15 : Hid (w15.heap[w.heap.size]? = some (Obj.cells #[.int .i64 v.k, .int .i64 v.n, .string v.s] 24)) := blk_keep KV14.out hb15 (by omega)
    have WA15 : Hid (OwnV w15 w4.heap.size (.slice va5 R.length vc5) R) := WA14.out.below hb15
    have GO15 : Hid (OwnV w15 w7.heap.size (.slice va8 R.length vc8) RM) := GO14.out.below hb15
    clear HB14 KV14 WA14 GO14
    clear hb15
    have e0 := cell_blk (j := 0) KV15.out rfl
    have e1 := cell_blk (j := 1) KV15.out rfl
    have e2 := cell_blk (j := 2) KV15.out rfl
    have hlt15 : w.heap.size < w15.heap.size := by omega
    go_wp2_with fail
    go_region_with (first
      | (go_at_call 7; refine (HTO.out _ ?_).mono ?_; exact below_drewN HB15.out _; rintro e w16 ⟨gw16, rfl, hgw16, hxw16, hbw16⟩; have hk3 : w16.heap[w.heap.size]? = some (Obj.cells #[.int .i64 v.k, .int .i64 v.n, .string v.s] 24) := (hbw16.block _ hlt15).trans KV15.out; have y0 := cell_blk (j := 0) hk3 rfl; have y1 := cell_blk (j := 1) hk3 rfl; have y2 := cell_blk (j := 2) hk3 rfl; have HRD3 : Hid (RowC w16 w16.heap.size (some ⟨gw16, 0, none⟩) cs) := hxw16.row; clear hxw16 hgw16)
      | (go_at_call 8; refine (HTV.out _).mono ?_; rintro e w17 ⟨rfl, hbw17⟩; have hrd4 := (HRD3.out.below hbw17).mono hbw17.size)
      | (go_at_call 9; refine (HIM'.out _ _ hrd4).mono ?_; rintro e w18 ⟨r18, rfl, how18, hbw18⟩; obtain ⟨va18, vc18, rfl, hvcw18⟩ := how18.slice))
    all_goals
      have hsd : w15.heap.size ≤ w16.heap.size := hbw16.size
      have hse : w16.heap.size ≤ w17.heap.size := hbw17.size
      have hsf : w17.heap.size ≤ w18.heap.size := hbw18.size
      have hbx : Below w15.heap.size w15 w18 := ((below_drewN (Below.refl _ _) _).trans (hbw16.mono (by first | exact Nat.le_refl _ | (simp <;> omega)))).trans ((hbw17.mono (by omega)).trans (hbw18.mono (by omega)))
      clear e0 e1 e2 y0 y1 y2 hk3 hrd4 HRD3 hbw16 hbw17 hbw18
      have HB18 : Hid (Below w.heap.size w w18) := HB15.out.trans (hbx.mono HB15.out.size)
      have KV18 : Hid (w18.heap[w.heap.size]? = some (Obj.cells #[.int .i64 v.k, .int .i64 v.n, .string v.s] 24)) := blk_keep KV15.out hbx (by omega)
      have WA18 : Hid (OwnV w18 w4.heap.size (.slice va5 R.length vc5) R) := WA15.out.below hbx
      have GO18 : Hid (OwnV w18 w7.heap.size (.slice va8 R.length vc8) RM) := GO15.out.below hbx
      clear HB15 KV15 WA15 GO15
      have NW18 : Hid (OwnV w18 w17.heap.size (.slice va18 R.length vc18) R) := how18
      clear how18 hbx
      go_wp2_with fail
      refine (HE.out _ _ _ _ _ NW18.out.rowV WA18.out.rowV).mono ?_
      rintro e w19 ⟨rfl, hb19⟩
      have hs19 : w18.heap.size ≤ w19.heap.size := hb19.size
      have HB19 : Hid (Below w.heap.size w w19) := HB18.out.trans (hb19.mono HB18.out.size)
      have KV19 : Hid (w19.heap[w.heap.size]? = some (Obj.cells #[.int .i64 v.k, .int .i64 v.n, .string v.s] 24)) := blk_keep KV18.out hb19 (by omega)
      have WA19 : Hid (OwnV w19 w4.heap.size (.slice va5 R.length vc5) R) := WA18.out.below hb19
      have GO19 : Hid (OwnV w19 w7.heap.size (.slice va8 R.length vc8) RM) := GO18.out.below hb19
      clear HB18 KV18 WA18 GO18
      clear hb19
      go_wp2_with fail
      refine (HHG.out _ _ _ GO19.out.rowV).mono ?_
      rintro e w20 ⟨rfl, hb20⟩
      have hs20 : w19.heap.size ≤ w20.heap.size := hb20.size
      have HB20 : Hid (Below w.heap.size w w20) := HB19.out.trans (hb20.mono HB19.out.size)
      have KV20 : Hid (w20.heap[w.heap.size]? = some (Obj.cells #[.int .i64 v.k, .int .i64 v.n, .string v.s] 24)) := blk_keep KV19.out hb20 (by omega)
      have WA20 : Hid (OwnV w20 w4.heap.size (.slice va5 R.length vc5) R) := WA19.out.below hb20
      have GO20 : Hid (OwnV w20 w7.heap.size (.slice va8 R.length vc8) RM) := GO19.out.below hb20
      clear HB19 KV19 WA19 GO19
      clear hb20
      go_wp2
      go_ret
      exact ⟨rfl, HB20.out⟩
end fnExactAsList
end Go.Proofs.Ytpjafenpjigmkaa
