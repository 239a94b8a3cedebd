/- What the law of Read draws and asks: DrawDataOk, big, both DataOks. -/
import Derived.Test.YtgfkmppkeolckaaDoorDrd
import Derived.Test.YtgfkmppkeolckaaDoorDok
import Derived.Test.YtgfkmppkeolckaaDoorSmd
set_option linter.unusedVariables false
namespace Go.Proofs.YtgfkmppkeolckaaDoor.Cu
open Go.ChangeShapes Go.WideShapes Go.ChangeAt Go.RowKit
theorem code_below {w w' : World} {d : Code1} (h : CodeAt w w.heap.size d) (hb : Below w.heap.size w w') : CodeAt w' w'.heap.size d := by
  obtain ⟨h1, h2, h3⟩ := h
  refine ⟨h1, h2, fun j hj => ?_⟩
  obtain ⟨b, o, ha, hbl, hc⟩ := h3 j hj
  exact ⟨b, o, ha, Nat.lt_of_lt_of_le hbl hb.size, (World.cell?_of_block (w := w) (a := ⟨b, _, none⟩) (hb.block b hbl)).trans hc⟩
/-- Data that are handed back by way of a block that held nothing yet. -/
theorem dt_ret0 {W : World} {R : Nat} {v : Value} (hR : W.heap[R]? = some (Obj.cells #[Value.slice none 0 0, Value.slice none 0 0] 28)) (h : DtW W v) : ∃ (a b : Option Addr) (n ca m cb : Nat), v = .agg #[.slice a n ca, .slice b m cb] ∧ DtW ((W.setCell ⟨R, 0, none⟩ (.slice a n ca)).setCell ⟨R, 1, none⟩ (.slice b m cb)) v := by
  obtain ⟨a, b, ca, cb, cs, ts, rfl, h1, h2, h3, h4⟩ := h
  have hno : ∀ o n, W.cell? ⟨R, o, none⟩ ≠ some (.int .i64 n) := by
    intro o n hc
    rw [cell_of_row W R o _ 28 (0, 0) hR] at hc
    match o with
    | 0 => simp at hc
    | 1 => simp at hc
    | o + 2 => simp at hc
  have ot : ∀ v0 v1 x, x ≠ R → ((W.setCell ⟨R, 0, none⟩ v0).setCell ⟨R, 1, none⟩ v1).heap[x]? = W.heap[x]? := fun v0 v1 x hx => (heap_setCell_other _ _ _ _ hx).trans (heap_setCell_other _ _ _ _ hx)
  refine ⟨a, b, _, ca, _, cb, rfl, a, b, ca, cb, cs, ts, rfl, ?_, ?_, h3, h4⟩
  · intro i d hd
    obtain ⟨x, o, g1, g2, g3⟩ := h1 i d hd
    refine ⟨x, o, g1, by simpa using g2, g3.block (ot _ _ x ?_)⟩
    rintro rfl
    exact hno _ _ g3.1
  · intro i d hd
    obtain ⟨x, o, g1, g2, g3⟩ := h2 i d hd
    refine ⟨x, o, g1, by simpa using g2, (World.cell?_of_block (a := ⟨x, o + i, none⟩) (ot _ _ x ?_)).trans g3⟩
    rintro rfl
    exact hno _ _ g3
set_option maxRecDepth 100000 in
set_option maxHeartbeats 1000000 in
theorem drawDok_any (d : Code1) (w : World) (hc : CodeAt w w.heap.size d) : Calls Tryd.prog 11 #[.slice d.a d.len d.cap] w fun e w' => ∃ v, e = .returned v ∧ DtW w' v ∧ Below w.heap.size w w' := by
  have hl : d.len ≤ 1048576 := hc.1
  obtain ⟨w0, hw0⟩ : ∃ w0, w0 = w.alloc (Obj.cells #[Value.slice none 0 0, Value.slice none 0 0] 28) := ⟨_, rfl⟩
  have hb0 : Below w.heap.size w w0 := by rw [hw0]; exact (Below.refl _ _).alloc (Nat.le_refl _) _
  have k0 : w0.heap[w.heap.size]? = some (Obj.cells #[Value.slice none 0 0, Value.slice none 0 0] 28) := by rw [hw0]; exact blk_at _ _ _ rfl
  have HN : Hid (Calls Tryd.prog 19 #[.slice d.a d.len d.cap] w0 fun e w' => e = .returned (.pointer (some ⟨w0.heap.size, 0, none⟩)) ∧ CurS w' w0.heap.size d (newS d) ∧ Below w0.heap.size w0 w') := new_st d w0 (code_below hc hb0)
  have HW0 : Hid (w0 = w.alloc (Obj.cells #[Value.slice none 0 0, Value.slice none 0 0] 28)) := hw0
  have HB0 : Hid (Below w.heap.size w w0) := hb0
  have K0 : Hid (w0.heap[w.heap.size]? = some (Obj.cells #[Value.slice none 0 0, Value.slice none 0 0] 28)) := k0
  clear hc hw0 hb0 k0
  go_enter Tryd.func11, Tryd.ntmps11
  go_wp2_with fail
  rw [← HW0.out]
  refine HN.out.mono ?_
  rintro e w1 ⟨rfl, hcur, hb1⟩
  have HB1 : Hid (Below w0.heap.size w0 w1) := hb1
  have h1 : Cw w1 w0.heap.size d w1 := ⟨⟨_, hcur⟩, grownBy_refl _ _, cur_lt hcur⟩
  clear HN hcur hb1
  have HS : Hid (∀ W, Calls Tryd.prog 21 #[.slice d.a d.len d.cap, .int .i64 5] W fun e w' => ∃ k : Nat, e = .returned (.int .i64 (k : Int)) ∧ k ≤ 5 ∧ w' = W) := fun W => size_any d.a d.len d.cap 5 W hl (by decide) (by decide)
  go_wp2_with fail
  refine (HS.out w1).mono ?_
  rintro e W2 ⟨k, rfl, hk, rfl⟩
  go_wp2_with fail
  refine (data_cw W2 w0.heap.size d k hk W2 h1).mono ?_
  rintro e W3 ⟨v, rfl, hv, h3⟩
  have hb3 : Below w0.heap.size w0 W3 := cw_below HB1.out h3
  have hsz := HB0.out.size
  have k3 := (hb3.block _ (Array.getElem?_eq_some_iff.1 K0.out).1).trans K0.out
  obtain ⟨a, b, n, ca, m, cb, rfl, hv'⟩ := dt_ret0 k3 hv
  have HV : Hid _ := hv'
  have K3 : Hid (W3.heap[w.heap.size]? = some (Obj.cells #[Value.slice none 0 0, Value.slice none 0 0] 28)) := k3
  have HF : Hid (Below w.heap.size w ((W3.setCell ⟨w.heap.size, 0, none⟩ (.slice a n ca)).setCell ⟨w.heap.size, 1, none⟩ (.slice b m cb))) := ((HB0.out.trans (hb3.mono hsz)).setCell (p := ⟨w.heap.size, 0, none⟩) (Nat.le_refl _) _).setCell (p := ⟨w.heap.size, 1, none⟩) (Nat.le_refl _) _
  have e0 := cell_blk (j := 0) k3 rfl
  have e1 := cell_blk (j := 1) k3 rfl
  have f0 := frozen_blk k3 0
  have f1 := frozen_blk k3 1
  clear h1 h3 hv hv' hb3 k3
  go_wp2
  refine bodyPost_ret (ret28 rfl rfl _ _ K3.out) rfl ?_
  exact ⟨_, rfl, HV.out, HF.out⟩
theorem big_no (a : Option Addr) (len cap : Nat) (w : World) (h : len ≤ 1048576) :
    Calls Tryd.prog 6 #[.slice a len cap] w fun e w' => e = .returned (.bool false) ∧ w' = w := by
  have hd : decide ((1048576 : Int) < (len : Int)) = false := by simp; omega
  go_enter Tryd.func6, Tryd.ntmps6
  go_wp2
  go_ret
  exact ⟨rfl, rfl⟩
theorem big_yes (a : Option Addr) (len cap : Nat) (w : World) (h : 1048576 < len) :
    Calls Tryd.prog 6 #[.slice a len cap] w fun e w' => e = .returned (.bool true) ∧ w' = w := by
  have hd : decide ((1048576 : Int) < (len : Int)) = true := by simp; omega
  go_enter Tryd.func6, Tryd.ntmps6
  go_wp2
  go_ret
  exact ⟨rfl, rfl⟩
theorem show_le {cs : List Dat} {ts : List Int} (hb : bulkD cs + ts.length ≤ 1048576) : (⟨(showR cs ts).toArray⟩ : ByteArray).size ≤ 33554432 := by
  show (showR cs ts).toArray.size ≤ 33554432
  rw [List.size_toArray]
  by_cases h : treeB cs ts = true
  · rw [showR_tree h]
    exact shAll_bound (treeB_tree h) hb
  · rw [showR_not (by simpa using h)]
    simp
/-- The library's table lies in the world. -/
def TabW (W : World) : Prop := 0 < W.heap.size ∧ Lib.TabIs Tryd.prog W "internal/strconv.uint64pow10" .u64 Lib.pow10Tab
theorem TabW.below {W W' : World} (h : TabW W) (hb : Below W.heap.size W W') : TabW W' := ⟨Nat.lt_of_lt_of_le h.1 hb.size, var?_below hb gPow h.1 h.2⟩
/-- Both DataOks answer alike. -/
theorem doks (cs : List Dat) (ts : List Int) (hbk : bulkD cs + ts.length ≤ 1048576) (hwf : ∀ d ∈ cs, d.wf) : ∃ rr : Bool,
    (∀ (a b : Option Addr) (ca cb : Nat) (w1 : World), RowD w1 w1.heap.size a cs → RowI w1 w1.heap.size b ts → Calls Tryd.prog 14 #[.agg #[.slice a cs.length ca, .slice b ts.length cb]] w1 fun e w' => Ans w1 (.bool rr) e w') ∧
    ∀ (a b : Option Addr) (ca cb : Nat) (w1 : World), RowD w1 w1.heap.size a cs → RowI w1 w1.heap.size b ts → TabW w1 → Calls Tryd.prog 12 #[.agg #[.slice a cs.length ca, .slice b ts.length cb]] w1 fun e w' => Ans w1 (.bool rr) e w' := by
  obtain ⟨cs', ts', p, hps, hm', hrs, hri⟩ := reads ⟨(showR cs ts).toArray⟩ (show_le hbk)
  obtain ⟨rr, hrr⟩ : ∃ rr, rr = (decide (p < 0) && (decide (cs' = cs) && decide (ts' = ts))) := ⟨_, rfl⟩
  have hr1 : p < 0 → rr = (decide (cs' = cs) && decide (ts' = ts)) := fun h => by rw [hrr, decide_eq_true h, Bool.true_and]
  have hr2 : 0 ≤ p → rr = false := fun h => by rw [hrr, decide_eq_false (by omega), Bool.false_and]
  refine ⟨rr, fun a b ca cb w1 h1 h2 => specDok a b ca cb cs cs' ts ts' p _ w1 hm' h1 h2 (fun w2 h => specShow_any a b ca cb cs ts w2 hbk hwf ((h1.below h).mono h.size) ((h2.below h).mono h.size)) hrs rr hr1 hr2, fun a b ca cb w1 h1 h2 hb => implDok a b ca cb cs cs' ts ts' p _ w1 hm' h1 h2 (fun w2 h => implShow_any a b ca cb cs ts w2 hbk hwf ((h1.below h).mono h.size) ((h2.below h).mono h.size) (hb.below h).1 (hb.below h).2) hri rr (fun h => hr1 (by omega)) hps hr2⟩
/-- What is read is DataOk. -/
theorem dok_read (cs : List Dat) (ts : List Int) (hbk : bulkD cs + ts.length ≤ 1048576) (hwf : ∀ d ∈ cs, d.wf) (htr : TreeP cs ts) (hrd : ∀ w, Calls Tryd.prog 8 #[.string ⟨(shAll cs ts).toArray⟩] w fun e w' => RdO cs ts (-1) w e w')
    (a b : Option Addr) (ca cb : Nat) (w1 : World) (h1 : RowD w1 w1.heap.size a cs) (h2 : RowI w1 w1.heap.size b ts) (hb : TabW w1) : Calls Tryd.prog 12 #[.agg #[.slice a cs.length ca, .slice b ts.length cb]] w1 fun e w' => Ans w1 (.bool true) e w' := by
  refine implDok a b ca cb cs cs ts ts (-1) ⟨(shAll cs ts).toArray⟩ w1 (by omega) h1 h2 (fun w2 h => ?_) hrd true (fun _ => by simp) (.inl rfl) (fun h => by omega)
  rw [← showR_tree (treeB_true htr)]
  exact implShow_any a b ca cb cs ts w2 hbk hwf ((h1.below h).mono h.size) ((h2.below h).mono h.size) (hb.below h).1 (hb.below h).2
theorem frm_eq (s : ByteArray) : (⟨#[32, 59, 32, 120, 10, 9]⟩ : ByteArray) ++ s ++ (⟨#[10, 32, 59, 32, 101, 110, 100]⟩ : ByteArray) = frm s := by
  have e : s = ⟨s.data.toList.toArray⟩ := by cases s; simp
  have h1 : (⟨#[32, 59, 32, 120, 10, 9]⟩ : ByteArray) ++ s = ⟨([32, 59, 32, 120, 10, 9] ++ s.data.toList).toArray⟩ := by
    conv => lhs; rw [e]
    exact ByteArray.mk_append_mk [32, 59, 32, 120, 10, 9] s.data.toList
  rw [h1]
  refine (ByteArray.mk_append_mk ([32, 59, 32, 120, 10, 9] ++ s.data.toList) [10, 32, 59, 32, 101, 110, 100]).trans ?_
  unfold frm preB postB
  rw [List.append_assoc]
/-- Data behind a block. -/
def DatAt (W : World) (g : Nat) (a b : Option Addr) (ca cb : Nat) (cs : List Dat) (ts : List Int) : Prop :=
  W.heap[g]? = some (Obj.cells #[.slice a cs.length ca, .slice b ts.length cb] 28) ∧ RowD W W.heap.size a cs ∧ RowI W W.heap.size b ts
theorem DatAt.below {W W' : World} {g : Nat} {a b : Option Addr} {ca cb : Nat} {cs : List Dat} {ts : List Int} (h : DatAt W g a b ca cb cs ts) (hb : Below W.heap.size W W') : DatAt W' g a b ca cb cs ts :=
  ⟨(hb.block g (Array.getElem?_eq_some_iff.1 h.1).1).trans h.1, (h.2.1.below hb).mono hb.size, (h.2.2.below hb).mono hb.size⟩
theorem DatAt.new {W : World} {a b : Option Addr} {ca cb : Nat} {cs : List Dat} {ts : List Int} (h1 : RowD W W.heap.size a cs) (h2 : RowI W W.heap.size b ts) : DatAt (W.alloc (Obj.cells #[.slice a cs.length ca, .slice b ts.length cb] 28)) W.heap.size a b ca cb cs ts := by
  have hb : Below W.heap.size W (W.alloc (Obj.cells #[.slice a cs.length ca, .slice b ts.length cb] 28)) := (Below.refl _ _).alloc (Nat.le_refl _) _
  exact ⟨blk_at _ _ _ rfl, (h1.below hb).mono hb.size, (h2.below hb).mono hb.size⟩
end Go.Proofs.YtgfkmppkeolckaaDoor.Cu
