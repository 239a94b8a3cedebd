/- The model's look whether two data are the same. -/
import Derived.Test.YtgfkmppkeolckaaDoorSam
set_option linter.unusedVariables false
namespace Go.Proofs.YtgfkmppkeolckaaDoor
open Go.ChangeShapes Go.WideShapes Go.ChangeAt Go.RowKit
set_option maxRecDepth 100000 in
set_option maxHeartbeats 1000000 in
theorem l2Same_len (a b a' b' : Option Addr) (cs cs' : List Dat) (ts ts' : List Int) (ca cb ca' cb' : Nat) (w : World) (hn : cs.length ≤ 9223372036854775807) (hm : ts.length ≤ 9223372036854775807) (h : cs.length ≠ cs'.length ∨ ts.length ≠ ts'.length) :
    Calls Tryd.prog 37 #[.agg #[.slice a cs.length ca, .slice b ts.length cb], .agg #[.slice a' cs'.length ca', .slice b' ts'.length cb']] w fun e w' => Ans w (.bool false) e w' := by
  have hb0 : Below w.heap.size w ((w.alloc (Obj.cells #[Value.slice a cs.length ca, Value.slice b ts.length cb] 28)).alloc (Obj.cells #[Value.slice a' cs'.length ca', Value.slice b' ts'.length cb'] 28)) := ((Below.refl _ _).alloc (Nat.le_refl _) _).alloc (by simp) _
  have HB0 : Hid (Below w.heap.size w ((w.alloc (Obj.cells #[Value.slice a cs.length ca, Value.slice b ts.length cb] 28)).alloc (Obj.cells #[Value.slice a' cs'.length ca', Value.slice b' ts'.length cb'] 28))) := hb0
  clear hb0
  by_cases h1 : cs.length = cs'.length
  · have h2 : ts.length ≠ ts'.length := by
      rcases h with h | h
      · exact absurd h1 h
      · exact h
    have q1 : ((cs.length : Int) != (cs'.length : Int)) = false := by rw [bne_eq_false_iff_eq]; omega
    have q2 : ((ts.length : Int) != (ts'.length : Int)) = true := by rw [bne_iff_ne]; omega
    clear h h1 h2
    go_enter Tryd.func37, Tryd.ntmps37
    go_wp2
    go_ret
    exact ⟨rfl, HB0.out⟩
  · have q1 : ((cs.length : Int) != (cs'.length : Int)) = true := by rw [bne_iff_ne]; omega
    clear h h1
    go_enter Tryd.func37, Tryd.ntmps37
    go_wp2
    go_ret
    exact ⟨rfl, HB0.out⟩
set_option maxRecDepth 100000 in
set_option maxHeartbeats 2000000 in
theorem l2Same_same (a b a' b' : Option Addr) (cs cs' : List Dat) (ts ts' : List Int) (ca cb ca' cb' : Nat) (w : World) (hn : cs.length ≤ 9223372036854775807) (hm : ts.length ≤ 9223372036854775807) (h1 : cs.length = cs'.length) (h2 : ts.length = ts'.length) (x1 : RowD w w.heap.size a cs) (x2 : RowI w w.heap.size b ts) (y1 : RowD w w.heap.size a' cs') (y2 : RowI w w.heap.size b' ts') :
    Calls Tryd.prog 37 #[.agg #[.slice a cs.length ca, .slice b ts.length cb], .agg #[.slice a' cs'.length ca', .slice b' ts'.length cb']] w fun e w' => Ans w (.bool (decide (cs = cs') && decide (ts = ts'))) e w' := by
  have hb0 : Below w.heap.size w ((w.alloc (Obj.cells #[Value.slice a cs.length ca, Value.slice b ts.length cb] 28)).alloc (Obj.cells #[Value.slice a' cs'.length ca', Value.slice b' ts'.length cb'] 28)) := ((Below.refl _ _).alloc (Nat.le_refl _) _).alloc (by simp) _
  have k0 : ((w.alloc (Obj.cells #[Value.slice a cs.length ca, Value.slice b ts.length cb] 28)).alloc (Obj.cells #[Value.slice a' cs'.length ca', Value.slice b' ts'.length cb'] 28)).heap[w.heap.size]? = some (Obj.cells #[Value.slice a cs.length ca, Value.slice b ts.length cb] 28) := blk_past (blk_at _ _ _ rfl)
  have k1 : ((w.alloc (Obj.cells #[Value.slice a cs.length ca, Value.slice b ts.length cb] 28)).alloc (Obj.cells #[Value.slice a' cs'.length ca', Value.slice b' ts'.length cb'] 28)).heap[w.heap.size + 1]? = some (Obj.cells #[Value.slice a' cs'.length ca', Value.slice b' ts'.length cb'] 28) := blk_at _ _ _ (by simp)
  obtain ⟨v, hv⟩ : ∃ v, v = (w.alloc (Obj.cells #[Value.slice a cs.length ca, Value.slice b ts.length cb] 28)).alloc (Obj.cells #[Value.slice a' cs'.length ca', Value.slice b' ts'.length cb'] 28) := ⟨_, rfl⟩
  obtain ⟨r, hr⟩ : ∃ r, r = (decide (cs = cs') && decide (ts = ts')) := ⟨_, rfl⟩
  have HR : Hid (r = (decide (cs = cs') && decide (ts = ts'))) := hr
  have X1 : Hid (RowD w w.heap.size a cs) := x1
  have X2 : Hid (RowI w w.heap.size b ts) := x2
  have Y1 : Hid (RowD w w.heap.size a' cs') := y1
  have Y2 : Hid (RowI w w.heap.size b' ts') := y2
  have HL1 : Hid (cs.length = cs'.length) := h1
  have HL2 : Hid (ts.length = ts'.length) := h2
  have HB0 : Hid (Below w.heap.size w ((w.alloc (Obj.cells #[Value.slice a cs.length ca, Value.slice b ts.length cb] 28)).alloc (Obj.cells #[Value.slice a' cs'.length ca', Value.slice b' ts'.length cb'] 28))) := hb0
  have K0 : Hid (((w.alloc (Obj.cells #[Value.slice a cs.length ca, Value.slice b ts.length cb] 28)).alloc (Obj.cells #[Value.slice a' cs'.length ca', Value.slice b' ts'.length cb'] 28)).heap[w.heap.size]? = some (Obj.cells #[Value.slice a cs.length ca, Value.slice b ts.length cb] 28)) := k0
  have K1 : Hid (((w.alloc (Obj.cells #[Value.slice a cs.length ca, Value.slice b ts.length cb] 28)).alloc (Obj.cells #[Value.slice a' cs'.length ca', Value.slice b' ts'.length cb'] 28)).heap[w.heap.size + 1]? = some (Obj.cells #[Value.slice a' cs'.length ca', Value.slice b' ts'.length cb'] 28)) := k1
  have q1 : ((cs.length : Int) != (cs'.length : Int)) = false := by rw [bne_eq_false_iff_eq]; omega
  have q2 : ((ts.length : Int) != (ts'.length : Int)) = false := by rw [bne_eq_false_iff_eq]; omega
  rw [← hr]
  clear hb0 k0 k1 hv v hr x1 x2 y1 y2 h1 h2
  go_enter Tryd.func37, Tryd.ntmps37
  go_wp2
  go_loopw [5] (fun o wr => ∃ (i : Nat), i ≤ cs.length ∧ o = .int .i64 i ∧ wr.heap[w.heap.size]? = some (Obj.cells #[Value.slice a cs.length ca, Value.slice b ts.length cb] 28) ∧ wr.heap[w.heap.size + 1]? = some (Obj.cells #[Value.slice a' cs'.length ca', Value.slice b' ts'.length cb'] 28) ∧ Below w.heap.size w wr ∧ cs.take i = cs'.take i)
    (fun o _ => cs.length - (intOf o).toNat)
  case atStart => exact ⟨0, by omega, rfl, K0.out, K1.out, HB0.out, rfl⟩
  case round =>
    clear HB0 K0 K1
    obtain ⟨i, hi, rfl, k0, k1, hb, hpre⟩ := hrel
    have HPRE : Hid (cs.take i = cs'.take i) := hpre
    have K0 : Hid (wr.heap[w.heap.size]? = some (Obj.cells #[Value.slice a cs.length ca, Value.slice b ts.length cb] 28)) := k0
    have K1 : Hid (wr.heap[w.heap.size + 1]? = some (Obj.cells #[Value.slice a' cs'.length ca', Value.slice b' ts'.length cb'] 28)) := k1
    have z0 := cell_blk (j := 0) k0 rfl
    have z1 := cell_blk (j := 1) k0 rfl
    have z2 := cell_blk (j := 0) k1 rfl
    have z3 := cell_blk (j := 1) k1 rfl
    clear hpre k0 k1
    by_cases hlt : i < cs.length
    · obtain ⟨d1, hd1⟩ : ∃ d, cs[i]? = some d := ⟨_, List.getElem?_eq_getElem hlt⟩
      obtain ⟨d2, hd2⟩ : ∃ d, cs'[i]? = some d := ⟨_, List.getElem?_eq_getElem (by have := HL1.out; omega)⟩
      obtain ⟨b1, o1, rfl, hbb, c0, c1, c2, c3, c4⟩ := (X1.out.below hb) i d1 hd1
      obtain ⟨b2, o2, rfl, hbb', c5, c6, c7, c8, c9⟩ := (Y1.out.below hb) i d2 hd2
      have HD1 : Hid (cs[i]? = some d1) := hd1
      have HD2 : Hid (cs'[i]? = some d2) := hd2
      clear hd1 hd2
      have hli : (i : Int) < (cs.length : Int) := by omega
      have hli' : (i : Int) < (cs'.length : Int) := by have := HL1.out; omega
      by_cases hd : d1 = d2
      · subst hd
        have HN : Hid (cs.take (i + 1) = cs'.take (i + 1)) := by
          show _ = _
          rw [List.take_add_one, List.take_add_one, HPRE.out, HD1.out, HD2.out]
        clear HPRE
        go_wp2
        go_quiet (fail)
        go_wp2
        go_roundw
        case rel => exact ⟨i + 1, by omega, by go_num, K0.out, K1.out, below_drewN hb _, HN.out⟩
        case measure => simp [intOf]; omega
      · have HF : Hid (r = false) := by
          show r = false
          rw [HR.out]
          simp only [Bool.and_eq_false_iff, decide_eq_false_iff_not]
          exact .inl (list_ne HD1.out HD2.out hd)
        have hdn := dat_ne hd
        clear hd HPRE
        rcases hdn with q1 | ⟨q1, q2⟩ | ⟨q1, q2, q3⟩ | ⟨q1, q2, q3, q4⟩ | ⟨q1, q2, q3, q4, q5⟩
        all_goals
          go_wp2
          go_quiet (fail)
          go_wp2
          go_ret
          exact ⟨by rw [HF.out]; rfl, below_drewN hb _⟩
    · have hlt' : decide ((i : Int) < (cs.length : Int)) = false := by simp; omega
      have HC : Hid (cs = cs') := list_eq HPRE.out (by omega) (by have := HL1.out; omega)
      clear HPRE
      go_wp2
      go_loopw [6] (fun o wr => ∃ (i : Nat), i ≤ ts.length ∧ o = .int .i64 i ∧ wr.heap[w.heap.size]? = some (Obj.cells #[Value.slice a cs.length ca, Value.slice b ts.length cb] 28) ∧ wr.heap[w.heap.size + 1]? = some (Obj.cells #[Value.slice a' cs'.length ca', Value.slice b' ts'.length cb'] 28) ∧ Below w.heap.size w wr ∧ ts.take i = ts'.take i)
        (fun o _ => ts.length - (intOf o).toNat)
      case atStart => exact ⟨0, by omega, rfl, K0.out, K1.out, hb, rfl⟩
      case round =>
        clear K0 K1 hb z0 z1 z2 z3 hlt hlt' hi
        obtain ⟨j, hj, rfl, k0, k1, hb, hpre⟩ := hrel
        have HPRE : Hid (ts.take j = ts'.take j) := hpre
        have K0 : Hid (wr.heap[w.heap.size]? = some (Obj.cells #[Value.slice a cs.length ca, Value.slice b ts.length cb] 28)) := k0
        have K1 : Hid (wr.heap[w.heap.size + 1]? = some (Obj.cells #[Value.slice a' cs'.length ca', Value.slice b' ts'.length cb'] 28)) := k1
        have z0 := cell_blk (j := 0) k0 rfl
        have z1 := cell_blk (j := 1) k0 rfl
        have z2 := cell_blk (j := 0) k1 rfl
        have z3 := cell_blk (j := 1) k1 rfl
        clear hpre k0 k1
        by_cases hlt : j < ts.length
        · obtain ⟨d1, hd1⟩ : ∃ d, ts[j]? = some d := ⟨_, List.getElem?_eq_getElem hlt⟩
          obtain ⟨d2, hd2⟩ : ∃ d, ts'[j]? = some d := ⟨_, List.getElem?_eq_getElem (by have := HL2.out; omega)⟩
          obtain ⟨b1, o1, rfl, hbb, c0⟩ := (X2.out.below hb) j d1 hd1
          obtain ⟨b2, o2, rfl, hbb', c5⟩ := (Y2.out.below hb) j d2 hd2
          have HD1 : Hid (ts[j]? = some d1) := hd1
          have HD2 : Hid (ts'[j]? = some d2) := hd2
          clear hd1 hd2
          have hli : (j : Int) < (ts.length : Int) := by omega
          have hli' : (j : Int) < (ts'.length : Int) := by have := HL2.out; omega
          by_cases hd : d1 = d2
          · subst hd
            have q2 : (d1 != d1) = false := by simp
            have HN : Hid (ts.take (j + 1) = ts'.take (j + 1)) := by
              show _ = _
              rw [List.take_add_one, List.take_add_one, HPRE.out, HD1.out, HD2.out]
            clear HPRE
            go_wp2
            go_quiet (fail)
            go_wp2
            go_roundw
            case rel => exact ⟨j + 1, by omega, by go_num, K0.out, K1.out, below_drewN hb _, HN.out⟩
            case measure => simp [intOf]; omega
          · have HF : Hid (r = false) := by
              show r = false
              rw [HR.out]
              simp only [Bool.and_eq_false_iff, decide_eq_false_iff_not]
              exact .inr (list_ne HD1.out HD2.out hd)
            have e1 : (d1 == d2) = false := by rw [beq_eq_false_iff_ne]; exact hd
            have e2 : (d1 != d2) = true := by rw [bne_iff_ne]; exact hd
            clear hd HPRE
            go_wp2
            go_quiet (fail)
            go_wp2
            go_ret
            exact ⟨by rw [HF.out]; rfl, below_drewN hb _⟩
        · have hlt' : decide ((j : Int) < (ts.length : Int)) = false := by simp; omega
          have HF : Hid (r = true) := by
            show r = true
            rw [HR.out]
            simp only [Bool.and_eq_true, decide_eq_true_eq]
            exact ⟨HC.out, list_eq HPRE.out (by omega) (by have := HL2.out; omega)⟩
          clear HPRE
          go_wp2
          go_ret
          exact ⟨by rw [HF.out]; rfl, hb⟩
/-- The two data, whatever they are. -/
theorem l2Same_any (a b a' b' : Option Addr) (cs cs' : List Dat) (ts ts' : List Int) (ca cb ca' cb' : Nat) (w : World) (hn : cs.length ≤ 9223372036854775807) (hm : ts.length ≤ 9223372036854775807) (x1 : RowD w w.heap.size a cs) (x2 : RowI w w.heap.size b ts) (y1 : RowD w w.heap.size a' cs') (y2 : RowI w w.heap.size b' ts') :
    Calls Tryd.prog 37 #[.agg #[.slice a cs.length ca, .slice b ts.length cb], .agg #[.slice a' cs'.length ca', .slice b' ts'.length cb']] w fun e w' => Ans w (.bool (decide (cs = cs') && decide (ts = ts'))) e w' := by
  by_cases h1 : cs.length = cs'.length
  · by_cases h2 : ts.length = ts'.length
    · exact l2Same_same a b a' b' cs cs' ts ts' ca cb ca' cb' w hn hm h1 h2 x1 x2 y1 y2
    · have e : (decide (cs = cs') && decide (ts = ts')) = false := by
        simp only [Bool.and_eq_false_iff, decide_eq_false_iff_not]
        exact .inr (by rintro rfl; exact h2 rfl)
      rw [e]
      exact l2Same_len a b a' b' cs cs' ts ts' ca cb ca' cb' w hn hm (.inr h2)
  · have e : (decide (cs = cs') && decide (ts = ts')) = false := by
      simp only [Bool.and_eq_false_iff, decide_eq_false_iff_not]
      exact .inl (by rintro rfl; exact h1 rfl)
    rw [e]
    exact l2Same_len a b a' b' cs cs' ts ts' ca cb ca' cb' w hn hm (.inl h1)
end Go.Proofs.YtgfkmppkeolckaaDoor
