/- The model's reader: passing over, tokens, failing. -/
import Derived.Test.YtgfkmppkeolckaaDoorRex
set_option linter.unusedVariables false
namespace Go.Proofs.YtgfkmppkeolckaaDoor
open Go.ChangeShapes Go.WideShapes Go.ChangeAt Go.RowKit
/-- A reader of the model, as a value. -/
def rv (s : ByteArray) (i la bd : Int) (cv tv : Value) : Value := .agg #[.string s, .int .i64 i, .int .i64 la, .int .i64 bd, cv, tv]
/-- Its block. -/
def rb (s : ByteArray) (i la bd : Int) (cv tv : Value) : Obj := .cells #[.string s, .int .i64 i, .int .i64 la, .int .i64 bd, cv, tv] 54 (0, 0)
theorem skp_nil (rem : Bool) (s : ByteArray) (j : Nat) (h : s.size ≤ j) : skp rem (dr s j) = 0 := by rw [dr_end s j h]; simp [skp]
theorem skp_10 (rem : Bool) (s : ByteArray) (j : Nat) (h : j < s.size) (hc : s[j].toNat = 10) : skp rem (dr s j) = 1 + skp false (dr s (j + 1)) := by rw [dr_cons s j h]; simp [skp, hc]
theorem skp_bl (s : ByteArray) (j : Nat) (h : j < s.size) (hc : s[j].toNat = 9 ∨ s[j].toNat = 32) : skp false (dr s j) = 1 + skp false (dr s (j + 1)) := by
  rw [dr_cons s j h]
  have h10 : ¬ s[j].toNat = 10 := by omega
  simp only [skp]
  rw [if_neg h10, if_neg (by simp), if_pos hc]
theorem skp_semi (s : ByteArray) (j : Nat) (h : j < s.size) (hc : s[j].toNat = 59) : skp false (dr s j) = 1 + skp true (dr s (j + 1)) := by
  rw [dr_cons s j h]
  simp only [skp]
  rw [if_neg (by omega), if_neg (by simp), if_neg (by omega), if_pos hc]
theorem skp_rem (s : ByteArray) (j : Nat) (h : j < s.size) (hc : ¬ s[j].toNat = 10) : skp true (dr s j) = 1 + skp true (dr s (j + 1)) := by
  rw [dr_cons s j h]
  simp only [skp]
  rw [if_neg hc, if_pos trivial]
theorem skp_stop (s : ByteArray) (j : Nat) (h : j < s.size) (h1 : ¬ s[j].toNat = 10) (h2 : ¬ (s[j].toNat = 9 ∨ s[j].toNat = 32)) (h3 : ¬ s[j].toNat = 59) : skp false (dr s j) = 0 := by
  rw [dr_cons s j h]
  simp only [skp]
  rw [if_neg h1, if_neg (by simp), if_neg h2, if_neg h3]
/-- The zero reader's block. -/
def rz : Obj := .cells #[.string ⟨#[]⟩, .int .i64 0, .int .i64 0, .int .i64 0, .slice none 0 0, .slice none 0 0] 54 (0, 0)
/-- Six cells laid. -/
def put6 (w : World) (g : Nat) (v0 v1 v2 v3 v4 v5 : Value) : World :=
  (((((w.setCell ⟨g, 0, none⟩ v0).setCell ⟨g, 1, none⟩ v1).setCell ⟨g, 2, none⟩ v2).setCell ⟨g, 3, none⟩ v3).setCell ⟨g, 4, none⟩ v4).setCell ⟨g, 5, none⟩ v5
theorem put6_blk {w : World} {g : Nat} {x0 x1 x2 x3 x4 x5 : Value} (v0 v1 v2 v3 v4 v5 : Value) (h : w.heap[g]? = some (.cells #[x0, x1, x2, x3, x4, x5] 54 (0, 0))) : (put6 w g v0 v1 v2 v3 v4 v5).heap[g]? = some (.cells #[v0, v1, v2, v3, v4, v5] 54 (0, 0)) :=
  heap_setCell_same _ _ _ _ _ _ (heap_setCell_same _ _ _ _ _ _ (heap_setCell_same _ _ _ _ _ _ (heap_setCell_same _ _ _ _ _ _ (heap_setCell_same _ _ _ _ _ _ (heap_setCell_same _ _ _ _ _ _ h)))))
theorem put6_below {B g : Nat} {w0 w : World} (h : Below B w0 w) (hg : B ≤ g) (v0 v1 v2 v3 v4 v5 : Value) : Below B w0 (put6 w g v0 v1 v2 v3 v4 v5) :=
  (((((h.setCell (p := ⟨g, _, none⟩) hg _).setCell (p := ⟨g, _, none⟩) hg _).setCell (p := ⟨g, _, none⟩) hg _).setCell (p := ⟨g, _, none⟩) hg _).setCell (p := ⟨g, _, none⟩) hg _).setCell (p := ⟨g, _, none⟩) hg _
theorem put6_other {w : World} {g : Nat} {v0 v1 v2 v3 v4 v5 : Value} {b : Nat} (h : b ≠ g) : (put6 w g v0 v1 v2 v3 v4 v5).heap[b]? = w.heap[b]? := by
  unfold put6
  rw [heap_setCell_other _ _ _ _ h, heap_setCell_other _ _ _ _ h, heap_setCell_other _ _ _ _ h, heap_setCell_other _ _ _ _ h, heap_setCell_other _ _ _ _ h, heap_setCell_other _ _ _ _ h]
theorem put6_size {w : World} {g : Nat} {v0 v1 v2 v3 v4 v5 : Value} : (put6 w g v0 v1 v2 v3 v4 v5).heap.size = w.heap.size := by simp [put6]
theorem Tryd.info32s : (Tryd.prog.info? 54).map (·.size) = some 6 := by kernel_rfl
/-- A reader handed back by way of its block. -/
theorem ret6 {fn : Func} {p : Tmp} {w : World} {g : Nat} {x0 x1 x2 x3 x4 x5 : Value} {tmps : Array Value} (hf : fn.results = #[.cell p 54]) (hp : tmps.getD p undef = .pointer (some ⟨g, 0, none⟩)) (v0 v1 v2 v3 v4 v5 : Value) (h : w.heap[g]? = some (.cells #[x0, x1, x2, x3, x4, x5] 54 (0, 0))) :
    (results fn tmps).run Tryd.prog (put6 w g v0 v1 v2 v3 v4 v5) = .ok (.agg #[v0, v1, v2, v3, v4, v5]) (put6 w g v0 v1 v2 v3 v4 v5) :=
  results_cell_row hf _ _ g 54 #[v0, v1, v2, v3, v4, v5] (0, 0) _ hp (put6_blk v0 v1 v2 v3 v4 v5 h) Tryd.underlying54 rfl Tryd.info32s
set_option maxRecDepth 100000 in
set_option maxHeartbeats 1000000 in
theorem l2Skip_any (s : ByteArray) (i : Nat) (la bd : Int) (ao bo : Option Addr) (n ca m cb : Nat) (w : World) (hs : s.size ≤ 33554432) (hi : i ≤ s.size) :
    Calls Tryd.prog 27 #[.agg #[.string s, .int .i64 i, .int .i64 la, .int .i64 bd, (.slice ao n ca), (.slice bo m cb)]] w fun e w' => Ans w (.agg #[.string s, .int .i64 (skAt s i), .int .i64 la, .int .i64 bd, (.slice ao n ca), (.slice bo m cb)]) e w' := by
  obtain ⟨t, ht⟩ : ∃ t, t = skAt s i := ⟨_, rfl⟩
  rw [← ht]
  go_enter Tryd.func27, Tryd.ntmps27
  go_wp2
  have hb0 : Below w.heap.size w ((w.alloc (rb s i la bd (.slice ao n ca) (.slice bo m cb))).alloc rz) := ((Below.refl _ _).alloc (Nat.le_refl _) _).alloc (by simp) _
  have k0 : ((w.alloc (rb s i la bd (.slice ao n ca) (.slice bo m cb))).alloc rz).heap[w.heap.size]? = some (rb s i la bd (.slice ao n ca) (.slice bo m cb)) := blk_past (blk_at _ _ _ rfl)
  have k1 : ((w.alloc (rb s i la bd (.slice ao n ca) (.slice bo m cb))).alloc rz).heap[w.heap.size + 1]? = some rz := blk_at _ _ _ (by simp)
  go_loopw [3] (fun _ wr => ∃ j : Nat, j ≤ s.size ∧ wr.heap[w.heap.size]? = some (rb s j la bd (.slice ao n ca) (.slice bo m cb)) ∧ wr.heap[w.heap.size + 1]? = some rz ∧ j + skp false (dr s j) = t ∧ Below w.heap.size w wr)
    (fun _ wr => s.size - (intOf ((wr.cell? ⟨w.heap.size, 1, none⟩).getD undef)).toNat)
  case atStart => exact ⟨i, hi, k0, k1, ht.symm, hb0⟩
  case round =>
    clear k0 k1 hb0 ht hi
    obtain ⟨j, hj, k0, k1, hjt, hb⟩ := hrel
    have c0 := cell_blk (j := 0) k0 rfl
    have c1 := cell_blk (j := 1) k0 rfl
    have c2 := cell_blk (j := 2) k0 rfl
    have c3 := cell_blk (j := 3) k0 rfl
    have c4 := cell_blk (j := 4) k0 rfl
    have c5 := cell_blk (j := 5) k0 rfl
    have f1 := frozen_blk k0 1
    have K0 : Hid (wr.heap[w.heap.size]? = some (rb s j la bd (.slice ao n ca) (.slice bo m cb))) := k0
    have K1 : Hid (wr.heap[w.heap.size + 1]? = some rz) := k1
    clear k0 k1
    by_cases hlt : j < s.size
    · have hc256 : (s[j].toNat : Int) < 256 := by have := s[j].toNat_lt; omega
      by_cases hbl : s[j].toNat = 9 ∨ s[j].toNat = 10 ∨ s[j].toNat = 32
      · have HJ : Hid ((j + 1) + skp false (dr s (j + 1)) = t) := by
          show _ = _
          rcases hbl with h | h | h
          · rw [skp_bl s j hlt (.inl h)] at hjt; omega
          · rw [skp_10 false s j hlt h] at hjt; omega
          · rw [skp_bl s j hlt (.inr h)] at hjt; omega
        clear hjt
        rcases hbl with h | h | h
        · have q9 : ((s[j].toNat : Int) == 9) = true := by rw [beq_iff_eq]; omega
          clear h
          go_wp2
          go_roundw
          case rel => exact ⟨j + 1, by omega, heap_setCell_same _ _ _ _ _ _ K0.out, (heap_setCell_other _ _ _ _ (by simp)).trans K1.out, HJ.out, hb.setCell (p := ⟨_, _, none⟩) (Nat.le_refl _) _⟩
          case measure => rw [c1, cell_blk (j := 1) (heap_setCell_same _ _ _ _ _ _ K0.out) rfl]; simp [intOf]; omega
        · have q9 : ((s[j].toNat : Int) == 9) = false := by rw [beq_eq_false_iff_ne]; omega
          have q10 : ((s[j].toNat : Int) == 10) = true := by rw [beq_iff_eq]; omega
          clear h
          go_wp2
          go_roundw
          case rel => exact ⟨j + 1, by omega, heap_setCell_same _ _ _ _ _ _ K0.out, (heap_setCell_other _ _ _ _ (by simp)).trans K1.out, HJ.out, hb.setCell (p := ⟨_, _, none⟩) (Nat.le_refl _) _⟩
          case measure => rw [c1, cell_blk (j := 1) (heap_setCell_same _ _ _ _ _ _ K0.out) rfl]; simp [intOf]; omega
        · have q9 : ((s[j].toNat : Int) == 9) = false := by rw [beq_eq_false_iff_ne]; omega
          have q10 : ((s[j].toNat : Int) == 10) = false := by rw [beq_eq_false_iff_ne]; omega
          have q32 : ((s[j].toNat : Int) == 32) = true := by rw [beq_iff_eq]; omega
          clear h
          go_wp2
          go_roundw
          case rel => exact ⟨j + 1, by omega, heap_setCell_same _ _ _ _ _ _ K0.out, (heap_setCell_other _ _ _ _ (by simp)).trans K1.out, HJ.out, hb.setCell (p := ⟨_, _, none⟩) (Nat.le_refl _) _⟩
          case measure => rw [c1, cell_blk (j := 1) (heap_setCell_same _ _ _ _ _ _ K0.out) rfl]; simp [intOf]; omega
      · have n9 : ¬ s[j].toNat = 9 := by omega
        have n10 : ¬ s[j].toNat = 10 := by omega
        have n32 : ¬ s[j].toNat = 32 := by omega
        clear hbl
        have q9 : ((s[j].toNat : Int) == 9) = false := by rw [beq_eq_false_iff_ne]; omega
        have q10 : ((s[j].toNat : Int) == 10) = false := by rw [beq_eq_false_iff_ne]; omega
        have q32 : ((s[j].toNat : Int) == 32) = false := by rw [beq_eq_false_iff_ne]; omega
        by_cases h59 : s[j].toNat = 59
        · have q59 : ((s[j].toNat : Int) != 59) = false := by rw [bne_eq_false_iff_eq]; omega
          have HJ : Hid (j + skp true (dr s j) = t) := by
            show _ = _
            rw [skp_semi s j hlt h59] at hjt
            rw [skp_rem s j hlt n10]
            omega
          have H59 : Hid (s[j].toNat = 59) := h59
          clear hjt n9 n10 n32 h59
          go_wp2
          go_loopw [26] (fun _ wr => ∃ k : Nat, j ≤ k ∧ k ≤ s.size ∧ wr.heap[w.heap.size]? = some (rb s k la bd (.slice ao n ca) (.slice bo m cb)) ∧ wr.heap[w.heap.size + 1]? = some rz ∧ k + skp true (dr s k) = t ∧ Below w.heap.size w wr)
            (fun _ wr => s.size - (intOf ((wr.cell? ⟨w.heap.size, 1, none⟩).getD undef)).toNat)
          case atStart => exact ⟨j, Nat.le_refl _, hj, K0.out, K1.out, HJ.out, hb⟩
          case round =>
            clear K0 K1 HJ hb c0 c2 c3 c4 c5 f1
            obtain ⟨k, hjk, hk, k0, k1, hkt, hb⟩ := hrel
            have d0 := cell_blk (j := 0) k0 rfl
            have d1 := cell_blk (j := 1) k0 rfl
            have f1 := frozen_blk k0 1
            have K0 : Hid (wr.heap[w.heap.size]? = some (rb s k la bd (.slice ao n ca) (.slice bo m cb))) := k0
            have K1 : Hid (wr.heap[w.heap.size + 1]? = some rz) := k1
            have C1 : Hid _ := c1
            clear k0 k1 c1
            by_cases hkl : k < s.size
            · have hk256 : (s[k].toNat : Int) < 256 := by have := s[k].toNat_lt; omega
              by_cases h10 : s[k].toNat = 10
              · have r10 : ((s[k].toNat : Int) != 10) = false := by rw [bne_eq_false_iff_eq]; omega
                have HK : Hid (k + skp false (dr s k) = t) := by
                  show _ = _
                  rw [skp_10 true s k hkl h10] at hkt
                  rw [skp_10 false s k hkl h10]
                  exact hkt
                have hne : j < k := by
                  rcases Nat.lt_or_eq_of_le hjk with h | h
                  · exact h
                  · subst h
                    have := H59.out
                    omega
                clear hkt h10
                go_wp2
                go_roundw
                case rel => exact ⟨k, by omega, K0.out, K1.out, HK.out, hb⟩
                case measure => rw [C1.out, d1]; simp [intOf]; omega
              · have r10 : ((s[k].toNat : Int) != 10) = true := by rw [bne_iff_ne]; omega
                have HK : Hid ((k + 1) + skp true (dr s (k + 1)) = t) := by
                  show _ = _
                  rw [skp_rem s k hkl h10] at hkt
                  omega
                clear hkt h10
                go_wp2
                go_roundw
                case rel => exact ⟨k + 1, by omega, by omega, heap_setCell_same _ _ _ _ _ _ K0.out, (heap_setCell_other _ _ _ _ (by simp)).trans K1.out, HK.out, hb.setCell (p := ⟨_, _, none⟩) (Nat.le_refl _) _⟩
                case measure => rw [d1, cell_blk (j := 1) (heap_setCell_same _ _ _ _ _ _ K0.out) rfl]; simp [intOf]; omega
            · have r0 : decide ((k : Int) < (s.size : Int)) = false := by simp; omega
              have HK : Hid (k + skp false (dr s k) = t) := by
                show _ = _
                rw [skp_nil true s k (by omega)] at hkt
                rw [skp_nil false s k (by omega)]
                exact hkt
              clear hkt
              go_wp2
              go_roundw
              case rel => exact ⟨k, by omega, K0.out, K1.out, HK.out, hb⟩
              case measure => rw [C1.out, d1]; simp [intOf]; omega
        · have q59 : ((s[j].toNat : Int) != 59) = true := by rw [bne_iff_ne]; omega
          have HJ : Hid ((j : Int) = (t : Int)) := by
            show _ = _
            rw [skp_stop s j hlt n10 (by omega) h59] at hjt
            omega
          have z0 := cell_blk (j := 0) K1.out rfl
          have y0 := frozen_blk K1.out 0
          have z1 := cell_blk (j := 1) K1.out rfl
          have y1 := frozen_blk K1.out 1
          have z2 := cell_blk (j := 2) K1.out rfl
          have y2 := frozen_blk K1.out 2
          have z3 := cell_blk (j := 3) K1.out rfl
          have y3 := frozen_blk K1.out 3
          have z4 := cell_blk (j := 4) K1.out rfl
          have y4 := frozen_blk K1.out 4
          have z5 := cell_blk (j := 5) K1.out rfl
          have y5 := frozen_blk K1.out 5
          clear hjt n9 n10 n32 h59
          go_wp2
          refine bodyPost_ret (ret6 rfl rfl (.string s) (.int .i64 j) (.int .i64 la) (.int .i64 bd) (.slice ao n ca) (.slice bo m cb) K1.out) rfl ?_
          exact ⟨by rw [HJ.out], put6_below hb (by simp) _ _ _ _ _ _⟩
    · have q0 : decide ((j : Int) < (s.size : Int)) = false := by simp; omega
      have HJ : Hid ((j : Int) = (t : Int)) := by
        show _ = _
        rw [skp_nil false s j (by omega)] at hjt
        omega
      have z0 := cell_blk (j := 0) K1.out rfl
      have y0 := frozen_blk K1.out 0
      have z1 := cell_blk (j := 1) K1.out rfl
      have y1 := frozen_blk K1.out 1
      have z2 := cell_blk (j := 2) K1.out rfl
      have y2 := frozen_blk K1.out 2
      have z3 := cell_blk (j := 3) K1.out rfl
      have y3 := frozen_blk K1.out 3
      have z4 := cell_blk (j := 4) K1.out rfl
      have y4 := frozen_blk K1.out 4
      have z5 := cell_blk (j := 5) K1.out rfl
      have y5 := frozen_blk K1.out 5
      clear hjt
      go_wp2
      refine bodyPost_ret (ret6 rfl rfl (.string s) (.int .i64 j) (.int .i64 la) (.int .i64 bd) (.slice ao n ca) (.slice bo m cb) K1.out) rfl ?_
      exact ⟨by rw [HJ.out], put6_below hb (by simp) _ _ _ _ _ _⟩
theorem tkE_cons {s : ByteArray} {b : Nat} (h : b < s.size) : tkE s b = if parB s[b] then b + 1 else b + twl (dr s b) := by
  have e := dr_cons s b h
  unfold tkE
  rw [e]
theorem tkE_end {s : ByteArray} {b : Nat} (h : s.size ≤ b) : tkE s b = b := by
  unfold tkE
  rw [dr_end s b h]
set_option maxRecDepth 100000 in
set_option maxHeartbeats 1000000 in
theorem l2Token_any (s : ByteArray) (b : Nat) (w : World) (hs : s.size ≤ 33554432) (hb : b ≤ s.size) :
    Calls Tryd.prog 58 #[.string s, .int .i64 b] w fun e w' => e = .returned (.int .i64 (tkE s b)) ∧ w' = w := by
  obtain ⟨t, ht⟩ : ∃ t, t = tkE s b := ⟨_, rfl⟩
  rw [← ht]
  by_cases hlt : b < s.size
  · have HI : Hid (∀ w, Calls Tryd.prog 80 #[.int .u8 s[b].toNat, .string ⟨#[40, 41, 39]⟩] w fun e w' => e = .returned (.bool (parB s[b])) ∧ w' = w) := fun w => l2In_any s[b] _ w (by decide)
    rw [tkE_cons hlt] at ht
    cases hp : parB s[b]
    · rw [hp] at HI ht
      have HT : Hid (t = b + twl (dr s b)) := ht
      clear ht hp
      go_enter Tryd.func58, Tryd.ntmps58
      go_wp2_with (go_at_call 80; refine (HI.out _).mono ?_; rintro e w' ⟨rfl, rfl⟩)
      go_loop [1] (fun o => ∃ j : Nat, b ≤ j ∧ j ≤ s.size ∧ o = .int .i64 j ∧ t = j + twl (dr s j)) (fun o => s.size - (intOf o).toNat)
      case atStart => exact ⟨b, Nat.le_refl _, hb, rfl, HT.out⟩
      case round =>
        obtain ⟨j, hbj, hj, rfl, hjt⟩ := hrel
        by_cases hjl : j < s.size
        · have hc256 : (s[j].toNat : Int) < 256 := by have := s[j].toNat_lt; omega
          have HG : Hid (∀ w, Calls Tryd.prog 81 #[.int .u8 s[j].toNat] w fun e w' => e = .returned (.bool (sgB s[j])) ∧ w' = w) := fun w => l2Sign_any s[j] w
          rw [dr_cons s j hjl, twl_cons] at hjt
          cases hw : wdB s[j]
          · rw [hw] at hjt
            have HJ : Hid ((j : Int) = (t : Int)) := by
              show _ = _
              simp at hjt
              omega
            have hsg : sgB s[j] = false := by cases h : sgB s[j]; rfl; simp [wdB, h] at hw
            have h35 : ¬ s[j].toNat = 35 := by intro h; simp [wdB, h] at hw
            have h46 : ¬ s[j].toNat = 46 := by intro h; simp [wdB, h] at hw
            have q35 : ((s[j].toNat : Int) == 35) = false := by rw [beq_eq_false_iff_ne]; omega
            have q46 : ((s[j].toNat : Int) == 46) = false := by rw [beq_eq_false_iff_ne]; omega
            rw [hsg] at HG
            clear hjt hw hsg h35 h46
            go_wp2_with (go_at_call 81; refine (HG.out _).mono ?_; rintro e w' ⟨rfl, rfl⟩)
            go_ret
            exact ⟨by rw [← HJ.out]; rfl, rfl⟩
          · rw [hw] at hjt
            have HJ : Hid (t = (j + 1) + twl (dr s (j + 1))) := by show _ = _; simp at hjt; omega
            clear hjt
            cases hsg : sgB s[j]
            · rw [hsg] at HG
              by_cases h35 : s[j].toNat = 35
              · have q35 : ((s[j].toNat : Int) == 35) = true := by rw [beq_iff_eq]; omega
                clear hw hsg h35
                go_wp2_with (go_at_call 81; refine (HG.out _).mono ?_; rintro e w' ⟨rfl, rfl⟩)
                go_round
                case rel => exact ⟨j + 1, by omega, by omega, by go_num, HJ.out⟩
                case measure => simp [intOf]; omega
              · have q35 : ((s[j].toNat : Int) == 35) = false := by rw [beq_eq_false_iff_ne]; omega
                have h46 : s[j].toNat = 46 := by simpa [wdB, hsg, h35] using hw
                have q46 : ((s[j].toNat : Int) == 46) = true := by rw [beq_iff_eq]; omega
                clear hw hsg h35 h46
                go_wp2_with (go_at_call 81; refine (HG.out _).mono ?_; rintro e w' ⟨rfl, rfl⟩)
                go_round
                case rel => exact ⟨j + 1, by omega, by omega, by go_num, HJ.out⟩
                case measure => simp [intOf]; omega
            · rw [hsg] at HG
              clear hw hsg
              go_wp2_with (go_at_call 81; refine (HG.out _).mono ?_; rintro e w' ⟨rfl, rfl⟩)
              go_round
              case rel => exact ⟨j + 1, by omega, by omega, by go_num, HJ.out⟩
              case measure => simp [intOf]; omega
        · have q0 : decide ((j : Int) < (s.size : Int)) = false := by simp; omega
          have HJ : Hid ((j : Int) = (t : Int)) := by
            show _ = _
            rw [dr_end s j (by omega)] at hjt
            simp [twl] at hjt
            omega
          clear hjt
          go_wp2_with fail
          go_ret
          exact ⟨by rw [← HJ.out]; rfl, rfl⟩
    · rw [hp] at HI ht
      have HT : Hid ((t : Int) = (b : Int) + 1) := by show _ = _; simp at ht; omega
      clear ht hp
      go_enter Tryd.func58, Tryd.ntmps58
      go_wp2_with (go_at_call 80; refine (HI.out _).mono ?_; rintro e w' ⟨rfl, rfl⟩)
      go_ret
      exact ⟨by rw [HT.out]; rfl, rfl⟩
  · have HT : Hid ((t : Int) = (b : Int)) := by show _ = _; rw [tkE_end (by omega)] at ht; omega
    have q0 : decide ((s.size : Int) ≤ (b : Int)) = true := by simp; omega
    clear ht
    go_enter Tryd.func58, Tryd.ntmps58
    go_wp2
    go_ret
    exact ⟨by rw [HT.out]; rfl, rfl⟩
end Go.Proofs.YtgfkmppkeolckaaDoor
