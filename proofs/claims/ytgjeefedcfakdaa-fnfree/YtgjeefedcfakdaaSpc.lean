/- The model's reader: passing over, tokens, failing. The model's reader: failing, one cell more. Drawn regions: what stands equal. The model's reader: the pairs of a list. -/
import Derived.Test.YtgjeefedcfakdaaPrs
import Derived.Test.YtgjeefedcfakdaaBlk
set_option linter.unusedVariables false
namespace Go.Proofs.Ytgjeefedcfakdaa.R2
open Go.ChangeShapes Go.WideShapes Go.ChangeAt Go.RowKit
def rb (s : ByteArray) (i la bd : Int) (cv tv : Value) : Obj := .cells #[.string s, .int .i64 i, .int .i64 la, .int .i64 bd, cv, tv] 88 (0, 0)
theorem skp_nil (rem : Bool) (s : ByteArray) (j : Nat) (h : s.size ≤ j) : skp rem (dr s j) = 0 := by rw [dr_end s j h]; simp [skp]
theorem skp_10 (rem : Bool) (s : ByteArray) (j : Nat) (h : j < s.size) (hc : s[j].toNat = 10) : skp rem (dr s j) = 1 + skp false (dr s (j + 1)) := by rw [dr_cons s j h]; simp [skp, hc]
theorem skp_bl (s : ByteArray) (j : Nat) (h : j < s.size) (hc : s[j].toNat = 9 ∨ s[j].toNat = 32) : skp false (dr s j) = 1 + skp false (dr s (j + 1)) := by
 rw [dr_cons s j h]
 have h10 : ¬ s[j].toNat = 10 := by omega
 simp only [skp]
 rw [if_neg h10, if_neg (by simp), if_pos hc]
theorem skp_semi (s : ByteArray) (j : Nat) (h : j < s.size) (hc : s[j].toNat = 59) : skp false (dr s j) = 1 + skp true (dr s (j + 1)) := by
 rw [dr_cons s j h]
 simp only [skp]
 rw [if_neg (by omega), if_neg (by simp), if_neg (by omega), if_pos hc]
theorem skp_rem (s : ByteArray) (j : Nat) (h : j < s.size) (hc : ¬ s[j].toNat = 10) : skp true (dr s j) = 1 + skp true (dr s (j + 1)) := by
 rw [dr_cons s j h]
 simp only [skp]
 rw [if_neg hc, if_pos trivial]
theorem skp_stop (s : ByteArray) (j : Nat) (h : j < s.size) (h1 : ¬ s[j].toNat = 10) (h2 : ¬ (s[j].toNat = 9 ∨ s[j].toNat = 32)) (h3 : ¬ s[j].toNat = 59) : skp false (dr s j) = 0 := by
 rw [dr_cons s j h]
 simp only [skp]
 rw [if_neg h1, if_neg (by simp), if_neg h2, if_neg h3]
def rz : Obj := .cells #[.string ⟨#[]⟩, .int .i64 0, .int .i64 0, .int .i64 0, .slice none 0 0, .slice none 0 0] 88 (0, 0)
def put6 (w : World) (g : Nat) (v0 v1 v2 v3 v4 v5 : Value) : World :=
 (((((w.setCell ⟨g, 0, none⟩ v0).setCell ⟨g, 1, none⟩ v1).setCell ⟨g, 2, none⟩ v2).setCell ⟨g, 3, none⟩ v3).setCell ⟨g, 4, none⟩ v4).setCell ⟨g, 5, none⟩ v5
theorem put6_blk {w : World} {g : Nat} {x0 x1 x2 x3 x4 x5 : Value} (v0 v1 v2 v3 v4 v5 : Value) (h : w.heap[g]? = some (.cells #[x0, x1, x2, x3, x4, x5] 88 (0, 0))) : (put6 w g v0 v1 v2 v3 v4 v5).heap[g]? = some (.cells #[v0, v1, v2, v3, v4, v5] 88 (0, 0)) :=
 heap_setCell_same _ _ _ _ _ _ (heap_setCell_same _ _ _ _ _ _ (heap_setCell_same _ _ _ _ _ _ (heap_setCell_same _ _ _ _ _ _ (heap_setCell_same _ _ _ _ _ _ (heap_setCell_same _ _ _ _ _ _ h)))))
theorem put6_below {B g : Nat} {w0 w : World} (h : Below B w0 w) (hg : B ≤ g) (v0 v1 v2 v3 v4 v5 : Value) : Below B w0 (put6 w g v0 v1 v2 v3 v4 v5) :=
 (((((h.setCell (p := ⟨g, _, none⟩) hg _).setCell (p := ⟨g, _, none⟩) hg _).setCell (p := ⟨g, _, none⟩) hg _).setCell (p := ⟨g, _, none⟩) hg _).setCell (p := ⟨g, _, none⟩) hg _).setCell (p := ⟨g, _, none⟩) hg _
theorem put6_other {w : World} {g : Nat} {v0 v1 v2 v3 v4 v5 : Value} {b : Nat} (h : b ≠ g) : (put6 w g v0 v1 v2 v3 v4 v5).heap[b]? = w.heap[b]? := by
 unfold put6
 rw [heap_setCell_other _ _ _ _ h, heap_setCell_other _ _ _ _ h, heap_setCell_other _ _ _ _ h, heap_setCell_other _ _ _ _ h, heap_setCell_other _ _ _ _ h, heap_setCell_other _ _ _ _ h]
theorem put6_size {w : World} {g : Nat} {v0 v1 v2 v3 v4 v5 : Value} : (put6 w g v0 v1 v2 v3 v4 v5).heap.size = w.heap.size := by simp [put6]
theorem Try.info32s : (Try.prog.info? 88).map (·.size) = some 6 := by kernel_rfl
theorem ret6 {fn : Func} {p : Tmp} {w : World} {g : Nat} {x0 x1 x2 x3 x4 x5 : Value} {tmps : Array Value} (hf : fn.results = #[.cell p 88]) (hp : tmps.getD p undef = .pointer (some ⟨g, 0, none⟩)) (v0 v1 v2 v3 v4 v5 : Value) (h : w.heap[g]? = some (.cells #[x0, x1, x2, x3, x4, x5] 88 (0, 0))) :
  (results fn tmps).run Try.prog (put6 w g v0 v1 v2 v3 v4 v5) = .ok (.agg #[v0, v1, v2, v3, v4, v5]) (put6 w g v0 v1 v2 v3 v4 v5) :=
 results_cell_row hf _ _ g 88 #[v0, v1, v2, v3, v4, v5] (0, 0) _ hp (put6_blk v0 v1 v2 v3 v4 v5 h) Try.underlying88 rfl Try.info32s
set_option maxRecDepth 100000 in
set_option maxHeartbeats 1000000 in
theorem l2Skip_any (s : ByteArray) (i : Nat) (la bd : Int) (ao bo : Option Addr) (n ca m cb : Nat) (w : World) (hs : s.size ≤ 1048576) (hi : i ≤ s.size) :
  Calls Try.prog 52 #[.agg #[.string s, .int .i64 i, .int .i64 la, .int .i64 bd, (.slice ao n ca), (.slice bo m cb)]] w fun e w' => Ans w (.agg #[.string s, .int .i64 (skAt s i), .int .i64 la, .int .i64 bd, (.slice ao n ca), (.slice bo m cb)]) e w' := by
 obtain ⟨t, ht⟩ : ∃ t, t = skAt s i := ⟨_, rfl⟩
 rw [← ht]
 go_enter Try.func52, Try.ntmps52
 go_wp2
 have hb0 : Below w.heap.size w ((w.alloc (rb s i la bd (.slice ao n ca) (.slice bo m cb))).alloc rz) := (bR _ _).alloc (by simp) _
 have k0 : ((w.alloc (rb s i la bd (.slice ao n ca) (.slice bo m cb))).alloc rz).heap[w.heap.size]? = some (rb s i la bd (.slice ao n ca) (.slice bo m cb)) := blk_past (blk_at _ _ _ rfl)
 have k1 : ((w.alloc (rb s i la bd (.slice ao n ca) (.slice bo m cb))).alloc rz).heap[w.heap.size + 1]? = some rz := blk_at _ _ _ (by simp)
 go_loopw [3] (fun _ wr => ∃ j : Nat, j ≤ s.size ∧ wr.heap[w.heap.size]? = some (rb s j la bd (.slice ao n ca) (.slice bo m cb)) ∧ wr.heap[w.heap.size + 1]? = some rz ∧ j + skp false (dr s j) = t ∧ Below w.heap.size w wr)
  (fun _ wr => s.size - (intOf ((wr.cell? ⟨w.heap.size, 1, none⟩).getD undef)).toNat)
 case atStart => exact ⟨i, hi, k0, k1, ht.symm, hb0⟩
 case round =>
  clear k0 k1 hb0 ht hi
  obtain ⟨j, hj, k0, k1, hjt, hb⟩ := hrel
  obtain ⟨c0, c1, c2, c3, c4, c5⟩ := zn6 k0 rfl rfl rfl rfl rfl rfl
  have f1 := frozen_blk k0 1
  have K0 : Hid (wr.heap[w.heap.size]? = some (rb s j la bd (.slice ao n ca) (.slice bo m cb))) := k0
  have K1 : Hid (wr.heap[w.heap.size + 1]? = some rz) := k1
  clear k0 k1
  by_cases hlt : j < s.size
  ·have hc256 : (s[j].toNat : Int) < 256 := by have := s[j].toNat_lt; omega
   by_cases hbl : s[j].toNat = 9 ∨ s[j].toNat = 10 ∨ s[j].toNat = 32
   ·have HJ : Hid ((j + 1) + skp false (dr s (j + 1)) = t) := by
     show _ = _
     rcases hbl with h | h | h
     ·rw [skp_bl s j hlt (.inl h)] at hjt; omega
     ·rw [skp_10 false s j hlt h] at hjt; omega
     ·rw [skp_bl s j hlt (.inr h)] at hjt; omega
    clear hjt
    rcases hbl with h | h | h
    ·have q9 : ((s[j].toNat : Int) == 9) = true := by rw [beq_iff_eq]; omega
     clear h
     go_wp2
     go_roundw
     case rel => exact ⟨j + 1, by omega, heap_setCell_same _ _ _ _ _ _ K0.out, (heap_setCell_other _ _ _ _ (by simp)).trans K1.out, HJ.out, hb.setCell (p := ⟨_, _, none⟩) (Nat.le_refl _) _⟩
     case measure => rw [c1, cell_blk (j := 1) (heap_setCell_same _ _ _ _ _ _ K0.out) rfl]; simp [intOf]; omega
    ·have q9 : ((s[j].toNat : Int) == 9) = false := by rw [beq_eq_false_iff_ne]; omega
     have q10 : ((s[j].toNat : Int) == 10) = true := by rw [beq_iff_eq]; omega
     clear h
     go_wp2
     go_roundw
     case rel => exact ⟨j + 1, by omega, heap_setCell_same _ _ _ _ _ _ K0.out, (heap_setCell_other _ _ _ _ (by simp)).trans K1.out, HJ.out, hb.setCell (p := ⟨_, _, none⟩) (Nat.le_refl _) _⟩
     case measure => rw [c1, cell_blk (j := 1) (heap_setCell_same _ _ _ _ _ _ K0.out) rfl]; simp [intOf]; omega
    ·have q9 : ((s[j].toNat : Int) == 9) = false := by rw [beq_eq_false_iff_ne]; omega
     have q10 : ((s[j].toNat : Int) == 10) = false := by rw [beq_eq_false_iff_ne]; omega
     have q32 : ((s[j].toNat : Int) == 32) = true := by rw [beq_iff_eq]; omega
     clear h
     go_wp2
     go_roundw
     case rel => exact ⟨j + 1, by omega, heap_setCell_same _ _ _ _ _ _ K0.out, (heap_setCell_other _ _ _ _ (by simp)).trans K1.out, HJ.out, hb.setCell (p := ⟨_, _, none⟩) (Nat.le_refl _) _⟩
     case measure => rw [c1, cell_blk (j := 1) (heap_setCell_same _ _ _ _ _ _ K0.out) rfl]; simp [intOf]; omega
   ·have n9 : ¬ s[j].toNat = 9 := by omega
    have n10 : ¬ s[j].toNat = 10 := by omega
    have n32 : ¬ s[j].toNat = 32 := by omega
    clear hbl
    have q9 : ((s[j].toNat : Int) == 9) = false := by rw [beq_eq_false_iff_ne]; omega
    have q10 : ((s[j].toNat : Int) == 10) = false := by rw [beq_eq_false_iff_ne]; omega
    have q32 : ((s[j].toNat : Int) == 32) = false := by rw [beq_eq_false_iff_ne]; omega
    by_cases h59 : s[j].toNat = 59
    ·have q59 : ((s[j].toNat : Int) != 59) = false := by rw [bne_eq_false_iff_eq]; omega
     have HJ : Hid (j + skp true (dr s j) = t) := by
      show _ = _
      rw [skp_semi s j hlt h59] at hjt
      rw [skp_rem s j hlt n10]
      omega
     have H59 : Hid (s[j].toNat = 59) := h59
     clear hjt n9 n10 n32 h59
     go_wp2
     go_loopw [26] (fun _ wr => ∃ k : Nat, j ≤ k ∧ k ≤ s.size ∧ wr.heap[w.heap.size]? = some (rb s k la bd (.slice ao n ca) (.slice bo m cb)) ∧ wr.heap[w.heap.size + 1]? = some rz ∧ k + skp true (dr s k) = t ∧ Below w.heap.size w wr)
      (fun _ wr => s.size - (intOf ((wr.cell? ⟨w.heap.size, 1, none⟩).getD undef)).toNat)
     case atStart => exact ⟨j, Nat.le_refl _, hj, K0.out, K1.out, HJ.out, hb⟩
     case round =>
      clear K0 K1 HJ hb c0 c2 c3 c4 c5 f1
      obtain ⟨k, hjk, hk, k0, k1, hkt, hb⟩ := hrel
      obtain ⟨d0, d1⟩ := zn2 k0 rfl rfl
      have f1 := frozen_blk k0 1
      have K0 : Hid (wr.heap[w.heap.size]? = some (rb s k la bd (.slice ao n ca) (.slice bo m cb))) := k0
      have K1 : Hid (wr.heap[w.heap.size + 1]? = some rz) := k1
      have C1 : Hid _ := c1
      clear k0 k1 c1
      by_cases hkl : k < s.size
      ·have hk256 : (s[k].toNat : Int) < 256 := by have := s[k].toNat_lt; omega
       by_cases h10 : s[k].toNat = 10
       ·have r10 : ((s[k].toNat : Int) != 10) = false := by rw [bne_eq_false_iff_eq]; omega
        have HK : Hid (k + skp false (dr s k) = t) := by
         show _ = _
         rw [skp_10 true s k hkl h10] at hkt
         rw [skp_10 false s k hkl h10]
         exact hkt
        have hne : j < k := by
         rcases Nat.lt_or_eq_of_le hjk with h | h
         ·exact h
         ·subst h
          have := H59.out
          omega
        clear hkt h10
        go_wp2
        go_roundw
        case rel => exact ⟨k, by omega, K0.out, K1.out, HK.out, hb⟩
        case measure => rw [C1.out, d1]; simp [intOf]; omega
       ·have r10 : ((s[k].toNat : Int) != 10) = true := by rw [bne_iff_ne]; omega
        have HK : Hid ((k + 1) + skp true (dr s (k + 1)) = t) := by
         show _ = _
         rw [skp_rem s k hkl h10] at hkt
         omega
        clear hkt h10
        go_wp2
        go_roundw
        case rel => exact ⟨k + 1, by omega, by omega, heap_setCell_same _ _ _ _ _ _ K0.out, (heap_setCell_other _ _ _ _ (by simp)).trans K1.out, HK.out, hb.setCell (p := ⟨_, _, none⟩) (Nat.le_refl _) _⟩
        case measure => rw [d1, cell_blk (j := 1) (heap_setCell_same _ _ _ _ _ _ K0.out) rfl]; simp [intOf]; omega
      ·have r0 : decide ((k : Int) < (s.size : Int)) = false := by simp; omega
       have HK : Hid (k + skp false (dr s k) = t) := by
        show _ = _
        rw [skp_nil true s k (by omega)] at hkt
        rw [skp_nil false s k (by omega)]
        exact hkt
       clear hkt
       go_wp2
       go_roundw
       case rel => exact ⟨k, by omega, K0.out, K1.out, HK.out, hb⟩
       case measure => rw [C1.out, d1]; simp [intOf]; omega
    ·have q59 : ((s[j].toNat : Int) != 59) = true := by rw [bne_iff_ne]; omega
     have HJ : Hid ((j : Int) = (t : Int)) := by
      show _ = _
      rw [skp_stop s j hlt n10 (by omega) h59] at hjt
      omega
     have z0 := zB 0 K1.out rfl
     have y0 := frozen_blk K1.out 0
     have z1 := zB 1 K1.out rfl
     have y1 := frozen_blk K1.out 1
     have z2 := zB 2 K1.out rfl
     have y2 := frozen_blk K1.out 2
     have z3 := zB 3 K1.out rfl
     have y3 := frozen_blk K1.out 3
     have z4 := zB 4 K1.out rfl
     have y4 := frozen_blk K1.out 4
     have z5 := zB 5 K1.out rfl
     have y5 := frozen_blk K1.out 5
     clear hjt n9 n10 n32 h59
     go_wp2
     refine bodyPost_ret (ret6 rfl rfl (.string s) (.int .i64 j) (.int .i64 la) (.int .i64 bd) (.slice ao n ca) (.slice bo m cb) K1.out) rfl ?_
     exact ⟨by rw [HJ.out], put6_below hb (by simp) _ _ _ _ _ _⟩
  ·have q0 : decide ((j : Int) < (s.size : Int)) = false := by simp; omega
   have HJ : Hid ((j : Int) = (t : Int)) := by
    show _ = _
    rw [skp_nil false s j (by omega)] at hjt
    omega
   have z0 := zB 0 K1.out rfl
   have y0 := frozen_blk K1.out 0
   have z1 := zB 1 K1.out rfl
   have y1 := frozen_blk K1.out 1
   have z2 := zB 2 K1.out rfl
   have y2 := frozen_blk K1.out 2
   have z3 := zB 3 K1.out rfl
   have y3 := frozen_blk K1.out 3
   have z4 := zB 4 K1.out rfl
   have y4 := frozen_blk K1.out 4
   have z5 := zB 5 K1.out rfl
   have y5 := frozen_blk K1.out 5
   clear hjt
   go_wp2
   refine bodyPost_ret (ret6 rfl rfl (.string s) (.int .i64 j) (.int .i64 la) (.int .i64 bd) (.slice ao n ca) (.slice bo m cb) K1.out) rfl ?_
   exact ⟨by rw [HJ.out], put6_below hb (by simp) _ _ _ _ _ _⟩
theorem tkE_cons {s : ByteArray} {b : Nat} (h : b < s.size) : tkE s b = if parB s[b] then b + 1 else b + twl (dr s b) := by
 have e := dr_cons s b h
 unfold tkE
 rw [e]
theorem tkE_end {s : ByteArray} {b : Nat} (h : s.size ≤ b) : tkE s b = b := by
 unfold tkE
 rw [dr_end s b h]
set_option maxRecDepth 100000 in
set_option maxHeartbeats 1000000 in
theorem l2Token_any (s : ByteArray) (b : Nat) (w : World) (hs : s.size ≤ 1048576) (hb : b ≤ s.size) :
  Calls Try.prog 63 #[.string s, .int .i64 b] w fun e w' => e = .returned (.int .i64 (tkE s b)) ∧ w' = w := by
 obtain ⟨t, ht⟩ : ∃ t, t = tkE s b := ⟨_, rfl⟩
 rw [← ht]
 by_cases hlt : b < s.size
 ·have HI : Hid (∀ w, Calls Try.prog 60 #[.int .u8 s[b].toNat, .string ⟨#[40, 41, 39]⟩] w fun e w' => e = .returned (.bool (parB s[b])) ∧ w' = w) := fun w => l2In_any s[b] _ w (by decide)
  rw [tkE_cons hlt] at ht
  cases hp : parB s[b]
  ·rw [hp] at HI ht
   have HT : Hid (t = b + twl (dr s b)) := ht
   clear ht hp
   go_enter Try.func63, Try.ntmps63
   go_wp2_with (go_at_call 60; refine (HI.out _).mono ?_; rintro e w' ⟨rfl, rfl⟩)
   go_loop [1] (fun o => ∃ j : Nat, b ≤ j ∧ j ≤ s.size ∧ o = .int .i64 j ∧ t = j + twl (dr s j)) (fun o => s.size - (intOf o).toNat)
   case atStart => exact ⟨b, Nat.le_refl _, hb, rfl, HT.out⟩
   case round =>
    obtain ⟨j, hbj, hj, rfl, hjt⟩ := hrel
    by_cases hjl : j < s.size
    ·have hc256 : (s[j].toNat : Int) < 256 := by have := s[j].toNat_lt; omega
     have HG : Hid (∀ w, Calls Try.prog 48 #[.int .u8 s[j].toNat] w fun e w' => e = .returned (.bool (sgB s[j])) ∧ w' = w) := fun w => l2Sign_any s[j] w
     rw [dr_cons s j hjl, twl_cons] at hjt
     cases hw : wdB s[j]
     ·rw [hw] at hjt
      have HJ : Hid ((j : Int) = (t : Int)) := by
       show _ = _
       simp at hjt
       omega
      have hsg : sgB s[j] = false := by cases h : sgB s[j]; rfl; simp [wdB, h] at hw
      have h35 : ¬ s[j].toNat = 35 := by intro h; simp [wdB, h] at hw
      have h46 : ¬ s[j].toNat = 46 := by intro h; simp [wdB, h] at hw
      have q35 : ((s[j].toNat : Int) == 35) = false := by rw [beq_eq_false_iff_ne]; omega
      have q46 : ((s[j].toNat : Int) == 46) = false := by rw [beq_eq_false_iff_ne]; omega
      rw [hsg] at HG
      clear hjt hw hsg h35 h46
      go_wp2_with (go_at_call 48; refine (HG.out _).mono ?_; rintro e w' ⟨rfl, rfl⟩)
      go_ret
      exact ⟨by rw [← HJ.out]; rfl, rfl⟩
     ·rw [hw] at hjt
      have HJ : Hid (t = (j + 1) + twl (dr s (j + 1))) := by show _ = _; simp at hjt; omega
      clear hjt
      cases hsg : sgB s[j]
      ·rw [hsg] at HG
       by_cases h35 : s[j].toNat = 35
       ·have q35 : ((s[j].toNat : Int) == 35) = true := by rw [beq_iff_eq]; omega
        clear hw hsg h35
        go_wp2_with (go_at_call 48; refine (HG.out _).mono ?_; rintro e w' ⟨rfl, rfl⟩)
        go_round
        case rel => exact ⟨j + 1, by omega, by omega, by go_num, HJ.out⟩
        case measure => simp [intOf]; omega
       ·have q35 : ((s[j].toNat : Int) == 35) = false := by rw [beq_eq_false_iff_ne]; omega
        have h46 : s[j].toNat = 46 := by simpa [wdB, hsg, h35] using hw
        have q46 : ((s[j].toNat : Int) == 46) = true := by rw [beq_iff_eq]; omega
        clear hw hsg h35 h46
        go_wp2_with (go_at_call 48; refine (HG.out _).mono ?_; rintro e w' ⟨rfl, rfl⟩)
        go_round
        case rel => exact ⟨j + 1, by omega, by omega, by go_num, HJ.out⟩
        case measure => simp [intOf]; omega
      ·rw [hsg] at HG
       clear hw hsg
       go_wp2_with (go_at_call 48; refine (HG.out _).mono ?_; rintro e w' ⟨rfl, rfl⟩)
       go_round
       case rel => exact ⟨j + 1, by omega, by omega, by go_num, HJ.out⟩
       case measure => simp [intOf]; omega
    ·have q0 : decide ((j : Int) < (s.size : Int)) = false := by simp; omega
     have HJ : Hid ((j : Int) = (t : Int)) := by
      show _ = _
      rw [dr_end s j (by omega)] at hjt
      simp [twl] at hjt
      omega
     clear hjt
     go_wp2_with fail
     go_ret
     exact ⟨by rw [← HJ.out]; rfl, rfl⟩
  ·rw [hp] at HI ht
   have HT : Hid ((t : Int) = (b : Int) + 1) := by show _ = _; simp at ht; omega
   clear ht hp
   go_enter Try.func63, Try.ntmps63
   go_wp2_with (go_at_call 60; refine (HI.out _).mono ?_; rintro e w' ⟨rfl, rfl⟩)
   go_ret
   exact ⟨by rw [HT.out]; rfl, rfl⟩
 ·have HT : Hid ((t : Int) = (b : Int)) := by show _ = _; rw [tkE_end (by omega)] at ht; omega
  have q0 : decide ((s.size : Int) ≤ (b : Int)) = true := by simp; omega
  clear ht
  go_enter Try.func63, Try.ntmps63
  go_wp2
  go_ret
  exact ⟨by rw [HT.out]; rfl, rfl⟩
end Go.Proofs.Ytgjeefedcfakdaa.R2
set_option linter.unusedVariables false
namespace Go.Proofs.Ytgjeefedcfakdaa.R2
open Go.ChangeShapes Go.WideShapes Go.ChangeAt Go.RowKit
theorem own_other {w w' : World} {B t k n : Nat} {v : Value} {xs : List Value} (h : w.ownsRow B t k v n xs) (hk : ∀ b, v.ownBlock = some b → w'.heap[b]? = w.heap[b]?) : w'.ownsRow B t k v n xs := by
 obtain ⟨hl, h0 | ⟨g, cap, cur, hv, a1, hblk, a3, a4, a5, a6⟩⟩ := h
 ·exact ⟨hl, .inl h0⟩
 ·exact ⟨hl, .inr ⟨g, cap, cur, hv, a1, (hk g (by rw [hv]; rfl)).trans hblk, a3, a4, a5, a6⟩⟩
theorem own_kind {w : World} {B n b : Nat} {v : Value} {xs : List Value} (h : w.ownsRow B 98 5 v n xs) (hb : v.ownBlock = some b) : ∃ cur, w.heap[b]? = some (.cells cur 98 (0, 0)) := by
 obtain ⟨hl, ⟨hv, _⟩ | ⟨g, cap, cur, hv, a1, hblk, a3, a4, a5, a6⟩⟩ := h
 ·rw [hv] at hb; cases hb
 ·rw [hv] at hb
  simp only [Value.ownBlock, Option.some.injEq] at hb
  subst hb
  exact ⟨cur, hblk⟩
theorem ok_grow {w wA w1 : World} {v : Value} {B n : Nat} {xs : List Value} (hb : Below w.heap.size w wA) (hg : wA.grownBy w1 v.ownBlock) (ho : w.ownsRow B 98 5 v n xs) : Lib.OthersKept 98 none w w1 := by
 intro k o hk _ hne
 have hkw := (alt hk)
 have hn : some k ≠ v.ownBlock := by
  intro e
  obtain ⟨cur, hc⟩ := own_kind ho e.symm
  exact hne _ _ (Option.some.inj (hk.symm.trans hc))
 exact ((hg.block k (Nat.lt_of_lt_of_le hkw hb.size) hn).trans (hb.block k hkw)).trans hk
theorem ok_high {w w1 w2 : World} (h : Lib.OthersKept 98 none w w1) (hk : ∀ b, b < w.heap.size → w2.heap[b]? = w1.heap[b]?) : Lib.OthersKept 98 none w w2 :=
 fun k o hk0 hkb ho => (hk k (alt hk0)).trans (h k o hk0 hkb ho)
theorem ok_below {w w1 : World} (h : Below w.heap.size w w1) : Lib.OthersKept 98 none w w1 :=
 fun k o hk _ _ => (h.block k (alt hk)).trans hk
set_option maxRecDepth 100000 in
set_option maxHeartbeats 1000000 in
theorem l2Fail_neg (s : ByteArray) (i la p : Int) (ao bo : Option Addr) (n ca m cb : Nat) (w : World) :
  Calls Try.prog 64 #[.agg #[.string s, .int .i64 i, .int .i64 la, .int .i64 (-1), .slice ao n ca, .slice bo m cb], .int .i64 p] w fun e w' => Ans w (.agg #[.string s, .int .i64 i, .int .i64 la, .int .i64 p, .slice ao n ca, .slice bo m cb]) e w' := by
 go_enter Try.func64, Try.ntmps64
 go_wp2
 refine bodyPost_ret (results_cell_row rfl _ _ (w.heap.size + 1) 88 #[.string s, .int .i64 i, .int .i64 la, .int .i64 p, .slice ao n ca, .slice bo m cb] (0, 0) _ rfl (blk_at _ _ _ (by simp)) Try.underlying88 rfl Try.info32s) rfl ?_
 exact ⟨rfl, (bR _ _).alloc (by simp) _⟩
set_option maxRecDepth 100000 in
set_option maxHeartbeats 1000000 in
theorem l2Fail_pos (s : ByteArray) (i la p bd : Int) (ao bo : Option Addr) (n ca m cb : Nat) (w : World) (hbd : 0 ≤ bd) :
  Calls Try.prog 64 #[.agg #[.string s, .int .i64 i, .int .i64 la, .int .i64 bd, .slice ao n ca, .slice bo m cb], .int .i64 p] w fun e w' => Ans w (.agg #[.string s, .int .i64 i, .int .i64 la, .int .i64 bd, .slice ao n ca, .slice bo m cb]) e w' := by
 have q : decide (bd < 0) = false := by simp; omega
 go_enter Try.func64, Try.ntmps64
 go_wp2
 refine bodyPost_ret (results_cell_row rfl _ _ (w.heap.size + 1) 88 #[.string s, .int .i64 i, .int .i64 la, .int .i64 bd, .slice ao n ca, .slice bo m cb] (0, 0) _ rfl (blk_at _ _ _ (by simp)) Try.underlying88 rfl Try.info32s) rfl ?_
 exact ⟨rfl, (bR _ _).alloc (by simp) _⟩
set_option maxRecDepth 100000 in
set_option maxHeartbeats 1000000 in
theorem l2Put_bad (s : ByteArray) (i la bd : Int) (ao bo : Option Addr) (n ca m cb : Nat) (d : Dat) (w : World) (hbd : 0 ≤ bd) :
  Calls Try.prog 65 #[.agg #[.string s, .int .i64 i, .int .i64 la, .int .i64 bd, .slice ao n ca, .slice bo m cb], .agg #[.int .i64 d.k, .int .i64 d.n, .string d.s, .int .i64 d.l, .int .i64 d.r]] w fun e w' => Ans w (.agg #[.string s, .int .i64 i, .int .i64 la, .int .i64 bd, .slice ao n ca, .slice bo m cb]) e w' := by
 have q : decide (0 ≤ bd) = true := by simp [hbd]
 go_enter Try.func65, Try.ntmps65
 go_wp2
 refine bodyPost_ret (results_cell_row rfl _ _ (w.heap.size + 1 + 1) 88 #[.string s, .int .i64 i, .int .i64 la, .int .i64 bd, .slice ao n ca, .slice bo m cb] (0, 0) _ rfl (blk_at _ _ _ (by simp)) Try.underlying88 rfl Try.info32s) rfl ?_
 exact ⟨rfl, ((bR _ _).alloc (by simp) _).alloc (by simp; omega) _⟩
set_option maxRecDepth 100000 in
set_option maxHeartbeats 1000000 in
theorem l2Put_full (s : ByteArray) (i la : Int) (ao bo : Option Addr) (n ca m cb : Nat) (d : Dat) (w : World) (hn : n = 1000) :
  Calls Try.prog 65 #[.agg #[.string s, .int .i64 i, .int .i64 la, .int .i64 (-1), .slice ao n ca, .slice bo m cb], .agg #[.int .i64 d.k, .int .i64 d.n, .string d.s, .int .i64 d.l, .int .i64 d.r]] w fun e w' => Ans w (.agg #[.string s, .int .i64 i, .int .i64 la, .int .i64 la, .slice ao n ca, .slice bo m cb]) e w' := by
 subst hn
 go_enter Try.func65, Try.ntmps65
 have hbA : Below w.heap.size w (((w.alloc (rb s i la (-1) (.slice ao 1000 ca) (.slice bo m cb))).alloc (Obj.cells #[.int .i64 d.k, .int .i64 d.n, .string d.s, .int .i64 d.l, .int .i64 d.r] 98)).alloc rz) := ((bR _ _).alloc (by simp) _).alloc (by simp; omega) _
 have k2 : (((w.alloc (rb s i la (-1) (.slice ao 1000 ca) (.slice bo m cb))).alloc (Obj.cells #[.int .i64 d.k, .int .i64 d.n, .string d.s, .int .i64 d.l, .int .i64 d.r] 98)).alloc rz).heap[w.heap.size + 1 + 1]? = some rz := blk_at _ _ _ (by simp)
 go_wp2_with (go_at_call 64; refine (l2Fail_neg s i la la ao bo 1000 ca m cb _).mono ?_; rintro e w1 ⟨rfl, hb1⟩; have kz := blk_keep k2 hb1 (by simp); have z0 := cell_blk (j := 0) kz rfl; have y0 := frozen_blk kz 0; have z1 := cell_blk (j := 1) kz rfl; have y1 := frozen_blk kz 1; have z2 := cell_blk (j := 2) kz rfl; have y2 := frozen_blk kz 2; have z3 := cell_blk (j := 3) kz rfl; have y3 := frozen_blk kz 3; have z4 := cell_blk (j := 4) kz rfl; have y4 := frozen_blk kz 4; have z5 := cell_blk (j := 5) kz rfl; have y5 := frozen_blk kz 5)
 refine bodyPost_ret (ret6 rfl rfl (.string s) (.int .i64 i) (.int .i64 la) (.int .i64 la) (.slice ao 1000 ca) (.slice bo m cb) kz) rfl ?_
 exact ⟨rfl, put6_below (bT hbA hb1) (by omega) _ _ _ _ _ _⟩
set_option maxRecDepth 100000 in
set_option maxHeartbeats 1000000 in
theorem l2Put_ok (s : ByteArray) (i la : Int) (ao bo : Option Addr) (ca m cb B : Nat) (cs : List Dat) (d : Dat) (w : World) (hn : cs.length < 1000) (hB : B ≤ w.heap.size) (hown : w.ownsRow B 98 5 (.slice ao cs.length ca) cs.length (flatD cs)) :
  Calls Try.prog 65 #[.agg #[.string s, .int .i64 i, .int .i64 la, .int .i64 (-1), .slice ao cs.length ca, .slice bo m cb], .agg #[.int .i64 d.k, .int .i64 d.n, .string d.s, .int .i64 d.l, .int .i64 d.r]] w fun e w' => ∃ g c', e = .returned (.agg #[.string s, .int .i64 i, .int .i64 la, .int .i64 (-1), .slice (some ⟨g, 0, none⟩) (cs.length + 1) c', .slice bo m cb]) ∧ w'.ownsRow B 98 5 (.slice (some ⟨g, 0, none⟩) (cs.length + 1) c') (cs.length + 1) (flatD (cs ++ [d])) ∧ Below B w w' ∧ Lib.OthersKept 98 none w w' := by
 obtain ⟨i0, hi, hz0, hz1, hz2⟩ := info_parts bldInfo49
 have HO : Hid (w.ownsRow B 98 5 (.slice ao cs.length ca) cs.length (flatD cs)) := hown
 have q : decide ((1000 : Int) ≤ (cs.length : Int)) = false := by simp; omega
 clear hown
 have hbA : Below w.heap.size w ((((w.alloc (rb s i la (-1) (.slice ao cs.length ca) (.slice bo m cb))).alloc (Obj.cells #[.int .i64 d.k, .int .i64 d.n, .string d.s, .int .i64 d.l, .int .i64 d.r] 98)).alloc rz).alloc (Obj.cells #[.int .i64 d.k, .int .i64 d.n, .string d.s, .int .i64 d.l, .int .i64 d.r] 98)) := (((bR _ _).alloc (by simp) _).alloc (by simp; omega) _).alloc (by simp; omega) _
 have kA0 : ((((w.alloc (rb s i la (-1) (.slice ao cs.length ca) (.slice bo m cb))).alloc (Obj.cells #[.int .i64 d.k, .int .i64 d.n, .string d.s, .int .i64 d.l, .int .i64 d.r] 98)).alloc rz).alloc (Obj.cells #[.int .i64 d.k, .int .i64 d.n, .string d.s, .int .i64 d.l, .int .i64 d.r] 98)).heap[w.heap.size]? = some (rb s i la (-1) (.slice ao cs.length ca) (.slice bo m cb)) := blk_past (blk_past (blk_past (blk_at _ _ _ rfl)))
 have kA2 : ((((w.alloc (rb s i la (-1) (.slice ao cs.length ca) (.slice bo m cb))).alloc (Obj.cells #[.int .i64 d.k, .int .i64 d.n, .string d.s, .int .i64 d.l, .int .i64 d.r] 98)).alloc rz).alloc (Obj.cells #[.int .i64 d.k, .int .i64 d.n, .string d.s, .int .i64 d.l, .int .i64 d.r] 98)).heap[w.heap.size + 1 + 1]? = some rz := blk_past (blk_at _ _ _ (by simp))
 have kA3 : ((((w.alloc (rb s i la (-1) (.slice ao cs.length ca) (.slice bo m cb))).alloc (Obj.cells #[.int .i64 d.k, .int .i64 d.n, .string d.s, .int .i64 d.l, .int .i64 d.r] 98)).alloc rz).alloc (Obj.cells #[.int .i64 d.k, .int .i64 d.n, .string d.s, .int .i64 d.l, .int .i64 d.r] 98)).heap[w.heap.size + 1 + 1 + 1]? = some (Obj.cells #[.int .i64 d.k, .int .i64 d.n, .string d.s, .int .i64 d.l, .int .i64 d.r] 98) := blk_at _ _ _ (by simp)
 have hsA : ((((w.alloc (rb s i la (-1) (.slice ao cs.length ca) (.slice bo m cb))).alloc (Obj.cells #[.int .i64 d.k, .int .i64 d.n, .string d.s, .int .i64 d.l, .int .i64 d.r] 98)).alloc rz).alloc (Obj.cells #[.int .i64 d.k, .int .i64 d.n, .string d.s, .int .i64 d.l, .int .i64 d.r] 98)).heap.size = w.heap.size + 1 + 1 + 1 + 1 := by simp
 have hoA : ((((w.alloc (rb s i la (-1) (.slice ao cs.length ca) (.slice bo m cb))).alloc (Obj.cells #[.int .i64 d.k, .int .i64 d.n, .string d.s, .int .i64 d.l, .int .i64 d.r] 98)).alloc rz).alloc (Obj.cells #[.int .i64 d.k, .int .i64 d.n, .string d.s, .int .i64 d.l, .int .i64 d.r] 98)).ownsRow B 98 5 (.slice ao cs.length ca) cs.length (flatD cs) := (((HO.out.alloc _).alloc _).alloc _).alloc _
 have hol : ∀ k, (Value.slice ao cs.length ca).ownBlock = some k → B ≤ k ∧ k < w.heap.size := fun k hk => HO.out.lt k hk
 go_enter Try.func65, Try.ntmps65
 go_wp2_with (at_builtin; refine wpList_append_lies _ rfl _ _ 64 rfl B 98 i0 _ 5 48 Try.underlying64 hi hz0 hz1 hz2 rfl (by omega) (.slice ao cs.length ca) cs.length (flatD cs) rfl hoA ⟨w.heap.size + 1 + 1 + 1, 0, none⟩ 1 1 [.int .i64 d.k, .int .i64 d.n, .string d.s, .int .i64 d.l, .int .i64 d.r] rfl rfl (World.news_of_block kA3) (by intro u hu; simp at hu; rcases hu with rfl | rfl | rfl | rfl | rfl <;> rfl) (by omega) (by simp [maxLen]; omega) (by omega) (by simp; omega) (w.heap.size + 1 + 1 + 1 + 1) hsA ?_)
 intro g cap' w1 hown1 hgrow hat hlt
 have kr := (hgrow.block w.heap.size (by simp; try omega) (fun e => by have := (hol _ e.symm).2; omega)).trans kA0
 have kz := (hgrow.block (w.heap.size + 1 + 1) (by simp) (fun e => by have := (hol _ e.symm).2; omega)).trans kA2
 obtain ⟨x0, x1, x2, x3, x4, x5⟩ := zn6 kr rfl rfl rfl rfl rfl rfl
 have fx := frozen_blk kr 4
 have z0 := zB 0 kz rfl
 have y0 := frozen_blk kz 0
 have z1 := zB 1 kz rfl
 have y1 := frozen_blk kz 1
 have z2 := zB 2 kz rfl
 have y2 := frozen_blk kz 2
 have z3 := zB 3 kz rfl
 have y3 := frozen_blk kz 3
 have z4 := zB 4 kz rfl
 have y4 := frozen_blk kz 4
 have z5 := zB 5 kz rfl
 have y5 := frozen_blk kz 5
 have HOK : Hid (Lib.OthersKept 98 none w w1) := ok_grow hbA hgrow HO.out
 have HBW : Hid (Below B w w1) := (hbA.mono hB).grown hgrow (by simp; omega) fun k hk => (hol k hk).1
 have KZ : Hid (w1.heap[w.heap.size + 1 + 1]? = some rz) := kz
 have HOWN : Hid (w1.ownsRow B 98 5 (.slice (some ⟨g, 0, none⟩) (cs.length + 1) cap') (cs.length + 1) (flatD (cs ++ [d]))) := by show World.ownsRow _ _ _ _ _ _ _; rw [flatD_snoc]; exact hown1
 have hgn : g ≠ w.heap.size ∧ g ≠ w.heap.size + 1 + 1 := by
  rcases hat with h | h
  ·have := (hol g h).2; omega
  ·omega
 clear hoA kA0 kA2 kA3 hbA hown1 hgrow kr kz
 go_wp2
 have kz' : (w1.setCell ⟨w.heap.size, 4, none⟩ (.slice (some ⟨g, 0, none⟩) (cs.length + 1) cap')).heap[w.heap.size + 1 + 1]? = some rz := (heap_setCell_other _ _ _ _ (by simp; omega)).trans KZ.out
 refine bodyPost_ret (ret6 rfl rfl (.string s) (.int .i64 i) (.int .i64 la) (.int .i64 (-1)) (.slice (some ⟨g, 0, none⟩) (cs.length + 1) cap') (.slice bo m cb) kz') rfl ?_
 have ot : ∀ b, b ≠ w.heap.size → b ≠ w.heap.size + 1 + 1 → (put6 (w1.setCell ⟨w.heap.size, 4, none⟩ (.slice (some ⟨g, 0, none⟩) (cs.length + 1) cap')) (w.heap.size + 1 + 1) (.string s) (.int .i64 i) (.int .i64 la) (.int .i64 (-1)) (.slice (some ⟨g, 0, none⟩) (cs.length + 1) cap') (.slice bo m cb)).heap[b]? = w1.heap[b]? := fun b h1 h2 => (put6_other h2).trans (heap_setCell_other _ _ _ _ h1)
 refine ⟨g, cap', rfl, own_other HOWN.out fun b hb => ?_, put6_below (HBW.out.setCell (p := ⟨_, _, none⟩) hB _) (by omega) _ _ _ _ _ _, ok_high HOK.out fun b hb => ot b (by omega) (by omega)⟩
 simp only [Value.ownBlock, Option.some.injEq] at hb
 subst hb
 exact ot _ hgn.1 hgn.2
end Go.Proofs.Ytgjeefedcfakdaa.R2
set_option linter.unusedVariables false
namespace Go.Proofs.Ytgjeefedcfakdaa.R2
variable {Q : Exit → Act → World → Prop}
theorem wpAny_eq {ops : Array Oper} {fuel : Nat} {l l' : Array Bool} {a a' : Act} {w : World} (hl : l = l') (ha : a = a') (h : wpAny Try.prog .any ops Q fuel l' a' w) : wpAny Try.prog .any ops Q fuel l a w := by
 subst hl; subst ha; exact h
end Go.Proofs.Ytgjeefedcfakdaa.R2
set_option linter.unusedVariables false
namespace Go.Proofs.Ytgjeefedcfakdaa.R2
open Go.ChangeShapes Go.WideShapes Go.ChangeAt Go.RowKit
def RepF (s : ByteArray) (B : Nat) (r : Except Nat St) (i : Nat) (la bd : Int) (ao : Option Addr) (n ca : Nat) (w : World) : Prop :=
 i ≤ s.size ∧ n ≤ 1000 ∧ match r with
 | .ok st => i = st.nx ∧ la = (st.la : Int) ∧ bd = -1 ∧ n = st.cs.length ∧ w.ownsRow B 98 5 (.slice ao n ca) n (flatD st.cs)
 | .error p => bd = (p : Int)
def RepS (s : ByteArray) (bo : Option Addr) (m cb B : Nat) (r : Except Nat St) (v : Value) (w : World) : Prop :=
 ∃ (i : Nat) (la bd : Int) (ao : Option Addr) (n ca : Nat), v = .agg #[.string s, .int .i64 i, .int .i64 la, .int .i64 bd, .slice ao n ca, .slice bo m cb] ∧ RepF s B r i la bd ao n ca w
def SpPost (s : ByteArray) (bo : Option Addr) (m cb B : Nat) (r : Except Nat St) (w : World) (e : Ending) (w' : World) : Prop := ∃ v, e = .returned v ∧ RepS s bo m cb B r v w' ∧ Below B w w' ∧ Lib.OthersKept 98 none w w'
set_option maxRecDepth 100000 in
set_option maxHeartbeats 1000000 in
theorem l2List_bad (s : ByteArray) (i la bd : Int) (ao bo pa : Option Addr) (n ca m cb k pc : Nat) (w : World) (hbd : 0 ≤ bd) (hk : k ≤ 1048576) :
  Calls Try.prog 66 #[.agg #[.string s, .int .i64 i, .int .i64 la, .int .i64 bd, .slice ao n ca, .slice bo m cb], .slice pa k pc] w fun e w' => Ans w (.agg #[.string s, .int .i64 i, .int .i64 la, .int .i64 bd, .slice ao n ca, .slice bo m cb]) e w' := by
 have q : decide (bd < 0) = false := by simp; omega
 go_enter Try.func66, Try.ntmps66
 go_wp2
 go_loopw [5] (fun o wr => o = .int .i64 ((k : Int) - 1) ∧ wr = ((w.alloc (rb s i la bd (.slice ao n ca) (.slice bo m cb))).alloc rz)) (fun _ _ => 0)
 case atStart => exact ⟨rfl, rfl⟩
 case round =>
  obtain ⟨rfl, rfl⟩ := hrel
  have hb0 : Below w.heap.size w ((w.alloc (rb s i la bd (.slice ao n ca) (.slice bo m cb))).alloc rz) := (bR _ _).alloc (by simp) _
  have k0 : ((w.alloc (rb s i la bd (.slice ao n ca) (.slice bo m cb))).alloc rz).heap[w.heap.size]? = some (rb s i la bd (.slice ao n ca) (.slice bo m cb)) := blk_past (blk_at _ _ _ rfl)
  have k1 : ((w.alloc (rb s i la bd (.slice ao n ca) (.slice bo m cb))).alloc rz).heap[w.heap.size + 1]? = some rz := blk_at _ _ _ (by simp)
  generalize (w.alloc (rb s i la bd (.slice ao n ca) (.slice bo m cb))).alloc rz = wA at *
  obtain ⟨x0, x1, x2, x3, x4, x5⟩ := zn6 k0 rfl rfl rfl rfl rfl rfl
  obtain ⟨z0, z1, z2, z3, z4, z5⟩ := zn6 k1 rfl rfl rfl rfl rfl rfl
  have y0 := frozen_blk k1 0
  have y1 := frozen_blk k1 1
  have y2 := frozen_blk k1 2
  have y3 := frozen_blk k1 3
  have y4 := frozen_blk k1 4
  have y5 := frozen_blk k1 5
  have K1 : Hid (wA.heap[w.heap.size + 1]? = some rz) := k1
  clear k0 k1
  by_cases h0 : k = 0
  ·subst h0
   go_wp2
   refine bodyPost_ret (ret6 rfl rfl (.string s) (.int .i64 i) (.int .i64 la) (.int .i64 bd) (.slice ao n ca) (.slice bo m cb) K1.out) rfl ?_
   exact ⟨rfl, put6_below hb0 (by omega) _ _ _ _ _ _⟩
  ·have q0 : decide ((0 : Int) ≤ (k : Int) - 1) = true := by simp; omega
   go_wp2
   refine bodyPost_ret (ret6 rfl rfl (.string s) (.int .i64 i) (.int .i64 la) (.int .i64 bd) (.slice ao n ca) (.slice bo m cb) K1.out) rfl ?_
   exact ⟨rfl, put6_below hb0 (by omega) _ _ _ _ _ _⟩
end Go.Proofs.Ytgjeefedcfakdaa.R2
