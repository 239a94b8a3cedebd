/- The program's reader: a token: none, one byte, a byte that cannot stand there. -/
import Derived.Test.YtgfkmppkeolckaaDoorClo
set_option linter.unusedVariables false
namespace Go.Proofs.YtgfkmppkeolckaaDoor
open Go.ChangeShapes Go.WideShapes Go.ChangeAt Go.RowKit
/-- What a token tells. -/
def TkPost (t : ByteArray) (b R deep : Nat) (v : Value) (w : World) (e : Ending) (w' : World) : Prop :=
  (tkE t b = b ∧ b < t.size ∧ e = bad b ∧ w.grownBy w' (some R)) ∨ ((b = t.size ∨ tkE t b ≠ b) ∧ e = .returned (.string (tk t b)) ∧ w'.heap[R]? = some (RdB t b (tkE t b) deep v) ∧ w.grownBy w' (some R))
theorem tkE_fin (t : ByteArray) : tkE t t.size = t.size := by
  unfold tkE
  rw [dr_end t t.size (Nat.le_refl _)]
theorem tk_end (t : ByteArray) : tk t t.size = ⟨#[]⟩ := by
  unfold tk
  rw [tkE_fin]
  apply ByteArray.ext
  simp
theorem tkE_par (t : ByteArray) (b : Nat) (h : b < t.size) (hp : parB t[b] = true) : tkE t b = b + 1 := by
  unfold tkE
  rw [dr_cons t b h]
  simp [hp]
theorem tkE_wd (t : ByteArray) (b : Nat) (h : b < t.size) (hp : parB t[b] = false) : tkE t b = b + twl (dr t b) := by
  unfold tkE
  rw [dr_cons t b h]
  simp [hp]
theorem par_iff (c : UInt8) : parB c = true ↔ c.toNat = 40 ∨ c.toNat = 41 ∨ c.toNat = 39 := by
  have e : ∀ (n : UInt8), c = n ↔ c.toNat = n.toNat := fun n => ⟨fun h => by rw [h], fun h => UInt8.toNat_inj.1 h⟩
  simp [parB, hasB, e]
set_option maxRecDepth 100000 in
set_option maxHeartbeats 1000000 in
theorem token_end (R : Nat) (t : ByteArray) (beg nxt deep : Nat) (v : Value) (w : World) (hs : t.size ≤ 33554432) (hi : nxt ≤ t.size) (hR : w.heap[R]? = some (RdB t beg nxt deep v)) (he : skAt t nxt = t.size) :
    Calls Tryd.prog 25 #[.pointer (some ⟨R, 0, none⟩)] w fun e w' => TkPost t (skAt t nxt) R deep v w e w' := by
  have HP : Hid (Calls Tryd.prog 51 #[.pointer (some ⟨R, 0, none⟩)] w fun e w' => e = .returned (.tuple #[]) ∧ w'.heap[R]? = some (RdB t beg (skAt t nxt) deep v) ∧ w.grownBy w' (some R)) := pass_any R t beg nxt deep v w hs hi hR
  rw [he] at HP ⊢
  clear hR
  go_enter Tryd.func25, Tryd.ntmps25
  go_wp2_with (go_at_call 51; refine HP.out.mono ?_; rintro e W1 ⟨rfl, k1, hg⟩; have c1 := cell_blk (j := 2) k1 rfl; have f1 := frozen_blk k1 1; have c0 := cell_blk (j := 0) k1 rfl; have d1 := cell_blk (j := 1) k1 rfl)
  go_quiet (fail)
  go_wp2
  go_ret
  refine .inr ⟨.inl rfl, by rw [tk_end]; rfl, ?_, grownBy_drewN (grownBy_set hg) _⟩
  rw [tkE_fin]
  exact heap_setCell_same _ _ _ _ _ _ k1
set_option maxRecDepth 100000 in
set_option maxHeartbeats 1000000 in
theorem token_par (R : Nat) (t : ByteArray) (beg nxt deep : Nat) (v : Value) (w : World) (hs : t.size ≤ 33554432) (hi : nxt ≤ t.size) (hR : w.heap[R]? = some (RdB t beg nxt deep v)) (b : Nat) (hb : skAt t nxt = b) (he : b < t.size) (hc : parB t[b] = true) :
    Calls Tryd.prog 25 #[.pointer (some ⟨R, 0, none⟩)] w fun e w' => TkPost t b R deep v w e w' := by
  have HP : Hid (Calls Tryd.prog 51 #[.pointer (some ⟨R, 0, none⟩)] w fun e w' => e = .returned (.tuple #[]) ∧ w'.heap[R]? = some (RdB t beg (skAt t nxt) deep v) ∧ w.grownBy w' (some R)) := pass_any R t beg nxt deep v w hs hi hR
  rw [hb] at HP
  have HE : Hid (tkE t b = b + 1) := tkE_par t b he hc
  have hq : ((b : Int) == (t.size : Int)) = false := by rw [beq_eq_false_iff_ne]; omega
  have hc256 : (t[b].toNat : Int) < 256 := by have := t[b].toNat_lt; omega
  clear hR hb
  rcases (par_iff _).1 hc with h | h | h
  · have q40 : ((t[b].toNat : Int) == 40) = true := by rw [beq_iff_eq]; omega
    clear h hc
    go_enter Tryd.func25, Tryd.ntmps25
    go_wp2_with (go_at_call 51; refine HP.out.mono ?_; rintro e W1 ⟨rfl, k1, hg⟩; have c1 := cell_blk (j := 2) k1 rfl; have f1 := frozen_blk k1 1; have f2 := frozen_blk k1 2; have c0 := cell_blk (j := 0) k1 rfl; have d1 := cell_blk (j := 1) k1 rfl)
    go_quiet (fail)
    go_wp2
    go_quiet (fail)
    go_wp2
    go_quiet (fail)
    go_wp2
    go_ret
    refine .inr ⟨.inr (by rw [HE.out]; omega), ?_, ?_, ?_⟩
    · rw [tk, HE.out]; rfl
    · rw [HE.out]
      exact heap_setCell_same _ _ _ _ _ _ (heap_setCell_same _ _ _ _ _ _ k1)
    · exact grownBy_drewN (grownBy_set (grownBy_drewN (grownBy_set hg) _)) _
  · have q40 : ((t[b].toNat : Int) == 40) = false := by rw [beq_eq_false_iff_ne]; omega
    have q41 : ((t[b].toNat : Int) == 41) = true := by rw [beq_iff_eq]; omega
    clear h hc
    go_enter Tryd.func25, Tryd.ntmps25
    go_wp2_with (go_at_call 51; refine HP.out.mono ?_; rintro e W1 ⟨rfl, k1, hg⟩; have c1 := cell_blk (j := 2) k1 rfl; have f1 := frozen_blk k1 1; have f2 := frozen_blk k1 2; have c0 := cell_blk (j := 0) k1 rfl; have d1 := cell_blk (j := 1) k1 rfl)
    go_quiet (fail)
    go_wp2
    go_quiet (fail)
    go_wp2
    go_quiet (fail)
    go_wp2
    go_ret
    refine .inr ⟨.inr (by rw [HE.out]; omega), ?_, ?_, ?_⟩
    · rw [tk, HE.out]; rfl
    · rw [HE.out]
      exact heap_setCell_same _ _ _ _ _ _ (heap_setCell_same _ _ _ _ _ _ k1)
    · exact grownBy_drewN (grownBy_set (grownBy_drewN (grownBy_set hg) _)) _
  · have q40 : ((t[b].toNat : Int) == 40) = false := by rw [beq_eq_false_iff_ne]; omega
    have q41 : ((t[b].toNat : Int) == 41) = false := by rw [beq_eq_false_iff_ne]; omega
    have q39 : ((t[b].toNat : Int) == 39) = true := by rw [beq_iff_eq]; omega
    clear h hc
    go_enter Tryd.func25, Tryd.ntmps25
    go_wp2_with (go_at_call 51; refine HP.out.mono ?_; rintro e W1 ⟨rfl, k1, hg⟩; have c1 := cell_blk (j := 2) k1 rfl; have f1 := frozen_blk k1 1; have f2 := frozen_blk k1 2; have c0 := cell_blk (j := 0) k1 rfl; have d1 := cell_blk (j := 1) k1 rfl)
    go_quiet (fail)
    go_wp2
    go_quiet (fail)
    go_wp2
    go_quiet (fail)
    go_wp2
    go_ret
    refine .inr ⟨.inr (by rw [HE.out]; omega), ?_, ?_, ?_⟩
    · rw [tk, HE.out]; rfl
    · rw [HE.out]
      exact heap_setCell_same _ _ _ _ _ _ (heap_setCell_same _ _ _ _ _ _ k1)
    · exact grownBy_drewN (grownBy_set (grownBy_drewN (grownBy_set hg) _)) _
set_option maxRecDepth 100000 in
set_option maxHeartbeats 1000000 in
theorem token_bad (R : Nat) (t : ByteArray) (beg nxt deep : Nat) (v : Value) (w : World) (hs : t.size ≤ 33554432) (hi : nxt ≤ t.size) (hR : w.heap[R]? = some (RdB t beg nxt deep v)) (b : Nat) (hb : skAt t nxt = b) (he : b < t.size) (hc : parB t[b] = false) (hw : wdB t[b] = false) :
    Calls Tryd.prog 25 #[.pointer (some ⟨R, 0, none⟩)] w fun e w' => TkPost t b R deep v w e w' := by
  have HP : Hid (Calls Tryd.prog 51 #[.pointer (some ⟨R, 0, none⟩)] w fun e w' => e = .returned (.tuple #[]) ∧ w'.heap[R]? = some (RdB t beg (skAt t nxt) deep v) ∧ w.grownBy w' (some R)) := pass_any R t beg nxt deep v w hs hi hR
  rw [hb] at HP
  have HE : Hid (tkE t b = b) := by
    show _ = _
    rw [tkE_wd t b he hc, dr_cons t b he, twl_cons, hw]; rfl
  have hq : ((b : Int) == (t.size : Int)) = false := by rw [beq_eq_false_iff_ne]; omega
  have hc256 : (t[b].toNat : Int) < 256 := by have := t[b].toNat_lt; omega
  have hn : ¬ (t[b].toNat = 40 ∨ t[b].toNat = 41 ∨ t[b].toNat = 39) := fun h => by rw [(par_iff _).2 h] at hc; cases hc
  have q40 : ((t[b].toNat : Int) == 40) = false := by rw [beq_eq_false_iff_ne]; omega
  have q41 : ((t[b].toNat : Int) == 41) = false := by rw [beq_eq_false_iff_ne]; omega
  have q39 : ((t[b].toNat : Int) == 39) = false := by rw [beq_eq_false_iff_ne]; omega
  have HW : Hid (∀ w, Calls Tryd.prog 52 #[.int .u8 t[b].toNat] w fun e w' => e = .returned (.bool false) ∧ w' = w) := fun w => by
    have := inWord_any t[b] w
    rw [hw] at this
    exact this
  clear hR hb hn hc hw
  go_enter Tryd.func25, Tryd.ntmps25
  go_wp2_with (go_at_call 51; refine HP.out.mono ?_; rintro e W1 ⟨rfl, k1, hg⟩; have c1 := cell_blk (j := 2) k1 rfl; have f1 := frozen_blk k1 1; have f2 := frozen_blk k1 2; have c0 := cell_blk (j := 0) k1 rfl; have d1 := cell_blk (j := 1) k1 rfl)
  go_quiet (fail)
  go_wp2
  go_quiet (fail)
  have HK : Hid (∀ q, ((W1.setCell ⟨R, 1, none⟩ (.int .i64 (b : Int))).drewN q).heap[R]? = some (RdB t b b deep v)) := fun q => heap_setCell_same _ _ _ _ _ _ k1
  go_wp2_with (first
    | (go_at_call 52; refine (HW.out _).mono ?_; rintro e w2 ⟨rfl, rfl⟩)
    | (go_at_call 53; refine (fail_any R t b b deep v _ (HK.out _)).mono ?_; rintro e w2 ⟨rfl, rfl⟩; simp only [bad]))
  exact ⟨rfl, .inl ⟨HE.out, he, rfl, grownBy_drewN (grownBy_set hg) _⟩⟩
end Go.Proofs.YtgfkmppkeolckaaDoor
