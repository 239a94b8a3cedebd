/- The program's reader: a token of several bytes. -/
import Derived.Test.YtgfkmppkeolckaaDoorTka
import Derived.Test.YtgfkmppkeolckaaDoorDra
set_option linter.unusedVariables false
namespace Go.Proofs.YtgfkmppkeolckaaDoor
open Go.ChangeShapes Go.WideShapes Go.ChangeAt Go.RowKit
set_option maxRecDepth 100000 in
set_option maxHeartbeats 1000000 in
theorem token_word (R : Nat) (t : ByteArray) (beg nxt deep : Nat) (v : Value) (w : World) (hs : t.size ≤ 33554432) (hi : nxt ≤ t.size) (hR : w.heap[R]? = some (RdB t beg nxt deep v)) (b : Nat) (hb : skAt t nxt = b) (he : b < t.size) (hc : parB t[b] = false) (hw : wdB t[b] = true) :
    Calls Tryd.prog 25 #[.pointer (some ⟨R, 0, none⟩)] w fun e w' => TkPost t b R deep v w e w' := by
  have HP : Hid (Calls Tryd.prog 51 #[.pointer (some ⟨R, 0, none⟩)] w fun e w' => e = .returned (.tuple #[]) ∧ w'.heap[R]? = some (RdB t beg (skAt t nxt) deep v) ∧ w.grownBy w' (some R)) := pass_any R t beg nxt deep v w hs hi hR
  rw [hb] at HP
  have HE : Hid (tkE t b = b + twl (dr t b)) := tkE_wd t b he hc
  have HN : Hid (tkE t b ≠ b) := by
    show _ ≠ _
    rw [HE.out, dr_cons t b he, twl_cons, hw]; simp
  have HL : Hid (tkE t b ≤ t.size) := tkE_le t b (by omega)
  have hq : ((b : Int) == (t.size : Int)) = false := by rw [beq_eq_false_iff_ne]; omega
  have hc256 : (t[b].toNat : Int) < 256 := by have := t[b].toNat_lt; omega
  have hn : ¬ (t[b].toNat = 40 ∨ t[b].toNat = 41 ∨ t[b].toNat = 39) := fun h => by rw [(par_iff _).2 h] at hc; cases hc
  have q40 : ((t[b].toNat : Int) == 40) = false := by rw [beq_eq_false_iff_ne]; omega
  have q41 : ((t[b].toNat : Int) == 41) = false := by rw [beq_eq_false_iff_ne]; omega
  have q39 : ((t[b].toNat : Int) == 39) = false := by rw [beq_eq_false_iff_ne]; omega
  have HW : Hid (∀ w, Calls Tryd.prog 52 #[.int .u8 t[b].toNat] w fun e w' => e = .returned (.bool true) ∧ w' = w) := fun w => by
    have := inWord_any t[b] w
    rw [hw] at this
    exact this
  clear hR hb hn hc hw
  go_enter Tryd.func25, Tryd.ntmps25
  go_wp2_with (go_at_call 51; refine HP.out.mono ?_; rintro e W1 ⟨rfl, k1, hg⟩; have c1 := cell_blk (j := 2) k1 rfl; have f1 := frozen_blk k1 1; have f2 := frozen_blk k1 2; have c0 := cell_blk (j := 0) k1 rfl; have d1 := cell_blk (j := 1) k1 rfl)
  go_quiet (fail)
  go_wp2
  go_quiet (fail)
  go_wp2_with (go_at_call 52; refine (HW.out _).mono ?_; rintro e w2 ⟨rfl, rfl⟩)
  clear c1 c0 d1 f1 f2 q40 q41 q39 hc256 hq HW
  go_loopw [58] (fun _ wr => ∃ j : Nat, b ≤ j ∧ j ≤ t.size ∧ wr.heap[R]? = some (RdB t b j deep v) ∧ j + twl (dr t j) = tkE t b ∧ w.grownBy wr (some R))
    (fun _ wr => t.size - (intOf ((wr.cell? ⟨R, 2, none⟩).getD undef)).toNat)
  case atStart => exact ⟨b, Nat.le_refl _, by omega, heap_setCell_same _ _ _ _ _ _ k1, HE.out.symm, grownBy_drewN (grownBy_set hg) _⟩
  case round =>
    clear k1 hg
    obtain ⟨j, hbj, hj, k0, hjt, hb⟩ := hrel
    have c0 := cell_blk (j := 0) k0 rfl
    have c1 := cell_blk (j := 1) k0 rfl
    have c2 := cell_blk (j := 2) k0 rfl
    have f2 := frozen_blk k0 2
    have K0 : Hid (wr.heap[R]? = some (RdB t b j deep v)) := k0
    have HJ0 : Hid (j + twl (dr t j) = tkE t b) := hjt
    clear k0 hjt
    have hbi : (b : Int) ≤ (j : Int) := by omega
    have hjz : (j : Int) ≤ (t.size : Int) := by omega
    by_cases hlt : j < t.size
    · have hli : (j : Int) < (t.size : Int) := by omega
      have hc256 : (t[j].toNat : Int) < 256 := by have := t[j].toNat_lt; omega
      cases hw : wdB t[j] with
      | true =>
        have HW : Hid (∀ w, Calls Tryd.prog 52 #[.int .u8 t[j].toNat] w fun e w' => e = .returned (.bool true) ∧ w' = w) := fun w => by
          have := inWord_any t[j] w
          rw [hw] at this
          exact this
        have HJ : Hid ((j + 1) + twl (dr t (j + 1)) = tkE t b) := by
          show _ = _
          have := HJ0.out
          rw [dr_cons t j hlt, twl_cons, hw, if_pos rfl] at this
          omega
        clear HJ0 hw
        go_wp2
        go_quiet ((go_at_call 52; refine Calls.quiet_of_same (HW.out _)))
        go_wp2
        go_roundw
        case rel => exact ⟨j + 1, by omega, by omega, heap_setCell_same _ _ _ _ _ _ K0.out, HJ.out, grownBy_set (grownBy_drewN hb _)⟩
        case measure => rw [c2, rd_set2 K0.out 0]; simp [intOf]; omega
      | false =>
        have HW : Hid (∀ w, Calls Tryd.prog 52 #[.int .u8 t[j].toNat] w fun e w' => e = .returned (.bool false) ∧ w' = w) := fun w => by
          have := inWord_any t[j] w
          rw [hw] at this
          exact this
        have HJ : Hid (j = tkE t b) := by
          show _ = _
          have := HJ0.out
          rw [dr_cons t j hlt, twl_cons, hw] at this
          simpa using this
        clear HJ0 hw
        go_wp2
        go_quiet ((go_at_call 52; refine Calls.quiet_of_same (HW.out _)))
        go_wp2
        go_quiet (fail)
        go_wp2
        go_ret
        refine .inr ⟨.inr HN.out, ?_, ?_, ?_⟩
        · rw [tk, ← HJ.out]; rfl
        · rw [← HJ.out]; exact K0.out
        · exact grownBy_drewN (grownBy_drewN hb _) _
    · have hli : decide ((j : Int) < (t.size : Int)) = false := by simp; omega
      have HJ : Hid (j = tkE t b) := by
        show _ = _
        have := HJ0.out
        rw [dr_end t j (by omega)] at this
        simpa [twl] using this
      clear HJ0
      go_wp2
      go_quiet (fail)
      go_wp2
      go_quiet (fail)
      go_wp2
      go_ret
      refine .inr ⟨.inr HN.out, ?_, ?_, ?_⟩
      · rw [tk, ← HJ.out]; rfl
      · rw [← HJ.out]; exact K0.out
      · exact grownBy_drewN (grownBy_drewN hb _) _
/-- A token, whatever the text. -/
theorem token_any (R : Nat) (t : ByteArray) (beg nxt deep : Nat) (v : Value) (w : World) (hs : t.size ≤ 33554432) (hi : nxt ≤ t.size) (hR : w.heap[R]? = some (RdB t beg nxt deep v)) :
    Calls Tryd.prog 25 #[.pointer (some ⟨R, 0, none⟩)] w fun e w' => TkPost t (skAt t nxt) R deep v w e w' := by
  by_cases he : skAt t nxt = t.size
  · exact token_end R t beg nxt deep v w hs hi hR he
  · have hl := skAt_le t nxt hi
    have hlt : skAt t nxt < t.size := by omega
    cases hp : parB t[skAt t nxt] with
    | true => exact token_par R t beg nxt deep v w hs hi hR _ rfl hlt hp
    | false =>
      cases hw : wdB t[skAt t nxt] with
      | true => exact token_word R t beg nxt deep v w hs hi hR _ rfl hlt hp hw
      | false => exact token_bad R t beg nxt deep v w hs hi hR _ rfl hlt hp hw
end Go.Proofs.YtgfkmppkeolckaaDoor
