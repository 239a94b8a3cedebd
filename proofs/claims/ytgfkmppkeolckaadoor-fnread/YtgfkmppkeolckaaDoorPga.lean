/- The program's reader: passing over blanks and remarks. -/
import Derived.Test.YtgfkmppkeolckaaDoorSpa
import Derived.Deep.QuietTactic
import Derived.BigQuiet
set_option linter.unusedVariables false
namespace Go.Proofs.YtgfkmppkeolckaaDoor
open Go.ChangeShapes Go.WideShapes Go.ChangeAt Go.RowKit
theorem grownBy_refl' (w : World) (b : Option Nat) : w.grownBy w b := ⟨rfl, rfl, rfl, Nat.le_refl _, fun _ _ _ => rfl⟩
theorem grownBy_drewN {a b : World} {r : Option Nat} (h : a.grownBy b r) (q : Nat) : a.grownBy (b.drewN q) r := ⟨h.os, h.tape, h.output, h.size, h.block⟩
theorem rd_set2 {W : World} {R : Nat} {t : ByteArray} {beg j deep : Nat} {v : Value} (h : W.heap[R]? = some (RdB t beg j deep v)) (n q : Nat) : (((W.drewN q).setCell ⟨R, 2, none⟩ (.int .i64 ((j : Int) + 1))).cell? ⟨R, 2, none⟩) = some (.int .i64 ((j : Int) + 1)) :=
  cell_blk (j := 2) (heap_setCell_same (W.drewN q) R 2 _ _ _ h) rfl
theorem grownBy_set {w W : World} {R j : Nat} {v : Value} (h : w.grownBy W (some R)) : w.grownBy (W.setCell ⟨R, j, none⟩ v) (some R) :=
  ⟨h.os, h.tape, h.output, by simpa using h.size, fun i hi hn => (heap_setCell_other W ⟨R, j, none⟩ i v (fun e => hn (by simp [e]))).trans (h.block i hi hn)⟩
set_option maxRecDepth 100000 in
set_option maxHeartbeats 1000000 in
theorem pass_any (R : Nat) (t : ByteArray) (beg nxt deep : Nat) (v : Value) (w : World) (hs : t.size ≤ 33554432) (hi : nxt ≤ t.size) (hR : w.heap[R]? = some (RdB t beg nxt deep v)) :
    Calls Tryd.prog 51 #[.pointer (some ⟨R, 0, none⟩)] w fun e w' => e = .returned (.tuple #[]) ∧ w'.heap[R]? = some (RdB t beg (skAt t nxt) deep v) ∧ w.grownBy w' (some R) := by
  obtain ⟨g, hg⟩ : ∃ g, g = skAt t nxt := ⟨_, rfl⟩
  rw [← hg]
  go_enter Tryd.func51, Tryd.ntmps51
  go_wp2
  go_loopw [2] (fun rem wr => ∃ (b : Bool) (j : Nat), rem = .bool b ∧ j ≤ t.size ∧ wr.heap[R]? = some (RdB t beg j deep v) ∧ j + skp b (dr t j) = g ∧ w.grownBy wr (some R))
    (fun _ wr => t.size - (intOf ((wr.cell? ⟨R, 2, none⟩).getD undef)).toNat)
  case atStart => exact ⟨false, nxt, rfl, hi, hR, hg.symm, grownBy_refl' _ _⟩
  case round =>
    clear hR hi hg
    obtain ⟨b, j, rfl, hj, k0, hjt, hb⟩ := hrel
    have c0 := cell_blk (j := 0) k0 rfl
    have c2 := cell_blk (j := 2) k0 rfl
    have f2 := frozen_blk k0 2
    have K0 : Hid (wr.heap[R]? = some (RdB t beg j deep v)) := k0
    clear k0
    by_cases hlt : j < t.size
    · have hc256 : (t[j].toNat : Int) < 256 := by have := t[j].toNat_lt; omega
      by_cases h10 : t[j].toNat = 10
      · have q10 : ((t[j].toNat : Int) == 10) = true := by rw [beq_iff_eq]; omega
        have HJ : Hid ((j + 1) + skp false (dr t (j + 1)) = g) := by
          show _ = _
          rw [skp_10 b t j hlt h10] at hjt; omega
        clear hjt
        clear h10
        go_wp2
        go_quiet (fail)
        go_wp2
        go_quiet (fail)
        go_wp2
        go_roundw
        case rel => exact ⟨false, j + 1, rfl, by omega, heap_setCell_same _ _ _ _ _ _ K0.out, HJ.out, grownBy_set (grownBy_drewN hb _)⟩
        case measure => rw [c2, rd_set2 K0.out 0]; simp [intOf]; omega
      · have q10 : ((t[j].toNat : Int) == 10) = false := by rw [beq_eq_false_iff_ne]; omega
        by_cases hbl : t[j].toNat = 9 ∨ t[j].toNat = 32
        · have HJ : Hid ((j + 1) + skp b (dr t (j + 1)) = g) := by
            show _ = _
            cases b
            · rw [skp_bl t j hlt hbl] at hjt; omega
            · rw [skp_rem t j hlt h10] at hjt; omega
          clear hjt
          rcases hbl with h | h
          · have q9 : ((t[j].toNat : Int) == 9) = true := by rw [beq_iff_eq]; omega
            clear h h10
            go_wp2
            go_quiet (fail)
            go_wp2
            go_quiet (fail)
            go_wp2
            go_roundw
            case rel => exact ⟨b, j + 1, rfl, by omega, heap_setCell_same _ _ _ _ _ _ K0.out, HJ.out, grownBy_set (grownBy_drewN hb _)⟩
            case measure => rw [c2, rd_set2 K0.out 0]; simp [intOf]; omega
          · have q9 : ((t[j].toNat : Int) == 9) = false := by rw [beq_eq_false_iff_ne]; omega
            have q32 : ((t[j].toNat : Int) == 32) = true := by rw [beq_iff_eq]; omega
            clear h h10
            go_wp2
            go_quiet (fail)
            go_wp2
            go_quiet (fail)
            go_wp2
            go_roundw
            case rel => exact ⟨b, j + 1, rfl, by omega, heap_setCell_same _ _ _ _ _ _ K0.out, HJ.out, grownBy_set (grownBy_drewN hb _)⟩
            case measure => rw [c2, rd_set2 K0.out 0]; simp [intOf]; omega
        · have q9 : ((t[j].toNat : Int) == 9) = false := by rw [beq_eq_false_iff_ne]; omega
          have q32 : ((t[j].toNat : Int) == 32) = false := by rw [beq_eq_false_iff_ne]; omega
          by_cases h59 : t[j].toNat = 59
          · have q59 : ((t[j].toNat : Int) == 59) = true := by rw [beq_iff_eq]; omega
            have HJ : Hid ((j + 1) + skp true (dr t (j + 1)) = g) := by
              show _ = _
              cases b
              · rw [skp_semi t j hlt h59] at hjt; omega
              · rw [skp_rem t j hlt h10] at hjt; omega
            clear hjt
            clear h59 hbl h10
            go_wp2
            go_quiet (fail)
            go_wp2
            go_quiet (fail)
            go_wp2
            go_roundw
            case rel => exact ⟨true, j + 1, rfl, by omega, heap_setCell_same _ _ _ _ _ _ K0.out, HJ.out, grownBy_set (grownBy_drewN hb _)⟩
            case measure => rw [c2, rd_set2 K0.out 0]; simp [intOf]; omega
          · have q59 : ((t[j].toNat : Int) == 59) = false := by rw [beq_eq_false_iff_ne]; omega
            cases b
            · have HJ : Hid (j = g) := by
                show _ = _
                rw [skp_stop t j hlt h10 hbl h59] at hjt; omega
              clear hjt hbl h10 h59
              go_wp2
              go_quiet (fail)
              go_wp2
              go_quiet (fail)
              go_wp2
              refine bodyPost_ret (results_none rfl _ _ _) rfl ?_
              exact ⟨rfl, by rw [← HJ.out]; exact K0.out, grownBy_drewN hb _⟩
            · have HJ : Hid ((j + 1) + skp true (dr t (j + 1)) = g) := by
                show _ = _
                rw [skp_rem t j hlt h10] at hjt; omega
              clear hjt
              clear hbl h10 h59
              go_wp2
              go_quiet (fail)
              go_wp2
              go_quiet (fail)
              go_wp2
              go_roundw
              case rel => exact ⟨true, j + 1, rfl, by omega, heap_setCell_same _ _ _ _ _ _ K0.out, HJ.out, grownBy_set (grownBy_drewN hb _)⟩
              case measure => rw [c2, rd_set2 K0.out 0]; simp [intOf]; omega
    · have HJ : Hid (j = g) := by
        show _ = _
        rw [skp_nil b t j (by omega)] at hjt; omega
      clear hjt
      go_wp2
      go_quiet (fail)
      go_wp2
      go_end0
      exact ⟨rfl, by rw [← HJ.out]; exact K0.out, grownBy_drewN hb _⟩
end Go.Proofs.YtgfkmppkeolckaaDoor
