/- strings.Clone at this program's numbers; the bytes of a token. The program's reader: a token: none, one byte, a byte that cannot stand there. The program's reader: a token of several bytes. -/
import Derived.Test.YtgfkmppkeolckaaDoorShelf
import Derived.Test.YtgfkmppkeolckaaDoorPga
import Derived.Test.YtgfkmppkeolckaaDoorDra
set_option linter.unusedVariables false
namespace Go.Proofs.YtgfkmppkeolckaaDoor
open Go.ChangeShapes Go.WideShapes Go.ChangeAt Go.RowKit
theorem clone_any (s : ByteArray) (w : World) (hs : s.size ≤ 33554432) : Calls Tryd.prog 79 #[.string s] w fun e w' => Ans w (.string s) e w' := by
  have HC : Hid (Calls Tryd.prog 90 #[.string s] w fun e w' => e = .returned (.string s) ∧ Below w.heap.size w w') := Tryd.stringslite_Clone s w (by omega)
  go_enter Tryd.func79, Tryd.ntmps79
  go_wp2_with (go_at_call 90; refine HC.out.mono ?_; rintro e w2 ⟨rfl, hb⟩)
  go_ret
  exact ⟨rfl, hb⟩
set_option maxRecDepth 100000 in
theorem inWord_any (c : UInt8) (w : World) : Calls Tryd.prog 52 #[.int .u8 c.toNat] w fun e w' => e = .returned (.bool (wdB c)) ∧ w' = w := by
  have HG : Hid (∀ w, Calls Tryd.prog 73 #[.int .u8 c.toNat] w fun e w' => e = .returned (.bool (sgB c)) ∧ w' = w) := fun w => inSymbol_any c w
  by_cases h1 : c.toNat = 35
  · have q1 : ((c.toNat : Int) == 35) = true := by rw [beq_iff_eq]; omega
    have e : wdB c = true := by simp [wdB, h1]
    rw [e]
    clear h1 e
    go_enter Tryd.func52, Tryd.ntmps52
    go_wp2
    go_ret
    exact ⟨rfl, rfl⟩
  · have q1 : ((c.toNat : Int) == 35) = false := by rw [beq_eq_false_iff_ne]; omega
    by_cases h2 : c.toNat = 46
    · have q2 : ((c.toNat : Int) == 46) = true := by rw [beq_iff_eq]; omega
      have e : wdB c = true := by simp [wdB, h2]
      rw [e]
      clear h1 h2 e
      go_enter Tryd.func52, Tryd.ntmps52
      go_wp2
      go_ret
      exact ⟨rfl, rfl⟩
    · have q2 : ((c.toNat : Int) == 46) = false := by rw [beq_eq_false_iff_ne]; omega
      have e : wdB c = sgB c := by simp [wdB, h1, h2]
      rw [e]
      clear h1 h2 e
      go_enter Tryd.func52, Tryd.ntmps52
      go_wp2_with (go_at_call 73; refine (HG.out _).mono ?_; rintro e w2 ⟨rfl, rfl⟩)
      go_ret
      exact ⟨rfl, rfl⟩
end Go.Proofs.YtgfkmppkeolckaaDoor
set_option linter.unusedVariables false
namespace Go.Proofs.YtgfkmppkeolckaaDoor
open Go.ChangeShapes Go.WideShapes Go.ChangeAt Go.RowKit
/-- What a token tells. -/
def TkPost (t : ByteArray) (b R deep : Nat) (v : Value) (w : World) (e : Ending) (w' : World) : Prop :=
  (tkE t b = b ∧ b < t.size ∧ e = bad b ∧ w.grownBy w' (some R)) ∨ ((b = t.size ∨ tkE t b ≠ b) ∧ e = .returned (.string (tk t b)) ∧ w'.heap[R]? = some (RdB t b (tkE t b) deep v) ∧ w.grownBy w' (some R))
theorem tkE_fin (t : ByteArray) : tkE t t.size = t.size := by
  unfold tkE
  rw [dr_end t t.size (Nat.le_refl _)]
theorem tk_end (t : ByteArray) : tk t t.size = ⟨#[]⟩ := by
  unfold tk
  rw [tkE_fin]
  apply ByteArray.ext
  simp
theorem tkE_par (t : ByteArray) (b : Nat) (h : b < t.size) (hp : parB t[b] = true) : tkE t b = b + 1 := by
  unfold tkE
  rw [dr_cons t b h]
  simp [hp]
theorem tkE_wd (t : ByteArray) (b : Nat) (h : b < t.size) (hp : parB t[b] = false) : tkE t b = b + twl (dr t b) := by
  unfold tkE
  rw [dr_cons t b h]
  simp [hp]
theorem par_iff (c : UInt8) : parB c = true ↔ c.toNat = 40 ∨ c.toNat = 41 ∨ c.toNat = 39 := by
  have e : ∀ (n : UInt8), c = n ↔ c.toNat = n.toNat := fun n => ⟨fun h => by rw [h], fun h => UInt8.toNat_inj.1 h⟩
  simp [parB, hasB, e]
set_option maxRecDepth 100000 in
set_option maxHeartbeats 1000000 in
theorem token_end (R : Nat) (t : ByteArray) (beg nxt deep : Nat) (v : Value) (w : World) (hs : t.size ≤ 33554432) (hi : nxt ≤ t.size) (hR : w.heap[R]? = some (RdB t beg nxt deep v)) (he : skAt t nxt = t.size) :
    Calls Tryd.prog 25 #[.pointer (some ⟨R, 0, none⟩)] w fun e w' => TkPost t (skAt t nxt) R deep v w e w' := by
  have HP : Hid (Calls Tryd.prog 51 #[.pointer (some ⟨R, 0, none⟩)] w fun e w' => e = .returned (.tuple #[]) ∧ w'.heap[R]? = some (RdB t beg (skAt t nxt) deep v) ∧ w.grownBy w' (some R)) := pass_any R t beg nxt deep v w hs hi hR
  rw [he] at HP ⊢
  clear hR
  go_enter Tryd.func25, Tryd.ntmps25
  go_wp2_with (go_at_call 51; refine HP.out.mono ?_; rintro e W1 ⟨rfl, k1, hg⟩; have c1 := cell_blk (j := 2) k1 rfl; have f1 := frozen_blk k1 1; have c0 := cell_blk (j := 0) k1 rfl; have d1 := cell_blk (j := 1) k1 rfl)
  go_quiet (fail)
  go_wp2
  go_ret
  refine .inr ⟨.inl rfl, by rw [tk_end]; rfl, ?_, grownBy_drewN (grownBy_set hg) _⟩
  rw [tkE_fin]
  exact heap_setCell_same _ _ _ _ _ _ k1
set_option maxRecDepth 100000 in
set_option maxHeartbeats 1000000 in
theorem token_par (R : Nat) (t : ByteArray) (beg nxt deep : Nat) (v : Value) (w : World) (hs : t.size ≤ 33554432) (hi : nxt ≤ t.size) (hR : w.heap[R]? = some (RdB t beg nxt deep v)) (b : Nat) (hb : skAt t nxt = b) (he : b < t.size) (hc : parB t[b] = true) :
    Calls Tryd.prog 25 #[.pointer (some ⟨R, 0, none⟩)] w fun e w' => TkPost t b R deep v w e w' := by
  have HP : Hid (Calls Tryd.prog 51 #[.pointer (some ⟨R, 0, none⟩)] w fun e w' => e = .returned (.tuple #[]) ∧ w'.heap[R]? = some (RdB t beg (skAt t nxt) deep v) ∧ w.grownBy w' (some R)) := pass_any R t beg nxt deep v w hs hi hR
  rw [hb] at HP
  have HE : Hid (tkE t b = b + 1) := tkE_par t b he hc
  have hq : ((b : Int) == (t.size : Int)) = false := by rw [beq_eq_false_iff_ne]; omega
  have hc256 : (t[b].toNat : Int) < 256 := by have := t[b].toNat_lt; omega
  clear hR hb
  rcases (par_iff _).1 hc with h | h | h
  · have q40 : ((t[b].toNat : Int) == 40) = true := by rw [beq_iff_eq]; omega
    clear h hc
    go_enter Tryd.func25, Tryd.ntmps25
    go_wp2_with (go_at_call 51; refine HP.out.mono ?_; rintro e W1 ⟨rfl, k1, hg⟩; have c1 := cell_blk (j := 2) k1 rfl; have f1 := frozen_blk k1 1; have f2 := frozen_blk k1 2; have c0 := cell_blk (j := 0) k1 rfl; have d1 := cell_blk (j := 1) k1 rfl)
    go_quiet (fail)
    go_wp2
    go_quiet (fail)
    go_wp2
    go_quiet (fail)
    go_wp2
    go_ret
    refine .inr ⟨.inr (by rw [HE.out]; omega), ?_, ?_, ?_⟩
    · rw [tk, HE.out]; rfl
    · rw [HE.out]
      exact heap_setCell_same _ _ _ _ _ _ (heap_setCell_same _ _ _ _ _ _ k1)
    · exact grownBy_drewN (grownBy_set (grownBy_drewN (grownBy_set hg) _)) _
  · have q40 : ((t[b].toNat : Int) == 40) = false := by rw [beq_eq_false_iff_ne]; omega
    have q41 : ((t[b].toNat : Int) == 41) = true := by rw [beq_iff_eq]; omega
    clear h hc
    go_enter Tryd.func25, Tryd.ntmps25
    go_wp2_with (go_at_call 51; refine HP.out.mono ?_; rintro e W1 ⟨rfl, k1, hg⟩; have c1 := cell_blk (j := 2) k1 rfl; have f1 := frozen_blk k1 1; have f2 := frozen_blk k1 2; have c0 := cell_blk (j := 0) k1 rfl; have d1 := cell_blk (j := 1) k1 rfl)
    go_quiet (fail)
    go_wp2
    go_quiet (fail)
    go_wp2
    go_quiet (fail)
    go_wp2
    go_ret
    refine .inr ⟨.inr (by rw [HE.out]; omega), ?_, ?_, ?_⟩
    · rw [tk, HE.out]; rfl
    · rw [HE.out]
      exact heap_setCell_same _ _ _ _ _ _ (heap_setCell_same _ _ _ _ _ _ k1)
    · exact grownBy_drewN (grownBy_set (grownBy_drewN (grownBy_set hg) _)) _
  · have q40 : ((t[b].toNat : Int) == 40) = false := by rw [beq_eq_false_iff_ne]; omega
    have q41 : ((t[b].toNat : Int) == 41) = false := by rw [beq_eq_false_iff_ne]; omega
    have q39 : ((t[b].toNat : Int) == 39) = true := by rw [beq_iff_eq]; omega
    clear h hc
    go_enter Tryd.func25, Tryd.ntmps25
    go_wp2_with (go_at_call 51; refine HP.out.mono ?_; rintro e W1 ⟨rfl, k1, hg⟩; have c1 := cell_blk (j := 2) k1 rfl; have f1 := frozen_blk k1 1; have f2 := frozen_blk k1 2; have c0 := cell_blk (j := 0) k1 rfl; have d1 := cell_blk (j := 1) k1 rfl)
    go_quiet (fail)
    go_wp2
    go_quiet (fail)
    go_wp2
    go_quiet (fail)
    go_wp2
    go_ret
    refine .inr ⟨.inr (by rw [HE.out]; omega), ?_, ?_, ?_⟩
    · rw [tk, HE.out]; rfl
    · rw [HE.out]
      exact heap_setCell_same _ _ _ _ _ _ (heap_setCell_same _ _ _ _ _ _ k1)
    · exact grownBy_drewN (grownBy_set (grownBy_drewN (grownBy_set hg) _)) _
set_option maxRecDepth 100000 in
set_option maxHeartbeats 1000000 in
theorem token_bad (R : Nat) (t : ByteArray) (beg nxt deep : Nat) (v : Value) (w : World) (hs : t.size ≤ 33554432) (hi : nxt ≤ t.size) (hR : w.heap[R]? = some (RdB t beg nxt deep v)) (b : Nat) (hb : skAt t nxt = b) (he : b < t.size) (hc : parB t[b] = false) (hw : wdB t[b] = false) :
    Calls Tryd.prog 25 #[.pointer (some ⟨R, 0, none⟩)] w fun e w' => TkPost t b R deep v w e w' := by
  have HP : Hid (Calls Tryd.prog 51 #[.pointer (some ⟨R, 0, none⟩)] w fun e w' => e = .returned (.tuple #[]) ∧ w'.heap[R]? = some (RdB t beg (skAt t nxt) deep v) ∧ w.grownBy w' (some R)) := pass_any R t beg nxt deep v w hs hi hR
  rw [hb] at HP
  have HE : Hid (tkE t b = b) := by
    show _ = _
    rw [tkE_wd t b he hc, dr_cons t b he, twl_cons, hw]; rfl
  have hq : ((b : Int) == (t.size : Int)) = false := by rw [beq_eq_false_iff_ne]; omega
  have hc256 : (t[b].toNat : Int) < 256 := by have := t[b].toNat_lt; omega
  have hn : ¬ (t[b].toNat = 40 ∨ t[b].toNat = 41 ∨ t[b].toNat = 39) := fun h => by rw [(par_iff _).2 h] at hc; cases hc
  have q40 : ((t[b].toNat : Int) == 40) = false := by rw [beq_eq_false_iff_ne]; omega
  have q41 : ((t[b].toNat : Int) == 41) = false := by rw [beq_eq_false_iff_ne]; omega
  have q39 : ((t[b].toNat : Int) == 39) = false := by rw [beq_eq_false_iff_ne]; omega
  have HW : Hid (∀ w, Calls Tryd.prog 52 #[.int .u8 t[b].toNat] w fun e w' => e = .returned (.bool false) ∧ w' = w) := fun w => by
    have := inWord_any t[b] w
    rw [hw] at this
    exact this
  clear hR hb hn hc hw
  go_enter Tryd.func25, Tryd.ntmps25
  go_wp2_with (go_at_call 51; refine HP.out.mono ?_; rintro e W1 ⟨rfl, k1, hg⟩; have c1 := cell_blk (j := 2) k1 rfl; have f1 := frozen_blk k1 1; have f2 := frozen_blk k1 2; have c0 := cell_blk (j := 0) k1 rfl; have d1 := cell_blk (j := 1) k1 rfl)
  go_quiet (fail)
  go_wp2
  go_quiet (fail)
  have HK : Hid (∀ q, ((W1.setCell ⟨R, 1, none⟩ (.int .i64 (b : Int))).drewN q).heap[R]? = some (RdB t b b deep v)) := fun q => heap_setCell_same _ _ _ _ _ _ k1
  go_wp2_with (first
    | (go_at_call 52; refine (HW.out _).mono ?_; rintro e w2 ⟨rfl, rfl⟩)
    | (go_at_call 53; refine (fail_any R t b b deep v _ (HK.out _)).mono ?_; rintro e w2 ⟨rfl, rfl⟩; simp only [bad]))
  exact ⟨rfl, .inl ⟨HE.out, he, rfl, grownBy_drewN (grownBy_set hg) _⟩⟩
end Go.Proofs.YtgfkmppkeolckaaDoor
set_option linter.unusedVariables false
namespace Go.Proofs.YtgfkmppkeolckaaDoor
open Go.ChangeShapes Go.WideShapes Go.ChangeAt Go.RowKit
set_option maxRecDepth 100000 in
set_option maxHeartbeats 1000000 in
theorem token_word (R : Nat) (t : ByteArray) (beg nxt deep : Nat) (v : Value) (w : World) (hs : t.size ≤ 33554432) (hi : nxt ≤ t.size) (hR : w.heap[R]? = some (RdB t beg nxt deep v)) (b : Nat) (hb : skAt t nxt = b) (he : b < t.size) (hc : parB t[b] = false) (hw : wdB t[b] = true) :
    Calls Tryd.prog 25 #[.pointer (some ⟨R, 0, none⟩)] w fun e w' => TkPost t b R deep v w e w' := by
  have HP : Hid (Calls Tryd.prog 51 #[.pointer (some ⟨R, 0, none⟩)] w fun e w' => e = .returned (.tuple #[]) ∧ w'.heap[R]? = some (RdB t beg (skAt t nxt) deep v) ∧ w.grownBy w' (some R)) := pass_any R t beg nxt deep v w hs hi hR
  rw [hb] at HP
  have HE : Hid (tkE t b = b + twl (dr t b)) := tkE_wd t b he hc
  have HN : Hid (tkE t b ≠ b) := by
    show _ ≠ _
    rw [HE.out, dr_cons t b he, twl_cons, hw]; simp
  have HL : Hid (tkE t b ≤ t.size) := tkE_le t b (by omega)
  have hq : ((b : Int) == (t.size : Int)) = false := by rw [beq_eq_false_iff_ne]; omega
  have hc256 : (t[b].toNat : Int) < 256 := by have := t[b].toNat_lt; omega
  have hn : ¬ (t[b].toNat = 40 ∨ t[b].toNat = 41 ∨ t[b].toNat = 39) := fun h => by rw [(par_iff _).2 h] at hc; cases hc
  have q40 : ((t[b].toNat : Int) == 40) = false := by rw [beq_eq_false_iff_ne]; omega
  have q41 : ((t[b].toNat : Int) == 41) = false := by rw [beq_eq_false_iff_ne]; omega
  have q39 : ((t[b].toNat : Int) == 39) = false := by rw [beq_eq_false_iff_ne]; omega
  have HW : Hid (∀ w, Calls Tryd.prog 52 #[.int .u8 t[b].toNat] w fun e w' => e = .returned (.bool true) ∧ w' = w) := fun w => by
    have := inWord_any t[b] w
    rw [hw] at this
    exact this
  clear hR hb hn hc hw
  go_enter Tryd.func25, Tryd.ntmps25
  go_wp2_with (go_at_call 51; refine HP.out.mono ?_; rintro e W1 ⟨rfl, k1, hg⟩; have c1 := cell_blk (j := 2) k1 rfl; have f1 := frozen_blk k1 1; have f2 := frozen_blk k1 2; have c0 := cell_blk (j := 0) k1 rfl; have d1 := cell_blk (j := 1) k1 rfl)
  go_quiet (fail)
  go_wp2
  go_quiet (fail)
  go_wp2_with (go_at_call 52; refine (HW.out _).mono ?_; rintro e w2 ⟨rfl, rfl⟩)
  clear c1 c0 d1 f1 f2 q40 q41 q39 hc256 hq HW
  go_loopw [58] (fun _ wr => ∃ j : Nat, b ≤ j ∧ j ≤ t.size ∧ wr.heap[R]? = some (RdB t b j deep v) ∧ j + twl (dr t j) = tkE t b ∧ w.grownBy wr (some R))
    (fun _ wr => t.size - (intOf ((wr.cell? ⟨R, 2, none⟩).getD undef)).toNat)
  case atStart => exact ⟨b, Nat.le_refl _, by omega, heap_setCell_same _ _ _ _ _ _ k1, HE.out.symm, grownBy_drewN (grownBy_set hg) _⟩
  case round =>
    clear k1 hg
    obtain ⟨j, hbj, hj, k0, hjt, hb⟩ := hrel
    have c0 := cell_blk (j := 0) k0 rfl
    have c1 := cell_blk (j := 1) k0 rfl
    have c2 := cell_blk (j := 2) k0 rfl
    have f2 := frozen_blk k0 2
    have K0 : Hid (wr.heap[R]? = some (RdB t b j deep v)) := k0
    have HJ0 : Hid (j + twl (dr t j) = tkE t b) := hjt
    clear k0 hjt
    have hbi : (b : Int) ≤ (j : Int) := by omega
    have hjz : (j : Int) ≤ (t.size : Int) := by omega
    by_cases hlt : j < t.size
    · have hli : (j : Int) < (t.size : Int) := by omega
      have hc256 : (t[j].toNat : Int) < 256 := by have := t[j].toNat_lt; omega
      cases hw : wdB t[j] with
      | true =>
        have HW : Hid (∀ w, Calls Tryd.prog 52 #[.int .u8 t[j].toNat] w fun e w' => e = .returned (.bool true) ∧ w' = w) := fun w => by
          have := inWord_any t[j] w
          rw [hw] at this
          exact this
        have HJ : Hid ((j + 1) + twl (dr t (j + 1)) = tkE t b) := by
          show _ = _
          have := HJ0.out
          rw [dr_cons t j hlt, twl_cons, hw, if_pos rfl] at this
          omega
        clear HJ0 hw
        go_wp2
        go_quiet ((go_at_call 52; refine Calls.quiet_of_same (HW.out _)))
        go_wp2
        go_roundw
        case rel => exact ⟨j + 1, by omega, by omega, heap_setCell_same _ _ _ _ _ _ K0.out, HJ.out, grownBy_set (grownBy_drewN hb _)⟩
        case measure => rw [c2, rd_set2 K0.out 0]; simp [intOf]; omega
      | false =>
        have HW : Hid (∀ w, Calls Tryd.prog 52 #[.int .u8 t[j].toNat] w fun e w' => e = .returned (.bool false) ∧ w' = w) := fun w => by
          have := inWord_any t[j] w
          rw [hw] at this
          exact this
        have HJ : Hid (j = tkE t b) := by
          show _ = _
          have := HJ0.out
          rw [dr_cons t j hlt, twl_cons, hw] at this
          simpa using this
        clear HJ0 hw
        go_wp2
        go_quiet ((go_at_call 52; refine Calls.quiet_of_same (HW.out _)))
        go_wp2
        go_quiet (fail)
        go_wp2
        go_ret
        refine .inr ⟨.inr HN.out, ?_, ?_, ?_⟩
        · rw [tk, ← HJ.out]; rfl
        · rw [← HJ.out]; exact K0.out
        · exact grownBy_drewN (grownBy_drewN hb _) _
    · have hli : decide ((j : Int) < (t.size : Int)) = false := by simp; omega
      have HJ : Hid (j = tkE t b) := by
        show _ = _
        have := HJ0.out
        rw [dr_end t j (by omega)] at this
        simpa [twl] using this
      clear HJ0
      go_wp2
      go_quiet (fail)
      go_wp2
      go_quiet (fail)
      go_wp2
      go_ret
      refine .inr ⟨.inr HN.out, ?_, ?_, ?_⟩
      · rw [tk, ← HJ.out]; rfl
      · rw [← HJ.out]; exact K0.out
      · exact grownBy_drewN (grownBy_drewN hb _) _
/-- A token, whatever the text. -/
theorem token_any (R : Nat) (t : ByteArray) (beg nxt deep : Nat) (v : Value) (w : World) (hs : t.size ≤ 33554432) (hi : nxt ≤ t.size) (hR : w.heap[R]? = some (RdB t beg nxt deep v)) :
    Calls Tryd.prog 25 #[.pointer (some ⟨R, 0, none⟩)] w fun e w' => TkPost t (skAt t nxt) R deep v w e w' := by
  by_cases he : skAt t nxt = t.size
  · exact token_end R t beg nxt deep v w hs hi hR he
  · have hl := skAt_le t nxt hi
    have hlt : skAt t nxt < t.size := by omega
    cases hp : parB t[skAt t nxt] with
    | true => exact token_par R t beg nxt deep v w hs hi hR _ rfl hlt hp
    | false =>
      cases hw : wdB t[skAt t nxt] with
      | true => exact token_word R t beg nxt deep v w hs hi hR _ rfl hlt hp hw
      | false => exact token_bad R t beg nxt deep v w hs hi hR _ rfl hlt hp hw
end Go.Proofs.YtgfkmppkeolckaaDoor
