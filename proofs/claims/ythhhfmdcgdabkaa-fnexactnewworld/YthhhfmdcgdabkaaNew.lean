/- NewSys: the model's and the program's; two of them held against each other, marked, held. -/
import Derived.Test.YthhhfmdcgdabkaaNil
import Derived.Test.YthhhfmdcgdabkaaMka
set_option linter.unusedVariables false
namespace Go.Proofs.Ythhhfmdcgdabkaa
open Go.ChangeShapes Go.WideShapes Go.ChangeAt Go.RowKit
theorem below_dn {B : Nat} {w wr : World} (h : Below B w wr) (n : Nat) : Below B w (wr.drewN n) := ⟨h.os, h.tape, h.output, h.size, h.block⟩
set_option maxRecDepth 100000 in
set_option maxHeartbeats 1000000 in
theorem specNew (w : World) : Calls Try.prog 9 #[] w fun e w' => e = .returned (.agg #[.slice none 0 0, .slice (some ⟨w.heap.size + 1, 0, none⟩) 1 1, .slice none 0 0, .slice none 0 0]) ∧ w'.heap[w.heap.size + 1]? = some (.cells #[.string ⟨#[]⟩, .int .i64 0, .slice none 0 0, .slice none 0 0, .slice none 0 0, .slice none 0 0] 47 (0, 0)) ∧ Below w.heap.size w w' ∧ w.heap.size + 1 < w'.heap.size := by
  go_enter Try.func9, Try.ntmps9
  go_wp2
  refine bodyPost_ret (results_cell_row rfl _ _ w.heap.size 27 #[.slice none 0 0, .slice (some ⟨w.heap.size + 1, 0, none⟩) 1 1, .slice none 0 0, .slice none 0 0] (0, 0) _ rfl (blk_past (blk_at _ _ _ rfl)) Try.underlying27 rfl (by kernel_rfl)) rfl ?_
  exact ⟨rfl, blk_at _ _ _ (by simp), ((Below.refl _ _).alloc (Nat.le_refl _) _).alloc (by simp) _, by simp⟩
set_option maxRecDepth 100000 in
set_option maxHeartbeats 1000000 in
theorem implNew (w : World) : Calls Try.prog 10 #[] w fun e w' => e = .returned (.agg #[.slice none 0 0, .slice (some ⟨w.heap.size + 1, 0, none⟩) 1 1, .slice none 0 0, .slice none 0 0]) ∧ w'.heap[w.heap.size + 1]? = some (.cells #[.string ⟨#[]⟩, .int .i64 0, .slice none 0 0, .slice none 0 0, .slice none 0 0, .slice none 0 0] 47 (0, 0)) ∧ Below w.heap.size w w' ∧ w.heap.size + 1 < w'.heap.size := by
  go_enter Try.func10, Try.ntmps10
  go_wp2
  refine bodyPost_ret (results_cell_row rfl _ _ w.heap.size 27 #[.slice none 0 0, .slice (some ⟨w.heap.size + 1, 0, none⟩) 1 1, .slice none 0 0, .slice none 0 0] (0, 0) _ rfl (blk_past (blk_at _ _ _ rfl)) Try.underlying27 rfl (by kernel_rfl)) rfl ?_
  exact ⟨rfl, blk_at _ _ _ (by simp), ((Below.refl _ _).alloc (Nat.le_refl _) _).alloc (by simp) _, by simp⟩
set_option maxRecDepth 100000 in
set_option maxHeartbeats 1000000 in
theorem eqInst_new (w : World) : Calls Try.prog 44 #[.agg #[.string ⟨#[]⟩, .int .i64 0, .slice none 0 0, .slice none 0 0, .slice none 0 0, .slice none 0 0], .agg #[.string ⟨#[]⟩, .int .i64 0, .slice none 0 0, .slice none 0 0, .slice none 0 0, .slice none 0 0]] w fun e w' => Ans w (.bool true) e w' := by
  go_enter Try.func44, Try.ntmps44
  go_wp2_with (first | (go_at_call 23; refine (nil23 _).mono ?_; rintro _ _ ⟨rfl, rfl⟩) | (go_at_call 54; refine (nil54 _).mono ?_; rintro _ _ ⟨rfl, rfl⟩) | (go_at_call 55; refine (nil55 _).mono ?_; rintro _ _ ⟨rfl, rfl⟩) | (go_at_call 56; refine (nil56 _).mono ?_; rintro _ _ ⟨rfl, rfl⟩))
  go_ret
  exact ⟨rfl, ((Below.refl _ _).alloc (Nat.le_refl _) _).alloc (by simp) _⟩
set_option maxRecDepth 100000 in
set_option maxHeartbeats 1000000 in
theorem eqInstS_new (g g' : Nat) (w : World) (h : w.heap[g]? = some (.cells #[.string ⟨#[]⟩, .int .i64 0, .slice none 0 0, .slice none 0 0, .slice none 0 0, .slice none 0 0] 47 (0, 0))) (h' : w.heap[g']? = some (.cells #[.string ⟨#[]⟩, .int .i64 0, .slice none 0 0, .slice none 0 0, .slice none 0 0, .slice none 0 0] 47 (0, 0))) :
    Calls Try.prog 21 #[.slice (some ⟨g, 0, none⟩) 1 1, .slice (some ⟨g', 0, none⟩) 1 1] w fun e w' => Ans w (.bool true) e w' := by
  have hg : g < w.heap.size := (Array.getElem?_eq_some_iff.1 h).1
  have hg' : g' < w.heap.size := (Array.getElem?_eq_some_iff.1 h').1
  go_enter Try.func21, Try.ntmps21
  go_wp2
  go_loopw [5] (fun o wr => ∃ (i : Nat), i ≤ 1 ∧ o = .int .i64 i ∧ Below w.heap.size w wr) (fun o _ => 1 - (intOf o).toNat)
  case atStart => exact ⟨0, by omega, rfl, Below.refl _ _⟩
  case round =>
    obtain ⟨i, hi, rfl, hb⟩ := hrel
    have hsz := hb.size
    match i, hi with
    | 0, hi =>
      have k := blk_keep h hb hg
      have k' := blk_keep h' hb hg'
      have c0 := cell_blk (j := 0) k rfl
      have c1 := cell_blk (j := 1) k rfl
      have c2 := cell_blk (j := 2) k rfl
      have c3 := cell_blk (j := 3) k rfl
      have c4 := cell_blk (j := 4) k rfl
      have c5 := cell_blk (j := 5) k rfl
      have d0 := cell_blk (j := 0) k' rfl
      have d1 := cell_blk (j := 1) k' rfl
      have d2 := cell_blk (j := 2) k' rfl
      have d3 := cell_blk (j := 3) k' rfl
      have d4 := cell_blk (j := 4) k' rfl
      have d5 := cell_blk (j := 5) k' rfl
      go_wp2_with fail
      go_region_with (go_at_call 44; refine (eqInst_new _).mono ?_; rintro e w2 ⟨rfl, hb2⟩)
      all_goals
        go_wp2
        go_roundw
        case rel => exact ⟨1, by omega, by go_num, (below_dn hb _).trans (hb2.mono hsz)⟩
        case measure => simp [intOf]
    | 1, hi =>
      go_wp2
      go_ret
      exact ⟨rfl, hb⟩
set_option maxRecDepth 100000 in
set_option maxHeartbeats 1000000 in
theorem eqSys_new (g g' : Nat) (w : World) (h : w.heap[g]? = some (.cells #[.string ⟨#[]⟩, .int .i64 0, .slice none 0 0, .slice none 0 0, .slice none 0 0, .slice none 0 0] 47 (0, 0))) (h' : w.heap[g']? = some (.cells #[.string ⟨#[]⟩, .int .i64 0, .slice none 0 0, .slice none 0 0, .slice none 0 0, .slice none 0 0] 47 (0, 0))) :
    Calls Try.prog 11 #[.agg #[.slice none 0 0, .slice (some ⟨g, 0, none⟩) 1 1, .slice none 0 0, .slice none 0 0], .agg #[.slice none 0 0, .slice (some ⟨g', 0, none⟩) 1 1, .slice none 0 0, .slice none 0 0]] w fun e w' => Ans w (.bool true) e w' := by
  have HE : Hid (∀ w1, Below w.heap.size w w1 → Calls Try.prog 21 #[.slice (some ⟨g, 0, none⟩) 1 1, .slice (some ⟨g', 0, none⟩) 1 1] w1 fun e w' => Ans w1 (.bool true) e w') := fun w1 hb => eqInstS_new g g' w1 (blk_keep h hb (Array.getElem?_eq_some_iff.1 h).1) (blk_keep h' hb (Array.getElem?_eq_some_iff.1 h').1)
  have hbA : Below w.heap.size w ((w.alloc (Obj.cells #[.slice none 0 0, .slice (some ⟨g, 0, none⟩) 1 1, .slice none 0 0, .slice none 0 0] 27)).alloc (Obj.cells #[.slice none 0 0, .slice (some ⟨g', 0, none⟩) 1 1, .slice none 0 0, .slice none 0 0] 27)) := ((Below.refl _ _).alloc (Nat.le_refl _) _).alloc (by simp) _
  have k0 : ((w.alloc (Obj.cells #[.slice none 0 0, .slice (some ⟨g, 0, none⟩) 1 1, .slice none 0 0, .slice none 0 0] 27)).alloc (Obj.cells #[.slice none 0 0, .slice (some ⟨g', 0, none⟩) 1 1, .slice none 0 0, .slice none 0 0] 27)).heap[w.heap.size]? = some (Obj.cells #[.slice none 0 0, .slice (some ⟨g, 0, none⟩) 1 1, .slice none 0 0, .slice none 0 0] 27) := blk_past (blk_at _ _ _ rfl)
  have k1 : ((w.alloc (Obj.cells #[.slice none 0 0, .slice (some ⟨g, 0, none⟩) 1 1, .slice none 0 0, .slice none 0 0] 27)).alloc (Obj.cells #[.slice none 0 0, .slice (some ⟨g', 0, none⟩) 1 1, .slice none 0 0, .slice none 0 0] 27)).heap[w.heap.size + 1]? = some (Obj.cells #[.slice none 0 0, .slice (some ⟨g', 0, none⟩) 1 1, .slice none 0 0, .slice none 0 0] 27) := blk_at _ _ _ (by simp)
  clear h h'
  go_enter Try.func11, Try.ntmps11
  go_wp2_with (first | (go_at_call 21; refine (HE.out _ hbA).mono ?_; rintro e w1 ⟨rfl, hb1⟩; have m0 := blk_keep k0 hb1 (by simp; omega); have m1 := blk_keep k1 hb1 (by simp); have c2 := cell_blk (j := 2) m0 rfl; have c3 := cell_blk (j := 3) m0 rfl; have d2 := cell_blk (j := 2) m1 rfl; have d3 := cell_blk (j := 3) m1 rfl; have hb2 : Below w.heap.size w w1 := hbA.trans (hb1.mono hbA.size)) | (go_at_call 20; refine (nil20 _).mono ?_; rintro _ _ ⟨rfl, rfl⟩) | (go_at_call 22; refine (nil22 _).mono ?_; rintro _ _ ⟨rfl, rfl⟩) | (go_at_call 23; refine (nil23 _).mono ?_; rintro _ _ ⟨rfl, rfl⟩))
  go_ret
  exact ⟨rfl, hb2⟩
/-- Only the block of the Insts has turned. -/
def OnlyG (w w' : World) (g : Nat) : Prop := w.grownBy w' (some g)
theorem og_below {w w' : World} {g : Nat} (h : Below w.heap.size w w') : OnlyG w w' g := ⟨h.os, h.tape, h.output, h.size, fun i hi _ => h.block i hi⟩
theorem og_trans {w w1 w2 : World} {g : Nat} (h : OnlyG w w1 g) (q : OnlyG w1 w2 g) : OnlyG w w2 g :=
  ⟨q.os.trans h.os, q.tape.trans h.tape, q.output.trans h.output, Nat.le_trans h.size q.size, fun i hi hne => (q.block i (Nat.lt_of_lt_of_le hi h.size) hne).trans (h.block i hi hne)⟩
theorem og_set (w : World) (g o : Nat) (u : Value) : OnlyG w (w.setCell ⟨g, o, none⟩ u) g :=
  ⟨rfl, rfl, rfl, by simp, fun i hi hne => heap_setCell_other _ _ _ _ (by rintro rfl; exact hne rfl)⟩
set_option maxRecDepth 100000 in
set_option maxHeartbeats 1000000 in
theorem markInstS_new (g : Nat) (w : World) (h : w.heap[g]? = some (.cells #[.string ⟨#[]⟩, .int .i64 0, .slice none 0 0, .slice none 0 0, .slice none 0 0, .slice none 0 0] 47 (0, 0))) :
    Calls Try.prog 27 #[.slice (some ⟨g, 0, none⟩) 1 1, .int .i64 1] w fun e w' => e = .returned (.int .i64 3) ∧ w'.heap[g]? = some (.cells #[.string (mtx 1), .int .i64 2, .slice none 0 0, .slice none 0 0, .slice none 0 0, .slice none 0 0] 47 (0, 0)) ∧ OnlyG w w' g := by
  have hg : g < w.heap.size := (Array.getElem?_eq_some_iff.1 h).1
  have HM : Hid (∀ w1, Calls Try.prog 30 #[.int .i64 1] w1 fun e w' => Ans w1 (.string (mtx 1)) e w') := fun w1 => markText_any 1 w1 (by omega) (by omega)
  go_enter Try.func27, Try.ntmps27
  go_wp2
  go_loopw [1, 5] (fun kv o wr => (o = .int .i64 0 ∧ kv = .int .i64 1 ∧ wr = w) ∨ (o = .int .i64 1 ∧ kv = .int .i64 3 ∧ wr.heap[g]? = some (.cells #[.string (mtx 1), .int .i64 2, .slice none 0 0, .slice none 0 0, .slice none 0 0, .slice none 0 0] 47 (0, 0)) ∧ OnlyG w wr g)) (fun _ o _ => 1 - (intOf o).toNat)
  case atStart => exact .inl ⟨rfl, rfl, rfl⟩
  case round =>
    obtain ⟨rfl, rfl, rfl⟩ | ⟨rfl, rfl, hm, ho⟩ := hrel
    · have c0 := cell_blk (j := 0) h rfl
      have f0 := frozen_blk h 0
      have KX : Hid (wr.heap[g]? = some (.cells #[.string ⟨#[]⟩, .int .i64 0, .slice none 0 0, .slice none 0 0, .slice none 0 0, .slice none 0 0] 47 (0, 0))) := h
      clear h
      go_wp2_with fail
      refine (HM.out _).mono ?_
      rintro e w2 ⟨rfl, hb2⟩
      have k2 := (hb2.block g hg).trans KX.out
      have e0 := cell_blk (j := 0) k2 rfl
      have e1 := cell_blk (j := 1) k2 rfl
      have e2 := cell_blk (j := 2) k2 rfl
      have e3 := cell_blk (j := 3) k2 rfl
      have e4 := cell_blk (j := 4) k2 rfl
      have e5 := cell_blk (j := 5) k2 rfl
      have f2 := frozen_blk k2 0
      have f3 := frozen_blk k2 1
      have HO : Hid (OnlyG wr w2 g) := og_below hb2
      have K2 : Hid (w2.heap[g]? = some (.cells #[.string ⟨#[]⟩, .int .i64 0, .slice none 0 0, .slice none 0 0, .slice none 0 0, .slice none 0 0] 47 (0, 0))) := k2
      clear k2 hb2
      go_wp2_with (first | (go_at_call 29; refine (nil29 3 _).mono ?_; rintro _ _ ⟨rfl, rfl⟩) | (go_at_call 48; refine (nil48 3 _).mono ?_; rintro _ _ ⟨rfl, rfl⟩) | (go_at_call 49; refine (nil49 3 _).mono ?_; rintro _ _ ⟨rfl, rfl⟩) | (go_at_call 31; refine (nil31 3 _).mono ?_; rintro _ _ ⟨rfl, rfl⟩))
      go_roundw
      case rel => exact .inr ⟨by go_num, rfl, heap_setCell_same _ _ _ _ _ _ (heap_setCell_same _ _ _ _ _ _ K2.out), og_trans (og_trans HO.out (og_set _ _ _ _)) (og_set _ _ _ _)⟩
      case measure => simp [intOf]
    · go_wp2
      go_ret
      exact ⟨rfl, hm, ho⟩
set_option maxRecDepth 100000 in
set_option maxHeartbeats 1000000 in
theorem heldInstS_new (g : Nat) (w : World) (h : w.heap[g]? = some (.cells #[.string (mtx 1), .int .i64 2, .slice none 0 0, .slice none 0 0, .slice none 0 0, .slice none 0 0] 47 (0, 0))) :
    Calls Try.prog 36 #[.slice (some ⟨g, 0, none⟩) 1 1, .int .i64 1] w fun e w' => Ans w (.int .i64 3) e w' := by
  have hg : g < w.heap.size := (Array.getElem?_eq_some_iff.1 h).1
  have HM : Hid (∀ w1, Calls Try.prog 30 #[.int .i64 1] w1 fun e w' => Ans w1 (.string (mtx 1)) e w') := fun w1 => markText_any 1 w1 (by omega) (by omega)
  go_enter Try.func36, Try.ntmps36
  go_wp2
  go_loopw [1, 5] (fun kv o wr => (o = .int .i64 0 ∧ kv = .int .i64 1 ∧ wr = w) ∨ (o = .int .i64 1 ∧ kv = .int .i64 3 ∧ Below w.heap.size w wr)) (fun _ o _ => 1 - (intOf o).toNat)
  case atStart => exact .inl ⟨rfl, rfl, rfl⟩
  case round =>
    obtain ⟨rfl, rfl, rfl⟩ | ⟨rfl, rfl, ho⟩ := hrel
    · have c0 := cell_blk (j := 0) h rfl
      have KX : Hid (wr.heap[g]? = some (.cells #[.string (mtx 1), .int .i64 2, .slice none 0 0, .slice none 0 0, .slice none 0 0, .slice none 0 0] 47 (0, 0))) := h
      clear h
      go_wp2_with fail
      go_region_with (go_at_call 30; refine (HM.out _).mono ?_; rintro e w2 ⟨rfl, hb2⟩; have e0 := cell_blk (j := 0) ((hb2.block g hg).trans KX.out) rfl)
      all_goals
        have k2 := (hb2.block g hg).trans KX.out
        have e1 := cell_blk (j := 1) k2 rfl
        have e2 := cell_blk (j := 2) k2 rfl
        have e3 := cell_blk (j := 3) k2 rfl
        have e4 := cell_blk (j := 4) k2 rfl
        have e5 := cell_blk (j := 5) k2 rfl
        have HB : Hid (Below wr.heap.size wr w2) := (show Below wr.heap.size wr wr.drew from below_dn (Below.refl _ _) 1).trans hb2
        clear k2 hb2
        go_wp2_with (first | (go_at_call 38; refine (nil38 3 _).mono ?_; rintro _ _ ⟨rfl, rfl⟩) | (go_at_call 51; refine (nil51 3 _).mono ?_; rintro _ _ ⟨rfl, rfl⟩) | (go_at_call 52; refine (nil52 3 _).mono ?_; rintro _ _ ⟨rfl, rfl⟩) | (go_at_call 39; refine (nil39 3 _).mono ?_; rintro _ _ ⟨rfl, rfl⟩))
        go_roundw
        case rel => exact .inr ⟨by go_num, rfl, HB.out⟩
        case measure => simp [intOf]
    · go_wp2
      go_ret
      exact ⟨rfl, ho⟩
set_option maxRecDepth 100000 in
set_option maxHeartbeats 1000000 in
theorem markSys_new (g : Nat) (w : World) (h : w.heap[g]? = some (.cells #[.string ⟨#[]⟩, .int .i64 0, .slice none 0 0, .slice none 0 0, .slice none 0 0, .slice none 0 0] 47 (0, 0))) :
    Calls Try.prog 14 #[.agg #[.slice none 0 0, .slice (some ⟨g, 0, none⟩) 1 1, .slice none 0 0, .slice none 0 0], .int .i64 1] w fun e w' => e = .returned (.int .i64 3) ∧ w'.heap[g]? = some (.cells #[.string (mtx 1), .int .i64 2, .slice none 0 0, .slice none 0 0, .slice none 0 0, .slice none 0 0] 47 (0, 0)) ∧ OnlyG w w' g := by
  have hg : g < w.heap.size := (Array.getElem?_eq_some_iff.1 h).1
  have HE : Hid (Calls Try.prog 27 #[.slice (some ⟨g, 0, none⟩) 1 1, .int .i64 1] (w.alloc (Obj.cells #[.slice none 0 0, .slice (some ⟨g, 0, none⟩) 1 1, .slice none 0 0, .slice none 0 0] 27)) fun e w' => e = .returned (.int .i64 3) ∧ w'.heap[g]? = some (.cells #[.string (mtx 1), .int .i64 2, .slice none 0 0, .slice none 0 0, .slice none 0 0, .slice none 0 0] 47 (0, 0)) ∧ OnlyG (w.alloc (Obj.cells #[.slice none 0 0, .slice (some ⟨g, 0, none⟩) 1 1, .slice none 0 0, .slice none 0 0] 27)) w' g) := markInstS_new g _ (blk_past h)
  have k0 : (w.alloc (Obj.cells #[.slice none 0 0, .slice (some ⟨g, 0, none⟩) 1 1, .slice none 0 0, .slice none 0 0] 27)).heap[w.heap.size]? = some (Obj.cells #[.slice none 0 0, .slice (some ⟨g, 0, none⟩) 1 1, .slice none 0 0, .slice none 0 0] 27) := blk_at _ _ _ rfl
  clear h
  go_enter Try.func14, Try.ntmps14
  go_wp2_with (first | (go_at_call 27; refine HE.out.mono ?_; rintro e w1 ⟨rfl, hm1, ho1⟩; have m0 := (ho1.block w.heap.size (by simp) (by intro q; injection q with q; omega)).trans k0; have c2 := cell_blk (j := 2) m0 rfl; have c3 := cell_blk (j := 3) m0 rfl; have HO : Hid (OnlyG w w1 g) := og_trans (og_below ((Below.refl _ _).alloc (Nat.le_refl _) _)) ho1; have HM : Hid (w1.heap[g]? = some (.cells #[.string (mtx 1), .int .i64 2, .slice none 0 0, .slice none 0 0, .slice none 0 0, .slice none 0 0] 47 (0, 0))) := hm1; clear hm1 ho1 m0) | (go_at_call 26; refine (nil26 1 _).mono ?_; rintro _ _ ⟨rfl, rfl⟩) | (go_at_call 28; refine (nil28 3 _).mono ?_; rintro _ _ ⟨rfl, rfl⟩) | (go_at_call 29; refine (nil29 3 _).mono ?_; rintro _ _ ⟨rfl, rfl⟩))
  go_ret
  exact ⟨rfl, HM.out, HO.out⟩
set_option maxRecDepth 100000 in
set_option maxHeartbeats 1000000 in
theorem heldSys_new (g : Nat) (w : World) (h : w.heap[g]? = some (.cells #[.string (mtx 1), .int .i64 2, .slice none 0 0, .slice none 0 0, .slice none 0 0, .slice none 0 0] 47 (0, 0))) :
    Calls Try.prog 17 #[.agg #[.slice none 0 0, .slice (some ⟨g, 0, none⟩) 1 1, .slice none 0 0, .slice none 0 0], .int .i64 1] w fun e w' => Ans w (.int .i64 3) e w' := by
  have hg : g < w.heap.size := (Array.getElem?_eq_some_iff.1 h).1
  have HE : Hid (Calls Try.prog 36 #[.slice (some ⟨g, 0, none⟩) 1 1, .int .i64 1] (w.alloc (Obj.cells #[.slice none 0 0, .slice (some ⟨g, 0, none⟩) 1 1, .slice none 0 0, .slice none 0 0] 27)) fun e w' => Ans (w.alloc (Obj.cells #[.slice none 0 0, .slice (some ⟨g, 0, none⟩) 1 1, .slice none 0 0, .slice none 0 0] 27)) (.int .i64 3) e w') := heldInstS_new g _ (blk_past h)
  have k0 : (w.alloc (Obj.cells #[.slice none 0 0, .slice (some ⟨g, 0, none⟩) 1 1, .slice none 0 0, .slice none 0 0] 27)).heap[w.heap.size]? = some (Obj.cells #[.slice none 0 0, .slice (some ⟨g, 0, none⟩) 1 1, .slice none 0 0, .slice none 0 0] 27) := blk_at _ _ _ rfl
  clear h
  go_enter Try.func17, Try.ntmps17
  go_wp2_with (first | (go_at_call 36; refine HE.out.mono ?_; rintro e w1 ⟨rfl, hb1⟩; have m0 := (hb1.block w.heap.size (by simp)).trans k0; have c2 := cell_blk (j := 2) m0 rfl; have c3 := cell_blk (j := 3) m0 rfl; have HO : Hid (Below w.heap.size w w1) := ((Below.refl _ _).alloc (Nat.le_refl _) _).trans (hb1.mono (by simp)); clear hb1 m0) | (go_at_call 35; refine (nil35 1 _).mono ?_; rintro _ _ ⟨rfl, rfl⟩) | (go_at_call 37; refine (nil37 3 _).mono ?_; rintro _ _ ⟨rfl, rfl⟩) | (go_at_call 38; refine (nil38 3 _).mono ?_; rintro _ _ ⟨rfl, rfl⟩))
  go_ret
  exact ⟨rfl, HO.out⟩
end Go.Proofs.Ythhhfmdcgdabkaa
