/- The law's marks: into a row of numbers; found again. -/
import Derived.Test.YtilaonjjpfebgaaMkb
import Derived.Test.YtilaonjjpfebgaaEqa
set_option linter.unusedVariables false
namespace Go.Proofs.Ytilaonjjpfebgaa
open Go.ChangeShapes Go.WideShapes Go.ChangeAt Go.RowKit
set_option maxRecDepth 100000 in
set_option maxHeartbeats 1000000 in
theorem markIntS_any (g n cap k : Nat) (A : Array Value) (w : World) (hg : w.heap[g]? = some (.cells A 3 (0, 0))) (hA : n ≤ A.size) (hn : n ≤ 1048576) (hk : k ≤ 6291456) :
    Calls Try.prog 17 #[.slice (some ⟨g, 0, none⟩) n cap, .int .i64 k] w fun e w' => e = .returned (.int .i64 ((k + n : Nat) : Int)) ∧ w.grownBy w' (some g) ∧ ∃ A', w'.heap[g]? = some (.cells A' 3 (0, 0)) ∧ ∀ p, p < n → A'[p]? = some (.int .i64 ((k + p : Nat) : Int)) := by
  go_enter Try.func17, Try.ntmps17
  go_wp2
  go_loopw [1, 5] (fun kv iv wr => ∃ (i m : Nat) (X : Array Value), i ≤ n ∧ m = k + i ∧ kv = .int .i64 m ∧ iv = .int .i64 i ∧ wr.heap[g]? = some (.cells X 3 (0, 0)) ∧ X.size = A.size ∧ (∀ p, p < i → X[p]? = some (.int .i64 ((k + p : Nat) : Int))) ∧ w.grownBy wr (some g))
    (fun kv iv _ => n - (intOf iv).toNat)
  case atStart => exact ⟨0, k, A, Nat.zero_le _, by omega, rfl, rfl, hg, rfl, fun p hp => by omega, grownBy_refl' _ _⟩
  case round =>
    clear hg
    obtain ⟨i, m, X, hi, hm, rfl, rfl, kX, hX, hpre, hgr⟩ := hrel
    have HM : Hid (m = k + i) := hm
    have hm6 : m ≤ 7340032 := by omega
    have HP : Hid (∀ p, p < i → X[p]? = some (.int .i64 ((k + p : Nat) : Int))) := hpre
    have HG : Hid (w.grownBy wr (some g)) := hgr
    have KX : Hid (wr.heap[g]? = some (.cells X 3 (0, 0))) := kX
    clear hm hpre hgr
    by_cases hlt : i < n
    · obtain ⟨y0, e0⟩ := cell_blk' kX i (by omega)
      have f0 := frozen_blk kX i
      have hXi : i < X.size := by omega
      clear kX
      go_wp2
      go_roundw
      case rel =>
        refine ⟨i + 1, m + 1, X.setIfInBounds i (.int .i64 (m : Int)), by omega, by have := HM.out; omega, by go_num, by go_num, blk_set _ KX.out, by simp [hX], ?_, grownBy_set HG.out⟩
        intro p hp
        rw [Array.getElem?_setIfInBounds]
        by_cases h : i = p
        · subst h; rw [if_pos rfl, if_pos hXi, HM.out]
        · rw [if_neg h]; exact HP.out p (by omega)
      case measure => simp [intOf]; omega
    · have hlt' : decide ((i : Int) < (n : Int)) = false := by simp; omega
      obtain rfl : i = n := by omega
      clear hlt
      go_wp2
      go_ret
      exact ⟨by rw [HM.out]; rfl, HG.out, X, KX.out, HP.out⟩
theorem markDatumS_nil (k : Nat) (w : World) : Calls Try.prog 16 #[.slice none 0 0, .int .i64 k] w fun e w' => e = .returned (.int .i64 (k : Int)) ∧ w' = w := by
  go_enter Try.func16, Try.ntmps16
  go_wp2
  go_loopw [1, 5] (fun kv iv wr => kv = .int .i64 k ∧ iv = .int .i64 0 ∧ wr = w) (fun _ _ _ => 0)
  case atStart => exact ⟨rfl, rfl, rfl⟩
  case round =>
    obtain ⟨rfl, rfl, rfl⟩ := hrel
    go_wp2
    go_ret
    exact ⟨rfl, rfl⟩
theorem markIntS_nil (k : Nat) (w : World) : Calls Try.prog 17 #[.slice none 0 0, .int .i64 k] w fun e w' => e = .returned (.int .i64 (k : Int)) ∧ w' = w := by
  go_enter Try.func17, Try.ntmps17
  go_wp2
  go_loopw [1, 5] (fun kv iv wr => kv = .int .i64 k ∧ iv = .int .i64 0 ∧ wr = w) (fun _ _ _ => 0)
  case atStart => exact ⟨rfl, rfl, rfl⟩
  case round =>
    obtain ⟨rfl, rfl, rfl⟩ := hrel
    go_wp2
    go_ret
    exact ⟨rfl, rfl⟩
/-- Marked data, marked numbers. -/
def mkD (k n : Nat) : List Dat := (List.range n).map fun i => ⟨((k + i * 5 : Nat) : Int), ((k + i * 5 : Nat) : Int) + 1, mtx (k + i * 5 + 2), ((k + i * 5 : Nat) : Int) + 1 + 1 + 1, ((k + i * 5 : Nat) : Int) + 1 + 1 + 1 + 1⟩
def mkI (k n : Nat) : List Int := (List.range n).map fun i => ((k + i : Nat) : Int)
theorem mkD_get {k n i : Nat} (h : i < n) : (mkD k n)[i]? = some ⟨((k + i * 5 : Nat) : Int), ((k + i * 5 : Nat) : Int) + 1, mtx (k + i * 5 + 2), ((k + i * 5 : Nat) : Int) + 1 + 1 + 1, ((k + i * 5 : Nat) : Int) + 1 + 1 + 1 + 1⟩ := by simp [mkD, List.getElem?_range h]
theorem mkI_get {k n i : Nat} (h : i < n) : (mkI k n)[i]? = some ((k + i : Nat) : Int) := by simp [mkI, List.getElem?_range h]
set_option maxRecDepth 100000 in
set_option maxHeartbeats 1000000 in
theorem heldDatumS_any (a : Option Addr) (n cap k : Nat) (w : World) (hn : n ≤ 1048576) (hk1 : 1 ≤ k) (hk : k ≤ 1048576) (hr : RowD w w.heap.size a (mkD k n)) :
    Calls Try.prog 18 #[.slice a n cap, .int .i64 k] w fun e w' => Ans w (.int .i64 ((k + n * 5 : Nat) : Int)) e w' := by
  have HR : Hid (RowD w w.heap.size a (mkD k n)) := hr
  clear hr
  go_enter Try.func18, Try.ntmps18
  go_wp2
  go_loopw [1, 5] (fun kv iv wr => ∃ (i m : Nat), i ≤ n ∧ m = k + i * 5 ∧ kv = .int .i64 m ∧ iv = .int .i64 i ∧ Below w.heap.size w wr)
    (fun kv iv _ => n - (intOf iv).toNat)
  case atStart => exact ⟨0, k, Nat.zero_le _, by omega, rfl, rfl, Below.refl _ _⟩
  case round =>
    obtain ⟨i, m, hi, hm, rfl, rfl, hb⟩ := hrel
    have HM : Hid (m = k + i * 5) := hm
    have hm6 : m ≤ 6291456 := by omega
    have hm1 : 1 ≤ m := by omega
    have HB : Hid (Below w.heap.size w wr) := hb
    by_cases hlt : i < n
    · obtain ⟨b, o, rfl, hbb, c0, c1, c2, c3, c4⟩ := (HR.out.below hb) i _ (mkD_get hlt)
      rw [← hm] at c0 c1 c2 c3 c4
      simp only at c0 c1 c2 c3 c4
      have hsz := hb.size
      have HC3 : Hid _ := c3
      have HC4 : Hid _ := c4
      have HT : Hid (∀ w, Calls Try.prog 33 #[.int .i64 ((m : Int) + 1 + 1)] w fun e w' => Ans w (.string (mtx (m + 2))) e w') := fun w => by
        have := markText_any (m + 2) w (by omega) (by omega)
        rw [show (((m + 2 : Nat)) : Int) = (m : Int) + 1 + 1 by omega] at this
        exact this
      clear hm hb
      have hbw : b < wr.heap.size := by omega
      go_wp2_with fail
      go_region_with (go_at_call 33; refine (HT.out _).mono ?_; rintro e w2 ⟨rfl, hb2⟩; have d2 := (World.cell?_of_block (a := ⟨b, o + i * 5 + 2, none⟩) (hb2.block b hbw)).trans c2)
      all_goals
        have d3 := (World.cell?_of_block (a := ⟨b, o + i * 5 + 3, none⟩) (hb2.block b hbw)).trans c3
        have d4 := (World.cell?_of_block (a := ⟨b, o + i * 5 + 4, none⟩) (hb2.block b hbw)).trans c4
        have HB2 : Hid (Below w.heap.size w w2) := (below_drewN HB.out _).trans (hb2.mono hsz)
        clear hb2 d2
        go_wp2
        go_roundw
        case rel => exact ⟨i + 1, m + 5, by omega, by have := HM.out; omega, by go_num, by go_num, HB2.out⟩
        case measure => simp [intOf]; omega
    · have hlt' : decide ((i : Int) < (n : Int)) = false := by simp; omega
      obtain rfl : i = n := by omega
      clear hlt hm hb
      go_wp2
      go_ret
      exact ⟨by rw [HM.out]; rfl, HB.out⟩
end Go.Proofs.Ytilaonjjpfebgaa
