/- The law's marks: into a row of data, into a row of numbers. -/
import Derived.Test.YtilaonjjpfebgaaMka
import Derived.Test.YtilaonjjpfebgaaPgh
set_option linter.unusedVariables false
namespace Go.Proofs.Ytilaonjjpfebgaa
open Go.ChangeShapes Go.WideShapes Go.ChangeAt Go.RowKit
/-- The mark of a cell. -/
def mkc (k p : Nat) : Value := if p % 5 = 2 then .string (mtx (k + p)) else .int .i64 ((k + p : Nat) : Int)
/-- Five cells laid. -/
def mk5 (A : Array Value) (o : Nat) (v0 v1 v2 v3 v4 : Value) : Array Value :=
  ((((A.setIfInBounds o v0).setIfInBounds (o + 1) v1).setIfInBounds (o + 2) v2).setIfInBounds (o + 3) v3).setIfInBounds (o + 4) v4
theorem mk5_size (A : Array Value) (o : Nat) (v0 v1 v2 v3 v4 : Value) : (mk5 A o v0 v1 v2 v3 v4).size = A.size := by simp [mk5]
theorem mk5_get {A : Array Value} {i k : Nat} {v0 v1 v2 v3 v4 : Value} (hA : i * 5 + 5 ≤ A.size) (hp : ∀ p, p < i * 5 → A[p]? = some (mkc k p)) (h0 : v0 = mkc k (i * 5)) (h1 : v1 = mkc k (i * 5 + 1)) (h2 : v2 = mkc k (i * 5 + 2)) (h3 : v3 = mkc k (i * 5 + 3)) (h4 : v4 = mkc k (i * 5 + 4)) : ∀ p, p < (i + 1) * 5 → (mk5 A (i * 5) v0 v1 v2 v3 v4)[p]? = some (mkc k p) := by
  intro p hlt
  subst h0; subst h1; subst h2; subst h3; subst h4
  simp only [mk5, Array.getElem?_setIfInBounds, Array.size_setIfInBounds]
  by_cases h4 : i * 5 + 4 = p
  · subst h4; rw [if_pos rfl, if_pos (by omega)]
  · rw [if_neg h4]
    by_cases h3 : i * 5 + 3 = p
    · subst h3; rw [if_pos rfl, if_pos (by omega)]
    · rw [if_neg h3]
      by_cases h2 : i * 5 + 2 = p
      · subst h2; rw [if_pos rfl, if_pos (by omega)]
      · rw [if_neg h2]
        by_cases h1 : i * 5 + 1 = p
        · subst h1; rw [if_pos rfl, if_pos (by omega)]
        · rw [if_neg h1]
          by_cases h0 : i * 5 = p
          · subst h0; rw [if_pos rfl, if_pos (by omega)]
          · rw [if_neg h0]
            exact hp p (by omega)
theorem mkc_int {k i j : Nat} {x : Int} (hj : j < 5) (h2 : j ≠ 2) (hx : x = (k : Int) + i * 5 + j) : Value.int .i64 x = mkc k (i * 5 + j) := by
  rw [mkc, if_neg (by omega), hx]
  congr 1
  omega
theorem mkc_int0 {k i : Nat} {x : Int} (hx : x = (k : Int) + i * 5) : Value.int .i64 x = mkc k (i * 5) := by
  rw [mkc, if_neg (by omega), hx]
  congr 1
theorem mkc_txt {k i m : Nat} (hm : m = k + i * 5) : Value.string (mtx (m + 2)) = mkc k (i * 5 + 2) := by
  rw [mkc, if_pos (by omega), hm, Nat.add_assoc]
theorem grownBy_below {a b c : World} {r : Option Nat} (h : a.grownBy b r) (hb : Below b.heap.size b c) : a.grownBy c r :=
  ⟨hb.os.trans h.os, hb.tape.trans h.tape, hb.output.trans h.output, Nat.le_trans h.size hb.size, fun i hi hn => (hb.block i (Nat.lt_of_lt_of_le hi h.size)).trans (h.block i hi hn)⟩
theorem blk_set {w : World} {g o : Nat} {X : Array Value} {t : TypeId} (v : Value) (h : w.heap[g]? = some (.cells X t (0, 0))) : (w.setCell ⟨g, o, none⟩ v).heap[g]? = some (.cells (X.setIfInBounds o v) t (0, 0)) := heap_setCell_same _ _ _ _ _ _ h
set_option maxRecDepth 100000 in
set_option maxHeartbeats 1000000 in
theorem markDatumS_any (g n cap k : Nat) (A : Array Value) (w : World) (hg : w.heap[g]? = some (.cells A 49 (0, 0))) (hA : n * 5 ≤ A.size) (hn : n ≤ 1048576) (hk1 : 1 ≤ k) (hk : k ≤ 1048576) :
    Calls Try.prog 16 #[.slice (some ⟨g, 0, none⟩) n cap, .int .i64 k] w fun e w' => e = .returned (.int .i64 ((k + n * 5 : Nat) : Int)) ∧ w.grownBy w' (some g) ∧ ∃ A', w'.heap[g]? = some (.cells A' 49 (0, 0)) ∧ ∀ p, p < n * 5 → A'[p]? = some (mkc k p) := by
  go_enter Try.func16, Try.ntmps16
  go_wp2
  go_loopw [1, 5] (fun kv iv wr => ∃ (i m : Nat) (X : Array Value), i ≤ n ∧ m = k + i * 5 ∧ kv = .int .i64 m ∧ iv = .int .i64 i ∧ wr.heap[g]? = some (.cells X 49 (0, 0)) ∧ X.size = A.size ∧ (∀ p, p < i * 5 → X[p]? = some (mkc k p)) ∧ w.grownBy wr (some g))
    (fun kv iv _ => n - (intOf iv).toNat)
  case atStart => exact ⟨0, k, A, Nat.zero_le _, by omega, rfl, rfl, hg, rfl, fun p hp => by omega, grownBy_refl' _ _⟩
  case round =>
    clear hg
    obtain ⟨i, m, X, hi, hm, rfl, rfl, kX, hX, hpre, hgr⟩ := hrel
    have HM : Hid (m = k + i * 5) := hm
    have hm6 : m ≤ 6291456 := by omega
    have hm1 : 1 ≤ m := by omega
    have HP : Hid (∀ p, p < i * 5 → X[p]? = some (mkc k p)) := hpre
    have HG : Hid (w.grownBy wr (some g)) := hgr
    have KX : Hid (wr.heap[g]? = some (.cells X 49 (0, 0))) := kX
    clear hm hpre hgr
    by_cases hlt : i < n
    · have hXs : i * 5 + 5 ≤ X.size := by omega
      obtain ⟨y0, e0⟩ := cell_blk' kX (i * 5) (by omega)
      obtain ⟨y1, e1⟩ := cell_blk' kX (i * 5 + 1) (by omega)
      have f0 := frozen_blk kX (i * 5)
      have f1 := frozen_blk kX (i * 5 + 1)
      have hgl := (Array.getElem?_eq_some_iff.1 kX).1
      clear kX
      have HT : Hid (∀ w, Calls Try.prog 33 #[.int .i64 ((m : Int) + 1 + 1)] w fun e w' => Ans w (.string (mtx (m + 2))) e w') := fun w => by
        have := markText_any (m + 2) w (by omega) (by omega)
        rw [show (((m + 2 : Nat)) : Int) = (m : Int) + 1 + 1 by omega] at this
        exact this
      go_wp2_with fail
      refine (HT.out _).mono ?_
      rintro e w2 ⟨rfl, hb2⟩
      have k1 := blk_set (o := i * 5 + 1) (.int .i64 ((m : Int) + 1)) (blk_set (o := i * 5) (.int .i64 (m : Int)) KX.out)
      have k2 := (hb2.block g (by simpa using hgl)).trans k1
      have HG2 : Hid (w.grownBy w2 (some g)) := grownBy_below (grownBy_set (grownBy_set HG.out)) hb2
      have K2 : Hid (w2.heap[g]? = some (.cells ((X.setIfInBounds (i * 5) (.int .i64 (m : Int))).setIfInBounds (i * 5 + 1) (.int .i64 ((m : Int) + 1))) 49 (0, 0))) := k2
      obtain ⟨y2, e2⟩ := cell_blk' k2 (i * 5 + 2) (by simp; omega)
      obtain ⟨y3, e3⟩ := cell_blk' k2 (i * 5 + 3) (by simp; omega)
      obtain ⟨y4, e4⟩ := cell_blk' k2 (i * 5 + 4) (by simp; omega)
      have f2 := frozen_blk k2 (i * 5 + 2)
      have f3 := frozen_blk k2 (i * 5 + 3)
      have f4 := frozen_blk k2 (i * 5 + 4)
      clear k1 k2 hb2 e0 e1 f0 f1
      go_wp2
      go_roundw
      case rel =>
        refine ⟨i + 1, m + 5, mk5 X (i * 5) (.int .i64 (m : Int)) (.int .i64 ((m : Int) + 1)) (.string (mtx (m + 2))) (.int .i64 ((m : Int) + 1 + 1 + 1)) (.int .i64 ((m : Int) + 1 + 1 + 1 + 1)), by omega, by have := HM.out; omega, by go_num, by go_num, blk_set _ (blk_set _ (blk_set _ K2.out)), by rw [mk5_size, hX], mk5_get hXs HP.out (mkc_int0 ?_) (mkc_int (by omega) (by omega) ?_) (mkc_txt HM.out) (mkc_int (by omega) (by omega) ?_) (mkc_int (by omega) (by omega) ?_), grownBy_set (grownBy_set (grownBy_set HG2.out))⟩ <;> (have := HM.out; omega)
      case measure => simp [intOf]; omega
    · have hlt' : decide ((i : Int) < (n : Int)) = false := by simp; omega
      obtain rfl : i = n := by omega
      clear hlt
      go_wp2
      go_ret
      exact ⟨by rw [HM.out]; rfl, HG.out, X, KX.out, HP.out⟩
end Go.Proofs.Ytilaonjjpfebgaa
