/- A heap that comes in, copied: its rows of texts and of values. -/
import Derived.Test.YtamjofdgikifnaaGreatVlp
set_option linter.unusedVariables false
namespace Go.Proofs.YtamjofdgikifnaaGreat
open Go.ChangeShapes Go.WideShapes Go.ChangeAt Go.RowKit
theorem sc_other (w : World) (c j k : Nat) (v : Value) (h : j ≠ k) : (w.setCell ⟨c, j, none⟩ v).cell? ⟨c, k, none⟩ = w.cell? ⟨c, k, none⟩ := by
  apply World.cell?_setCell_other
  intro e
  injection e with _ e2
  exact h e2
/-- 3 cells laid. -/
def put3 (w : World) (g o : Nat) (v0 v1 v2 : Value) : World :=
  ((w.setCell ⟨g, o, none⟩ v0).setCell ⟨g, o + 1, none⟩ v1).setCell ⟨g, o + 2, none⟩ v2
theorem put3_blk {w : World} {g : Nat} {xs : Array Value} {t : TypeId} (o : Nat) (v0 v1 v2 : Value) (h : w.heap[g]? = some (.cells xs t (0, 0))) : ∃ ys, (put3 w g o v0 v1 v2).heap[g]? = some (.cells ys t (0, 0)) ∧ ys.size = xs.size :=
  ⟨_, heap_setCell_same _ _ _ _ _ _ (heap_setCell_same _ _ _ _ _ _ (heap_setCell_same _ _ _ _ _ _ h)), by simp⟩
theorem put3_below {B g : Nat} {w0 w : World} (h : Below B w0 w) (hg : B ≤ g) (o : Nat) (v0 v1 v2 : Value) : Below B w0 (put3 w g o v0 v1 v2) :=
  ((h.setCell (p := ⟨g, _, none⟩) hg _).setCell (p := ⟨g, _, none⟩) hg _).setCell (p := ⟨g, _, none⟩) hg _
theorem put3_other {w : World} {g o : Nat} {v0 v1 v2 : Value} {b : Nat} (h : b ≠ g) : (put3 w g o v0 v1 v2).heap[b]? = w.heap[b]? := by
  unfold put3
  rw [heap_setCell_other _ _ _ _ h, heap_setCell_other _ _ _ _ h, heap_setCell_other _ _ _ _ h]
theorem put3_size {w : World} {g o : Nat} {v0 v1 v2 : Value} : (put3 w g o v0 v1 v2).heap.size = w.heap.size := by
  simp [put3]
theorem put3_out {w : World} {g o k : Nat} {v0 v1 v2 : Value} (h : k < o ∨ o + 3 ≤ k) : (put3 w g o v0 v1 v2).cell? ⟨g, k, none⟩ = w.cell? ⟨g, k, none⟩ := by
  unfold put3
  rw [sc_other _ _ _ _ _ (by omega), sc_other _ _ _ _ _ (by omega), sc_other _ _ _ _ _ (by omega)]
theorem put3_same {w : World} {g o : Nat} {v0 v1 v2 : Value} {xs : Array Value} {t : TypeId} (h : w.heap[g]? = some (.cells xs t (0, 0))) (hs : o + 3 ≤ xs.size) :
    (put3 w g o v0 v1 v2).cell? ⟨g, o, none⟩ = some v0 ∧ (put3 w g o v0 v1 v2).cell? ⟨g, o + 1, none⟩ = some v1 ∧ (put3 w g o v0 v1 v2).cell? ⟨g, o + 2, none⟩ = some v2 := by
  have key := heap_setCell_same _ g (o + 2) _ _ v2 (heap_setCell_same _ g (o + 1) _ _ v1 (heap_setCell_same _ g o _ _ v0 h))
  have e : (put3 w g o v0 v1 v2).heap[g]? = _ := key
  refine ⟨cell_blk e ?_, cell_blk e ?_, cell_blk e ?_⟩
  all_goals
    simp only [Array.getElem?_setIfInBounds, Array.size_setIfInBounds]
    simp
    try omega
/-- 6 cells laid. -/
def put6 (w : World) (g o : Nat) (v0 v1 v2 v3 v4 v5 : Value) : World :=
  (((((w.setCell ⟨g, o, none⟩ v0).setCell ⟨g, o + 1, none⟩ v1).setCell ⟨g, o + 2, none⟩ v2).setCell ⟨g, o + 3, none⟩ v3).setCell ⟨g, o + 4, none⟩ v4).setCell ⟨g, o + 5, none⟩ v5
theorem put6_blk {w : World} {g : Nat} {xs : Array Value} {t : TypeId} (o : Nat) (v0 v1 v2 v3 v4 v5 : Value) (h : w.heap[g]? = some (.cells xs t (0, 0))) : ∃ ys, (put6 w g o v0 v1 v2 v3 v4 v5).heap[g]? = some (.cells ys t (0, 0)) ∧ ys.size = xs.size :=
  ⟨_, heap_setCell_same _ _ _ _ _ _ (heap_setCell_same _ _ _ _ _ _ (heap_setCell_same _ _ _ _ _ _ (heap_setCell_same _ _ _ _ _ _ (heap_setCell_same _ _ _ _ _ _ (heap_setCell_same _ _ _ _ _ _ h))))), by simp⟩
theorem put6_below {B g : Nat} {w0 w : World} (h : Below B w0 w) (hg : B ≤ g) (o : Nat) (v0 v1 v2 v3 v4 v5 : Value) : Below B w0 (put6 w g o v0 v1 v2 v3 v4 v5) :=
  (((((h.setCell (p := ⟨g, _, none⟩) hg _).setCell (p := ⟨g, _, none⟩) hg _).setCell (p := ⟨g, _, none⟩) hg _).setCell (p := ⟨g, _, none⟩) hg _).setCell (p := ⟨g, _, none⟩) hg _).setCell (p := ⟨g, _, none⟩) hg _
theorem put6_other {w : World} {g o : Nat} {v0 v1 v2 v3 v4 v5 : Value} {b : Nat} (h : b ≠ g) : (put6 w g o v0 v1 v2 v3 v4 v5).heap[b]? = w.heap[b]? := by
  unfold put6
  rw [heap_setCell_other _ _ _ _ h, heap_setCell_other _ _ _ _ h, heap_setCell_other _ _ _ _ h, heap_setCell_other _ _ _ _ h, heap_setCell_other _ _ _ _ h, heap_setCell_other _ _ _ _ h]
theorem put6_size {w : World} {g o : Nat} {v0 v1 v2 v3 v4 v5 : Value} : (put6 w g o v0 v1 v2 v3 v4 v5).heap.size = w.heap.size := by
  simp [put6]
theorem put6_out {w : World} {g o k : Nat} {v0 v1 v2 v3 v4 v5 : Value} (h : k < o ∨ o + 6 ≤ k) : (put6 w g o v0 v1 v2 v3 v4 v5).cell? ⟨g, k, none⟩ = w.cell? ⟨g, k, none⟩ := by
  unfold put6
  rw [sc_other _ _ _ _ _ (by omega), sc_other _ _ _ _ _ (by omega), sc_other _ _ _ _ _ (by omega), sc_other _ _ _ _ _ (by omega), sc_other _ _ _ _ _ (by omega), sc_other _ _ _ _ _ (by omega)]
theorem put6_same {w : World} {g o : Nat} {v0 v1 v2 v3 v4 v5 : Value} {xs : Array Value} {t : TypeId} (h : w.heap[g]? = some (.cells xs t (0, 0))) (hs : o + 6 ≤ xs.size) :
    (put6 w g o v0 v1 v2 v3 v4 v5).cell? ⟨g, o, none⟩ = some v0 ∧ (put6 w g o v0 v1 v2 v3 v4 v5).cell? ⟨g, o + 1, none⟩ = some v1 ∧ (put6 w g o v0 v1 v2 v3 v4 v5).cell? ⟨g, o + 2, none⟩ = some v2 ∧ (put6 w g o v0 v1 v2 v3 v4 v5).cell? ⟨g, o + 3, none⟩ = some v3 ∧ (put6 w g o v0 v1 v2 v3 v4 v5).cell? ⟨g, o + 4, none⟩ = some v4 ∧ (put6 w g o v0 v1 v2 v3 v4 v5).cell? ⟨g, o + 5, none⟩ = some v5 := by
  have key := heap_setCell_same _ g (o + 5) _ _ v5 (heap_setCell_same _ g (o + 4) _ _ v4 (heap_setCell_same _ g (o + 3) _ _ v3 (heap_setCell_same _ g (o + 2) _ _ v2 (heap_setCell_same _ g (o + 1) _ _ v1 (heap_setCell_same _ g o _ _ v0 h)))))
  have e : (put6 w g o v0 v1 v2 v3 v4 v5).heap[g]? = _ := key
  refine ⟨cell_blk e ?_, cell_blk e ?_, cell_blk e ?_, cell_blk e ?_, cell_blk e ?_, cell_blk e ?_⟩
  all_goals
    simp only [Array.getElem?_setIfInBounds, Array.size_setIfInBounds]
    simp
    try omega
theorem Tryz.info9 : (Tryz.prog.info? 9).map (fun i => (i.zero, i.size, i.bytes)) = some (some (.string ⟨#[]⟩), 1, 16) := by kernel_rfl
set_option maxRecDepth 100000 in
set_option maxHeartbeats 1000000 in
theorem toStringS_any (a : Option Addr) (ts : List ByteArray) (cap : Nat) (w : World) (hn : ts.length ≤ 1048576) (hr : RowS w w.heap.size a ts) :
    Calls Tryz.prog 9 #[.slice a ts.length cap] w fun e w' => ∃ g, e = .returned (.slice (some ⟨g, 0, none⟩) ts.length ts.length) ∧ w.heap.size ≤ g ∧ g < w'.heap.size ∧ RowSP w' (fun b => b = g) (some ⟨g, 0, none⟩) ts ∧ Below w.heap.size w w' := by
  obtain ⟨i0, hi, hz0, hz1, hz2⟩ := info_parts Tryz.info9
  have HR : Hid (RowS w w.heap.size a ts) := hr
  clear hr
  go_enter Tryz.func9, Tryz.ntmps9
  go_wp2_with (at_make; refine wpList_make_full _ rfl _ _ 22 rfl w.heap.size 9 i0 _ 1 Tryz.underlying22 hi hz0 hz1 .i64 .i64 _ _ ts.length rfl rfl rfl rfl ?c1 ?c2 ?c3 ?_)
  case c1 => rw [hz2]; omega
  case c2 => simp [maxLen]; omega
  case c3 => exact Nat.le_refl _
  intro w1 hown1 hgr1
  have hb1 : Below w.heap.size w w1 := (Below.refl _ _).grown hgr1 (Nat.le_refl _) (fun _ h => by cases h)
  obtain ⟨cur, hblk, hcs, _⟩ := made_row hown1
  clear hown1 hgr1
  go_wp2
  go_loopw [4] (fun o wr => ∃ (i : Nat) (cur : Array Value), i ≤ ts.length ∧ wr.heap[w.heap.size]? = some (.cells cur 9 (0, 0)) ∧ cur.size = ts.length ∧ (∀ j x, j < i → ts[j]? = some x → cur[j]? = some (.string x)) ∧ o = .int .i64 i ∧ Below w.heap.size w wr)
    (fun o _ => ts.length - (intOf o).toNat)
  case atStart => exact ⟨0, cur, by omega, hblk, by omega, fun j d h => absurd h (by omega), rfl, hb1⟩
  case round =>
    clear hblk hcs hb1
    obtain ⟨i, cur, hi, hblk, hcs, hat, rfl, hb⟩ := hrel
    by_cases hlt : i < ts.length
    · obtain ⟨d, hd⟩ : ∃ d, ts[i]? = some d := ⟨_, List.getElem?_eq_getElem hlt⟩
      obtain ⟨b, o, rfl, hbb, c0⟩ := (HR.out.below hb) i d hd
      have HA : Hid (∀ j x, j < i → ts[j]? = some x → cur[j]? = some (.string x)) := hat
      have HK : Hid (wr.heap[w.heap.size]? = some (.cells cur 9 (0, 0))) := hblk
      have f0 := frozen_blk hblk i
      obtain ⟨x0, e0⟩ := cell_blk' hblk i (by omega)
      clear hat hblk
      go_wp2
      go_roundw
      case rel =>
        refine ⟨i + 1, _, by omega, heap_setCell_same _ _ _ _ _ _ HK.out, by simp; omega, fun j x hj hx => ?_, by go_num, hb.setCell (p := ⟨_, _, none⟩) (Nat.le_refl _) _⟩
        rw [Array.getElem?_setIfInBounds]
        by_cases hji : i = j
        · subst hji
          obtain rfl : d = x := Option.some.inj (hd.symm.trans hx)
          rw [if_pos rfl, if_pos (by omega)]
        · rw [if_neg hji]
          exact HA.out j x (by omega) hx
      case measure => simp [intOf]; omega
    · have hlt' : decide ((i : Int) < (ts.length : Int)) = false := by simp; omega
      obtain rfl : i = ts.length := by omega
      have HA : Hid (∀ j x, j < ts.length → ts[j]? = some x → cur[j]? = some (.string x)) := hat
      have HK : Hid (wr.heap[w.heap.size]? = some (.cells cur 9 (0, 0))) := hblk
      clear hat hblk
      go_wp2
      go_ret
      refine ⟨w.heap.size, rfl, Nat.le_refl _, (Array.getElem?_eq_some_iff.1 HK.out).1, ?_, hb⟩
      intro j d hj
      have hjl := (List.getElem?_eq_some_iff.1 hj).1
      refine ⟨w.heap.size, 0, rfl, rfl, ?_⟩
      rw [Nat.zero_add]
      exact cell_blk HK.out (HA.out j d hjl hj)
theorem ValAt.beside {w : World} {g o k : Nat} {v0 v1 v2 : Value} {d : Val} (h : ValAt w g k d) (ho : k + 3 ≤ o ∨ o + 3 ≤ k) : ValAt (put3 w g o v0 v1 v2) g k d := by
  obtain ⟨h0, h1, h2⟩ := h
  exact ⟨(put3_out (by omega)).trans h0, (put3_out (by omega)).trans h1, (put3_out (by omega)).trans h2⟩
end Go.Proofs.YtamjofdgikifnaaGreat
