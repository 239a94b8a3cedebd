/- Copies that may be written. -/
import Derived.Test.YtamjofdgikifnaaGreatRdg
import Derived.Test.YtamjofdgikifnaaGreatToa
import Derived.Test.YtamjofdgikifnaaGreatTpx
set_option linter.unusedVariables false
namespace Go.Proofs.YtamjofdgikifnaaGreat
open Go.ChangeShapes Go.WideShapes Go.ChangeAt Go.RowKit
/-- A block of cells that may be written. -/
def Unf (w : World) (b : Nat) : Prop := ∃ (X : Array Value) (t : TypeId), w.heap[b]? = some (.cells X t (0, 0))
theorem Unf.keep {w w' : World} {b : Nat} (h : Unf w b) (e : w'.heap[b]? = w.heap[b]?) : Unf w' b := by
  obtain ⟨X, t, h⟩ := h
  exact ⟨X, t, e.trans h⟩
theorem Unf.put {w : World} {g o b : Nat} {vs : List Value} (h : Unf w b) : Unf (putL w g o vs) b := by
  obtain ⟨X, t, h⟩ := h
  by_cases e : b = g
  · subst e
    obtain ⟨ys, h1, _⟩ := putL_blk vs o h
    exact ⟨ys, t, h1⟩
  · exact ⟨X, t, (putL_other _ _ e).trans h⟩
def MadeU {α : Type} (R : Rd α) (l : List α) (w : World) (e : Ending) (w' : World) : Prop :=
  ∃ g, e = .returned (.slice (some ⟨g, 0, none⟩) l.length l.length) ∧ R.Row w' (fun b => w.heap.size ≤ b ∧ b < w'.heap.size ∧ Unf w' b) (some ⟨g, 0, none⟩) l ∧ Below w.heap.size w w'
def MadeEU {α : Type} (R : Rd α) (x : α) (w : World) (e : Ending) (w' : World) : Prop :=
  ∃ cs, e = .returned (.agg cs.toArray) ∧ R.At w' (fun b => w.heap.size ≤ b ∧ b < w'.heap.size ∧ Unf w' b) cs x ∧ Below w.heap.size w w'
def LaidU {α : Type} (R : Rd α) (w : World) (g i : Nat) (l : List α) : Prop :=
  ∀ j x, j < i → l[j]? = some x → ∃ cs, R.At w (fun b => g < b ∧ b < w.heap.size ∧ Unf w b) cs x ∧ LiesAt w g (j * R.n) cs
theorem LaidU.zero {α : Type} {R : Rd α} {w : World} {g : Nat} {l : List α} : LaidU R w g 0 l := fun j x hj => by omega
theorem LaidU.row {α : Type} {R : Rd α} {w : World} {g : Nat} {l : List α} (h : LaidU R w g l.length l) (hg : g < w.heap.size) (hu : Unf w g) : R.Row w (fun b => g ≤ b ∧ b < w.heap.size ∧ Unf w b) (some ⟨g, 0, none⟩) l := by
  intro i x hi
  obtain ⟨cs, h1, h2⟩ := h i x (List.getElem?_eq_some_iff.1 hi).1 hi
  refine ⟨g, 0, cs, rfl, ⟨Nat.le_refl _, hg, hu⟩, R.keep h1 fun b hb => ⟨⟨by have := hb.1; omega, hb.2⟩, rfl⟩, ?_⟩
  rw [Nat.zero_add]
  exact h2
theorem LaidU.next {α : Type} {R : Rd α} {w w2 : World} {g i : Nat} {l : List α} {x : α} {vs : List Value} {cur : Array Value} {t : TypeId} (h : LaidU R w g i l) (hx : l[i]? = some x)
    (hg : g < w.heap.size) (hb : Below w.heap.size w w2) (hat : R.At w2 (fun b => w.heap.size ≤ b ∧ b < w2.heap.size ∧ Unf w2 b) vs x) (hk : w2.heap[g]? = some (.cells cur t (0, 0))) (hc : i * R.n + R.n ≤ cur.size) :
    LaidU R (putL w2 g (i * R.n) vs) g (i + 1) l := by
  have hl := R.len hat
  intro j y hj hy
  by_cases hji : j = i
  · subst hji
    obtain rfl : x = y := Option.some.inj (hx.symm.trans hy)
    refine ⟨vs, R.keep hat fun b hb' => ⟨⟨by have := hb'.1; omega, by rw [putL_size]; exact hb'.2.1, hb'.2.2.put⟩, putL_other _ _ (by have := hb'.1; omega)⟩, putL_same vs _ hk (by omega)⟩
  · obtain ⟨cs, h1, h2⟩ := h j y (by omega) hy
    have hlc := R.len h1
    have hs := hb.size
    refine ⟨cs, R.keep h1 fun b hb' => ⟨⟨hb'.1, by rw [putL_size]; have := hb'.2.1; omega, (hb'.2.2.keep (hb.block b hb'.2.1)).put⟩, (putL_other _ _ (by have := hb'.1; omega)).trans (hb.block b hb'.2.1)⟩, ?_⟩
    refine (h2.keep (hb.block g hg)).beside ?_
    have : j * R.n + R.n ≤ i * R.n := by
      have : (j + 1) * R.n ≤ i * R.n := Nat.mul_le_mul_right _ (by omega)
      rw [Nat.add_mul] at this
      omega
    omega
def rgJ : Rd Int where
  n := 1
  At _ _ cs x := cs = [.int .i64 x]
  len h := by rw [h]; rfl
  keep h _ := h
theorem rowIP_iff {w : World} {p : Nat → Prop} {a : Option Addr} {l : List Int} : rgJ.Row w p a l ↔ RowIP w p a l := by
  constructor
  · intro h i x hi
    obtain ⟨b, o, cs, ha, hb, rfl, hl⟩ := h i x hi
    have := hl 0 _ rfl
    exact ⟨b, o, ha, hb, by simpa [rgJ] using this⟩
  · intro h i x hi
    obtain ⟨b, o, ha, hb, hc⟩ := h i x hi
    refine ⟨b, o, _, ha, hb, rfl, fun j v hj => ?_⟩
    match j, hj with
    | 0, hj => simp at hj; subst hj; simpa [rgJ] using hc
set_option maxRecDepth 100000 in
set_option maxHeartbeats 1000000 in
theorem toStringS_u (a : Option Addr) (ts : List ByteArray) (cap : Nat) (w : World) (hn : ts.length ≤ 1048576) (hr : RowS w w.heap.size a ts) :
    Calls Tryz.prog 9 #[.slice a ts.length cap] w fun e w' => ∃ g, e = .returned (.slice (some ⟨g, 0, none⟩) ts.length ts.length) ∧ w.heap.size ≤ g ∧ g < w'.heap.size ∧ RowSP w' (fun b => b = g) (some ⟨g, 0, none⟩) ts ∧ Unf w' g ∧ Below w.heap.size w w' := by
  obtain ⟨i0, hi, hz0, hz1, hz2⟩ := info_parts Tryz.info9
  have HR : Hid (RowS w w.heap.size a ts) := hr
  clear hr
  go_enter Tryz.func9, Tryz.ntmps9
  go_wp2_with (at_make; refine wpList_make_full _ rfl _ _ 22 rfl w.heap.size 9 i0 _ 1 Tryz.underlying22 hi hz0 hz1 .i64 .i64 _ _ ts.length rfl rfl rfl rfl ?c1 ?c2 ?c3 ?_)
  case c1 => rw [hz2]; omega
  case c2 => simp [maxLen]; omega
  case c3 => exact Nat.le_refl _
  intro w1 hown1 hgr1
  have hb1 : Below w.heap.size w w1 := (Below.refl _ _).grown hgr1 (Nat.le_refl _) (fun _ h => by cases h)
  obtain ⟨cur, hblk, hcs, _⟩ := made_row hown1
  clear hown1 hgr1
  go_wp2
  go_loopw [4] (fun o wr => ∃ (i : Nat) (cur : Array Value), i ≤ ts.length ∧ wr.heap[w.heap.size]? = some (.cells cur 9 (0, 0)) ∧ cur.size = ts.length ∧ (∀ j x, j < i → ts[j]? = some x → cur[j]? = some (.string x)) ∧ o = .int .i64 i ∧ Below w.heap.size w wr)
    (fun o _ => ts.length - (intOf o).toNat)
  case atStart => exact ⟨0, cur, by omega, hblk, by omega, fun j d h => absurd h (by omega), rfl, hb1⟩
  case round =>
    clear hblk hcs hb1
    obtain ⟨i, cur, hi, hblk, hcs, hat, rfl, hb⟩ := hrel
    by_cases hlt : i < ts.length
    · obtain ⟨d, hd⟩ : ∃ d, ts[i]? = some d := ⟨_, List.getElem?_eq_getElem hlt⟩
      obtain ⟨b, o, rfl, hbb, c0⟩ := (HR.out.below hb) i d hd
      have HA : Hid (∀ j x, j < i → ts[j]? = some x → cur[j]? = some (.string x)) := hat
      have HK : Hid (wr.heap[w.heap.size]? = some (.cells cur 9 (0, 0))) := hblk
      have f0 := frozen_blk hblk i
      obtain ⟨x0, e0⟩ := cell_blk' hblk i (by omega)
      clear hat hblk
      go_wp2
      go_roundw
      case rel =>
        refine ⟨i + 1, _, by omega, heap_setCell_same _ _ _ _ _ _ HK.out, by simp; omega, fun j x hj hx => ?_, by go_num, hb.setCell (p := ⟨_, _, none⟩) (Nat.le_refl _) _⟩
        rw [Array.getElem?_setIfInBounds]
        by_cases hji : i = j
        · subst hji
          obtain rfl : d = x := Option.some.inj (hd.symm.trans hx)
          rw [if_pos rfl, if_pos (by omega)]
        · rw [if_neg hji]
          exact HA.out j x (by omega) hx
      case measure => simp [intOf]; omega
    · have hlt' : decide ((i : Int) < (ts.length : Int)) = false := by simp; omega
      obtain rfl : i = ts.length := by omega
      have HA : Hid (∀ j x, j < ts.length → ts[j]? = some x → cur[j]? = some (.string x)) := hat
      have HK : Hid (wr.heap[w.heap.size]? = some (.cells cur 9 (0, 0))) := hblk
      clear hat hblk
      go_wp2
      go_ret
      refine ⟨w.heap.size, rfl, Nat.le_refl _, (Array.getElem?_eq_some_iff.1 HK.out).1, ?_, ⟨_, _, HK.out⟩, hb⟩
      intro j d hj
      have hjl := (List.getElem?_eq_some_iff.1 hj).1
      refine ⟨w.heap.size, 0, rfl, rfl, ?_⟩
      rw [Nat.zero_add]
      exact cell_blk HK.out (HA.out j d hjl hj)
set_option maxRecDepth 100000 in
set_option maxHeartbeats 1000000 in
theorem toIntS_u (a : Option Addr) (ts : List Int) (cap : Nat) (w : World) (hn : ts.length ≤ 1048576) (hr : RowI w w.heap.size a ts) :
    Calls Tryz.prog 123 #[.slice a ts.length cap] w fun e w' => ∃ g, e = .returned (.slice (some ⟨g, 0, none⟩) ts.length ts.length) ∧ w.heap.size ≤ g ∧ g < w'.heap.size ∧ RowIP w' (fun b => b = g) (some ⟨g, 0, none⟩) ts ∧ Unf w' g ∧ Below w.heap.size w w' := by
  obtain ⟨i0, hi, hz0, hz1, hz2⟩ := info_parts Tryz.info3
  have HR : Hid (RowI w w.heap.size a ts) := hr
  clear hr
  go_enter Tryz.func123, Tryz.ntmps123
  go_wp2_with (at_make; refine wpList_make_full _ rfl _ _ 94 rfl w.heap.size 3 i0 _ 1 Tryz.underlying94 hi hz0 hz1 .i64 .i64 _ _ ts.length rfl rfl rfl rfl ?c1 ?c2 ?c3 ?_)
  case c1 => rw [hz2]; omega
  case c2 => simp [maxLen]; omega
  case c3 => exact Nat.le_refl _
  intro w1 hown1 hgr1
  have hb1 : Below w.heap.size w w1 := (Below.refl _ _).grown hgr1 (Nat.le_refl _) (fun _ h => by cases h)
  obtain ⟨cur, hblk, hcs, _⟩ := made_rowN hown1
  clear hown1 hgr1
  go_wp2
  go_loopw [4] (fun o wr => ∃ (i : Nat) (cur : Array Value), i ≤ ts.length ∧ wr.heap[w.heap.size]? = some (.cells cur 3 (0, 0)) ∧ cur.size = ts.length ∧ (∀ j x, j < i → ts[j]? = some x → cur[j]? = some (.int .i64 x)) ∧ o = .int .i64 i ∧ Below w.heap.size w wr)
    (fun o _ => ts.length - (intOf o).toNat)
  case atStart => exact ⟨0, cur, by omega, hblk, by omega, fun j d h => absurd h (by omega), rfl, hb1⟩
  case round =>
    clear hblk hcs hb1
    obtain ⟨i, cur, hi, hblk, hcs, hat, rfl, hb⟩ := hrel
    by_cases hlt : i < ts.length
    · obtain ⟨d, hd⟩ : ∃ d, ts[i]? = some d := ⟨_, List.getElem?_eq_getElem hlt⟩
      obtain ⟨b, o, rfl, hbb, c0⟩ := (HR.out.below hb) i d hd
      have HA : Hid (∀ j x, j < i → ts[j]? = some x → cur[j]? = some (.int .i64 x)) := hat
      have HK : Hid (wr.heap[w.heap.size]? = some (.cells cur 3 (0, 0))) := hblk
      have f0 := frozen_blk hblk i
      obtain ⟨x0, e0⟩ := cell_blk' hblk i (by omega)
      clear hat hblk
      go_wp2
      go_roundw
      case rel =>
        refine ⟨i + 1, _, by omega, heap_setCell_same _ _ _ _ _ _ HK.out, by simp; omega, fun j x hj hx => ?_, by go_num, hb.setCell (p := ⟨_, _, none⟩) (Nat.le_refl _) _⟩
        rw [Array.getElem?_setIfInBounds]
        by_cases hji : i = j
        · subst hji
          obtain rfl : d = x := Option.some.inj (hd.symm.trans hx)
          rw [if_pos rfl, if_pos (by omega)]
        · rw [if_neg hji]
          exact HA.out j x (by omega) hx
      case measure => simp [intOf]; omega
    · have hlt' : decide ((i : Int) < (ts.length : Int)) = false := by simp; omega
      obtain rfl : i = ts.length := by omega
      have HA : Hid (∀ j x, j < ts.length → ts[j]? = some x → cur[j]? = some (.int .i64 x)) := hat
      have HK : Hid (wr.heap[w.heap.size]? = some (.cells cur 3 (0, 0))) := hblk
      clear hat hblk
      go_wp2
      go_ret
      refine ⟨w.heap.size, rfl, Nat.le_refl _, (Array.getElem?_eq_some_iff.1 HK.out).1, ?_, ⟨_, _, HK.out⟩, hb⟩
      intro j d hj
      have hjl := (List.getElem?_eq_some_iff.1 hj).1
      refine ⟨w.heap.size, 0, rfl, rfl, ?_⟩
      rw [Nat.zero_add]
      exact cell_blk HK.out (HA.out j d hjl hj)
end Go.Proofs.YtamjofdgikifnaaGreat
