/- A heap that comes in, copied: its rows of texts and of values. A program that comes in, copied: its rows and its nodes. A node that comes in, copied. A program that comes in, copied whole. A program copied whole; like programs are told alike. Copies that may be written. Rows that were copied may be marked; a whole system marked. -/
import Derived.Test.YtamjofdgikifnaaGreatVlp
import Derived.Test.YtamjofdgikifnaaGreatPsa
import Derived.Deep.RegionWith
import Derived.Test.YtamjofdgikifnaaGreatSzc
import Derived.Test.YtamjofdgikifnaaGreatMrk
import Derived.Test.YtamjofdgikifnaaGreatApw
set_option linter.unusedVariables false
namespace Go.Proofs.YtamjofdgikifnaaGreat
open Go.ChangeShapes Go.WideShapes Go.ChangeAt Go.RowKit
theorem sc_other (w : World) (c j k : Nat) (v : Value) (h : j ≠ k) : (w.setCell ⟨c, j, none⟩ v).cell? ⟨c, k, none⟩ = w.cell? ⟨c, k, none⟩ := by
 apply World.cell?_setCell_other
 intro e
 injection e with _ e2
 exact h e2
def put3 (w : World) (g o : Nat) (v0 v1 v2 : Value) : World :=
 ((w.setCell ⟨g, o, none⟩ v0).setCell ⟨g, o + 1, none⟩ v1).setCell ⟨g, o + 2, none⟩ v2
theorem put3_out {w : World} {g o k : Nat} {v0 v1 v2 : Value} (h : k < o ∨ o + 3 ≤ k) : (put3 w g o v0 v1 v2).cell? ⟨g, k, none⟩ = w.cell? ⟨g, k, none⟩ := by
 unfold put3
 rw [sc_other _ _ _ _ _ (by omega), sc_other _ _ _ _ _ (by omega), sc_other _ _ _ _ _ (by omega)]
theorem Tryz.info9 : (Tryz.prog.info? 9).map (fun i => (i.zero, i.size, i.bytes)) = some (some (.string ⟨#[]⟩), 1, 16) := by kernel_rfl
theorem ValAt.beside {w : World} {g o k : Nat} {v0 v1 v2 : Value} {d : Val} (h : ValAt w g k d) (ho : k + 3 ≤ o ∨ o + 3 ≤ k) : ValAt (put3 w g o v0 v1 v2) g k d := by
 obtain ⟨h0, h1, h2⟩ := h
 exact ⟨(put3_out (by omega)).trans h0, (put3_out (by omega)).trans h1, (put3_out (by omega)).trans h2⟩
end Go.Proofs.YtamjofdgikifnaaGreat
namespace Go.Proofs.YtamjofdgikifnaaGreat
open Go.ChangeShapes Go.WideShapes Go.ChangeAt Go.RowKit
end Go.Proofs.YtamjofdgikifnaaGreat
namespace Go.Proofs.YtamjofdgikifnaaGreat
open Go.ChangeShapes Go.WideShapes Go.ChangeAt Go.RowKit
end Go.Proofs.YtamjofdgikifnaaGreat
namespace Go.Proofs.YtamjofdgikifnaaGreat
open Go.ChangeShapes Go.WideShapes Go.ChangeAt Go.RowKit
def put5 (w : World) (g o : Nat) (v0 v1 v2 v3 v4 : Value) : World :=
 ((((w.setCell ⟨g, o, none⟩ v0).setCell ⟨g, o + 1, none⟩ v1).setCell ⟨g, o + 2, none⟩ v2).setCell ⟨g, o + 3, none⟩ v3).setCell ⟨g, o + 4, none⟩ v4
theorem put5_other {w : World} {g o : Nat} {v0 v1 v2 v3 v4 : Value} {b : Nat} (h : b ≠ g) : (put5 w g o v0 v1 v2 v3 v4).heap[b]? = w.heap[b]? := by
 unfold put5
 rw [heap_setCell_other _ _ _ _ h, heap_setCell_other _ _ _ _ h, heap_setCell_other _ _ _ _ h, heap_setCell_other _ _ _ _ h, heap_setCell_other _ _ _ _ h]
theorem sc_otherN (w : World) (c j k : Nat) (v : Value) (h : j ≠ k) : (w.setCell ⟨c, j, none⟩ v).cell? ⟨c, k, none⟩ = w.cell? ⟨c, k, none⟩ := by
 apply World.cell?_setCell_other
 intro e
 injection e with _ e2
 exact h e2
theorem put5_out {w : World} {g o k : Nat} {v0 v1 v2 v3 v4 : Value} (h : k < o ∨ o + 5 ≤ k) : (put5 w g o v0 v1 v2 v3 v4).cell? ⟨g, k, none⟩ = w.cell? ⟨g, k, none⟩ := by
 unfold put5
 rw [sc_otherN _ _ _ _ _ (by omega), sc_otherN _ _ _ _ _ (by omega), sc_otherN _ _ _ _ _ (by omega), sc_otherN _ _ _ _ _ (by omega), sc_otherN _ _ _ _ _ (by omega)]
theorem NodAt.beside {w : World} {p q : Nat → Prop} {g o k : Nat} {v0 v1 v2 v3 v4 : Value} {d : Nod} (h : NodAt w p g k d) (ho : k + 5 ≤ o ∨ o + 5 ≤ k) (hk : ∀ b, p b → q b ∧ b ≠ g) : NodAt (put5 w g o v0 v1 v2 v3 v4) q g k d := by
 obtain ⟨an, cn, aa, ca, h0, h1, h2, h3, h4, hr⟩ := h
 exact ⟨an, cn, aa, ca, (put5_out (by omega)).trans h0, (put5_out (by omega)).trans h1, (put5_out (by omega)).trans h2, (put5_out (by omega)).trans h3, (put5_out (by omega)).trans h4, hr.keep fun b hb => ⟨(hk b hb).1, put5_other (hk b hb).2⟩⟩
end Go.Proofs.YtamjofdgikifnaaGreat
namespace Go.Proofs.YtamjofdgikifnaaGreat
open Go.ChangeShapes Go.WideShapes Go.ChangeAt Go.RowKit
end Go.Proofs.YtamjofdgikifnaaGreat
set_option linter.unusedVariables false
namespace Go.Proofs.YtamjofdgikifnaaGreat
open Go.ChangeShapes Go.WideShapes Go.ChangeAt Go.RowKit
def Unf (w : World) (b : Nat) : Prop := ∃ (X : Array Value) (t : TypeId), w.heap[b]? = some (.cells X t (0, 0))
theorem Unf.keep {w w' : World} {b : Nat} (h : Unf w b) (e : w'.heap[b]? = w.heap[b]?) : Unf w' b := by
 obtain ⟨X, t, h⟩ := h
 exact ⟨X, t, e.trans h⟩
theorem Unf.put {w : World} {g o b : Nat} {vs : List Value} (h : Unf w b) : Unf (putL w g o vs) b := by
 obtain ⟨X, t, h⟩ := h
 by_cases e : b = g
 ·subst e
  obtain ⟨ys, h1, _⟩ := putL_blk vs o h
  exact ⟨ys, t, h1⟩
 ·exact ⟨X, t, (putL_other _ _ e).trans h⟩
def MadeU {α : Type} (R : Rd α) (l : List α) (w : World) (e : Ending) (w' : World) : Prop :=
 ∃ g, e = .returned (.slice (some ⟨g, 0, none⟩) l.length l.length) ∧ R.Row w' (fun b => w.heap.size ≤ b ∧ b < w'.heap.size ∧ Unf w' b) (some ⟨g, 0, none⟩) l ∧ Below w.heap.size w w'
def MadeEU {α : Type} (R : Rd α) (x : α) (w : World) (e : Ending) (w' : World) : Prop :=
 ∃ cs, e = .returned (.agg cs.toArray) ∧ R.At w' (fun b => w.heap.size ≤ b ∧ b < w'.heap.size ∧ Unf w' b) cs x ∧ Below w.heap.size w w'
def LaidU {α : Type} (R : Rd α) (w : World) (g i : Nat) (l : List α) : Prop :=
 ∀ j x, j < i → l[j]? = some x → ∃ cs, R.At w (fun b => g < b ∧ b < w.heap.size ∧ Unf w b) cs x ∧ LiesAt w g (j * R.n) cs
theorem LaidU.zero {α : Type} {R : Rd α} {w : World} {g : Nat} {l : List α} : LaidU R w g 0 l := fun j x hj => by omega
theorem LaidU.row {α : Type} {R : Rd α} {w : World} {g : Nat} {l : List α} (h : LaidU R w g l.length l) (hg : g < w.heap.size) (hu : Unf w g) : R.Row w (fun b => g ≤ b ∧ b < w.heap.size ∧ Unf w b) (some ⟨g, 0, none⟩) l := by
 intro i x hi
 obtain ⟨cs, h1, h2⟩ := h i x (List.getElem?_eq_some_iff.1 hi).1 hi
 refine ⟨g, 0, cs, rfl, ⟨Nat.le_refl _, hg, hu⟩, R.keep h1 fun b hb => ⟨⟨by have := hb.1; omega, hb.2⟩, rfl⟩, ?_⟩
 rw [Nat.zero_add]
 exact h2
theorem LaidU.next {α : Type} {R : Rd α} {w w2 : World} {g i : Nat} {l : List α} {x : α} {vs : List Value} {cur : Array Value} {t : TypeId} (h : LaidU R w g i l) (hx : l[i]? = some x)
  (hg : g < w.heap.size) (hb : Below w.heap.size w w2) (hat : R.At w2 (fun b => w.heap.size ≤ b ∧ b < w2.heap.size ∧ Unf w2 b) vs x) (hk : w2.heap[g]? = some (.cells cur t (0, 0))) (hc : i * R.n + R.n ≤ cur.size) :
  LaidU R (putL w2 g (i * R.n) vs) g (i + 1) l := by
 have hl := R.len hat
 intro j y hj hy
 by_cases hji : j = i
 ·subst hji
  obtain rfl : x = y := Option.some.inj (hx.symm.trans hy)
  refine ⟨vs, R.keep hat fun b hb' => ⟨⟨by have := hb'.1; omega, by rw [putL_size]; exact hb'.2.1, hb'.2.2.put⟩, putL_other _ _ (by have := hb'.1; omega)⟩, putL_same vs _ hk (by omega)⟩
 ·obtain ⟨cs, h1, h2⟩ := h j y (by omega) hy
  have hlc := R.len h1
  have hs := hb.size
  refine ⟨cs, R.keep h1 fun b hb' => ⟨⟨hb'.1, by rw [putL_size]; have := hb'.2.1; omega, (hb'.2.2.keep (hb.block b hb'.2.1)).put⟩, (putL_other _ _ (by have := hb'.1; omega)).trans (hb.block b hb'.2.1)⟩, ?_⟩
  refine (h2.keep (hb.block g hg)).beside ?_
  have : j * R.n + R.n ≤ i * R.n := by
   have : (j + 1) * R.n ≤ i * R.n := Nat.mul_le_mul_right _ (by omega)
   rw [Nat.add_mul] at this
   omega
  omega
def rgJ : Rd Int where
 n := 1
 At _ _ cs x := cs = [.int .i64 x]
 len h := by rw [h]; rfl
 keep h _ := h
theorem rowIP_iff {w : World} {p : Nat → Prop} {a : Option Addr} {l : List Int} : rgJ.Row w p a l ↔ RowIP w p a l := by
 constructor
 ·intro h i x hi
  obtain ⟨b, o, cs, ha, hb, rfl, hl⟩ := h i x hi
  have := hl 0 _ rfl
  exact ⟨b, o, ha, hb, by simpa [rgJ] using this⟩
 ·intro h i x hi
  obtain ⟨b, o, ha, hb, hc⟩ := h i x hi
  refine ⟨b, o, _, ha, hb, rfl, fun j v hj => ?_⟩
  match j, hj with
  | 0, hj => simp at hj; subst hj; simpa [rgJ] using hc
set_option maxRecDepth 100000 in
set_option maxHeartbeats 1000000 in
theorem toStringS_u (a : Option Addr) (ts : List ByteArray) (cap : Nat) (w : World) (hn : ts.length ≤ 1048576) (hr : RowS w w.heap.size a ts) :
  Calls Tryz.prog 9 #[.slice a ts.length cap] w fun e w' => ∃ g, e = .returned (.slice (some ⟨g, 0, none⟩) ts.length ts.length) ∧ w.heap.size ≤ g ∧ g < w'.heap.size ∧ RowSP w' (fun b => b = g) (some ⟨g, 0, none⟩) ts ∧ Unf w' g ∧ Below w.heap.size w w' := by
 obtain ⟨i0, hi, hz0, hz1, hz2⟩ := info_parts Tryz.info9
 have HR : Hid (RowS w w.heap.size a ts) := hr
 clear hr
 go_enter Tryz.func9, Tryz.ntmps9
 go_wp2_with (at_make; refine wpList_make_full _ rfl _ _ 22 rfl w.heap.size 9 i0 _ 1 Tryz.underlying22 hi hz0 hz1 .i64 .i64 _ _ ts.length rfl rfl rfl rfl ?c1 ?c2 ?c3 ?_)
 case c1 => rw [hz2]; omega
 case c2 => simp [maxLen]; omega
 case c3 => exact Nat.le_refl _
 intro w1 hown1 hgr1
 have hb1 : Below w.heap.size w w1 := (Below.refl _ _).grown hgr1 (Nat.le_refl _) (fun _ h => by cases h)
 obtain ⟨cur, hblk, hcs, _⟩ := made_row hown1
 clear hown1 hgr1
 go_wp2
 go_loopw [4] (fun o wr => ∃ (i : Nat) (cur : Array Value), i ≤ ts.length ∧ wr.heap[w.heap.size]? = some (.cells cur 9 (0, 0)) ∧ cur.size = ts.length ∧ (∀ j x, j < i → ts[j]? = some x → cur[j]? = some (.string x)) ∧ o = .int .i64 i ∧ Below w.heap.size w wr)
  (fun o _ => ts.length - (intOf o).toNat)
 case atStart => exact ⟨0, cur, by omega, hblk, by omega, fun j d h => absurd h (by omega), rfl, hb1⟩
 case round =>
  clear hblk hcs hb1
  obtain ⟨i, cur, hi, hblk, hcs, hat, rfl, hb⟩ := hrel
  by_cases hlt : i < ts.length
  ·obtain ⟨d, hd⟩ : ∃ d, ts[i]? = some d := ⟨_, List.getElem?_eq_getElem hlt⟩
   obtain ⟨b, o, rfl, hbb, c0⟩ := (HR.out.below hb) i d hd
   have HA : Hid (∀ j x, j < i → ts[j]? = some x → cur[j]? = some (.string x)) := hat
   have HK : Hid (wr.heap[w.heap.size]? = some (.cells cur 9 (0, 0))) := hblk
   have f0 := frozen_blk hblk i
   obtain ⟨x0, e0⟩ := cell_blk' hblk i (by omega)
   clear hat hblk
   go_wp2
   go_roundw
   case rel =>
    refine ⟨i + 1, _, by omega, heap_setCell_same _ _ _ _ _ _ HK.out, by simp; omega, fun j x hj hx => ?_, by go_num, hb.setCell (p := ⟨_, _, none⟩) (Nat.le_refl _) _⟩
    rw [Array.getElem?_setIfInBounds]
    by_cases hji : i = j
    ·subst hji
     obtain rfl : d = x := Option.some.inj (hd.symm.trans hx)
     rw [if_pos rfl, if_pos (by omega)]
    ·rw [if_neg hji]
     exact HA.out j x (by omega) hx
   case measure => simp [intOf]; omega
  ·have hlt' : decide ((i : Int) < (ts.length : Int)) = false := by simp; omega
   obtain rfl : i = ts.length := by omega
   have HA : Hid (∀ j x, j < ts.length → ts[j]? = some x → cur[j]? = some (.string x)) := hat
   have HK : Hid (wr.heap[w.heap.size]? = some (.cells cur 9 (0, 0))) := hblk
   clear hat hblk
   go_wp2
   go_ret
   refine ⟨w.heap.size, rfl, Nat.le_refl _, (Array.getElem?_eq_some_iff.1 HK.out).1, ?_, ⟨_, _, HK.out⟩, hb⟩
   intro j d hj
   have hjl := (List.getElem?_eq_some_iff.1 hj).1
   refine ⟨w.heap.size, 0, rfl, rfl, ?_⟩
   rw [Nat.zero_add]
   exact cell_blk HK.out (HA.out j d hjl hj)
set_option maxRecDepth 100000 in
set_option maxHeartbeats 1000000 in
theorem toIntS_u (a : Option Addr) (ts : List Int) (cap : Nat) (w : World) (hn : ts.length ≤ 1048576) (hr : RowI w w.heap.size a ts) :
  Calls Tryz.prog 123 #[.slice a ts.length cap] w fun e w' => ∃ g, e = .returned (.slice (some ⟨g, 0, none⟩) ts.length ts.length) ∧ w.heap.size ≤ g ∧ g < w'.heap.size ∧ RowIP w' (fun b => b = g) (some ⟨g, 0, none⟩) ts ∧ Unf w' g ∧ Below w.heap.size w w' := by
 obtain ⟨i0, hi, hz0, hz1, hz2⟩ := info_parts Tryz.info3
 have HR : Hid (RowI w w.heap.size a ts) := hr
 clear hr
 go_enter Tryz.func123, Tryz.ntmps123
 go_wp2_with (at_make; refine wpList_make_full _ rfl _ _ 94 rfl w.heap.size 3 i0 _ 1 Tryz.underlying94 hi hz0 hz1 .i64 .i64 _ _ ts.length rfl rfl rfl rfl ?c1 ?c2 ?c3 ?_)
 case c1 => rw [hz2]; omega
 case c2 => simp [maxLen]; omega
 case c3 => exact Nat.le_refl _
 intro w1 hown1 hgr1
 have hb1 : Below w.heap.size w w1 := (Below.refl _ _).grown hgr1 (Nat.le_refl _) (fun _ h => by cases h)
 obtain ⟨cur, hblk, hcs, _⟩ := made_rowN hown1
 clear hown1 hgr1
 go_wp2
 go_loopw [4] (fun o wr => ∃ (i : Nat) (cur : Array Value), i ≤ ts.length ∧ wr.heap[w.heap.size]? = some (.cells cur 3 (0, 0)) ∧ cur.size = ts.length ∧ (∀ j x, j < i → ts[j]? = some x → cur[j]? = some (.int .i64 x)) ∧ o = .int .i64 i ∧ Below w.heap.size w wr)
  (fun o _ => ts.length - (intOf o).toNat)
 case atStart => exact ⟨0, cur, by omega, hblk, by omega, fun j d h => absurd h (by omega), rfl, hb1⟩
 case round =>
  clear hblk hcs hb1
  obtain ⟨i, cur, hi, hblk, hcs, hat, rfl, hb⟩ := hrel
  by_cases hlt : i < ts.length
  ·obtain ⟨d, hd⟩ : ∃ d, ts[i]? = some d := ⟨_, List.getElem?_eq_getElem hlt⟩
   obtain ⟨b, o, rfl, hbb, c0⟩ := (HR.out.below hb) i d hd
   have HA : Hid (∀ j x, j < i → ts[j]? = some x → cur[j]? = some (.int .i64 x)) := hat
   have HK : Hid (wr.heap[w.heap.size]? = some (.cells cur 3 (0, 0))) := hblk
   have f0 := frozen_blk hblk i
   obtain ⟨x0, e0⟩ := cell_blk' hblk i (by omega)
   clear hat hblk
   go_wp2
   go_roundw
   case rel =>
    refine ⟨i + 1, _, by omega, heap_setCell_same _ _ _ _ _ _ HK.out, by simp; omega, fun j x hj hx => ?_, by go_num, hb.setCell (p := ⟨_, _, none⟩) (Nat.le_refl _) _⟩
    rw [Array.getElem?_setIfInBounds]
    by_cases hji : i = j
    ·subst hji
     obtain rfl : d = x := Option.some.inj (hd.symm.trans hx)
     rw [if_pos rfl, if_pos (by omega)]
    ·rw [if_neg hji]
     exact HA.out j x (by omega) hx
   case measure => simp [intOf]; omega
  ·have hlt' : decide ((i : Int) < (ts.length : Int)) = false := by simp; omega
   obtain rfl : i = ts.length := by omega
   have HA : Hid (∀ j x, j < ts.length → ts[j]? = some x → cur[j]? = some (.int .i64 x)) := hat
   have HK : Hid (wr.heap[w.heap.size]? = some (.cells cur 3 (0, 0))) := hblk
   clear hat hblk
   go_wp2
   go_ret
   refine ⟨w.heap.size, rfl, Nat.le_refl _, (Array.getElem?_eq_some_iff.1 HK.out).1, ?_, ⟨_, _, HK.out⟩, hb⟩
   intro j d hj
   have hjl := (List.getElem?_eq_some_iff.1 hj).1
   refine ⟨w.heap.size, 0, rfl, rfl, ?_⟩
   rw [Nat.zero_add]
   exact cell_blk HK.out (HA.out j d hjl hj)
end Go.Proofs.YtamjofdgikifnaaGreat
set_option linter.unusedVariables false
namespace Go.Proofs.YtamjofdgikifnaaGreat
open Go.ChangeShapes Go.WideShapes Go.ChangeAt Go.RowKit
theorem fits_row {α : Type} {B C : Nat} {w : World} (R : Rd α) (sh : α → List Sh) (hlen : ∀ x, (sh x).length = R.n)
  (each : ∀ cs x, R.At w (fun b => B ≤ b ∧ b < C ∧ Unf w b) cs x → ∀ (j : Nat) (f : Sh), (sh x)[j]? = some f → ∃ v, cs[j]? = some v ∧ Fits B C w f v)
  {a : Option Addr} {l : List α} (cap : Nat) (h : R.Row w (fun b => B ≤ b ∧ b < C ∧ Unf w b) a l) : Fits B C w (.r R.n (l.map sh)) (.slice a l.length cap) := by
 have hlm : l.length = (l.map sh).length := by simp
 rw [hlm]
 match l, h with
 | [], h => exact .r R.n [] a cap 0 0 #[] 0 (fun _ _ => undef) (fun h => absurd rfl h) (fun i fs j f h => by simp at h) (fun i fs j f h => by simp at h)
 | x0 :: t, h =>
  obtain ⟨b, o, cs0, rfl, ⟨hB, hC, X, ty, hX⟩, hat0, hl0⟩ := h 0 x0 rfl
  have key : ∀ i fs j f, ((x0 :: t).map sh)[i]? = some fs → fs[j]? = some f → ∃ v, X[o + i * R.n + j]? = some v ∧ Fits B C w f v := by
   intro i fs j f hi hj
   rw [List.getElem?_map] at hi
   cases hx : (x0 :: t)[i]? with
   | none => rw [hx] at hi; cases hi
   | some x =>
    rw [hx] at hi
    obtain rfl := Option.some.inj hi
    obtain ⟨b', o', cs, hax, _, hat, hl⟩ := h i x hx
    obtain ⟨rfl, rfl⟩ : b = b' ∧ o = o' := by simpa using hax
    obtain ⟨v, hv, hf⟩ := each cs x hat j f hj
    refine ⟨v, ?_, hf⟩
    have := hl j v hv
    rw [cell_of_row w b _ X ty (0, 0) hX] at this
    exact this
  refine .r R.n _ _ cap b o X ty (fun i j => (X[o + i * R.n + j]?).getD undef) (fun _ => ⟨rfl, hB, hC, hX⟩) (fun i fs j f hi hj => ?_) (fun i fs j f hi hj => ?_)
  ·obtain ⟨v, hv, _⟩ := key i fs j f hi hj
   rw [hv]; rfl
  ·obtain ⟨v, hv, hf⟩ := key i fs j f hi hj
   rw [hv]
   exact hf
section
variable {B C : Nat} {w : World}
theorem fits_string {a : Option Addr} {l : List ByteArray} (cap : Nat) (h : rgS.Row w (fun b => B ≤ b ∧ b < C ∧ Unf w b) a l) : Fits B C w (.r 1 (l.map sh_string)) (.slice a l.length cap) := by
 refine fits_row rgS sh_string (fun _ => rfl) (fun cs x hat j f hj => ?_) cap h
 obtain rfl := hat
 match j, hj with
 | 0, hj => obtain rfl := Option.some.inj hj; exact ⟨_, rfl, .s _⟩
 | _ + 1, hj => simp [sh_string] at hj
theorem fits_int {a : Option Addr} {l : List Int} (cap : Nat) (h : rgJ.Row w (fun b => B ≤ b ∧ b < C ∧ Unf w b) a l) : Fits B C w (.r 1 (l.map sh_int)) (.slice a l.length cap) := by
 refine fits_row rgJ sh_int (fun _ => rfl) (fun cs x hat j f hj => ?_) cap h
 obtain rfl := hat
 match j, hj with
 | 0, hj => obtain rfl := Option.some.inj hj; exact ⟨_, rfl, .i _⟩
 | _ + 1, hj => simp [sh_int] at hj
theorem fits_Type {a : Option Addr} {l : List Typ} (cap : Nat) (h : rgT.Row w (fun b => B ≤ b ∧ b < C ∧ Unf w b) a l) : Fits B C w (.r 2 (l.map sh_Type)) (.slice a l.length cap) := by
 refine fits_row rgT sh_Type (fun _ => rfl) (fun cs x hat j f hj => ?_) cap h
 obtain rfl := hat
 match j, hj with
 | 0, hj => obtain rfl := Option.some.inj hj; exact ⟨_, rfl, .s _⟩
 | 1, hj => obtain rfl := Option.some.inj hj; exact ⟨_, rfl, .i _⟩
 | _ + 2, hj => simp [sh_Type] at hj
theorem fits_Node {a : Option Addr} {l : List Nod} (cap : Nat) (h : rgN.Row w (fun b => B ≤ b ∧ b < C ∧ Unf w b) a l) : Fits B C w (.r 5 (l.map sh_Node)) (.slice a l.length cap) := by
 refine fits_row rgN sh_Node (fun _ => rfl) (fun cs x hat j f hj => ?_) cap h
 obtain ⟨a1, c1, a2, c2, rfl, g1, g2, _, _⟩ := hat
 match j, hj with
 | 0, hj => obtain rfl := Option.some.inj hj; exact ⟨_, rfl, .i _⟩
 | 1, hj => obtain rfl := Option.some.inj hj; exact ⟨_, rfl, .i _⟩
 | 2, hj => obtain rfl := Option.some.inj hj; exact ⟨_, rfl, .s _⟩
 | 3, hj => obtain rfl := Option.some.inj hj; exact ⟨_, rfl, fits_string _ (rowSP_iff.2 g1)⟩
 | 4, hj => obtain rfl := Option.some.inj hj; exact ⟨_, rfl, fits_int _ (rowIP_iff.2 g2)⟩
 | _ + 5, hj => simp [sh_Node] at hj
theorem fits_Def {a : Option Addr} {l : List Dfn} (cap : Nat) (h : rgD.Row w (fun b => B ≤ b ∧ b < C ∧ Unf w b) a l) : Fits B C w (.r 3 (l.map sh_Def)) (.slice a l.length cap) := by
 refine fits_row rgD sh_Def (fun _ => rfl) (fun cs x hat j f hj => ?_) cap h
 obtain ⟨a1, c1, rfl, hrs⟩ := hat
 obtain ⟨g1, _⟩ := hrs
 match j, hj with
 | 0, hj => obtain rfl := Option.some.inj hj; exact ⟨_, rfl, .s _⟩
 | 1, hj => obtain rfl := Option.some.inj hj; exact ⟨_, rfl, fits_Node _ (g1)⟩
 | 2, hj => obtain rfl := Option.some.inj hj; exact ⟨_, rfl, .i _⟩
 | _ + 3, hj => simp [sh_Def] at hj
end
end Go.Proofs.YtamjofdgikifnaaGreat
