/- Copies that may be written. A system that comes in, copied into blocks that may be written. -/
import Derived.Test.YtmnkomgdcebniaaGreatRdg
import Derived.Test.YtmnkomgdcebniaaGreatToa
import Derived.Test.YtmnkomgdcebniaaGreatTpx
import Derived.Test.YtmnkomgdcebniaaGreatSyp
import Derived.Test.YtmnkomgdcebniaaGreatSzc
set_option linter.unusedVariables false
namespace Go.Proofs.YtmnkomgdcebniaaGreat
open Go.ChangeShapes Go.WideShapes Go.ChangeAt Go.RowKit
def Unf (w : World) (b : Nat) : Prop := ∃ (X : Array Value) (t : TypeId), w.heap[b]? = some (.cells X t (0, 0))
theorem Unf.keep {w w' : World} {b : Nat} (h : Unf w b) (e : w'.heap[b]? = w.heap[b]?) : Unf w' b := by
 obtain ⟨X, t, h⟩ := h
 exact ⟨X, t, e.trans h⟩
theorem Unf.put {w : World} {g o b : Nat} {vs : List Value} (h : Unf w b) : Unf (putL w g o vs) b := by
 obtain ⟨X, t, h⟩ := h
 by_cases e : b = g
 ·subst e
  obtain ⟨ys, h1, _⟩ := putL_blk vs o h
  exact ⟨ys, t, h1⟩
 ·exact ⟨X, t, (putL_other _ _ e).trans h⟩
def MadeU {α : Type} (R : Rd α) (l : List α) (w : World) (e : Ending) (w' : World) : Prop :=
 ∃ g, e = .returned (.slice (some ⟨g, 0, none⟩) l.length l.length) ∧ R.Row w' (fun b => w.heap.size ≤ b ∧ b < w'.heap.size ∧ Unf w' b) (some ⟨g, 0, none⟩) l ∧ Below w.heap.size w w'
def MadeEU {α : Type} (R : Rd α) (x : α) (w : World) (e : Ending) (w' : World) : Prop :=
 ∃ cs, e = .returned (.agg cs.toArray) ∧ R.At w' (fun b => w.heap.size ≤ b ∧ b < w'.heap.size ∧ Unf w' b) cs x ∧ Below w.heap.size w w'
def LaidU {α : Type} (R : Rd α) (w : World) (g i : Nat) (l : List α) : Prop :=
 ∀ j x, j < i → l[j]? = some x → ∃ cs, R.At w (fun b => g < b ∧ b < w.heap.size ∧ Unf w b) cs x ∧ LiesAt w g (j * R.n) cs
theorem LaidU.zero {α : Type} {R : Rd α} {w : World} {g : Nat} {l : List α} : LaidU R w g 0 l := fun j x hj => by omega
theorem LaidU.row {α : Type} {R : Rd α} {w : World} {g : Nat} {l : List α} (h : LaidU R w g l.length l) (hg : g < w.heap.size) (hu : Unf w g) : R.Row w (fun b => g ≤ b ∧ b < w.heap.size ∧ Unf w b) (some ⟨g, 0, none⟩) l := by
 intro i x hi
 obtain ⟨cs, h1, h2⟩ := h i x (List.getElem?_eq_some_iff.1 hi).1 hi
 refine ⟨g, 0, cs, rfl, ⟨Nat.le_refl _, hg, hu⟩, R.keep h1 fun b hb => ⟨⟨by have := hb.1; omega, hb.2⟩, rfl⟩, ?_⟩
 rw [Nat.zero_add]
 exact h2
theorem LaidU.next {α : Type} {R : Rd α} {w w2 : World} {g i : Nat} {l : List α} {x : α} {vs : List Value} {cur : Array Value} {t : TypeId} (h : LaidU R w g i l) (hx : l[i]? = some x)
  (hg : g < w.heap.size) (hb : Below w.heap.size w w2) (hat : R.At w2 (fun b => w.heap.size ≤ b ∧ b < w2.heap.size ∧ Unf w2 b) vs x) (hk : w2.heap[g]? = some (.cells cur t (0, 0))) (hc : i * R.n + R.n ≤ cur.size) :
  LaidU R (putL w2 g (i * R.n) vs) g (i + 1) l := by
 have hl := R.len hat
 intro j y hj hy
 by_cases hji : j = i
 ·subst hji
  obtain rfl : x = y := Option.some.inj (hx.symm.trans hy)
  refine ⟨vs, R.keep hat fun b hb' => ⟨⟨by have := hb'.1; omega, by rw [putL_size]; exact hb'.2.1, hb'.2.2.put⟩, putL_other _ _ (by have := hb'.1; omega)⟩, putL_same vs _ hk (by omega)⟩
 ·obtain ⟨cs, h1, h2⟩ := h j y (by omega) hy
  have hlc := R.len h1
  have hs := hb.size
  refine ⟨cs, R.keep h1 fun b hb' => ⟨⟨hb'.1, by rw [putL_size]; have := hb'.2.1; omega, (hb'.2.2.keep (hb.block b hb'.2.1)).put⟩, (putL_other _ _ (by have := hb'.1; omega)).trans (hb.block b hb'.2.1)⟩, ?_⟩
  refine (h2.keep (hb.block g hg)).beside ?_
  have : j * R.n + R.n ≤ i * R.n := by
   have : (j + 1) * R.n ≤ i * R.n := Nat.mul_le_mul_right _ (by omega)
   rw [Nat.add_mul] at this
   omega
  omega
def rgJ : Rd Int where
 n := 1
 At _ _ cs x := cs = [.int .i64 x]
 len h := by rw [h]; rfl
 keep h _ := h
theorem rowIP_iff {w : World} {p : Nat → Prop} {a : Option Addr} {l : List Int} : rgJ.Row w p a l ↔ RowIP w p a l := by
 constructor
 ·intro h i x hi
  obtain ⟨b, o, cs, ha, hb, rfl, hl⟩ := h i x hi
  have := hl 0 _ rfl
  exact ⟨b, o, ha, hb, by simpa [rgJ] using this⟩
 ·intro h i x hi
  obtain ⟨b, o, ha, hb, hc⟩ := h i x hi
  refine ⟨b, o, _, ha, hb, rfl, fun j v hj => ?_⟩
  match j, hj with
  | 0, hj => simp at hj; subst hj; simpa [rgJ] using hc
set_option maxRecDepth 100000 in
set_option maxHeartbeats 1000000 in
theorem toStringS_u (a : Option Addr) (ts : List ByteArray) (cap : Nat) (w : World) (hn : ts.length ≤ 1048576) (hr : RowS w w.heap.size a ts) :
  Calls Tryz.prog 39 #[.slice a ts.length cap] w fun e w' => ∃ g, e = .returned (.slice (some ⟨g, 0, none⟩) ts.length ts.length) ∧ w.heap.size ≤ g ∧ g < w'.heap.size ∧ RowSP w' (fun b => b = g) (some ⟨g, 0, none⟩) ts ∧ Unf w' g ∧ Below w.heap.size w w' := by
 obtain ⟨i0, hi, hz0, hz1, hz2⟩ := info_parts Tryz.info9
 have HR : Hid (RowS w w.heap.size a ts) := hr
 clear hr
 go_enter Tryz.func39, Tryz.ntmps39
 go_wp2_with (at_make; refine wpList_make_full _ rfl _ _ 25 rfl w.heap.size 9 i0 _ 1 Tryz.underlying25 hi hz0 hz1 .i64 .i64 _ _ ts.length rfl rfl rfl rfl ?c1 ?c2 ?c3 ?_)
 case c1 => rw [hz2]; omega
 case c2 => simp [maxLen]; omega
 case c3 => exact Nat.le_refl _
 intro w1 hown1 hgr1
 have hb1 : Below w.heap.size w w1 := (Below.refl _ _).grown hgr1 (Nat.le_refl _) (fun _ h => by cases h)
 obtain ⟨cur, hblk, hcs, _⟩ := made_row hown1
 clear hown1 hgr1
 go_wp2
 go_loopw [4] (fun o wr => ∃ (i : Nat) (cur : Array Value), i ≤ ts.length ∧ wr.heap[w.heap.size]? = some (.cells cur 9 (0, 0)) ∧ cur.size = ts.length ∧ (∀ j x, j < i → ts[j]? = some x → cur[j]? = some (.string x)) ∧ o = .int .i64 i ∧ Below w.heap.size w wr)
  (fun o _ => ts.length - (intOf o).toNat)
 case atStart => exact ⟨0, cur, by omega, hblk, by omega, fun j d h => absurd h (by omega), rfl, hb1⟩
 case round =>
  clear hblk hcs hb1
  obtain ⟨i, cur, hi, hblk, hcs, hat, rfl, hb⟩ := hrel
  by_cases hlt : i < ts.length
  ·obtain ⟨d, hd⟩ : ∃ d, ts[i]? = some d := ⟨_, List.getElem?_eq_getElem hlt⟩
   obtain ⟨b, o, rfl, hbb, c0⟩ := (HR.out.below hb) i d hd
   have HA : Hid (∀ j x, j < i → ts[j]? = some x → cur[j]? = some (.string x)) := hat
   have HK : Hid (wr.heap[w.heap.size]? = some (.cells cur 9 (0, 0))) := hblk
   have f0 := frozen_blk hblk i
   obtain ⟨x0, e0⟩ := cell_blk' hblk i (by omega)
   clear hat hblk
   go_wp2
   go_roundw
   case rel =>
    refine ⟨i + 1, _, by omega, heap_setCell_same _ _ _ _ _ _ HK.out, by simp; omega, fun j x hj hx => ?_, by go_num, hb.setCell (p := ⟨_, _, none⟩) (Nat.le_refl _) _⟩
    rw [Array.getElem?_setIfInBounds]
    by_cases hji : i = j
    ·subst hji
     obtain rfl : d = x := Option.some.inj (hd.symm.trans hx)
     rw [if_pos rfl, if_pos (by omega)]
    ·rw [if_neg hji]
     exact HA.out j x (by omega) hx
   case measure => simp [intOf]; omega
  ·have hlt' : decide ((i : Int) < (ts.length : Int)) = false := by simp; omega
   obtain rfl : i = ts.length := by omega
   have HA : Hid (∀ j x, j < ts.length → ts[j]? = some x → cur[j]? = some (.string x)) := hat
   have HK : Hid (wr.heap[w.heap.size]? = some (.cells cur 9 (0, 0))) := hblk
   clear hat hblk
   go_wp2
   go_ret
   refine ⟨w.heap.size, rfl, Nat.le_refl _, (Array.getElem?_eq_some_iff.1 HK.out).1, ?_, ⟨_, _, HK.out⟩, hb⟩
   intro j d hj
   have hjl := (List.getElem?_eq_some_iff.1 hj).1
   refine ⟨w.heap.size, 0, rfl, rfl, ?_⟩
   rw [Nat.zero_add]
   exact cell_blk HK.out (HA.out j d hjl hj)
set_option maxRecDepth 100000 in
set_option maxHeartbeats 1000000 in
theorem toIntS_u (a : Option Addr) (ts : List Int) (cap : Nat) (w : World) (hn : ts.length ≤ 1048576) (hr : RowI w w.heap.size a ts) :
  Calls Tryz.prog 178 #[.slice a ts.length cap] w fun e w' => ∃ g, e = .returned (.slice (some ⟨g, 0, none⟩) ts.length ts.length) ∧ w.heap.size ≤ g ∧ g < w'.heap.size ∧ RowIP w' (fun b => b = g) (some ⟨g, 0, none⟩) ts ∧ Unf w' g ∧ Below w.heap.size w w' := by
 obtain ⟨i0, hi, hz0, hz1, hz2⟩ := info_parts Tryz.info3
 have HR : Hid (RowI w w.heap.size a ts) := hr
 clear hr
 go_enter Tryz.func178, Tryz.ntmps178
 go_wp2_with (at_make; refine wpList_make_full _ rfl _ _ 80 rfl w.heap.size 3 i0 _ 1 Tryz.underlying80 hi hz0 hz1 .i64 .i64 _ _ ts.length rfl rfl rfl rfl ?c1 ?c2 ?c3 ?_)
 case c1 => rw [hz2]; omega
 case c2 => simp [maxLen]; omega
 case c3 => exact Nat.le_refl _
 intro w1 hown1 hgr1
 have hb1 : Below w.heap.size w w1 := (Below.refl _ _).grown hgr1 (Nat.le_refl _) (fun _ h => by cases h)
 obtain ⟨cur, hblk, hcs, _⟩ := made_rowN hown1
 clear hown1 hgr1
 go_wp2
 go_loopw [4] (fun o wr => ∃ (i : Nat) (cur : Array Value), i ≤ ts.length ∧ wr.heap[w.heap.size]? = some (.cells cur 3 (0, 0)) ∧ cur.size = ts.length ∧ (∀ j x, j < i → ts[j]? = some x → cur[j]? = some (.int .i64 x)) ∧ o = .int .i64 i ∧ Below w.heap.size w wr)
  (fun o _ => ts.length - (intOf o).toNat)
 case atStart => exact ⟨0, cur, by omega, hblk, by omega, fun j d h => absurd h (by omega), rfl, hb1⟩
 case round =>
  clear hblk hcs hb1
  obtain ⟨i, cur, hi, hblk, hcs, hat, rfl, hb⟩ := hrel
  by_cases hlt : i < ts.length
  ·obtain ⟨d, hd⟩ : ∃ d, ts[i]? = some d := ⟨_, List.getElem?_eq_getElem hlt⟩
   obtain ⟨b, o, rfl, hbb, c0⟩ := (HR.out.below hb) i d hd
   have HA : Hid (∀ j x, j < i → ts[j]? = some x → cur[j]? = some (.int .i64 x)) := hat
   have HK : Hid (wr.heap[w.heap.size]? = some (.cells cur 3 (0, 0))) := hblk
   have f0 := frozen_blk hblk i
   obtain ⟨x0, e0⟩ := cell_blk' hblk i (by omega)
   clear hat hblk
   go_wp2
   go_roundw
   case rel =>
    refine ⟨i + 1, _, by omega, heap_setCell_same _ _ _ _ _ _ HK.out, by simp; omega, fun j x hj hx => ?_, by go_num, hb.setCell (p := ⟨_, _, none⟩) (Nat.le_refl _) _⟩
    rw [Array.getElem?_setIfInBounds]
    by_cases hji : i = j
    ·subst hji
     obtain rfl : d = x := Option.some.inj (hd.symm.trans hx)
     rw [if_pos rfl, if_pos (by omega)]
    ·rw [if_neg hji]
     exact HA.out j x (by omega) hx
   case measure => simp [intOf]; omega
  ·have hlt' : decide ((i : Int) < (ts.length : Int)) = false := by simp; omega
   obtain rfl : i = ts.length := by omega
   have HA : Hid (∀ j x, j < ts.length → ts[j]? = some x → cur[j]? = some (.int .i64 x)) := hat
   have HK : Hid (wr.heap[w.heap.size]? = some (.cells cur 3 (0, 0))) := hblk
   clear hat hblk
   go_wp2
   go_ret
   refine ⟨w.heap.size, rfl, Nat.le_refl _, (Array.getElem?_eq_some_iff.1 HK.out).1, ?_, ⟨_, _, HK.out⟩, hb⟩
   intro j d hj
   have hjl := (List.getElem?_eq_some_iff.1 hj).1
   refine ⟨w.heap.size, 0, rfl, rfl, ?_⟩
   rw [Nat.zero_add]
   exact cell_blk HK.out (HA.out j d hjl hj)
end Go.Proofs.YtmnkomgdcebniaaGreat
set_option linter.unusedVariables false
namespace Go.Proofs.YtmnkomgdcebniaaGreat
open Go.ChangeShapes Go.WideShapes Go.ChangeAt Go.RowKit
theorem tu_string (a : Option Addr) (l : List ByteArray) (cap : Nat) (w : World) (hn : l.length ≤ 1048576) (hsm : ∀ d ∈ l, smS d) (hr : rgS.Row w (fun b => b < w.heap.size) a l) :
  Calls Tryz.prog 39 #[.slice a l.length cap] w fun e w' => MadeU rgS l w e w' :=
 (toStringS_u a l cap w hn (rowS_iff.1 hr)).mono fun e w' ⟨g, he, h1, h2, hrow, hu, hb⟩ => ⟨g, he, rowSP_iff.2 (hrow.keep fun b hbg => ⟨⟨by have : b = g := hbg; omega, by have : b = g := hbg; omega, by have : b = g := hbg; rw [this]; exact hu⟩, rfl⟩), hb⟩
theorem tu_int (a : Option Addr) (l : List Int) (cap : Nat) (w : World) (hn : l.length ≤ 1048576) (hr : rgJ.Row w (fun b => b < w.heap.size) a l) :
  Calls Tryz.prog 178 #[.slice a l.length cap] w fun e w' => MadeU rgJ l w e w' :=
 (toIntS_u a l cap w hn (rowIP_iff.1 hr)).mono fun e w' ⟨g, he, h1, h2, hrow, hu, hb⟩ => ⟨g, he, rowIP_iff.2 (hrow.keep fun b hbg => ⟨⟨by have : b = g := hbg; omega, by have : b = g := hbg; omega, by have : b = g := hbg; rw [this]; exact hu⟩, rfl⟩), hb⟩
set_option maxRecDepth 100000 in
set_option maxHeartbeats 2000000 in
theorem tuE_Value (x : Val) (w : World) (hs : x.small) :
  Calls Tryz.prog 69 #[.agg #[.int .i64 x.k, .int .i64 x.n, .string x.s]] w fun e w' => MadeEU rgV x w e w' := by
 go_enter Tryz.func69, Tryz.ntmps69
 go_wp2
 refine bodyPost_ret (results_cell_row rfl _ _ (w.heap.size + 1) 39 #[.int .i64 x.k, .int .i64 x.n, .string x.s] (0, 0) _ rfl (blk_past (blk_at _ _ _ (by simp))) Tryz.underlying39 rfl (by kernel_rfl)) rfl ?_
 exact ⟨_, rfl, rfl, (((Below.refl _ _).alloc (Nat.le_refl _) _).alloc (by simp) _).alloc (by simp; omega) _⟩
theorem Tryz.infu_Value : (Tryz.prog.info? 39).map (fun i => (i.zero, i.size, i.bytes)) = some (some (.agg #[.int .i64 0, .int .i64 0, .string ⟨#[]⟩]), 3, 32) := by kernel_rfl
set_option maxRecDepth 100000 in
set_option maxHeartbeats 2000000 in
theorem tu_Value (a : Option Addr) (l : List Val) (cap : Nat) (w : World) (hn : l.length ≤ 1048576) (hsm : ∀ d ∈ l, Val.small d) (hr : rgV.Row w (fun b => b < w.heap.size) a l) :
  Calls Tryz.prog 125 #[.slice a l.length cap] w fun e w' => MadeU rgV l w e w' := by
 obtain ⟨i0, hi, hz0, hz1, hz2⟩ := info_parts Tryz.infu_Value
 have HR : Hid (rgV.Row w (fun b => b < w.heap.size) a l) := hr
 have HS : Hid (∀ d ∈ l, Val.small d) := hsm
 clear hr hsm
 go_enter Tryz.func125, Tryz.ntmps125
 go_wp2_with (at_make; refine wpList_make_full _ rfl _ _ 77 rfl w.heap.size 39 i0 _ 3 Tryz.underlying77 hi hz0 hz1 .i64 .i64 _ _ l.length rfl rfl rfl rfl ?c1 ?c2 ?c3 ?_)
 case c1 => rw [hz2]; omega
 case c2 => simp [maxLen]; omega
 case c3 => exact Nat.le_refl _
 intro w1 hown1 hgr1
 go_wp2
 have hb1 : Below w.heap.size w w1 := (Below.refl _ _).grown hgr1 (Nat.le_refl _) (fun _ h => by cases h)
 obtain ⟨hlen, ⟨h0, _⟩ | ⟨g, cp, cur, hv, _, hblk, _, _, hcs, _⟩⟩ := hown1
 ·cases h0
 simp only [Value.slice.injEq, Option.some.injEq, Addr.mk.injEq] at hv
 obtain ⟨⟨rfl, _⟩, _, rfl⟩ := hv
 clear hlen
 go_loopw [4] (fun o wr => ∃ (i : Nat) (cur : Array Value), i ≤ l.length ∧ wr.heap[w.heap.size]? = some (.cells cur 39 (0, 0)) ∧ cur.size = l.length * 3 ∧ LaidU rgV wr w.heap.size i l ∧ o = .int .i64 i ∧ Below w.heap.size w wr)
  (fun o _ => l.length - (intOf o).toNat)
 case atStart => exact ⟨0, cur, by omega, hblk, hcs, LaidU.zero, rfl, hb1⟩
 case round =>
  clear hblk hcs hb1 hgr1
  obtain ⟨i, cur, hi, hblk, hcs, hat0, rfl, hb⟩ := hrel
  have HA : Hid (LaidU rgV wr w.heap.size i l) := hat0
  have HK : Hid (wr.heap[w.heap.size]? = some (.cells cur 39 (0, 0))) := hblk
  have hlt2 : w.heap.size < wr.heap.size := (Array.getElem?_eq_some_iff.1 hblk).1
  clear hat0 hblk
  by_cases hlt : i < l.length
  ·obtain ⟨d, hd⟩ : ∃ d, l[i]? = some d := ⟨_, List.getElem?_eq_getElem hlt⟩
   obtain ⟨b1, o1, cs, rfl, hbb, hat, hlies⟩ := HR.out i d hd
   obtain rfl := hat
   have cx0 : wr.cell? ⟨b1, o1 + i * 3, none⟩ = some (.int .i64 d.k) := cell_keep (hlies 0 _ rfl) hb hbb
   have cx1 : wr.cell? ⟨b1, o1 + i * 3 + 1, none⟩ = some (.int .i64 d.n) := cell_keep (hlies 1 _ rfl) hb hbb
   have cx2 : wr.cell? ⟨b1, o1 + i * 3 + 2, none⟩ = some (.string d.s) := cell_keep (hlies 2 _ rfl) hb hbb
   have hsz := hb.size
   have HT : Hid (Calls Tryz.prog 69 #[.agg #[.int .i64 d.k, .int .i64 d.n, .string d.s]] wr fun e w' => MadeEU rgV d wr e w') := tuE_Value d   wr (HS.out d (List.mem_of_getElem? hd))
   have HD : Hid (l[i]? = some d) := hd
   clear hlies hd
   go_wp2_with fail
   refine HT.out.mono ?_
   rintro e w2 ⟨cs2, rfl, hat2, hb2⟩
   obtain rfl := hat2
   have HA2 : Hid (rgV.At w2 (fun b => wr.heap.size ≤ b ∧ b < w2.heap.size ∧ Unf w2 b) [.int .i64 d.k, .int .i64 d.n, .string d.s] d) := rfl
   have hk2 := blk_keep HK.out hb2 hlt2
   have f0 := frozen_blk hk2 (i * 3)
   obtain ⟨x0, e0⟩ := cell_blk' hk2 (i * 3) (by omega)
   have f1 := frozen_blk hk2 (i * 3 + 1)
   obtain ⟨x1, e1⟩ := cell_blk' hk2 (i * 3 + 1) (by omega)
   have f2 := frozen_blk hk2 (i * 3 + 2)
   obtain ⟨x2, e2⟩ := cell_blk' hk2 (i * 3 + 2) (by omega)
   have HK2 : Hid (w2.heap[w.heap.size]? = some (.cells cur 39 (0, 0))) := hk2
   have HB2 : Hid (Below wr.heap.size wr w2) := hb2
   clear hk2 HT hb2
   go_wp2
   go_roundw
   case rel =>
    have hput : putL w2 w.heap.size (i * 3) [.int .i64 d.k, .int .i64 d.n, .string d.s] = (((w2.setCell ⟨w.heap.size, i * 3, none⟩ (.int .i64 d.k)).setCell ⟨w.heap.size, i * 3 + 1, none⟩ (.int .i64 d.n)).setCell ⟨w.heap.size, i * 3 + 2, none⟩ (.string d.s)) := by simp only [putL, Nat.add_assoc, Nat.reduceAdd]
    rw [← hput]
    obtain ⟨ys, hy1, hy2⟩ := putL_blk [.int .i64 d.k, .int .i64 d.n, .string d.s] (i * 3) HK2.out
    refine ⟨i + 1, ys, by omega, hy1, by omega, HA.out.next HD.out hlt2 HB2.out HA2.out HK2.out (by show i * 3 + 3 ≤ cur.size; omega), by go_num, putL_below [.int .i64 d.k, .int .i64 d.n, .string d.s] (i * 3) (hb.trans (HB2.out.mono hsz)) (Nat.le_refl _)⟩
   case measure => simp [intOf]; omega
  ·have hlt' : decide ((i : Int) < (l.length : Int)) = false := by simp; omega
   obtain rfl : i = l.length := by omega
   go_wp2
   go_ret
   exact ⟨w.heap.size, rfl, HA.out.row hlt2 ⟨_, _, HK.out⟩, hb⟩
set_option maxRecDepth 100000 in
set_option maxHeartbeats 2000000 in
theorem tuE_Cell (x : Cel) (a1 a2 : Option Addr) (c1 c2 : Nat) (w : World) (hs : x.small) (hr : CelRows w (fun b => b < w.heap.size) a1 c1 a2 c2 x) :
  Calls Tryz.prog 83 #[.agg #[.int .i64 x.k, .string x.s, .int .i64 x.a, .int .i64 x.b, .slice a1 x.names.length c1, .slice a2 x.vals.length c2]] w fun e w' => MadeEU rgC x w e w' := by
 obtain ⟨_, _, _, _, q4, q5, q6, q7⟩ := hs
 have u4 := And.intro q4 q6
 have u5 := And.intro q5 q7
 obtain ⟨r1, r2, t1, t2⟩ := hr
 have r1 := rowSP_iff.2 r1
 have r2 := rowVP_iff.2 r2
 have HC0 : Hid (∀ w2, Below w.heap.size w w2 → Calls Tryz.prog 39 #[.slice a1 x.names.length c1] w2 fun e w' => MadeU rgS x.names w2 e w') := fun w2 h2 => tu_string a1 x.names c1 w2 u4.1 u4.2 (r1.keep fun b h => ⟨by have := h2.size; omega, h2.block b h⟩)
 have HC1 : Hid (∀ w2, Below w.heap.size w w2 → Calls Tryz.prog 125 #[.slice a2 x.vals.length c2] w2 fun e w' => MadeU rgV x.vals w2 e w') := fun w2 h2 => tu_Value a2 x.vals c2 w2 u5.1 u5.2 (r2.keep fun b h => ⟨by have := h2.size; omega, h2.block b h⟩)
 clear r1 r2
 go_enter Tryz.func83, Tryz.ntmps83
 go_wp2_with fail
 have hb : Below w.heap.size w (((w.alloc (Obj.cells #[.int .i64 x.k, .string x.s, .int .i64 x.a, .int .i64 x.b, .slice a1 x.names.length c1, .slice a2 x.vals.length c2] 121)).alloc (Obj.cells #[.int .i64 0, .string ⟨#[]⟩, .int .i64 0, .int .i64 0, .slice none 0 0, .slice none 0 0] 79)).alloc (Obj.cells #[.int .i64 x.k, .string x.s, .int .i64 x.a, .int .i64 x.b, .slice none 0 0, .slice none 0 0] 79)) := (((Below.refl _ _).alloc (Nat.le_refl _) _).alloc (by simp) _).alloc (by simp; omega) _
 have k0 : (((w.alloc (Obj.cells #[.int .i64 x.k, .string x.s, .int .i64 x.a, .int .i64 x.b, .slice a1 x.names.length c1, .slice a2 x.vals.length c2] 121)).alloc (Obj.cells #[.int .i64 0, .string ⟨#[]⟩, .int .i64 0, .int .i64 0, .slice none 0 0, .slice none 0 0] 79)).alloc (Obj.cells #[.int .i64 x.k, .string x.s, .int .i64 x.a, .int .i64 x.b, .slice none 0 0, .slice none 0 0] 79)).heap[w.heap.size]? = some (Obj.cells #[.int .i64 x.k, .string x.s, .int .i64 x.a, .int .i64 x.b, .slice a1 x.names.length c1, .slice a2 x.vals.length c2] 121) := blk_past (blk_past (blk_at _ _ _ rfl))
 have k1 : (((w.alloc (Obj.cells #[.int .i64 x.k, .string x.s, .int .i64 x.a, .int .i64 x.b, .slice a1 x.names.length c1, .slice a2 x.vals.length c2] 121)).alloc (Obj.cells #[.int .i64 0, .string ⟨#[]⟩, .int .i64 0, .int .i64 0, .slice none 0 0, .slice none 0 0] 79)).alloc (Obj.cells #[.int .i64 x.k, .string x.s, .int .i64 x.a, .int .i64 x.b, .slice none 0 0, .slice none 0 0] 79)).heap[w.heap.size + 1]? = some (Obj.cells #[.int .i64 0, .string ⟨#[]⟩, .int .i64 0, .int .i64 0, .slice none 0 0, .slice none 0 0] 79) := blk_past (blk_at _ _ _ (by simp))
 have k2 : (((w.alloc (Obj.cells #[.int .i64 x.k, .string x.s, .int .i64 x.a, .int .i64 x.b, .slice a1 x.names.length c1, .slice a2 x.vals.length c2] 121)).alloc (Obj.cells #[.int .i64 0, .string ⟨#[]⟩, .int .i64 0, .int .i64 0, .slice none 0 0, .slice none 0 0] 79)).alloc (Obj.cells #[.int .i64 x.k, .string x.s, .int .i64 x.a, .int .i64 x.b, .slice none 0 0, .slice none 0 0] 79)).heap[w.heap.size + 1 + 1]? = some (Obj.cells #[.int .i64 x.k, .string x.s, .int .i64 x.a, .int .i64 x.b, .slice none 0 0, .slice none 0 0] 79) := blk_at _ _ _ (by simp)
 have hz : w.heap.size + 3 ≤ (((w.alloc (Obj.cells #[.int .i64 x.k, .string x.s, .int .i64 x.a, .int .i64 x.b, .slice a1 x.names.length c1, .slice a2 x.vals.length c2] 121)).alloc (Obj.cells #[.int .i64 0, .string ⟨#[]⟩, .int .i64 0, .int .i64 0, .slice none 0 0, .slice none 0 0] 79)).alloc (Obj.cells #[.int .i64 x.k, .string x.s, .int .i64 x.a, .int .i64 x.b, .slice none 0 0, .slice none 0 0] 79)).heap.size := by simp
 generalize (((w.alloc (Obj.cells #[.int .i64 x.k, .string x.s, .int .i64 x.a, .int .i64 x.b, .slice a1 x.names.length c1, .slice a2 x.vals.length c2] 121)).alloc (Obj.cells #[.int .i64 0, .string ⟨#[]⟩, .int .i64 0, .int .i64 0, .slice none 0 0, .slice none 0 0] 79)).alloc (Obj.cells #[.int .i64 x.k, .string x.s, .int .i64 x.a, .int .i64 x.b, .slice none 0 0, .slice none 0 0] 79)) = wA at *
 refine (HC0.out _ hb).mono ?_
 rintro e v0 ⟨g0, rfl, hrow, hv⟩
 have hb1 : Below w.heap.size w v0 := hb.trans (hv.mono hb.size)
 have hsv := hv.size
 have k0 := blk_keep k0 hv (by omega)
 have k1 := blk_keep k1 hv (by omega)
 have k2 := blk_keep k2 hv (by omega)
 have R0_0 : rgS.Row v0 (fun b => w.heap.size + 3 ≤ b ∧ b < v0.heap.size ∧ Unf v0 b) (some ⟨g0, 0, none⟩) x.names := hrow.keep fun b h => ⟨⟨by have := h.1; omega, h.2⟩, rfl⟩
 clear hb hv hrow
 have R0_0 : Hid (rgS.Row v0 (fun b => w.heap.size + 3 ≤ b ∧ b < v0.heap.size ∧ Unf v0 b) (some ⟨g0, 0, none⟩) x.names) := R0_0
 have p0 := cell_blk (j := 0) k0 rfl
 have p1 := cell_blk (j := 1) k0 rfl
 have p2 := cell_blk (j := 2) k0 rfl
 have p3 := cell_blk (j := 3) k0 rfl
 have p4 := cell_blk (j := 4) k0 rfl
 have p5 := cell_blk (j := 5) k0 rfl
 have o0 := cell_blk (j := 0) k2 rfl
 have o1 := cell_blk (j := 1) k2 rfl
 have o2 := cell_blk (j := 2) k2 rfl
 have o3 := cell_blk (j := 3) k2 rfl
 have o4 := cell_blk (j := 4) k2 rfl
 have o5 := cell_blk (j := 5) k2 rfl
 have f4 := frozen_blk k2 4
 have K0 : Hid (v0.heap[w.heap.size]? = some (Obj.cells #[.int .i64 x.k, .string x.s, .int .i64 x.a, .int .i64 x.b, .slice a1 x.names.length c1, .slice a2 x.vals.length c2] 121)) := k0
 have K1 : Hid (v0.heap[w.heap.size + 1]? = some (Obj.cells #[.int .i64 0, .string ⟨#[]⟩, .int .i64 0, .int .i64 0, .slice none 0 0, .slice none 0 0] 79)) := k1
 have K2 : Hid (v0.heap[w.heap.size + 1 + 1]? = some (Obj.cells #[.int .i64 x.k, .string x.s, .int .i64 x.a, .int .i64 x.b, .slice none 0 0, .slice none 0 0] 79)) := k2
 clear k0 k1 k2
 go_wp2_with fail
 have k0 : (v0.setCell ⟨w.heap.size + 1 + 1, 4, none⟩ (.slice (some ⟨g0, 0, none⟩) x.names.length x.names.length)).heap[w.heap.size]? = some (Obj.cells #[.int .i64 x.k, .string x.s, .int .i64 x.a, .int .i64 x.b, .slice a1 x.names.length c1, .slice a2 x.vals.length c2] 121) := by
  rw [heap_setCell_other _ _ _ _ (by simp; try omega)]; exact K0.out
 have k1 : (v0.setCell ⟨w.heap.size + 1 + 1, 4, none⟩ (.slice (some ⟨g0, 0, none⟩) x.names.length x.names.length)).heap[w.heap.size + 1]? = some (Obj.cells #[.int .i64 0, .string ⟨#[]⟩, .int .i64 0, .int .i64 0, .slice none 0 0, .slice none 0 0] 79) := by
  rw [heap_setCell_other _ _ _ _ (by simp)]; exact K1.out
 have k2 : (v0.setCell ⟨w.heap.size + 1 + 1, 4, none⟩ (.slice (some ⟨g0, 0, none⟩) x.names.length x.names.length)).heap[w.heap.size + 1 + 1]? = some (Obj.cells #[.int .i64 x.k, .string x.s, .int .i64 x.a, .int .i64 x.b, .slice (some ⟨g0, 0, none⟩) x.names.length x.names.length, .slice none 0 0] 79) := heap_setCell_same _ _ _ _ _ _ (K2.out)
 have hb : Below w.heap.size w (v0.setCell ⟨w.heap.size + 1 + 1, 4, none⟩ (.slice (some ⟨g0, 0, none⟩) x.names.length x.names.length)) := hb1.setCell (p := ⟨_, _, none⟩) (by simp; omega) _
 have hz : w.heap.size + 3 ≤ (v0.setCell ⟨w.heap.size + 1 + 1, 4, none⟩ (.slice (some ⟨g0, 0, none⟩) x.names.length x.names.length)).heap.size := by simp; omega
 have hoE : ∀ b, w.heap.size + 3 ≤ b → (v0.setCell ⟨w.heap.size + 1 + 1, 4, none⟩ (.slice (some ⟨g0, 0, none⟩) x.names.length x.names.length)).heap[b]? = v0.heap[b]? := by
  intro b h
  rw [heap_setCell_other _ _ _ _ (by show b ≠ w.heap.size + 1 + 1; omega)]
 have R0_0 : Hid (rgS.Row (v0.setCell ⟨w.heap.size + 1 + 1, 4, none⟩ (.slice (some ⟨g0, 0, none⟩) x.names.length x.names.length)) (fun b => w.heap.size + 3 ≤ b ∧ b < (v0.setCell ⟨w.heap.size + 1 + 1, 4, none⟩ (.slice (some ⟨g0, 0, none⟩) x.names.length x.names.length)).heap.size ∧ Unf (v0.setCell ⟨w.heap.size + 1 + 1, 4, none⟩ (.slice (some ⟨g0, 0, none⟩) x.names.length x.names.length)) b) (some ⟨g0, 0, none⟩) x.names) := R0_0.out.keep fun b h => ⟨⟨h.1, by have := h.2.1; simpa using this, h.2.2.keep (hoE b h.1)⟩, hoE b h.1⟩
 clear hoE K0 K1 K2 hb1 hsv p0 o0 p1 o1 p2 o2 p3 o3 p4 o4 p5 o5 f4
 generalize (v0.setCell ⟨w.heap.size + 1 + 1, 4, none⟩ (.slice (some ⟨g0, 0, none⟩) x.names.length x.names.length)) = w0A at *
 refine (HC1.out _ hb).mono ?_
 rintro e v1 ⟨g1, rfl, hrow, hv⟩
 have hb1 : Below w.heap.size w v1 := hb.trans (hv.mono hb.size)
 have hsv := hv.size
 have k0 := blk_keep k0 hv (by omega)
 have k1 := blk_keep k1 hv (by omega)
 have k2 := blk_keep k2 hv (by omega)
 have R0_0 : rgS.Row v1 (fun b => w.heap.size + 3 ≤ b ∧ b < v1.heap.size ∧ Unf v1 b) (some ⟨g0, 0, none⟩) x.names := R0_0.out.keep fun b h => ⟨⟨h.1, by have := h.2.1; omega, h.2.2.keep (hv.block b h.2.1)⟩, hv.block b h.2.1⟩
 have R1_0 : rgV.Row v1 (fun b => w.heap.size + 3 ≤ b ∧ b < v1.heap.size ∧ Unf v1 b) (some ⟨g1, 0, none⟩) x.vals := hrow.keep fun b h => ⟨⟨by have := h.1; omega, h.2⟩, rfl⟩
 clear hb hv hrow
 have R0_0 : Hid (rgS.Row v1 (fun b => w.heap.size + 3 ≤ b ∧ b < v1.heap.size ∧ Unf v1 b) (some ⟨g0, 0, none⟩) x.names) := R0_0
 have R1_0 : Hid (rgV.Row v1 (fun b => w.heap.size + 3 ≤ b ∧ b < v1.heap.size ∧ Unf v1 b) (some ⟨g1, 0, none⟩) x.vals) := R1_0
 have p0 := cell_blk (j := 0) k0 rfl
 have p1 := cell_blk (j := 1) k0 rfl
 have p2 := cell_blk (j := 2) k0 rfl
 have p3 := cell_blk (j := 3) k0 rfl
 have p4 := cell_blk (j := 4) k0 rfl
 have p5 := cell_blk (j := 5) k0 rfl
 have o0 := cell_blk (j := 0) k2 rfl
 have o1 := cell_blk (j := 1) k2 rfl
 have o2 := cell_blk (j := 2) k2 rfl
 have o3 := cell_blk (j := 3) k2 rfl
 have o4 := cell_blk (j := 4) k2 rfl
 have o5 := cell_blk (j := 5) k2 rfl
 have f5 := frozen_blk k2 5
 have s0 := cell_blk (j := 0) k1 rfl
 have l0 := frozen_blk k1 0
 have s1 := cell_blk (j := 1) k1 rfl
 have l1 := frozen_blk k1 1
 have s2 := cell_blk (j := 2) k1 rfl
 have l2 := frozen_blk k1 2
 have s3 := cell_blk (j := 3) k1 rfl
 have l3 := frozen_blk k1 3
 have s4 := cell_blk (j := 4) k1 rfl
 have l4 := frozen_blk k1 4
 have s5 := cell_blk (j := 5) k1 rfl
 have l5 := frozen_blk k1 5
 have K0 : Hid (v1.heap[w.heap.size]? = some (Obj.cells #[.int .i64 x.k, .string x.s, .int .i64 x.a, .int .i64 x.b, .slice a1 x.names.length c1, .slice a2 x.vals.length c2] 121)) := k0
 have K1 : Hid (v1.heap[w.heap.size + 1]? = some (Obj.cells #[.int .i64 0, .string ⟨#[]⟩, .int .i64 0, .int .i64 0, .slice none 0 0, .slice none 0 0] 79)) := k1
 have K2 : Hid (v1.heap[w.heap.size + 1 + 1]? = some (Obj.cells #[.int .i64 x.k, .string x.s, .int .i64 x.a, .int .i64 x.b, .slice (some ⟨g0, 0, none⟩) x.names.length x.names.length, .slice none 0 0] 79)) := k2
 clear k0 k1 k2
 go_wp2
 have K3 : (v1.setCell ⟨w.heap.size + 1 + 1, 5, none⟩ (.slice (some ⟨g1, 0, none⟩) x.vals.length x.vals.length)).heap[w.heap.size + 1]? = some (Obj.cells #[.int .i64 0, .string ⟨#[]⟩, .int .i64 0, .int .i64 0, .slice none 0 0, .slice none 0 0] 79) := by
  rw [heap_setCell_other _ _ _ _ (by simp)]; exact K1.out
 refine bodyPost_ret (results_cell_row rfl _ _ (w.heap.size + 1) 79 #[.int .i64 x.k, .string x.s, .int .i64 x.a, .int .i64 x.b, .slice (some ⟨g0, 0, none⟩) x.names.length x.names.length, .slice (some ⟨g1, 0, none⟩) x.vals.length x.vals.length] (0, 0) _ rfl (heap_setCell_same _ _ _ _ _ _ (heap_setCell_same _ _ _ _ _ _ (heap_setCell_same _ _ _ _ _ _ (heap_setCell_same _ _ _ _ _ _ (heap_setCell_same _ _ _ _ _ _ (heap_setCell_same _ _ _ _ _ _ (K3))))))) Tryz.underlying79 rfl (by kernel_rfl)) rfl ?_
 have hoth : ∀ b, w.heap.size + 3 ≤ b → (((((((v1.setCell ⟨w.heap.size + 1 + 1, 5, none⟩ (.slice (some ⟨g1, 0, none⟩) x.vals.length x.vals.length)).setCell ⟨w.heap.size + 1, 0, none⟩ (.int .i64 x.k)).setCell ⟨w.heap.size + 1, 1, none⟩ (.string x.s)).setCell ⟨w.heap.size + 1, 2, none⟩ (.int .i64 x.a)).setCell ⟨w.heap.size + 1, 3, none⟩ (.int .i64 x.b)).setCell ⟨w.heap.size + 1, 4, none⟩ (.slice (some ⟨g0, 0, none⟩) x.names.length x.names.length)).setCell ⟨w.heap.size + 1, 5, none⟩ (.slice (some ⟨g1, 0, none⟩) x.vals.length x.vals.length)).heap[b]? = v1.heap[b]? := by
  intro b h
  rw [heap_setCell_other _ _ _ _ (by show b ≠ w.heap.size + 1; omega), heap_setCell_other _ _ _ _ (by show b ≠ w.heap.size + 1; omega), heap_setCell_other _ _ _ _ (by show b ≠ w.heap.size + 1; omega), heap_setCell_other _ _ _ _ (by show b ≠ w.heap.size + 1; omega), heap_setCell_other _ _ _ _ (by show b ≠ w.heap.size + 1; omega), heap_setCell_other _ _ _ _ (by show b ≠ w.heap.size + 1; omega), heap_setCell_other _ _ _ _ (by show b ≠ w.heap.size + 1 + 1; omega)]
 exact ⟨_, rfl, ⟨_, _, _, _, rfl, rowSP_iff.1 (R0_0.out.keep fun b h => ⟨⟨by have := h.1; omega, by have := h.2.1; simpa using this, h.2.2.keep (hoth b h.1)⟩, hoth b h.1⟩), rowVP_iff.1 (R1_0.out.keep fun b h => ⟨⟨by have := h.1; omega, by have := h.2.1; simpa using this, h.2.2.keep (hoth b h.1)⟩, hoth b h.1⟩), Nat.le_refl _, Nat.le_refl _⟩, ((((((hb1.setCell (p := ⟨_, _, none⟩) (by simp <;> omega) _).setCell (p := ⟨_, _, none⟩) (by simp <;> omega) _).setCell (p := ⟨_, _, none⟩) (by simp <;> omega) _).setCell (p := ⟨_, _, none⟩) (by simp <;> omega) _).setCell (p := ⟨_, _, none⟩) (by simp <;> omega) _).setCell (p := ⟨_, _, none⟩) (by simp <;> omega) _).setCell (p := ⟨_, _, none⟩) (by simp <;> omega) _⟩
theorem Tryz.infu_Cell : (Tryz.prog.info? 79).map (fun i => (i.zero, i.size, i.bytes)) = some (some (.agg #[.int .i64 0, .string ⟨#[]⟩, .int .i64 0, .int .i64 0, .slice none 0 0, .slice none 0 0]), 6, 88) := by kernel_rfl
set_option maxRecDepth 100000 in
set_option maxHeartbeats 2000000 in
theorem tu_Cell (a : Option Addr) (l : List Cel) (cap : Nat) (w : World) (hn : l.length ≤ 1048576) (hsm : ∀ d ∈ l, Cel.small d) (hr : rgC.Row w (fun b => b < w.heap.size) a l) :
  Calls Tryz.prog 36 #[.slice a l.length cap] w fun e w' => MadeU rgC l w e w' := by
 obtain ⟨i0, hi, hz0, hz1, hz2⟩ := info_parts Tryz.infu_Cell
 have HR : Hid (rgC.Row w (fun b => b < w.heap.size) a l) := hr
 have HS : Hid (∀ d ∈ l, Cel.small d) := hsm
 clear hr hsm
 go_enter Tryz.func36, Tryz.ntmps36
 go_wp2_with (at_make; refine wpList_make_full _ rfl _ _ 30 rfl w.heap.size 79 i0 _ 6 Tryz.underlying30 hi hz0 hz1 .i64 .i64 _ _ l.length rfl rfl rfl rfl ?c1 ?c2 ?c3 ?_)
 case c1 => rw [hz2]; omega
 case c2 => simp [maxLen]; omega
 case c3 => exact Nat.le_refl _
 intro w1 hown1 hgr1
 go_wp2
 have hb1 : Below w.heap.size w w1 := (Below.refl _ _).grown hgr1 (Nat.le_refl _) (fun _ h => by cases h)
 obtain ⟨hlen, ⟨h0, _⟩ | ⟨g, cp, cur, hv, _, hblk, _, _, hcs, _⟩⟩ := hown1
 ·cases h0
 simp only [Value.slice.injEq, Option.some.injEq, Addr.mk.injEq] at hv
 obtain ⟨⟨rfl, _⟩, _, rfl⟩ := hv
 clear hlen
 go_loopw [4] (fun o wr => ∃ (i : Nat) (cur : Array Value), i ≤ l.length ∧ wr.heap[w.heap.size]? = some (.cells cur 79 (0, 0)) ∧ cur.size = l.length * 6 ∧ LaidU rgC wr w.heap.size i l ∧ o = .int .i64 i ∧ Below w.heap.size w wr)
  (fun o _ => l.length - (intOf o).toNat)
 case atStart => exact ⟨0, cur, by omega, hblk, hcs, LaidU.zero, rfl, hb1⟩
 case round =>
  clear hblk hcs hb1 hgr1
  obtain ⟨i, cur, hi, hblk, hcs, hat0, rfl, hb⟩ := hrel
  have HA : Hid (LaidU rgC wr w.heap.size i l) := hat0
  have HK : Hid (wr.heap[w.heap.size]? = some (.cells cur 79 (0, 0))) := hblk
  have hlt2 : w.heap.size < wr.heap.size := (Array.getElem?_eq_some_iff.1 hblk).1
  clear hat0 hblk
  by_cases hlt : i < l.length
  ·obtain ⟨d, hd⟩ : ∃ d, l[i]? = some d := ⟨_, List.getElem?_eq_getElem hlt⟩
   obtain ⟨b1, o1, cs, rfl, hbb, hat, hlies⟩ := HR.out i d hd
   obtain ⟨a1, c1, a2, c2, rfl, hrows⟩ := hat
   have cx0 : wr.cell? ⟨b1, o1 + i * 6, none⟩ = some (.int .i64 d.k) := cell_keep (hlies 0 _ rfl) hb hbb
   have cx1 : wr.cell? ⟨b1, o1 + i * 6 + 1, none⟩ = some (.string d.s) := cell_keep (hlies 1 _ rfl) hb hbb
   have cx2 : wr.cell? ⟨b1, o1 + i * 6 + 2, none⟩ = some (.int .i64 d.a) := cell_keep (hlies 2 _ rfl) hb hbb
   have cx3 : wr.cell? ⟨b1, o1 + i * 6 + 3, none⟩ = some (.int .i64 d.b) := cell_keep (hlies 3 _ rfl) hb hbb
   have cx4 : wr.cell? ⟨b1, o1 + i * 6 + 4, none⟩ = some (.slice a1 d.names.length c1) := cell_keep (hlies 4 _ rfl) hb hbb
   have cx5 : wr.cell? ⟨b1, o1 + i * 6 + 5, none⟩ = some (.slice a2 d.vals.length c2) := cell_keep (hlies 5 _ rfl) hb hbb
   have hsz := hb.size
   have HT : Hid (Calls Tryz.prog 83 #[.agg #[.int .i64 d.k, .string d.s, .int .i64 d.a, .int .i64 d.b, .slice a1 d.names.length c1, .slice a2 d.vals.length c2]] wr fun e w' => MadeEU rgC d wr e w') := tuE_Cell d a1 a2 c1 c2 wr (HS.out d (List.mem_of_getElem? hd)) (hrows.keep fun b h => ⟨by omega, hb.block b h⟩)
   have HD : Hid (l[i]? = some d) := hd
   clear hlies hd hrows
   go_wp2_with fail
   refine HT.out.mono ?_
   rintro e w2 ⟨cs2, rfl, hat2, hb2⟩
   obtain ⟨a1', c1', a2', c2', rfl, hrows2⟩ := hat2
   have HA2 : Hid (rgC.At w2 (fun b => wr.heap.size ≤ b ∧ b < w2.heap.size ∧ Unf w2 b) [.int .i64 d.k, .string d.s, .int .i64 d.a, .int .i64 d.b, .slice a1' d.names.length c1', .slice a2' d.vals.length c2'] d) := ⟨a1', c1', a2', c2', rfl, hrows2⟩
   have hk2 := blk_keep HK.out hb2 hlt2
   have f0 := frozen_blk hk2 (i * 6)
   obtain ⟨x0, e0⟩ := cell_blk' hk2 (i * 6) (by omega)
   have f1 := frozen_blk hk2 (i * 6 + 1)
   obtain ⟨x1, e1⟩ := cell_blk' hk2 (i * 6 + 1) (by omega)
   have f2 := frozen_blk hk2 (i * 6 + 2)
   obtain ⟨x2, e2⟩ := cell_blk' hk2 (i * 6 + 2) (by omega)
   have f3 := frozen_blk hk2 (i * 6 + 3)
   obtain ⟨x3, e3⟩ := cell_blk' hk2 (i * 6 + 3) (by omega)
   have f4 := frozen_blk hk2 (i * 6 + 4)
   obtain ⟨x4, e4⟩ := cell_blk' hk2 (i * 6 + 4) (by omega)
   have f5 := frozen_blk hk2 (i * 6 + 5)
   obtain ⟨x5, e5⟩ := cell_blk' hk2 (i * 6 + 5) (by omega)
   have HK2 : Hid (w2.heap[w.heap.size]? = some (.cells cur 79 (0, 0))) := hk2
   have HB2 : Hid (Below wr.heap.size wr w2) := hb2
   clear hk2 HT hb2 hrows2
   go_wp2
   go_roundw
   case rel =>
    have hput : putL w2 w.heap.size (i * 6) [.int .i64 d.k, .string d.s, .int .i64 d.a, .int .i64 d.b, .slice a1' d.names.length c1', .slice a2' d.vals.length c2'] = ((((((w2.setCell ⟨w.heap.size, i * 6, none⟩ (.int .i64 d.k)).setCell ⟨w.heap.size, i * 6 + 1, none⟩ (.string d.s)).setCell ⟨w.heap.size, i * 6 + 2, none⟩ (.int .i64 d.a)).setCell ⟨w.heap.size, i * 6 + 3, none⟩ (.int .i64 d.b)).setCell ⟨w.heap.size, i * 6 + 4, none⟩ (.slice a1' d.names.length c1')).setCell ⟨w.heap.size, i * 6 + 5, none⟩ (.slice a2' d.vals.length c2')) := by simp only [putL, Nat.add_assoc, Nat.reduceAdd]
    rw [← hput]
    obtain ⟨ys, hy1, hy2⟩ := putL_blk [.int .i64 d.k, .string d.s, .int .i64 d.a, .int .i64 d.b, .slice a1' d.names.length c1', .slice a2' d.vals.length c2'] (i * 6) HK2.out
    refine ⟨i + 1, ys, by omega, hy1, by omega, HA.out.next HD.out hlt2 HB2.out HA2.out HK2.out (by show i * 6 + 6 ≤ cur.size; omega), by go_num, putL_below [.int .i64 d.k, .string d.s, .int .i64 d.a, .int .i64 d.b, .slice a1' d.names.length c1', .slice a2' d.vals.length c2'] (i * 6) (hb.trans (HB2.out.mono hsz)) (Nat.le_refl _)⟩
   case measure => simp [intOf]; omega
  ·have hlt' : decide ((i : Int) < (l.length : Int)) = false := by simp; omega
   obtain rfl : i = l.length := by omega
   go_wp2
   go_ret
   exact ⟨w.heap.size, rfl, HA.out.row hlt2 ⟨_, _, HK.out⟩, hb⟩
set_option maxRecDepth 100000 in
set_option maxHeartbeats 2000000 in
theorem tuE_Node (x : Nod) (a1 a2 : Option Addr) (c1 c2 : Nat) (w : World) (hs : x.small) (hr : NodRows w (fun b => b < w.heap.size) a1 c1 a2 c2 x) :
  Calls Tryz.prog 172 #[.agg #[.int .i64 x.k, .int .i64 x.n, .string x.s, .slice a1 x.names.length c1, .slice a2 x.args.length c2]] w fun e w' => MadeEU rgN x w e w' := by
 obtain ⟨_, _, _, q3, q4, q6⟩ := hs
 have u3 := And.intro q3 q6
 have u4 := And.intro q4 True.intro
 obtain ⟨r1, r2, t1, t2⟩ := hr
 have r1 := rowSP_iff.2 r1
 have r2 := rowIP_iff.2 r2
 have HC0 : Hid (∀ w2, Below w.heap.size w w2 → Calls Tryz.prog 39 #[.slice a1 x.names.length c1] w2 fun e w' => MadeU rgS x.names w2 e w') := fun w2 h2 => tu_string a1 x.names c1 w2 u3.1 u3.2 (r1.keep fun b h => ⟨by have := h2.size; omega, h2.block b h⟩)
 have HC1 : Hid (∀ w2, Below w.heap.size w w2 → Calls Tryz.prog 178 #[.slice a2 x.args.length c2] w2 fun e w' => MadeU rgJ x.args w2 e w') := fun w2 h2 => tu_int a2 x.args c2 w2 u4.1 (r2.keep fun b h => ⟨by have := h2.size; omega, h2.block b h⟩)
 clear r1 r2
 go_enter Tryz.func172, Tryz.ntmps172
 go_wp2_with fail
 have hb : Below w.heap.size w (((w.alloc (Obj.cells #[.int .i64 x.k, .int .i64 x.n, .string x.s, .slice a1 x.names.length c1, .slice a2 x.args.length c2] 253)).alloc (Obj.cells #[.int .i64 0, .int .i64 0, .string ⟨#[]⟩, .slice none 0 0, .slice none 0 0] 82)).alloc (Obj.cells #[.int .i64 x.k, .int .i64 x.n, .string x.s, .slice none 0 0, .slice none 0 0] 82)) := (((Below.refl _ _).alloc (Nat.le_refl _) _).alloc (by simp) _).alloc (by simp; omega) _
 have k0 : (((w.alloc (Obj.cells #[.int .i64 x.k, .int .i64 x.n, .string x.s, .slice a1 x.names.length c1, .slice a2 x.args.length c2] 253)).alloc (Obj.cells #[.int .i64 0, .int .i64 0, .string ⟨#[]⟩, .slice none 0 0, .slice none 0 0] 82)).alloc (Obj.cells #[.int .i64 x.k, .int .i64 x.n, .string x.s, .slice none 0 0, .slice none 0 0] 82)).heap[w.heap.size]? = some (Obj.cells #[.int .i64 x.k, .int .i64 x.n, .string x.s, .slice a1 x.names.length c1, .slice a2 x.args.length c2] 253) := blk_past (blk_past (blk_at _ _ _ rfl))
 have k1 : (((w.alloc (Obj.cells #[.int .i64 x.k, .int .i64 x.n, .string x.s, .slice a1 x.names.length c1, .slice a2 x.args.length c2] 253)).alloc (Obj.cells #[.int .i64 0, .int .i64 0, .string ⟨#[]⟩, .slice none 0 0, .slice none 0 0] 82)).alloc (Obj.cells #[.int .i64 x.k, .int .i64 x.n, .string x.s, .slice none 0 0, .slice none 0 0] 82)).heap[w.heap.size + 1]? = some (Obj.cells #[.int .i64 0, .int .i64 0, .string ⟨#[]⟩, .slice none 0 0, .slice none 0 0] 82) := blk_past (blk_at _ _ _ (by simp))
 have k2 : (((w.alloc (Obj.cells #[.int .i64 x.k, .int .i64 x.n, .string x.s, .slice a1 x.names.length c1, .slice a2 x.args.length c2] 253)).alloc (Obj.cells #[.int .i64 0, .int .i64 0, .string ⟨#[]⟩, .slice none 0 0, .slice none 0 0] 82)).alloc (Obj.cells #[.int .i64 x.k, .int .i64 x.n, .string x.s, .slice none 0 0, .slice none 0 0] 82)).heap[w.heap.size + 1 + 1]? = some (Obj.cells #[.int .i64 x.k, .int .i64 x.n, .string x.s, .slice none 0 0, .slice none 0 0] 82) := blk_at _ _ _ (by simp)
 have hz : w.heap.size + 3 ≤ (((w.alloc (Obj.cells #[.int .i64 x.k, .int .i64 x.n, .string x.s, .slice a1 x.names.length c1, .slice a2 x.args.length c2] 253)).alloc (Obj.cells #[.int .i64 0, .int .i64 0, .string ⟨#[]⟩, .slice none 0 0, .slice none 0 0] 82)).alloc (Obj.cells #[.int .i64 x.k, .int .i64 x.n, .string x.s, .slice none 0 0, .slice none 0 0] 82)).heap.size := by simp
 generalize (((w.alloc (Obj.cells #[.int .i64 x.k, .int .i64 x.n, .string x.s, .slice a1 x.names.length c1, .slice a2 x.args.length c2] 253)).alloc (Obj.cells #[.int .i64 0, .int .i64 0, .string ⟨#[]⟩, .slice none 0 0, .slice none 0 0] 82)).alloc (Obj.cells #[.int .i64 x.k, .int .i64 x.n, .string x.s, .slice none 0 0, .slice none 0 0] 82)) = wA at *
 refine (HC0.out _ hb).mono ?_
 rintro e v0 ⟨g0, rfl, hrow, hv⟩
 have hb1 : Below w.heap.size w v0 := hb.trans (hv.mono hb.size)
 have hsv := hv.size
 have k0 := blk_keep k0 hv (by omega)
 have k1 := blk_keep k1 hv (by omega)
 have k2 := blk_keep k2 hv (by omega)
 have R0_0 : rgS.Row v0 (fun b => w.heap.size + 3 ≤ b ∧ b < v0.heap.size ∧ Unf v0 b) (some ⟨g0, 0, none⟩) x.names := hrow.keep fun b h => ⟨⟨by have := h.1; omega, h.2⟩, rfl⟩
 clear hb hv hrow
 have R0_0 : Hid (rgS.Row v0 (fun b => w.heap.size + 3 ≤ b ∧ b < v0.heap.size ∧ Unf v0 b) (some ⟨g0, 0, none⟩) x.names) := R0_0
 have p0 := cell_blk (j := 0) k0 rfl
 have p1 := cell_blk (j := 1) k0 rfl
 have p2 := cell_blk (j := 2) k0 rfl
 have p3 := cell_blk (j := 3) k0 rfl
 have p4 := cell_blk (j := 4) k0 rfl
 have o0 := cell_blk (j := 0) k2 rfl
 have o1 := cell_blk (j := 1) k2 rfl
 have o2 := cell_blk (j := 2) k2 rfl
 have o3 := cell_blk (j := 3) k2 rfl
 have o4 := cell_blk (j := 4) k2 rfl
 have f3 := frozen_blk k2 3
 have K0 : Hid (v0.heap[w.heap.size]? = some (Obj.cells #[.int .i64 x.k, .int .i64 x.n, .string x.s, .slice a1 x.names.length c1, .slice a2 x.args.length c2] 253)) := k0
 have K1 : Hid (v0.heap[w.heap.size + 1]? = some (Obj.cells #[.int .i64 0, .int .i64 0, .string ⟨#[]⟩, .slice none 0 0, .slice none 0 0] 82)) := k1
 have K2 : Hid (v0.heap[w.heap.size + 1 + 1]? = some (Obj.cells #[.int .i64 x.k, .int .i64 x.n, .string x.s, .slice none 0 0, .slice none 0 0] 82)) := k2
 clear k0 k1 k2
 go_wp2_with fail
 have k0 : (v0.setCell ⟨w.heap.size + 1 + 1, 3, none⟩ (.slice (some ⟨g0, 0, none⟩) x.names.length x.names.length)).heap[w.heap.size]? = some (Obj.cells #[.int .i64 x.k, .int .i64 x.n, .string x.s, .slice a1 x.names.length c1, .slice a2 x.args.length c2] 253) := by
  rw [heap_setCell_other _ _ _ _ (by simp; try omega)]; exact K0.out
 have k1 : (v0.setCell ⟨w.heap.size + 1 + 1, 3, none⟩ (.slice (some ⟨g0, 0, none⟩) x.names.length x.names.length)).heap[w.heap.size + 1]? = some (Obj.cells #[.int .i64 0, .int .i64 0, .string ⟨#[]⟩, .slice none 0 0, .slice none 0 0] 82) := by
  rw [heap_setCell_other _ _ _ _ (by simp)]; exact K1.out
 have k2 : (v0.setCell ⟨w.heap.size + 1 + 1, 3, none⟩ (.slice (some ⟨g0, 0, none⟩) x.names.length x.names.length)).heap[w.heap.size + 1 + 1]? = some (Obj.cells #[.int .i64 x.k, .int .i64 x.n, .string x.s, .slice (some ⟨g0, 0, none⟩) x.names.length x.names.length, .slice none 0 0] 82) := heap_setCell_same _ _ _ _ _ _ (K2.out)
 have hb : Below w.heap.size w (v0.setCell ⟨w.heap.size + 1 + 1, 3, none⟩ (.slice (some ⟨g0, 0, none⟩) x.names.length x.names.length)) := hb1.setCell (p := ⟨_, _, none⟩) (by simp; omega) _
 have hz : w.heap.size + 3 ≤ (v0.setCell ⟨w.heap.size + 1 + 1, 3, none⟩ (.slice (some ⟨g0, 0, none⟩) x.names.length x.names.length)).heap.size := by simp; omega
 have hoE : ∀ b, w.heap.size + 3 ≤ b → (v0.setCell ⟨w.heap.size + 1 + 1, 3, none⟩ (.slice (some ⟨g0, 0, none⟩) x.names.length x.names.length)).heap[b]? = v0.heap[b]? := by
  intro b h
  rw [heap_setCell_other _ _ _ _ (by show b ≠ w.heap.size + 1 + 1; omega)]
 have R0_0 : Hid (rgS.Row (v0.setCell ⟨w.heap.size + 1 + 1, 3, none⟩ (.slice (some ⟨g0, 0, none⟩) x.names.length x.names.length)) (fun b => w.heap.size + 3 ≤ b ∧ b < (v0.setCell ⟨w.heap.size + 1 + 1, 3, none⟩ (.slice (some ⟨g0, 0, none⟩) x.names.length x.names.length)).heap.size ∧ Unf (v0.setCell ⟨w.heap.size + 1 + 1, 3, none⟩ (.slice (some ⟨g0, 0, none⟩) x.names.length x.names.length)) b) (some ⟨g0, 0, none⟩) x.names) := R0_0.out.keep fun b h => ⟨⟨h.1, by have := h.2.1; simpa using this, h.2.2.keep (hoE b h.1)⟩, hoE b h.1⟩
 clear hoE K0 K1 K2 hb1 hsv p0 o0 p1 o1 p2 o2 p3 o3 p4 o4 f3
 generalize (v0.setCell ⟨w.heap.size + 1 + 1, 3, none⟩ (.slice (some ⟨g0, 0, none⟩) x.names.length x.names.length)) = w0A at *
 refine (HC1.out _ hb).mono ?_
 rintro e v1 ⟨g1, rfl, hrow, hv⟩
 have hb1 : Below w.heap.size w v1 := hb.trans (hv.mono hb.size)
 have hsv := hv.size
 have k0 := blk_keep k0 hv (by omega)
 have k1 := blk_keep k1 hv (by omega)
 have k2 := blk_keep k2 hv (by omega)
 have R0_0 : rgS.Row v1 (fun b => w.heap.size + 3 ≤ b ∧ b < v1.heap.size ∧ Unf v1 b) (some ⟨g0, 0, none⟩) x.names := R0_0.out.keep fun b h => ⟨⟨h.1, by have := h.2.1; omega, h.2.2.keep (hv.block b h.2.1)⟩, hv.block b h.2.1⟩
 have R1_0 : rgJ.Row v1 (fun b => w.heap.size + 3 ≤ b ∧ b < v1.heap.size ∧ Unf v1 b) (some ⟨g1, 0, none⟩) x.args := hrow.keep fun b h => ⟨⟨by have := h.1; omega, h.2⟩, rfl⟩
 clear hb hv hrow
 have R0_0 : Hid (rgS.Row v1 (fun b => w.heap.size + 3 ≤ b ∧ b < v1.heap.size ∧ Unf v1 b) (some ⟨g0, 0, none⟩) x.names) := R0_0
 have R1_0 : Hid (rgJ.Row v1 (fun b => w.heap.size + 3 ≤ b ∧ b < v1.heap.size ∧ Unf v1 b) (some ⟨g1, 0, none⟩) x.args) := R1_0
 have p0 := cell_blk (j := 0) k0 rfl
 have p1 := cell_blk (j := 1) k0 rfl
 have p2 := cell_blk (j := 2) k0 rfl
 have p3 := cell_blk (j := 3) k0 rfl
 have p4 := cell_blk (j := 4) k0 rfl
 have o0 := cell_blk (j := 0) k2 rfl
 have o1 := cell_blk (j := 1) k2 rfl
 have o2 := cell_blk (j := 2) k2 rfl
 have o3 := cell_blk (j := 3) k2 rfl
 have o4 := cell_blk (j := 4) k2 rfl
 have f4 := frozen_blk k2 4
 have s0 := cell_blk (j := 0) k1 rfl
 have l0 := frozen_blk k1 0
 have s1 := cell_blk (j := 1) k1 rfl
 have l1 := frozen_blk k1 1
 have s2 := cell_blk (j := 2) k1 rfl
 have l2 := frozen_blk k1 2
 have s3 := cell_blk (j := 3) k1 rfl
 have l3 := frozen_blk k1 3
 have s4 := cell_blk (j := 4) k1 rfl
 have l4 := frozen_blk k1 4
 have K0 : Hid (v1.heap[w.heap.size]? = some (Obj.cells #[.int .i64 x.k, .int .i64 x.n, .string x.s, .slice a1 x.names.length c1, .slice a2 x.args.length c2] 253)) := k0
 have K1 : Hid (v1.heap[w.heap.size + 1]? = some (Obj.cells #[.int .i64 0, .int .i64 0, .string ⟨#[]⟩, .slice none 0 0, .slice none 0 0] 82)) := k1
 have K2 : Hid (v1.heap[w.heap.size + 1 + 1]? = some (Obj.cells #[.int .i64 x.k, .int .i64 x.n, .string x.s, .slice (some ⟨g0, 0, none⟩) x.names.length x.names.length, .slice none 0 0] 82)) := k2
 clear k0 k1 k2
 go_wp2
 have K3 : (v1.setCell ⟨w.heap.size + 1 + 1, 4, none⟩ (.slice (some ⟨g1, 0, none⟩) x.args.length x.args.length)).heap[w.heap.size + 1]? = some (Obj.cells #[.int .i64 0, .int .i64 0, .string ⟨#[]⟩, .slice none 0 0, .slice none 0 0] 82) := by
  rw [heap_setCell_other _ _ _ _ (by simp)]; exact K1.out
 refine bodyPost_ret (results_cell_row rfl _ _ (w.heap.size + 1) 82 #[.int .i64 x.k, .int .i64 x.n, .string x.s, .slice (some ⟨g0, 0, none⟩) x.names.length x.names.length, .slice (some ⟨g1, 0, none⟩) x.args.length x.args.length] (0, 0) _ rfl (heap_setCell_same _ _ _ _ _ _ (heap_setCell_same _ _ _ _ _ _ (heap_setCell_same _ _ _ _ _ _ (heap_setCell_same _ _ _ _ _ _ (heap_setCell_same _ _ _ _ _ _ (K3)))))) Tryz.underlying82 rfl (by kernel_rfl)) rfl ?_
 have hoth : ∀ b, w.heap.size + 3 ≤ b → ((((((v1.setCell ⟨w.heap.size + 1 + 1, 4, none⟩ (.slice (some ⟨g1, 0, none⟩) x.args.length x.args.length)).setCell ⟨w.heap.size + 1, 0, none⟩ (.int .i64 x.k)).setCell ⟨w.heap.size + 1, 1, none⟩ (.int .i64 x.n)).setCell ⟨w.heap.size + 1, 2, none⟩ (.string x.s)).setCell ⟨w.heap.size + 1, 3, none⟩ (.slice (some ⟨g0, 0, none⟩) x.names.length x.names.length)).setCell ⟨w.heap.size + 1, 4, none⟩ (.slice (some ⟨g1, 0, none⟩) x.args.length x.args.length)).heap[b]? = v1.heap[b]? := by
  intro b h
  rw [heap_setCell_other _ _ _ _ (by show b ≠ w.heap.size + 1; omega), heap_setCell_other _ _ _ _ (by show b ≠ w.heap.size + 1; omega), heap_setCell_other _ _ _ _ (by show b ≠ w.heap.size + 1; omega), heap_setCell_other _ _ _ _ (by show b ≠ w.heap.size + 1; omega), heap_setCell_other _ _ _ _ (by show b ≠ w.heap.size + 1; omega), heap_setCell_other _ _ _ _ (by show b ≠ w.heap.size + 1 + 1; omega)]
 exact ⟨_, rfl, ⟨_, _, _, _, rfl, rowSP_iff.1 (R0_0.out.keep fun b h => ⟨⟨by have := h.1; omega, by have := h.2.1; simpa using this, h.2.2.keep (hoth b h.1)⟩, hoth b h.1⟩), rowIP_iff.1 (R1_0.out.keep fun b h => ⟨⟨by have := h.1; omega, by have := h.2.1; simpa using this, h.2.2.keep (hoth b h.1)⟩, hoth b h.1⟩), Nat.le_refl _, Nat.le_refl _⟩, (((((hb1.setCell (p := ⟨_, _, none⟩) (by simp <;> omega) _).setCell (p := ⟨_, _, none⟩) (by simp <;> omega) _).setCell (p := ⟨_, _, none⟩) (by simp <;> omega) _).setCell (p := ⟨_, _, none⟩) (by simp <;> omega) _).setCell (p := ⟨_, _, none⟩) (by simp <;> omega) _).setCell (p := ⟨_, _, none⟩) (by simp <;> omega) _⟩
theorem Tryz.infu_Node : (Tryz.prog.info? 82).map (fun i => (i.zero, i.size, i.bytes)) = some (some (.agg #[.int .i64 0, .int .i64 0, .string ⟨#[]⟩, .slice none 0 0, .slice none 0 0]), 5, 80) := by kernel_rfl
set_option maxRecDepth 100000 in
set_option maxHeartbeats 2000000 in
theorem tu_Node (a : Option Addr) (l : List Nod) (cap : Nat) (w : World) (hn : l.length ≤ 1048576) (hsm : ∀ d ∈ l, Nod.small d) (hr : rgN.Row w (fun b => b < w.heap.size) a l) :
  Calls Tryz.prog 156 #[.slice a l.length cap] w fun e w' => MadeU rgN l w e w' := by
 obtain ⟨i0, hi, hz0, hz1, hz2⟩ := info_parts Tryz.infu_Node
 have HR : Hid (rgN.Row w (fun b => b < w.heap.size) a l) := hr
 have HS : Hid (∀ d ∈ l, Nod.small d) := hsm
 clear hr hsm
 go_enter Tryz.func156, Tryz.ntmps156
 go_wp2_with (at_make; refine wpList_make_full _ rfl _ _ 71 rfl w.heap.size 82 i0 _ 5 Tryz.underlying71 hi hz0 hz1 .i64 .i64 _ _ l.length rfl rfl rfl rfl ?c1 ?c2 ?c3 ?_)
 case c1 => rw [hz2]; omega
 case c2 => simp [maxLen]; omega
 case c3 => exact Nat.le_refl _
 intro w1 hown1 hgr1
 go_wp2
 have hb1 : Below w.heap.size w w1 := (Below.refl _ _).grown hgr1 (Nat.le_refl _) (fun _ h => by cases h)
 obtain ⟨hlen, ⟨h0, _⟩ | ⟨g, cp, cur, hv, _, hblk, _, _, hcs, _⟩⟩ := hown1
 ·cases h0
 simp only [Value.slice.injEq, Option.some.injEq, Addr.mk.injEq] at hv
 obtain ⟨⟨rfl, _⟩, _, rfl⟩ := hv
 clear hlen
 go_loopw [4] (fun o wr => ∃ (i : Nat) (cur : Array Value), i ≤ l.length ∧ wr.heap[w.heap.size]? = some (.cells cur 82 (0, 0)) ∧ cur.size = l.length * 5 ∧ LaidU rgN wr w.heap.size i l ∧ o = .int .i64 i ∧ Below w.heap.size w wr)
  (fun o _ => l.length - (intOf o).toNat)
 case atStart => exact ⟨0, cur, by omega, hblk, hcs, LaidU.zero, rfl, hb1⟩
 case round =>
  clear hblk hcs hb1 hgr1
  obtain ⟨i, cur, hi, hblk, hcs, hat0, rfl, hb⟩ := hrel
  have HA : Hid (LaidU rgN wr w.heap.size i l) := hat0
  have HK : Hid (wr.heap[w.heap.size]? = some (.cells cur 82 (0, 0))) := hblk
  have hlt2 : w.heap.size < wr.heap.size := (Array.getElem?_eq_some_iff.1 hblk).1
  clear hat0 hblk
  by_cases hlt : i < l.length
  ·obtain ⟨d, hd⟩ : ∃ d, l[i]? = some d := ⟨_, List.getElem?_eq_getElem hlt⟩
   obtain ⟨b1, o1, cs, rfl, hbb, hat, hlies⟩ := HR.out i d hd
   obtain ⟨a1, c1, a2, c2, rfl, hrows⟩ := hat
   have cx0 : wr.cell? ⟨b1, o1 + i * 5, none⟩ = some (.int .i64 d.k) := cell_keep (hlies 0 _ rfl) hb hbb
   have cx1 : wr.cell? ⟨b1, o1 + i * 5 + 1, none⟩ = some (.int .i64 d.n) := cell_keep (hlies 1 _ rfl) hb hbb
   have cx2 : wr.cell? ⟨b1, o1 + i * 5 + 2, none⟩ = some (.string d.s) := cell_keep (hlies 2 _ rfl) hb hbb
   have cx3 : wr.cell? ⟨b1, o1 + i * 5 + 3, none⟩ = some (.slice a1 d.names.length c1) := cell_keep (hlies 3 _ rfl) hb hbb
   have cx4 : wr.cell? ⟨b1, o1 + i * 5 + 4, none⟩ = some (.slice a2 d.args.length c2) := cell_keep (hlies 4 _ rfl) hb hbb
   have hsz := hb.size
   have HT : Hid (Calls Tryz.prog 172 #[.agg #[.int .i64 d.k, .int .i64 d.n, .string d.s, .slice a1 d.names.length c1, .slice a2 d.args.length c2]] wr fun e w' => MadeEU rgN d wr e w') := tuE_Node d a1 a2 c1 c2 wr (HS.out d (List.mem_of_getElem? hd)) (hrows.keep fun b h => ⟨by omega, hb.block b h⟩)
   have HD : Hid (l[i]? = some d) := hd
   clear hlies hd hrows
   go_wp2_with fail
   refine HT.out.mono ?_
   rintro e w2 ⟨cs2, rfl, hat2, hb2⟩
   obtain ⟨a1', c1', a2', c2', rfl, hrows2⟩ := hat2
   have HA2 : Hid (rgN.At w2 (fun b => wr.heap.size ≤ b ∧ b < w2.heap.size ∧ Unf w2 b) [.int .i64 d.k, .int .i64 d.n, .string d.s, .slice a1' d.names.length c1', .slice a2' d.args.length c2'] d) := ⟨a1', c1', a2', c2', rfl, hrows2⟩
   have hk2 := blk_keep HK.out hb2 hlt2
   have f0 := frozen_blk hk2 (i * 5)
   obtain ⟨x0, e0⟩ := cell_blk' hk2 (i * 5) (by omega)
   have f1 := frozen_blk hk2 (i * 5 + 1)
   obtain ⟨x1, e1⟩ := cell_blk' hk2 (i * 5 + 1) (by omega)
   have f2 := frozen_blk hk2 (i * 5 + 2)
   obtain ⟨x2, e2⟩ := cell_blk' hk2 (i * 5 + 2) (by omega)
   have f3 := frozen_blk hk2 (i * 5 + 3)
   obtain ⟨x3, e3⟩ := cell_blk' hk2 (i * 5 + 3) (by omega)
   have f4 := frozen_blk hk2 (i * 5 + 4)
   obtain ⟨x4, e4⟩ := cell_blk' hk2 (i * 5 + 4) (by omega)
   have HK2 : Hid (w2.heap[w.heap.size]? = some (.cells cur 82 (0, 0))) := hk2
   have HB2 : Hid (Below wr.heap.size wr w2) := hb2
   clear hk2 HT hb2 hrows2
   go_wp2
   go_roundw
   case rel =>
    have hput : putL w2 w.heap.size (i * 5) [.int .i64 d.k, .int .i64 d.n, .string d.s, .slice a1' d.names.length c1', .slice a2' d.args.length c2'] = (((((w2.setCell ⟨w.heap.size, i * 5, none⟩ (.int .i64 d.k)).setCell ⟨w.heap.size, i * 5 + 1, none⟩ (.int .i64 d.n)).setCell ⟨w.heap.size, i * 5 + 2, none⟩ (.string d.s)).setCell ⟨w.heap.size, i * 5 + 3, none⟩ (.slice a1' d.names.length c1')).setCell ⟨w.heap.size, i * 5 + 4, none⟩ (.slice a2' d.args.length c2')) := by simp only [putL, Nat.add_assoc, Nat.reduceAdd]
    rw [← hput]
    obtain ⟨ys, hy1, hy2⟩ := putL_blk [.int .i64 d.k, .int .i64 d.n, .string d.s, .slice a1' d.names.length c1', .slice a2' d.args.length c2'] (i * 5) HK2.out
    refine ⟨i + 1, ys, by omega, hy1, by omega, HA.out.next HD.out hlt2 HB2.out HA2.out HK2.out (by show i * 5 + 5 ≤ cur.size; omega), by go_num, putL_below [.int .i64 d.k, .int .i64 d.n, .string d.s, .slice a1' d.names.length c1', .slice a2' d.args.length c2'] (i * 5) (hb.trans (HB2.out.mono hsz)) (Nat.le_refl _)⟩
   case measure => simp [intOf]; omega
  ·have hlt' : decide ((i : Int) < (l.length : Int)) = false := by simp; omega
   obtain rfl : i = l.length := by omega
   go_wp2
   go_ret
   exact ⟨w.heap.size, rfl, HA.out.row hlt2 ⟨_, _, HK.out⟩, hb⟩
set_option maxRecDepth 100000 in
set_option maxHeartbeats 2000000 in
theorem tuE_Prog (x : Prg) (a1 : Option Addr) (c1 : Nat) (w : World) (hs : x.small) (hr : PrgRows w (fun b => b < w.heap.size) a1 c1 x) :
  Calls Tryz.prog 128 #[.agg #[.slice a1 x.nodes.length c1, .int .i64 x.root]] w fun e w' => MadeEU rgP x w e w' := by
 obtain ⟨u0, u1⟩ := hs
 obtain ⟨r1, t1⟩ := hr
 have HC0 : Hid (∀ w2, Below w.heap.size w w2 → Calls Tryz.prog 156 #[.slice a1 x.nodes.length c1] w2 fun e w' => MadeU rgN x.nodes w2 e w') := fun w2 h2 => tu_Node a1 x.nodes c1 w2 u0.1 u0.2 (r1.keep fun b h => ⟨by have := h2.size; omega, h2.block b h⟩)
 clear r1
 go_enter Tryz.func128, Tryz.ntmps128
 go_wp2_with fail
 have hb : Below w.heap.size w (((w.alloc (Obj.cells #[.slice a1 x.nodes.length c1, .int .i64 x.root] 130)).alloc (Obj.cells #[.slice none 0 0, .int .i64 0] 73)).alloc (Obj.cells #[.slice none 0 0, .int .i64 0] 73)) := (((Below.refl _ _).alloc (Nat.le_refl _) _).alloc (by simp) _).alloc (by simp; omega) _
 have k0 : (((w.alloc (Obj.cells #[.slice a1 x.nodes.length c1, .int .i64 x.root] 130)).alloc (Obj.cells #[.slice none 0 0, .int .i64 0] 73)).alloc (Obj.cells #[.slice none 0 0, .int .i64 0] 73)).heap[w.heap.size]? = some (Obj.cells #[.slice a1 x.nodes.length c1, .int .i64 x.root] 130) := blk_past (blk_past (blk_at _ _ _ rfl))
 have k1 : (((w.alloc (Obj.cells #[.slice a1 x.nodes.length c1, .int .i64 x.root] 130)).alloc (Obj.cells #[.slice none 0 0, .int .i64 0] 73)).alloc (Obj.cells #[.slice none 0 0, .int .i64 0] 73)).heap[w.heap.size + 1]? = some (Obj.cells #[.slice none 0 0, .int .i64 0] 73) := blk_past (blk_at _ _ _ (by simp))
 have k2 : (((w.alloc (Obj.cells #[.slice a1 x.nodes.length c1, .int .i64 x.root] 130)).alloc (Obj.cells #[.slice none 0 0, .int .i64 0] 73)).alloc (Obj.cells #[.slice none 0 0, .int .i64 0] 73)).heap[w.heap.size + 1 + 1]? = some (Obj.cells #[.slice none 0 0, .int .i64 0] 73) := blk_at _ _ _ (by simp)
 have hz : w.heap.size + 3 ≤ (((w.alloc (Obj.cells #[.slice a1 x.nodes.length c1, .int .i64 x.root] 130)).alloc (Obj.cells #[.slice none 0 0, .int .i64 0] 73)).alloc (Obj.cells #[.slice none 0 0, .int .i64 0] 73)).heap.size := by simp
 generalize (((w.alloc (Obj.cells #[.slice a1 x.nodes.length c1, .int .i64 x.root] 130)).alloc (Obj.cells #[.slice none 0 0, .int .i64 0] 73)).alloc (Obj.cells #[.slice none 0 0, .int .i64 0] 73)) = wA at *
 refine (HC0.out _ hb).mono ?_
 rintro e v0 ⟨g0, rfl, hrow, hv⟩
 have hb1 : Below w.heap.size w v0 := hb.trans (hv.mono hb.size)
 have hsv := hv.size
 have k0 := blk_keep k0 hv (by omega)
 have k1 := blk_keep k1 hv (by omega)
 have k2 := blk_keep k2 hv (by omega)
 have R0_0 : rgN.Row v0 (fun b => w.heap.size + 3 ≤ b ∧ b < v0.heap.size ∧ Unf v0 b) (some ⟨g0, 0, none⟩) x.nodes := hrow.keep fun b h => ⟨⟨by have := h.1; omega, h.2⟩, rfl⟩
 clear hb hv hrow
 have R0_0 : Hid (rgN.Row v0 (fun b => w.heap.size + 3 ≤ b ∧ b < v0.heap.size ∧ Unf v0 b) (some ⟨g0, 0, none⟩) x.nodes) := R0_0
 have p0 := cell_blk (j := 0) k0 rfl
 have p1 := cell_blk (j := 1) k0 rfl
 have o0 := cell_blk (j := 0) k2 rfl
 have o1 := cell_blk (j := 1) k2 rfl
 have f0 := frozen_blk k2 0
 have f1 := frozen_blk k2 1
 have s0 := cell_blk (j := 0) k1 rfl
 have l0 := frozen_blk k1 0
 have s1 := cell_blk (j := 1) k1 rfl
 have l1 := frozen_blk k1 1
 have K0 : Hid (v0.heap[w.heap.size]? = some (Obj.cells #[.slice a1 x.nodes.length c1, .int .i64 x.root] 130)) := k0
 have K1 : Hid (v0.heap[w.heap.size + 1]? = some (Obj.cells #[.slice none 0 0, .int .i64 0] 73)) := k1
 have K2 : Hid (v0.heap[w.heap.size + 1 + 1]? = some (Obj.cells #[.slice none 0 0, .int .i64 0] 73)) := k2
 clear k0 k1 k2
 go_wp2
 have K3 : ((v0.setCell ⟨w.heap.size + 1 + 1, 0, none⟩ (.slice (some ⟨g0, 0, none⟩) x.nodes.length x.nodes.length)).setCell ⟨w.heap.size + 1 + 1, 1, none⟩ (.int .i64 x.root)).heap[w.heap.size + 1]? = some (Obj.cells #[.slice none 0 0, .int .i64 0] 73) := by
  rw [heap_setCell_other _ _ _ _ (by simp), heap_setCell_other _ _ _ _ (by simp)]; exact K1.out
 refine bodyPost_ret (results_cell_row rfl _ _ (w.heap.size + 1) 73 #[.slice (some ⟨g0, 0, none⟩) x.nodes.length x.nodes.length, .int .i64 x.root] (0, 0) _ rfl (heap_setCell_same _ _ _ _ _ _ (heap_setCell_same _ _ _ _ _ _ (K3))) Tryz.underlying73 rfl (by kernel_rfl)) rfl ?_
 have hoth : ∀ b, w.heap.size + 3 ≤ b → ((((v0.setCell ⟨w.heap.size + 1 + 1, 0, none⟩ (.slice (some ⟨g0, 0, none⟩) x.nodes.length x.nodes.length)).setCell ⟨w.heap.size + 1 + 1, 1, none⟩ (.int .i64 x.root)).setCell ⟨w.heap.size + 1, 0, none⟩ (.slice (some ⟨g0, 0, none⟩) x.nodes.length x.nodes.length)).setCell ⟨w.heap.size + 1, 1, none⟩ (.int .i64 x.root)).heap[b]? = v0.heap[b]? := by
  intro b h
  rw [heap_setCell_other _ _ _ _ (by show b ≠ w.heap.size + 1; omega), heap_setCell_other _ _ _ _ (by show b ≠ w.heap.size + 1; omega), heap_setCell_other _ _ _ _ (by show b ≠ w.heap.size + 1 + 1; omega), heap_setCell_other _ _ _ _ (by show b ≠ w.heap.size + 1 + 1; omega)]
 exact ⟨_, rfl, ⟨_, _, rfl, ⟨R0_0.out.keep fun b h => ⟨⟨by have := h.1; omega, by have := h.2.1; simpa using this, h.2.2.keep (hoth b h.1)⟩, hoth b h.1⟩, Nat.le_refl _⟩⟩, (((hb1.setCell (p := ⟨_, _, none⟩) (by simp <;> omega) _).setCell (p := ⟨_, _, none⟩) (by simp <;> omega) _).setCell (p := ⟨_, _, none⟩) (by simp <;> omega) _).setCell (p := ⟨_, _, none⟩) (by simp <;> omega) _⟩
set_option maxRecDepth 100000 in
set_option maxHeartbeats 2000000 in
theorem tuE_Link (x : Lnk) (w : World) (hs : x.small) :
  Calls Tryz.prog 154 #[.agg #[.string x.name, .int .i64 x.inst, .string x.at_]] w fun e w' => MadeEU rgL x w e w' := by
 go_enter Tryz.func154, Tryz.ntmps154
 go_wp2
 refine bodyPost_ret (results_cell_row rfl _ _ (w.heap.size + 1) 141 #[.string x.name, .int .i64 x.inst, .string x.at_] (0, 0) _ rfl (blk_past (blk_at _ _ _ (by simp))) Tryz.underlying141 rfl (by kernel_rfl)) rfl ?_
 exact ⟨_, rfl, rfl, (((Below.refl _ _).alloc (Nat.le_refl _) _).alloc (by simp) _).alloc (by simp; omega) _⟩
theorem Tryz.infu_Link : (Tryz.prog.info? 141).map (fun i => (i.zero, i.size, i.bytes)) = some (some (.agg #[.string ⟨#[]⟩, .int .i64 0, .string ⟨#[]⟩]), 3, 40) := by kernel_rfl
set_option maxRecDepth 100000 in
set_option maxHeartbeats 2000000 in
theorem tu_Link (a : Option Addr) (l : List Lnk) (cap : Nat) (w : World) (hn : l.length ≤ 1048576) (hsm : ∀ d ∈ l, Lnk.small d) (hr : rgL.Row w (fun b => b < w.heap.size) a l) :
  Calls Tryz.prog 126 #[.slice a l.length cap] w fun e w' => MadeU rgL l w e w' := by
 obtain ⟨i0, hi, hz0, hz1, hz2⟩ := info_parts Tryz.infu_Link
 have HR : Hid (rgL.Row w (fun b => b < w.heap.size) a l) := hr
 have HS : Hid (∀ d ∈ l, Lnk.small d) := hsm
 clear hr hsm
 go_enter Tryz.func126, Tryz.ntmps126
 go_wp2_with (at_make; refine wpList_make_full _ rfl _ _ 134 rfl w.heap.size 141 i0 _ 3 Tryz.underlying134 hi hz0 hz1 .i64 .i64 _ _ l.length rfl rfl rfl rfl ?c1 ?c2 ?c3 ?_)
 case c1 => rw [hz2]; omega
 case c2 => simp [maxLen]; omega
 case c3 => exact Nat.le_refl _
 intro w1 hown1 hgr1
 go_wp2
 have hb1 : Below w.heap.size w w1 := (Below.refl _ _).grown hgr1 (Nat.le_refl _) (fun _ h => by cases h)
 obtain ⟨hlen, ⟨h0, _⟩ | ⟨g, cp, cur, hv, _, hblk, _, _, hcs, _⟩⟩ := hown1
 ·cases h0
 simp only [Value.slice.injEq, Option.some.injEq, Addr.mk.injEq] at hv
 obtain ⟨⟨rfl, _⟩, _, rfl⟩ := hv
 clear hlen
 go_loopw [4] (fun o wr => ∃ (i : Nat) (cur : Array Value), i ≤ l.length ∧ wr.heap[w.heap.size]? = some (.cells cur 141 (0, 0)) ∧ cur.size = l.length * 3 ∧ LaidU rgL wr w.heap.size i l ∧ o = .int .i64 i ∧ Below w.heap.size w wr)
  (fun o _ => l.length - (intOf o).toNat)
 case atStart => exact ⟨0, cur, by omega, hblk, hcs, LaidU.zero, rfl, hb1⟩
 case round =>
  clear hblk hcs hb1 hgr1
  obtain ⟨i, cur, hi, hblk, hcs, hat0, rfl, hb⟩ := hrel
  have HA : Hid (LaidU rgL wr w.heap.size i l) := hat0
  have HK : Hid (wr.heap[w.heap.size]? = some (.cells cur 141 (0, 0))) := hblk
  have hlt2 : w.heap.size < wr.heap.size := (Array.getElem?_eq_some_iff.1 hblk).1
  clear hat0 hblk
  by_cases hlt : i < l.length
  ·obtain ⟨d, hd⟩ : ∃ d, l[i]? = some d := ⟨_, List.getElem?_eq_getElem hlt⟩
   obtain ⟨b1, o1, cs, rfl, hbb, hat, hlies⟩ := HR.out i d hd
   obtain rfl := hat
   have cx0 : wr.cell? ⟨b1, o1 + i * 3, none⟩ = some (.string d.name) := cell_keep (hlies 0 _ rfl) hb hbb
   have cx1 : wr.cell? ⟨b1, o1 + i * 3 + 1, none⟩ = some (.int .i64 d.inst) := cell_keep (hlies 1 _ rfl) hb hbb
   have cx2 : wr.cell? ⟨b1, o1 + i * 3 + 2, none⟩ = some (.string d.at_) := cell_keep (hlies 2 _ rfl) hb hbb
   have hsz := hb.size
   have HT : Hid (Calls Tryz.prog 154 #[.agg #[.string d.name, .int .i64 d.inst, .string d.at_]] wr fun e w' => MadeEU rgL d wr e w') := tuE_Link d   wr (HS.out d (List.mem_of_getElem? hd))
   have HD : Hid (l[i]? = some d) := hd
   clear hlies hd
   go_wp2_with fail
   refine HT.out.mono ?_
   rintro e w2 ⟨cs2, rfl, hat2, hb2⟩
   obtain rfl := hat2
   have HA2 : Hid (rgL.At w2 (fun b => wr.heap.size ≤ b ∧ b < w2.heap.size ∧ Unf w2 b) [.string d.name, .int .i64 d.inst, .string d.at_] d) := rfl
   have hk2 := blk_keep HK.out hb2 hlt2
   have f0 := frozen_blk hk2 (i * 3)
   obtain ⟨x0, e0⟩ := cell_blk' hk2 (i * 3) (by omega)
   have f1 := frozen_blk hk2 (i * 3 + 1)
   obtain ⟨x1, e1⟩ := cell_blk' hk2 (i * 3 + 1) (by omega)
   have f2 := frozen_blk hk2 (i * 3 + 2)
   obtain ⟨x2, e2⟩ := cell_blk' hk2 (i * 3 + 2) (by omega)
   have HK2 : Hid (w2.heap[w.heap.size]? = some (.cells cur 141 (0, 0))) := hk2
   have HB2 : Hid (Below wr.heap.size wr w2) := hb2
   clear hk2 HT hb2
   go_wp2
   go_roundw
   case rel =>
    have hput : putL w2 w.heap.size (i * 3) [.string d.name, .int .i64 d.inst, .string d.at_] = (((w2.setCell ⟨w.heap.size, i * 3, none⟩ (.string d.name)).setCell ⟨w.heap.size, i * 3 + 1, none⟩ (.int .i64 d.inst)).setCell ⟨w.heap.size, i * 3 + 2, none⟩ (.string d.at_)) := by simp only [putL, Nat.add_assoc, Nat.reduceAdd]
    rw [← hput]
    obtain ⟨ys, hy1, hy2⟩ := putL_blk [.string d.name, .int .i64 d.inst, .string d.at_] (i * 3) HK2.out
    refine ⟨i + 1, ys, by omega, hy1, by omega, HA.out.next HD.out hlt2 HB2.out HA2.out HK2.out (by show i * 3 + 3 ≤ cur.size; omega), by go_num, putL_below [.string d.name, .int .i64 d.inst, .string d.at_] (i * 3) (hb.trans (HB2.out.mono hsz)) (Nat.le_refl _)⟩
   case measure => simp [intOf]; omega
  ·have hlt' : decide ((i : Int) < (l.length : Int)) = false := by simp; omega
   obtain rfl : i = l.length := by omega
   go_wp2
   go_ret
   exact ⟨w.heap.size, rfl, HA.out.row hlt2 ⟨_, _, HK.out⟩, hb⟩
set_option maxRecDepth 100000 in
set_option maxHeartbeats 2000000 in
theorem tuE_Type (x : Typ) (w : World) (hs : x.small) :
  Calls Tryz.prog 155 #[.agg #[.string x.name, .int .i64 x.size]] w fun e w' => MadeEU rgT x w e w' := by
 go_enter Tryz.func155, Tryz.ntmps155
 go_wp2
 refine bodyPost_ret (results_cell_row rfl _ _ (w.heap.size + 1) 144 #[.string x.name, .int .i64 x.size] (0, 0) _ rfl (blk_past (blk_at _ _ _ (by simp))) Tryz.underlying144 rfl (by kernel_rfl)) rfl ?_
 exact ⟨_, rfl, rfl, (((Below.refl _ _).alloc (Nat.le_refl _) _).alloc (by simp) _).alloc (by simp; omega) _⟩
theorem Tryz.infu_Type : (Tryz.prog.info? 144).map (fun i => (i.zero, i.size, i.bytes)) = some (some (.agg #[.string ⟨#[]⟩, .int .i64 0]), 2, 24) := by kernel_rfl
set_option maxRecDepth 100000 in
set_option maxHeartbeats 2000000 in
theorem tu_Type (a : Option Addr) (l : List Typ) (cap : Nat) (w : World) (hn : l.length ≤ 1048576) (hsm : ∀ d ∈ l, Typ.small d) (hr : rgT.Row w (fun b => b < w.heap.size) a l) :
  Calls Tryz.prog 127 #[.slice a l.length cap] w fun e w' => MadeU rgT l w e w' := by
 obtain ⟨i0, hi, hz0, hz1, hz2⟩ := info_parts Tryz.infu_Type
 have HR : Hid (rgT.Row w (fun b => b < w.heap.size) a l) := hr
 have HS : Hid (∀ d ∈ l, Typ.small d) := hsm
 clear hr hsm
 go_enter Tryz.func127, Tryz.ntmps127
 go_wp2_with (at_make; refine wpList_make_full _ rfl _ _ 135 rfl w.heap.size 144 i0 _ 2 Tryz.underlying135 hi hz0 hz1 .i64 .i64 _ _ l.length rfl rfl rfl rfl ?c1 ?c2 ?c3 ?_)
 case c1 => rw [hz2]; omega
 case c2 => simp [maxLen]; omega
 case c3 => exact Nat.le_refl _
 intro w1 hown1 hgr1
 go_wp2
 have hb1 : Below w.heap.size w w1 := (Below.refl _ _).grown hgr1 (Nat.le_refl _) (fun _ h => by cases h)
 obtain ⟨hlen, ⟨h0, _⟩ | ⟨g, cp, cur, hv, _, hblk, _, _, hcs, _⟩⟩ := hown1
 ·cases h0
 simp only [Value.slice.injEq, Option.some.injEq, Addr.mk.injEq] at hv
 obtain ⟨⟨rfl, _⟩, _, rfl⟩ := hv
 clear hlen
 go_loopw [4] (fun o wr => ∃ (i : Nat) (cur : Array Value), i ≤ l.length ∧ wr.heap[w.heap.size]? = some (.cells cur 144 (0, 0)) ∧ cur.size = l.length * 2 ∧ LaidU rgT wr w.heap.size i l ∧ o = .int .i64 i ∧ Below w.heap.size w wr)
  (fun o _ => l.length - (intOf o).toNat)
 case atStart => exact ⟨0, cur, by omega, hblk, hcs, LaidU.zero, rfl, hb1⟩
 case round =>
  clear hblk hcs hb1 hgr1
  obtain ⟨i, cur, hi, hblk, hcs, hat0, rfl, hb⟩ := hrel
  have HA : Hid (LaidU rgT wr w.heap.size i l) := hat0
  have HK : Hid (wr.heap[w.heap.size]? = some (.cells cur 144 (0, 0))) := hblk
  have hlt2 : w.heap.size < wr.heap.size := (Array.getElem?_eq_some_iff.1 hblk).1
  clear hat0 hblk
  by_cases hlt : i < l.length
  ·obtain ⟨d, hd⟩ : ∃ d, l[i]? = some d := ⟨_, List.getElem?_eq_getElem hlt⟩
   obtain ⟨b1, o1, cs, rfl, hbb, hat, hlies⟩ := HR.out i d hd
   obtain rfl := hat
   have cx0 : wr.cell? ⟨b1, o1 + i * 2, none⟩ = some (.string d.name) := cell_keep (hlies 0 _ rfl) hb hbb
   have cx1 : wr.cell? ⟨b1, o1 + i * 2 + 1, none⟩ = some (.int .i64 d.size) := cell_keep (hlies 1 _ rfl) hb hbb
   have hsz := hb.size
   have HT : Hid (Calls Tryz.prog 155 #[.agg #[.string d.name, .int .i64 d.size]] wr fun e w' => MadeEU rgT d wr e w') := tuE_Type d   wr (HS.out d (List.mem_of_getElem? hd))
   have HD : Hid (l[i]? = some d) := hd
   clear hlies hd
   go_wp2_with fail
   refine HT.out.mono ?_
   rintro e w2 ⟨cs2, rfl, hat2, hb2⟩
   obtain rfl := hat2
   have HA2 : Hid (rgT.At w2 (fun b => wr.heap.size ≤ b ∧ b < w2.heap.size ∧ Unf w2 b) [.string d.name, .int .i64 d.size] d) := rfl
   have hk2 := blk_keep HK.out hb2 hlt2
   have f0 := frozen_blk hk2 (i * 2)
   obtain ⟨x0, e0⟩ := cell_blk' hk2 (i * 2) (by omega)
   have f1 := frozen_blk hk2 (i * 2 + 1)
   obtain ⟨x1, e1⟩ := cell_blk' hk2 (i * 2 + 1) (by omega)
   have HK2 : Hid (w2.heap[w.heap.size]? = some (.cells cur 144 (0, 0))) := hk2
   have HB2 : Hid (Below wr.heap.size wr w2) := hb2
   clear hk2 HT hb2
   go_wp2
   go_roundw
   case rel =>
    have hput : putL w2 w.heap.size (i * 2) [.string d.name, .int .i64 d.size] = ((w2.setCell ⟨w.heap.size, i * 2, none⟩ (.string d.name)).setCell ⟨w.heap.size, i * 2 + 1, none⟩ (.int .i64 d.size)) := by simp only [putL]
    rw [← hput]
    obtain ⟨ys, hy1, hy2⟩ := putL_blk [.string d.name, .int .i64 d.size] (i * 2) HK2.out
    refine ⟨i + 1, ys, by omega, hy1, by omega, HA.out.next HD.out hlt2 HB2.out HA2.out HK2.out (by show i * 2 + 2 ≤ cur.size; omega), by go_num, putL_below [.string d.name, .int .i64 d.size] (i * 2) (hb.trans (HB2.out.mono hsz)) (Nat.le_refl _)⟩
   case measure => simp [intOf]; omega
  ·have hlt' : decide ((i : Int) < (l.length : Int)) = false := by simp; omega
   obtain rfl : i = l.length := by omega
   go_wp2
   go_ret
   exact ⟨w.heap.size, rfl, HA.out.row hlt2 ⟨_, _, HK.out⟩, hb⟩
set_option maxRecDepth 100000 in
set_option maxHeartbeats 2000000 in
theorem tuE_Inst (x : Ins) (a1 a2 a3 a4 : Option Addr) (c1 c2 c3 c4 : Nat) (w : World) (hs : x.small) (hr : InsRows w (fun b => b < w.heap.size) a1 a2 a3 a4 c1 c2 c3 c4 x) :
  Calls Tryz.prog 84 #[.agg #[.string x.lib, .int .i64 x.ver, .slice a1 x.names.length c1, .slice a2 x.vals.length c2, .slice a3 x.links.length c3, .slice a4 x.types.length c4]] w fun e w' => MadeEU rgX x w e w' := by
 obtain ⟨u0, u1, u2, u3, u4, u5⟩ := hs
 obtain ⟨⟨r1, t1⟩, ⟨r2, t2⟩, ⟨r3, t3⟩, ⟨r4, t4⟩⟩ := hr
 have HC0 : Hid (∀ w2, Below w.heap.size w w2 → Calls Tryz.prog 39 #[.slice a1 x.names.length c1] w2 fun e w' => MadeU rgS x.names w2 e w') := fun w2 h2 => tu_string a1 x.names c1 w2 u2.1 u2.2 (r1.keep fun b h => ⟨by have := h2.size; omega, h2.block b h⟩)
 have HC1 : Hid (∀ w2, Below w.heap.size w w2 → Calls Tryz.prog 125 #[.slice a2 x.vals.length c2] w2 fun e w' => MadeU rgV x.vals w2 e w') := fun w2 h2 => tu_Value a2 x.vals c2 w2 u3.1 u3.2 (r2.keep fun b h => ⟨by have := h2.size; omega, h2.block b h⟩)
 have HC2 : Hid (∀ w2, Below w.heap.size w w2 → Calls Tryz.prog 126 #[.slice a3 x.links.length c3] w2 fun e w' => MadeU rgL x.links w2 e w') := fun w2 h2 => tu_Link a3 x.links c3 w2 u4.1 u4.2 (r3.keep fun b h => ⟨by have := h2.size; omega, h2.block b h⟩)
 have HC3 : Hid (∀ w2, Below w.heap.size w w2 → Calls Tryz.prog 127 #[.slice a4 x.types.length c4] w2 fun e w' => MadeU rgT x.types w2 e w') := fun w2 h2 => tu_Type a4 x.types c4 w2 u5.1 u5.2 (r4.keep fun b h => ⟨by have := h2.size; omega, h2.block b h⟩)
 clear r1 r2 r3 r4
 go_enter Tryz.func84, Tryz.ntmps84
 go_wp2_with fail
 have hb : Below w.heap.size w (((w.alloc (Obj.cells #[.string x.lib, .int .i64 x.ver, .slice a1 x.names.length c1, .slice a2 x.vals.length c2, .slice a3 x.links.length c3, .slice a4 x.types.length c4] 126)).alloc (Obj.cells #[.string ⟨#[]⟩, .int .i64 0, .slice none 0 0, .slice none 0 0, .slice none 0 0, .slice none 0 0] 137)).alloc (Obj.cells #[.string x.lib, .int .i64 x.ver, .slice none 0 0, .slice none 0 0, .slice none 0 0, .slice none 0 0] 137)) := (((Below.refl _ _).alloc (Nat.le_refl _) _).alloc (by simp) _).alloc (by simp; omega) _
 have k0 : (((w.alloc (Obj.cells #[.string x.lib, .int .i64 x.ver, .slice a1 x.names.length c1, .slice a2 x.vals.length c2, .slice a3 x.links.length c3, .slice a4 x.types.length c4] 126)).alloc (Obj.cells #[.string ⟨#[]⟩, .int .i64 0, .slice none 0 0, .slice none 0 0, .slice none 0 0, .slice none 0 0] 137)).alloc (Obj.cells #[.string x.lib, .int .i64 x.ver, .slice none 0 0, .slice none 0 0, .slice none 0 0, .slice none 0 0] 137)).heap[w.heap.size]? = some (Obj.cells #[.string x.lib, .int .i64 x.ver, .slice a1 x.names.length c1, .slice a2 x.vals.length c2, .slice a3 x.links.length c3, .slice a4 x.types.length c4] 126) := blk_past (blk_past (blk_at _ _ _ rfl))
 have k1 : (((w.alloc (Obj.cells #[.string x.lib, .int .i64 x.ver, .slice a1 x.names.length c1, .slice a2 x.vals.length c2, .slice a3 x.links.length c3, .slice a4 x.types.length c4] 126)).alloc (Obj.cells #[.string ⟨#[]⟩, .int .i64 0, .slice none 0 0, .slice none 0 0, .slice none 0 0, .slice none 0 0] 137)).alloc (Obj.cells #[.string x.lib, .int .i64 x.ver, .slice none 0 0, .slice none 0 0, .slice none 0 0, .slice none 0 0] 137)).heap[w.heap.size + 1]? = some (Obj.cells #[.string ⟨#[]⟩, .int .i64 0, .slice none 0 0, .slice none 0 0, .slice none 0 0, .slice none 0 0] 137) := blk_past (blk_at _ _ _ (by simp))
 have k2 : (((w.alloc (Obj.cells #[.string x.lib, .int .i64 x.ver, .slice a1 x.names.length c1, .slice a2 x.vals.length c2, .slice a3 x.links.length c3, .slice a4 x.types.length c4] 126)).alloc (Obj.cells #[.string ⟨#[]⟩, .int .i64 0, .slice none 0 0, .slice none 0 0, .slice none 0 0, .slice none 0 0] 137)).alloc (Obj.cells #[.string x.lib, .int .i64 x.ver, .slice none 0 0, .slice none 0 0, .slice none 0 0, .slice none 0 0] 137)).heap[w.heap.size + 1 + 1]? = some (Obj.cells #[.string x.lib, .int .i64 x.ver, .slice none 0 0, .slice none 0 0, .slice none 0 0, .slice none 0 0] 137) := blk_at _ _ _ (by simp)
 have hz : w.heap.size + 3 ≤ (((w.alloc (Obj.cells #[.string x.lib, .int .i64 x.ver, .slice a1 x.names.length c1, .slice a2 x.vals.length c2, .slice a3 x.links.length c3, .slice a4 x.types.length c4] 126)).alloc (Obj.cells #[.string ⟨#[]⟩, .int .i64 0, .slice none 0 0, .slice none 0 0, .slice none 0 0, .slice none 0 0] 137)).alloc (Obj.cells #[.string x.lib, .int .i64 x.ver, .slice none 0 0, .slice none 0 0, .slice none 0 0, .slice none 0 0] 137)).heap.size := by simp
 generalize (((w.alloc (Obj.cells #[.string x.lib, .int .i64 x.ver, .slice a1 x.names.length c1, .slice a2 x.vals.length c2, .slice a3 x.links.length c3, .slice a4 x.types.length c4] 126)).alloc (Obj.cells #[.string ⟨#[]⟩, .int .i64 0, .slice none 0 0, .slice none 0 0, .slice none 0 0, .slice none 0 0] 137)).alloc (Obj.cells #[.string x.lib, .int .i64 x.ver, .slice none 0 0, .slice none 0 0, .slice none 0 0, .slice none 0 0] 137)) = wA at *
 refine (HC0.out _ hb).mono ?_
 rintro e v0 ⟨g0, rfl, hrow, hv⟩
 have hb1 : Below w.heap.size w v0 := hb.trans (hv.mono hb.size)
 have hsv := hv.size
 have k0 := blk_keep k0 hv (by omega)
 have k1 := blk_keep k1 hv (by omega)
 have k2 := blk_keep k2 hv (by omega)
 have R0_0 : rgS.Row v0 (fun b => w.heap.size + 3 ≤ b ∧ b < v0.heap.size ∧ Unf v0 b) (some ⟨g0, 0, none⟩) x.names := hrow.keep fun b h => ⟨⟨by have := h.1; omega, h.2⟩, rfl⟩
 clear hb hv hrow
 have R0_0 : Hid (rgS.Row v0 (fun b => w.heap.size + 3 ≤ b ∧ b < v0.heap.size ∧ Unf v0 b) (some ⟨g0, 0, none⟩) x.names) := R0_0
 have p0 := cell_blk (j := 0) k0 rfl
 have p1 := cell_blk (j := 1) k0 rfl
 have p2 := cell_blk (j := 2) k0 rfl
 have p3 := cell_blk (j := 3) k0 rfl
 have p4 := cell_blk (j := 4) k0 rfl
 have p5 := cell_blk (j := 5) k0 rfl
 have o0 := cell_blk (j := 0) k2 rfl
 have o1 := cell_blk (j := 1) k2 rfl
 have o2 := cell_blk (j := 2) k2 rfl
 have o3 := cell_blk (j := 3) k2 rfl
 have o4 := cell_blk (j := 4) k2 rfl
 have o5 := cell_blk (j := 5) k2 rfl
 have f2 := frozen_blk k2 2
 have K0 : Hid (v0.heap[w.heap.size]? = some (Obj.cells #[.string x.lib, .int .i64 x.ver, .slice a1 x.names.length c1, .slice a2 x.vals.length c2, .slice a3 x.links.length c3, .slice a4 x.types.length c4] 126)) := k0
 have K1 : Hid (v0.heap[w.heap.size + 1]? = some (Obj.cells #[.string ⟨#[]⟩, .int .i64 0, .slice none 0 0, .slice none 0 0, .slice none 0 0, .slice none 0 0] 137)) := k1
 have K2 : Hid (v0.heap[w.heap.size + 1 + 1]? = some (Obj.cells #[.string x.lib, .int .i64 x.ver, .slice none 0 0, .slice none 0 0, .slice none 0 0, .slice none 0 0] 137)) := k2
 clear k0 k1 k2
 go_wp2_with fail
 have k0 : (v0.setCell ⟨w.heap.size + 1 + 1, 2, none⟩ (.slice (some ⟨g0, 0, none⟩) x.names.length x.names.length)).heap[w.heap.size]? = some (Obj.cells #[.string x.lib, .int .i64 x.ver, .slice a1 x.names.length c1, .slice a2 x.vals.length c2, .slice a3 x.links.length c3, .slice a4 x.types.length c4] 126) := by
  rw [heap_setCell_other _ _ _ _ (by simp; try omega)]; exact K0.out
 have k1 : (v0.setCell ⟨w.heap.size + 1 + 1, 2, none⟩ (.slice (some ⟨g0, 0, none⟩) x.names.length x.names.length)).heap[w.heap.size + 1]? = some (Obj.cells #[.string ⟨#[]⟩, .int .i64 0, .slice none 0 0, .slice none 0 0, .slice none 0 0, .slice none 0 0] 137) := by
  rw [heap_setCell_other _ _ _ _ (by simp)]; exact K1.out
 have k2 : (v0.setCell ⟨w.heap.size + 1 + 1, 2, none⟩ (.slice (some ⟨g0, 0, none⟩) x.names.length x.names.length)).heap[w.heap.size + 1 + 1]? = some (Obj.cells #[.string x.lib, .int .i64 x.ver, .slice (some ⟨g0, 0, none⟩) x.names.length x.names.length, .slice none 0 0, .slice none 0 0, .slice none 0 0] 137) := heap_setCell_same _ _ _ _ _ _ (K2.out)
 have hb : Below w.heap.size w (v0.setCell ⟨w.heap.size + 1 + 1, 2, none⟩ (.slice (some ⟨g0, 0, none⟩) x.names.length x.names.length)) := hb1.setCell (p := ⟨_, _, none⟩) (by simp; omega) _
 have hz : w.heap.size + 3 ≤ (v0.setCell ⟨w.heap.size + 1 + 1, 2, none⟩ (.slice (some ⟨g0, 0, none⟩) x.names.length x.names.length)).heap.size := by simp; omega
 have hoE : ∀ b, w.heap.size + 3 ≤ b → (v0.setCell ⟨w.heap.size + 1 + 1, 2, none⟩ (.slice (some ⟨g0, 0, none⟩) x.names.length x.names.length)).heap[b]? = v0.heap[b]? := by
  intro b h
  rw [heap_setCell_other _ _ _ _ (by show b ≠ w.heap.size + 1 + 1; omega)]
 have R0_0 : Hid (rgS.Row (v0.setCell ⟨w.heap.size + 1 + 1, 2, none⟩ (.slice (some ⟨g0, 0, none⟩) x.names.length x.names.length)) (fun b => w.heap.size + 3 ≤ b ∧ b < (v0.setCell ⟨w.heap.size + 1 + 1, 2, none⟩ (.slice (some ⟨g0, 0, none⟩) x.names.length x.names.length)).heap.size ∧ Unf (v0.setCell ⟨w.heap.size + 1 + 1, 2, none⟩ (.slice (some ⟨g0, 0, none⟩) x.names.length x.names.length)) b) (some ⟨g0, 0, none⟩) x.names) := R0_0.out.keep fun b h => ⟨⟨h.1, by have := h.2.1; simpa using this, h.2.2.keep (hoE b h.1)⟩, hoE b h.1⟩
 clear hoE K0 K1 K2 hb1 hsv p0 o0 p1 o1 p2 o2 p3 o3 p4 o4 p5 o5 f2
 generalize (v0.setCell ⟨w.heap.size + 1 + 1, 2, none⟩ (.slice (some ⟨g0, 0, none⟩) x.names.length x.names.length)) = w0A at *
 refine (HC1.out _ hb).mono ?_
 rintro e v1 ⟨g1, rfl, hrow, hv⟩
 have hb1 : Below w.heap.size w v1 := hb.trans (hv.mono hb.size)
 have hsv := hv.size
 have k0 := blk_keep k0 hv (by omega)
 have k1 := blk_keep k1 hv (by omega)
 have k2 := blk_keep k2 hv (by omega)
 have R0_0 : rgS.Row v1 (fun b => w.heap.size + 3 ≤ b ∧ b < v1.heap.size ∧ Unf v1 b) (some ⟨g0, 0, none⟩) x.names := R0_0.out.keep fun b h => ⟨⟨h.1, by have := h.2.1; omega, h.2.2.keep (hv.block b h.2.1)⟩, hv.block b h.2.1⟩
 have R1_0 : rgV.Row v1 (fun b => w.heap.size + 3 ≤ b ∧ b < v1.heap.size ∧ Unf v1 b) (some ⟨g1, 0, none⟩) x.vals := hrow.keep fun b h => ⟨⟨by have := h.1; omega, h.2⟩, rfl⟩
 clear hb hv hrow
 have R0_0 : Hid (rgS.Row v1 (fun b => w.heap.size + 3 ≤ b ∧ b < v1.heap.size ∧ Unf v1 b) (some ⟨g0, 0, none⟩) x.names) := R0_0
 have R1_0 : Hid (rgV.Row v1 (fun b => w.heap.size + 3 ≤ b ∧ b < v1.heap.size ∧ Unf v1 b) (some ⟨g1, 0, none⟩) x.vals) := R1_0
 have p0 := cell_blk (j := 0) k0 rfl
 have p1 := cell_blk (j := 1) k0 rfl
 have p2 := cell_blk (j := 2) k0 rfl
 have p3 := cell_blk (j := 3) k0 rfl
 have p4 := cell_blk (j := 4) k0 rfl
 have p5 := cell_blk (j := 5) k0 rfl
 have o0 := cell_blk (j := 0) k2 rfl
 have o1 := cell_blk (j := 1) k2 rfl
 have o2 := cell_blk (j := 2) k2 rfl
 have o3 := cell_blk (j := 3) k2 rfl
 have o4 := cell_blk (j := 4) k2 rfl
 have o5 := cell_blk (j := 5) k2 rfl
 have f3 := frozen_blk k2 3
 have K0 : Hid (v1.heap[w.heap.size]? = some (Obj.cells #[.string x.lib, .int .i64 x.ver, .slice a1 x.names.length c1, .slice a2 x.vals.length c2, .slice a3 x.links.length c3, .slice a4 x.types.length c4] 126)) := k0
 have K1 : Hid (v1.heap[w.heap.size + 1]? = some (Obj.cells #[.string ⟨#[]⟩, .int .i64 0, .slice none 0 0, .slice none 0 0, .slice none 0 0, .slice none 0 0] 137)) := k1
 have K2 : Hid (v1.heap[w.heap.size + 1 + 1]? = some (Obj.cells #[.string x.lib, .int .i64 x.ver, .slice (some ⟨g0, 0, none⟩) x.names.length x.names.length, .slice none 0 0, .slice none 0 0, .slice none 0 0] 137)) := k2
 clear k0 k1 k2
 go_wp2_with fail
 have k0 : (v1.setCell ⟨w.heap.size + 1 + 1, 3, none⟩ (.slice (some ⟨g1, 0, none⟩) x.vals.length x.vals.length)).heap[w.heap.size]? = some (Obj.cells #[.string x.lib, .int .i64 x.ver, .slice a1 x.names.length c1, .slice a2 x.vals.length c2, .slice a3 x.links.length c3, .slice a4 x.types.length c4] 126) := by
  rw [heap_setCell_other _ _ _ _ (by simp; try omega)]; exact K0.out
 have k1 : (v1.setCell ⟨w.heap.size + 1 + 1, 3, none⟩ (.slice (some ⟨g1, 0, none⟩) x.vals.length x.vals.length)).heap[w.heap.size + 1]? = some (Obj.cells #[.string ⟨#[]⟩, .int .i64 0, .slice none 0 0, .slice none 0 0, .slice none 0 0, .slice none 0 0] 137) := by
  rw [heap_setCell_other _ _ _ _ (by simp)]; exact K1.out
 have k2 : (v1.setCell ⟨w.heap.size + 1 + 1, 3, none⟩ (.slice (some ⟨g1, 0, none⟩) x.vals.length x.vals.length)).heap[w.heap.size + 1 + 1]? = some (Obj.cells #[.string x.lib, .int .i64 x.ver, .slice (some ⟨g0, 0, none⟩) x.names.length x.names.length, .slice (some ⟨g1, 0, none⟩) x.vals.length x.vals.length, .slice none 0 0, .slice none 0 0] 137) := heap_setCell_same _ _ _ _ _ _ (K2.out)
 have hb : Below w.heap.size w (v1.setCell ⟨w.heap.size + 1 + 1, 3, none⟩ (.slice (some ⟨g1, 0, none⟩) x.vals.length x.vals.length)) := hb1.setCell (p := ⟨_, _, none⟩) (by simp; omega) _
 have hz : w.heap.size + 3 ≤ (v1.setCell ⟨w.heap.size + 1 + 1, 3, none⟩ (.slice (some ⟨g1, 0, none⟩) x.vals.length x.vals.length)).heap.size := by simp; omega
 have hoE : ∀ b, w.heap.size + 3 ≤ b → (v1.setCell ⟨w.heap.size + 1 + 1, 3, none⟩ (.slice (some ⟨g1, 0, none⟩) x.vals.length x.vals.length)).heap[b]? = v1.heap[b]? := by
  intro b h
  rw [heap_setCell_other _ _ _ _ (by show b ≠ w.heap.size + 1 + 1; omega)]
 have R0_0 : Hid (rgS.Row (v1.setCell ⟨w.heap.size + 1 + 1, 3, none⟩ (.slice (some ⟨g1, 0, none⟩) x.vals.length x.vals.length)) (fun b => w.heap.size + 3 ≤ b ∧ b < (v1.setCell ⟨w.heap.size + 1 + 1, 3, none⟩ (.slice (some ⟨g1, 0, none⟩) x.vals.length x.vals.length)).heap.size ∧ Unf (v1.setCell ⟨w.heap.size + 1 + 1, 3, none⟩ (.slice (some ⟨g1, 0, none⟩) x.vals.length x.vals.length)) b) (some ⟨g0, 0, none⟩) x.names) := R0_0.out.keep fun b h => ⟨⟨h.1, by have := h.2.1; simpa using this, h.2.2.keep (hoE b h.1)⟩, hoE b h.1⟩
 have R1_0 : Hid (rgV.Row (v1.setCell ⟨w.heap.size + 1 + 1, 3, none⟩ (.slice (some ⟨g1, 0, none⟩) x.vals.length x.vals.length)) (fun b => w.heap.size + 3 ≤ b ∧ b < (v1.setCell ⟨w.heap.size + 1 + 1, 3, none⟩ (.slice (some ⟨g1, 0, none⟩) x.vals.length x.vals.length)).heap.size ∧ Unf (v1.setCell ⟨w.heap.size + 1 + 1, 3, none⟩ (.slice (some ⟨g1, 0, none⟩) x.vals.length x.vals.length)) b) (some ⟨g1, 0, none⟩) x.vals) := R1_0.out.keep fun b h => ⟨⟨h.1, by have := h.2.1; simpa using this, h.2.2.keep (hoE b h.1)⟩, hoE b h.1⟩
 clear hoE K0 K1 K2 hb1 hsv p0 o0 p1 o1 p2 o2 p3 o3 p4 o4 p5 o5 f3
 generalize (v1.setCell ⟨w.heap.size + 1 + 1, 3, none⟩ (.slice (some ⟨g1, 0, none⟩) x.vals.length x.vals.length)) = w1A at *
 refine (HC2.out _ hb).mono ?_
 rintro e v2 ⟨g2, rfl, hrow, hv⟩
 have hb1 : Below w.heap.size w v2 := hb.trans (hv.mono hb.size)
 have hsv := hv.size
 have k0 := blk_keep k0 hv (by omega)
 have k1 := blk_keep k1 hv (by omega)
 have k2 := blk_keep k2 hv (by omega)
 have R0_0 : rgS.Row v2 (fun b => w.heap.size + 3 ≤ b ∧ b < v2.heap.size ∧ Unf v2 b) (some ⟨g0, 0, none⟩) x.names := R0_0.out.keep fun b h => ⟨⟨h.1, by have := h.2.1; omega, h.2.2.keep (hv.block b h.2.1)⟩, hv.block b h.2.1⟩
 have R1_0 : rgV.Row v2 (fun b => w.heap.size + 3 ≤ b ∧ b < v2.heap.size ∧ Unf v2 b) (some ⟨g1, 0, none⟩) x.vals := R1_0.out.keep fun b h => ⟨⟨h.1, by have := h.2.1; omega, h.2.2.keep (hv.block b h.2.1)⟩, hv.block b h.2.1⟩
 have R2_0 : rgL.Row v2 (fun b => w.heap.size + 3 ≤ b ∧ b < v2.heap.size ∧ Unf v2 b) (some ⟨g2, 0, none⟩) x.links := hrow.keep fun b h => ⟨⟨by have := h.1; omega, h.2⟩, rfl⟩
 clear hb hv hrow
 have R0_0 : Hid (rgS.Row v2 (fun b => w.heap.size + 3 ≤ b ∧ b < v2.heap.size ∧ Unf v2 b) (some ⟨g0, 0, none⟩) x.names) := R0_0
 have R1_0 : Hid (rgV.Row v2 (fun b => w.heap.size + 3 ≤ b ∧ b < v2.heap.size ∧ Unf v2 b) (some ⟨g1, 0, none⟩) x.vals) := R1_0
 have R2_0 : Hid (rgL.Row v2 (fun b => w.heap.size + 3 ≤ b ∧ b < v2.heap.size ∧ Unf v2 b) (some ⟨g2, 0, none⟩) x.links) := R2_0
 have p0 := cell_blk (j := 0) k0 rfl
 have p1 := cell_blk (j := 1) k0 rfl
 have p2 := cell_blk (j := 2) k0 rfl
 have p3 := cell_blk (j := 3) k0 rfl
 have p4 := cell_blk (j := 4) k0 rfl
 have p5 := cell_blk (j := 5) k0 rfl
 have o0 := cell_blk (j := 0) k2 rfl
 have o1 := cell_blk (j := 1) k2 rfl
 have o2 := cell_blk (j := 2) k2 rfl
 have o3 := cell_blk (j := 3) k2 rfl
 have o4 := cell_blk (j := 4) k2 rfl
 have o5 := cell_blk (j := 5) k2 rfl
 have f4 := frozen_blk k2 4
 have K0 : Hid (v2.heap[w.heap.size]? = some (Obj.cells #[.string x.lib, .int .i64 x.ver, .slice a1 x.names.length c1, .slice a2 x.vals.length c2, .slice a3 x.links.length c3, .slice a4 x.types.length c4] 126)) := k0
 have K1 : Hid (v2.heap[w.heap.size + 1]? = some (Obj.cells #[.string ⟨#[]⟩, .int .i64 0, .slice none 0 0, .slice none 0 0, .slice none 0 0, .slice none 0 0] 137)) := k1
 have K2 : Hid (v2.heap[w.heap.size + 1 + 1]? = some (Obj.cells #[.string x.lib, .int .i64 x.ver, .slice (some ⟨g0, 0, none⟩) x.names.length x.names.length, .slice (some ⟨g1, 0, none⟩) x.vals.length x.vals.length, .slice none 0 0, .slice none 0 0] 137)) := k2
 clear k0 k1 k2
 go_wp2_with fail
 have k0 : (v2.setCell ⟨w.heap.size + 1 + 1, 4, none⟩ (.slice (some ⟨g2, 0, none⟩) x.links.length x.links.length)).heap[w.heap.size]? = some (Obj.cells #[.string x.lib, .int .i64 x.ver, .slice a1 x.names.length c1, .slice a2 x.vals.length c2, .slice a3 x.links.length c3, .slice a4 x.types.length c4] 126) := by
  rw [heap_setCell_other _ _ _ _ (by simp; try omega)]; exact K0.out
 have k1 : (v2.setCell ⟨w.heap.size + 1 + 1, 4, none⟩ (.slice (some ⟨g2, 0, none⟩) x.links.length x.links.length)).heap[w.heap.size + 1]? = some (Obj.cells #[.string ⟨#[]⟩, .int .i64 0, .slice none 0 0, .slice none 0 0, .slice none 0 0, .slice none 0 0] 137) := by
  rw [heap_setCell_other _ _ _ _ (by simp)]; exact K1.out
 have k2 : (v2.setCell ⟨w.heap.size + 1 + 1, 4, none⟩ (.slice (some ⟨g2, 0, none⟩) x.links.length x.links.length)).heap[w.heap.size + 1 + 1]? = some (Obj.cells #[.string x.lib, .int .i64 x.ver, .slice (some ⟨g0, 0, none⟩) x.names.length x.names.length, .slice (some ⟨g1, 0, none⟩) x.vals.length x.vals.length, .slice (some ⟨g2, 0, none⟩) x.links.length x.links.length, .slice none 0 0] 137) := heap_setCell_same _ _ _ _ _ _ (K2.out)
 have hb : Below w.heap.size w (v2.setCell ⟨w.heap.size + 1 + 1, 4, none⟩ (.slice (some ⟨g2, 0, none⟩) x.links.length x.links.length)) := hb1.setCell (p := ⟨_, _, none⟩) (by simp; omega) _
 have hz : w.heap.size + 3 ≤ (v2.setCell ⟨w.heap.size + 1 + 1, 4, none⟩ (.slice (some ⟨g2, 0, none⟩) x.links.length x.links.length)).heap.size := by simp; omega
 have hoE : ∀ b, w.heap.size + 3 ≤ b → (v2.setCell ⟨w.heap.size + 1 + 1, 4, none⟩ (.slice (some ⟨g2, 0, none⟩) x.links.length x.links.length)).heap[b]? = v2.heap[b]? := by
  intro b h
  rw [heap_setCell_other _ _ _ _ (by show b ≠ w.heap.size + 1 + 1; omega)]
 have R0_0 : Hid (rgS.Row (v2.setCell ⟨w.heap.size + 1 + 1, 4, none⟩ (.slice (some ⟨g2, 0, none⟩) x.links.length x.links.length)) (fun b => w.heap.size + 3 ≤ b ∧ b < (v2.setCell ⟨w.heap.size + 1 + 1, 4, none⟩ (.slice (some ⟨g2, 0, none⟩) x.links.length x.links.length)).heap.size ∧ Unf (v2.setCell ⟨w.heap.size + 1 + 1, 4, none⟩ (.slice (some ⟨g2, 0, none⟩) x.links.length x.links.length)) b) (some ⟨g0, 0, none⟩) x.names) := R0_0.out.keep fun b h => ⟨⟨h.1, by have := h.2.1; simpa using this, h.2.2.keep (hoE b h.1)⟩, hoE b h.1⟩
 have R1_0 : Hid (rgV.Row (v2.setCell ⟨w.heap.size + 1 + 1, 4, none⟩ (.slice (some ⟨g2, 0, none⟩) x.links.length x.links.length)) (fun b => w.heap.size + 3 ≤ b ∧ b < (v2.setCell ⟨w.heap.size + 1 + 1, 4, none⟩ (.slice (some ⟨g2, 0, none⟩) x.links.length x.links.length)).heap.size ∧ Unf (v2.setCell ⟨w.heap.size + 1 + 1, 4, none⟩ (.slice (some ⟨g2, 0, none⟩) x.links.length x.links.length)) b) (some ⟨g1, 0, none⟩) x.vals) := R1_0.out.keep fun b h => ⟨⟨h.1, by have := h.2.1; simpa using this, h.2.2.keep (hoE b h.1)⟩, hoE b h.1⟩
 have R2_0 : Hid (rgL.Row (v2.setCell ⟨w.heap.size + 1 + 1, 4, none⟩ (.slice (some ⟨g2, 0, none⟩) x.links.length x.links.length)) (fun b => w.heap.size + 3 ≤ b ∧ b < (v2.setCell ⟨w.heap.size + 1 + 1, 4, none⟩ (.slice (some ⟨g2, 0, none⟩) x.links.length x.links.length)).heap.size ∧ Unf (v2.setCell ⟨w.heap.size + 1 + 1, 4, none⟩ (.slice (some ⟨g2, 0, none⟩) x.links.length x.links.length)) b) (some ⟨g2, 0, none⟩) x.links) := R2_0.out.keep fun b h => ⟨⟨h.1, by have := h.2.1; simpa using this, h.2.2.keep (hoE b h.1)⟩, hoE b h.1⟩
 clear hoE K0 K1 K2 hb1 hsv p0 o0 p1 o1 p2 o2 p3 o3 p4 o4 p5 o5 f4
 generalize (v2.setCell ⟨w.heap.size + 1 + 1, 4, none⟩ (.slice (some ⟨g2, 0, none⟩) x.links.length x.links.length)) = w2A at *
 refine (HC3.out _ hb).mono ?_
 rintro e v3 ⟨g3, rfl, hrow, hv⟩
 have hb1 : Below w.heap.size w v3 := hb.trans (hv.mono hb.size)
 have hsv := hv.size
 have k0 := blk_keep k0 hv (by omega)
 have k1 := blk_keep k1 hv (by omega)
 have k2 := blk_keep k2 hv (by omega)
 have R0_0 : rgS.Row v3 (fun b => w.heap.size + 3 ≤ b ∧ b < v3.heap.size ∧ Unf v3 b) (some ⟨g0, 0, none⟩) x.names := R0_0.out.keep fun b h => ⟨⟨h.1, by have := h.2.1; omega, h.2.2.keep (hv.block b h.2.1)⟩, hv.block b h.2.1⟩
 have R1_0 : rgV.Row v3 (fun b => w.heap.size + 3 ≤ b ∧ b < v3.heap.size ∧ Unf v3 b) (some ⟨g1, 0, none⟩) x.vals := R1_0.out.keep fun b h => ⟨⟨h.1, by have := h.2.1; omega, h.2.2.keep (hv.block b h.2.1)⟩, hv.block b h.2.1⟩
 have R2_0 : rgL.Row v3 (fun b => w.heap.size + 3 ≤ b ∧ b < v3.heap.size ∧ Unf v3 b) (some ⟨g2, 0, none⟩) x.links := R2_0.out.keep fun b h => ⟨⟨h.1, by have := h.2.1; omega, h.2.2.keep (hv.block b h.2.1)⟩, hv.block b h.2.1⟩
 have R3_0 : rgT.Row v3 (fun b => w.heap.size + 3 ≤ b ∧ b < v3.heap.size ∧ Unf v3 b) (some ⟨g3, 0, none⟩) x.types := hrow.keep fun b h => ⟨⟨by have := h.1; omega, h.2⟩, rfl⟩
 clear hb hv hrow
 have R0_0 : Hid (rgS.Row v3 (fun b => w.heap.size + 3 ≤ b ∧ b < v3.heap.size ∧ Unf v3 b) (some ⟨g0, 0, none⟩) x.names) := R0_0
 have R1_0 : Hid (rgV.Row v3 (fun b => w.heap.size + 3 ≤ b ∧ b < v3.heap.size ∧ Unf v3 b) (some ⟨g1, 0, none⟩) x.vals) := R1_0
 have R2_0 : Hid (rgL.Row v3 (fun b => w.heap.size + 3 ≤ b ∧ b < v3.heap.size ∧ Unf v3 b) (some ⟨g2, 0, none⟩) x.links) := R2_0
 have R3_0 : Hid (rgT.Row v3 (fun b => w.heap.size + 3 ≤ b ∧ b < v3.heap.size ∧ Unf v3 b) (some ⟨g3, 0, none⟩) x.types) := R3_0
 have p0 := cell_blk (j := 0) k0 rfl
 have p1 := cell_blk (j := 1) k0 rfl
 have p2 := cell_blk (j := 2) k0 rfl
 have p3 := cell_blk (j := 3) k0 rfl
 have p4 := cell_blk (j := 4) k0 rfl
 have p5 := cell_blk (j := 5) k0 rfl
 have o0 := cell_blk (j := 0) k2 rfl
 have o1 := cell_blk (j := 1) k2 rfl
 have o2 := cell_blk (j := 2) k2 rfl
 have o3 := cell_blk (j := 3) k2 rfl
 have o4 := cell_blk (j := 4) k2 rfl
 have o5 := cell_blk (j := 5) k2 rfl
 have f5 := frozen_blk k2 5
 have s0 := cell_blk (j := 0) k1 rfl
 have l0 := frozen_blk k1 0
 have s1 := cell_blk (j := 1) k1 rfl
 have l1 := frozen_blk k1 1
 have s2 := cell_blk (j := 2) k1 rfl
 have l2 := frozen_blk k1 2
 have s3 := cell_blk (j := 3) k1 rfl
 have l3 := frozen_blk k1 3
 have s4 := cell_blk (j := 4) k1 rfl
 have l4 := frozen_blk k1 4
 have s5 := cell_blk (j := 5) k1 rfl
 have l5 := frozen_blk k1 5
 have K0 : Hid (v3.heap[w.heap.size]? = some (Obj.cells #[.string x.lib, .int .i64 x.ver, .slice a1 x.names.length c1, .slice a2 x.vals.length c2, .slice a3 x.links.length c3, .slice a4 x.types.length c4] 126)) := k0
 have K1 : Hid (v3.heap[w.heap.size + 1]? = some (Obj.cells #[.string ⟨#[]⟩, .int .i64 0, .slice none 0 0, .slice none 0 0, .slice none 0 0, .slice none 0 0] 137)) := k1
 have K2 : Hid (v3.heap[w.heap.size + 1 + 1]? = some (Obj.cells #[.string x.lib, .int .i64 x.ver, .slice (some ⟨g0, 0, none⟩) x.names.length x.names.length, .slice (some ⟨g1, 0, none⟩) x.vals.length x.vals.length, .slice (some ⟨g2, 0, none⟩) x.links.length x.links.length, .slice none 0 0] 137)) := k2
 clear k0 k1 k2
 go_wp2
 have K3 : (v3.setCell ⟨w.heap.size + 1 + 1, 5, none⟩ (.slice (some ⟨g3, 0, none⟩) x.types.length x.types.length)).heap[w.heap.size + 1]? = some (Obj.cells #[.string ⟨#[]⟩, .int .i64 0, .slice none 0 0, .slice none 0 0, .slice none 0 0, .slice none 0 0] 137) := by
  rw [heap_setCell_other _ _ _ _ (by simp)]; exact K1.out
 refine bodyPost_ret (results_cell_row rfl _ _ (w.heap.size + 1) 137 #[.string x.lib, .int .i64 x.ver, .slice (some ⟨g0, 0, none⟩) x.names.length x.names.length, .slice (some ⟨g1, 0, none⟩) x.vals.length x.vals.length, .slice (some ⟨g2, 0, none⟩) x.links.length x.links.length, .slice (some ⟨g3, 0, none⟩) x.types.length x.types.length] (0, 0) _ rfl (heap_setCell_same _ _ _ _ _ _ (heap_setCell_same _ _ _ _ _ _ (heap_setCell_same _ _ _ _ _ _ (heap_setCell_same _ _ _ _ _ _ (heap_setCell_same _ _ _ _ _ _ (heap_setCell_same _ _ _ _ _ _ (K3))))))) Tryz.underlying137 rfl (by kernel_rfl)) rfl ?_
 have hoth : ∀ b, w.heap.size + 3 ≤ b → (((((((v3.setCell ⟨w.heap.size + 1 + 1, 5, none⟩ (.slice (some ⟨g3, 0, none⟩) x.types.length x.types.length)).setCell ⟨w.heap.size + 1, 0, none⟩ (.string x.lib)).setCell ⟨w.heap.size + 1, 1, none⟩ (.int .i64 x.ver)).setCell ⟨w.heap.size + 1, 2, none⟩ (.slice (some ⟨g0, 0, none⟩) x.names.length x.names.length)).setCell ⟨w.heap.size + 1, 3, none⟩ (.slice (some ⟨g1, 0, none⟩) x.vals.length x.vals.length)).setCell ⟨w.heap.size + 1, 4, none⟩ (.slice (some ⟨g2, 0, none⟩) x.links.length x.links.length)).setCell ⟨w.heap.size + 1, 5, none⟩ (.slice (some ⟨g3, 0, none⟩) x.types.length x.types.length)).heap[b]? = v3.heap[b]? := by
  intro b h
  rw [heap_setCell_other _ _ _ _ (by show b ≠ w.heap.size + 1; omega), heap_setCell_other _ _ _ _ (by show b ≠ w.heap.size + 1; omega), heap_setCell_other _ _ _ _ (by show b ≠ w.heap.size + 1; omega), heap_setCell_other _ _ _ _ (by show b ≠ w.heap.size + 1; omega), heap_setCell_other _ _ _ _ (by show b ≠ w.heap.size + 1; omega), heap_setCell_other _ _ _ _ (by show b ≠ w.heap.size + 1; omega), heap_setCell_other _ _ _ _ (by show b ≠ w.heap.size + 1 + 1; omega)]
 exact ⟨_, rfl, ⟨_, _, _, _, _, _, _, _, rfl, ⟨⟨R0_0.out.keep fun b h => ⟨⟨by have := h.1; omega, by have := h.2.1; simpa using this, h.2.2.keep (hoth b h.1)⟩, hoth b h.1⟩, Nat.le_refl _⟩, ⟨R1_0.out.keep fun b h => ⟨⟨by have := h.1; omega, by have := h.2.1; simpa using this, h.2.2.keep (hoth b h.1)⟩, hoth b h.1⟩, Nat.le_refl _⟩, ⟨R2_0.out.keep fun b h => ⟨⟨by have := h.1; omega, by have := h.2.1; simpa using this, h.2.2.keep (hoth b h.1)⟩, hoth b h.1⟩, Nat.le_refl _⟩, ⟨R3_0.out.keep fun b h => ⟨⟨by have := h.1; omega, by have := h.2.1; simpa using this, h.2.2.keep (hoth b h.1)⟩, hoth b h.1⟩, Nat.le_refl _⟩⟩⟩, ((((((hb1.setCell (p := ⟨_, _, none⟩) (by simp <;> omega) _).setCell (p := ⟨_, _, none⟩) (by simp <;> omega) _).setCell (p := ⟨_, _, none⟩) (by simp <;> omega) _).setCell (p := ⟨_, _, none⟩) (by simp <;> omega) _).setCell (p := ⟨_, _, none⟩) (by simp <;> omega) _).setCell (p := ⟨_, _, none⟩) (by simp <;> omega) _).setCell (p := ⟨_, _, none⟩) (by simp <;> omega) _⟩
theorem Tryz.infu_Inst : (Tryz.prog.info? 137).map (fun i => (i.zero, i.size, i.bytes)) = some (some (.agg #[.string ⟨#[]⟩, .int .i64 0, .slice none 0 0, .slice none 0 0, .slice none 0 0, .slice none 0 0]), 6, 120) := by kernel_rfl
set_option maxRecDepth 100000 in
set_option maxHeartbeats 2000000 in
theorem tu_Inst (a : Option Addr) (l : List Ins) (cap : Nat) (w : World) (hn : l.length ≤ 1048576) (hsm : ∀ d ∈ l, Ins.small d) (hr : rgX.Row w (fun b => b < w.heap.size) a l) :
  Calls Tryz.prog 37 #[.slice a l.length cap] w fun e w' => MadeU rgX l w e w' := by
 obtain ⟨i0, hi, hz0, hz1, hz2⟩ := info_parts Tryz.infu_Inst
 have HR : Hid (rgX.Row w (fun b => b < w.heap.size) a l) := hr
 have HS : Hid (∀ d ∈ l, Ins.small d) := hsm
 clear hr hsm
 go_enter Tryz.func37, Tryz.ntmps37
 go_wp2_with (at_make; refine wpList_make_full _ rfl _ _ 31 rfl w.heap.size 137 i0 _ 6 Tryz.underlying31 hi hz0 hz1 .i64 .i64 _ _ l.length rfl rfl rfl rfl ?c1 ?c2 ?c3 ?_)
 case c1 => rw [hz2]; omega
 case c2 => simp [maxLen]; omega
 case c3 => exact Nat.le_refl _
 intro w1 hown1 hgr1
 go_wp2
 have hb1 : Below w.heap.size w w1 := (Below.refl _ _).grown hgr1 (Nat.le_refl _) (fun _ h => by cases h)
 obtain ⟨hlen, ⟨h0, _⟩ | ⟨g, cp, cur, hv, _, hblk, _, _, hcs, _⟩⟩ := hown1
 ·cases h0
 simp only [Value.slice.injEq, Option.some.injEq, Addr.mk.injEq] at hv
 obtain ⟨⟨rfl, _⟩, _, rfl⟩ := hv
 clear hlen
 go_loopw [4] (fun o wr => ∃ (i : Nat) (cur : Array Value), i ≤ l.length ∧ wr.heap[w.heap.size]? = some (.cells cur 137 (0, 0)) ∧ cur.size = l.length * 6 ∧ LaidU rgX wr w.heap.size i l ∧ o = .int .i64 i ∧ Below w.heap.size w wr)
  (fun o _ => l.length - (intOf o).toNat)
 case atStart => exact ⟨0, cur, by omega, hblk, hcs, LaidU.zero, rfl, hb1⟩
 case round =>
  clear hblk hcs hb1 hgr1
  obtain ⟨i, cur, hi, hblk, hcs, hat0, rfl, hb⟩ := hrel
  have HA : Hid (LaidU rgX wr w.heap.size i l) := hat0
  have HK : Hid (wr.heap[w.heap.size]? = some (.cells cur 137 (0, 0))) := hblk
  have hlt2 : w.heap.size < wr.heap.size := (Array.getElem?_eq_some_iff.1 hblk).1
  clear hat0 hblk
  by_cases hlt : i < l.length
  ·obtain ⟨d, hd⟩ : ∃ d, l[i]? = some d := ⟨_, List.getElem?_eq_getElem hlt⟩
   obtain ⟨b1, o1, cs, rfl, hbb, hat, hlies⟩ := HR.out i d hd
   obtain ⟨a1, a2, a3, a4, c1, c2, c3, c4, rfl, hrows⟩ := hat
   have cx0 : wr.cell? ⟨b1, o1 + i * 6, none⟩ = some (.string d.lib) := cell_keep (hlies 0 _ rfl) hb hbb
   have cx1 : wr.cell? ⟨b1, o1 + i * 6 + 1, none⟩ = some (.int .i64 d.ver) := cell_keep (hlies 1 _ rfl) hb hbb
   have cx2 : wr.cell? ⟨b1, o1 + i * 6 + 2, none⟩ = some (.slice a1 d.names.length c1) := cell_keep (hlies 2 _ rfl) hb hbb
   have cx3 : wr.cell? ⟨b1, o1 + i * 6 + 3, none⟩ = some (.slice a2 d.vals.length c2) := cell_keep (hlies 3 _ rfl) hb hbb
   have cx4 : wr.cell? ⟨b1, o1 + i * 6 + 4, none⟩ = some (.slice a3 d.links.length c3) := cell_keep (hlies 4 _ rfl) hb hbb
   have cx5 : wr.cell? ⟨b1, o1 + i * 6 + 5, none⟩ = some (.slice a4 d.types.length c4) := cell_keep (hlies 5 _ rfl) hb hbb
   have hsz := hb.size
   have HT : Hid (Calls Tryz.prog 84 #[.agg #[.string d.lib, .int .i64 d.ver, .slice a1 d.names.length c1, .slice a2 d.vals.length c2, .slice a3 d.links.length c3, .slice a4 d.types.length c4]] wr fun e w' => MadeEU rgX d wr e w') := tuE_Inst d a1 a2 a3 a4 c1 c2 c3 c4 wr (HS.out d (List.mem_of_getElem? hd)) (hrows.keep fun b h => ⟨by omega, hb.block b h⟩)
   have HD : Hid (l[i]? = some d) := hd
   clear hlies hd hrows
   go_wp2_with fail
   refine HT.out.mono ?_
   rintro e w2 ⟨cs2, rfl, hat2, hb2⟩
   obtain ⟨a1', a2', a3', a4', c1', c2', c3', c4', rfl, hrows2⟩ := hat2
   have HA2 : Hid (rgX.At w2 (fun b => wr.heap.size ≤ b ∧ b < w2.heap.size ∧ Unf w2 b) [.string d.lib, .int .i64 d.ver, .slice a1' d.names.length c1', .slice a2' d.vals.length c2', .slice a3' d.links.length c3', .slice a4' d.types.length c4'] d) := ⟨a1', a2', a3', a4', c1', c2', c3', c4', rfl, hrows2⟩
   have hk2 := blk_keep HK.out hb2 hlt2
   have f0 := frozen_blk hk2 (i * 6)
   obtain ⟨x0, e0⟩ := cell_blk' hk2 (i * 6) (by omega)
   have f1 := frozen_blk hk2 (i * 6 + 1)
   obtain ⟨x1, e1⟩ := cell_blk' hk2 (i * 6 + 1) (by omega)
   have f2 := frozen_blk hk2 (i * 6 + 2)
   obtain ⟨x2, e2⟩ := cell_blk' hk2 (i * 6 + 2) (by omega)
   have f3 := frozen_blk hk2 (i * 6 + 3)
   obtain ⟨x3, e3⟩ := cell_blk' hk2 (i * 6 + 3) (by omega)
   have f4 := frozen_blk hk2 (i * 6 + 4)
   obtain ⟨x4, e4⟩ := cell_blk' hk2 (i * 6 + 4) (by omega)
   have f5 := frozen_blk hk2 (i * 6 + 5)
   obtain ⟨x5, e5⟩ := cell_blk' hk2 (i * 6 + 5) (by omega)
   have HK2 : Hid (w2.heap[w.heap.size]? = some (.cells cur 137 (0, 0))) := hk2
   have HB2 : Hid (Below wr.heap.size wr w2) := hb2
   clear hk2 HT hb2 hrows2
   go_wp2
   go_roundw
   case rel =>
    have hput : putL w2 w.heap.size (i * 6) [.string d.lib, .int .i64 d.ver, .slice a1' d.names.length c1', .slice a2' d.vals.length c2', .slice a3' d.links.length c3', .slice a4' d.types.length c4'] = ((((((w2.setCell ⟨w.heap.size, i * 6, none⟩ (.string d.lib)).setCell ⟨w.heap.size, i * 6 + 1, none⟩ (.int .i64 d.ver)).setCell ⟨w.heap.size, i * 6 + 2, none⟩ (.slice a1' d.names.length c1')).setCell ⟨w.heap.size, i * 6 + 3, none⟩ (.slice a2' d.vals.length c2')).setCell ⟨w.heap.size, i * 6 + 4, none⟩ (.slice a3' d.links.length c3')).setCell ⟨w.heap.size, i * 6 + 5, none⟩ (.slice a4' d.types.length c4')) := by simp only [putL, Nat.add_assoc, Nat.reduceAdd]
    rw [← hput]
    obtain ⟨ys, hy1, hy2⟩ := putL_blk [.string d.lib, .int .i64 d.ver, .slice a1' d.names.length c1', .slice a2' d.vals.length c2', .slice a3' d.links.length c3', .slice a4' d.types.length c4'] (i * 6) HK2.out
    refine ⟨i + 1, ys, by omega, hy1, by omega, HA.out.next HD.out hlt2 HB2.out HA2.out HK2.out (by show i * 6 + 6 ≤ cur.size; omega), by go_num, putL_below [.string d.lib, .int .i64 d.ver, .slice a1' d.names.length c1', .slice a2' d.vals.length c2', .slice a3' d.links.length c3', .slice a4' d.types.length c4'] (i * 6) (hb.trans (HB2.out.mono hsz)) (Nat.le_refl _)⟩
   case measure => simp [intOf]; omega
  ·have hlt' : decide ((i : Int) < (l.length : Int)) = false := by simp; omega
   obtain rfl : i = l.length := by omega
   go_wp2
   go_ret
   exact ⟨w.heap.size, rfl, HA.out.row hlt2 ⟨_, _, HK.out⟩, hb⟩
set_option maxRecDepth 100000 in
set_option maxHeartbeats 2000000 in
theorem tuE_Unit (x : Unt) (a1 : Option Addr) (c1 : Nat) (w : World) (hs : x.small) (hr : UntRows w (fun b => b < w.heap.size) a1 c1 x) :
  Calls Tryz.prog 85 #[.agg #[.int .i64 x.home, .slice a1 x.prog.nodes.length c1, .int .i64 x.prog.root]] w fun e w' => MadeEU rgU x w e w' := by
 obtain ⟨u0, u1⟩ := hs
 obtain ⟨r1, t1⟩ := hr
 have HC0 : Hid (∀ w2, Below w.heap.size w w2 → Calls Tryz.prog 128 #[.agg #[.slice a1 x.prog.nodes.length c1, .int .i64 x.prog.root]] w2 fun e w' => MadeEU rgP x.prog w2 e w') := fun w2 h2 => tuE_Prog x.prog a1 c1 w2 u1 (PrgRows.keep (w := w) (p := (fun b => b < w.heap.size)) ⟨r1, t1⟩ fun b h => ⟨by have := h2.size; omega, h2.block b h⟩)
 clear r1
 go_enter Tryz.func85, Tryz.ntmps85
 go_wp2_with fail
 have hb : Below w.heap.size w (((w.alloc (Obj.cells #[.int .i64 x.home, .slice a1 x.prog.nodes.length c1, .int .i64 x.prog.root] 132)).alloc (Obj.cells #[.int .i64 0, .slice none 0 0, .int .i64 0] 75)).alloc (Obj.cells #[.int .i64 x.home, .slice none 0 0, .int .i64 0] 75)) := (((Below.refl _ _).alloc (Nat.le_refl _) _).alloc (by simp) _).alloc (by simp; omega) _
 have k0 : (((w.alloc (Obj.cells #[.int .i64 x.home, .slice a1 x.prog.nodes.length c1, .int .i64 x.prog.root] 132)).alloc (Obj.cells #[.int .i64 0, .slice none 0 0, .int .i64 0] 75)).alloc (Obj.cells #[.int .i64 x.home, .slice none 0 0, .int .i64 0] 75)).heap[w.heap.size]? = some (Obj.cells #[.int .i64 x.home, .slice a1 x.prog.nodes.length c1, .int .i64 x.prog.root] 132) := blk_past (blk_past (blk_at _ _ _ rfl))
 have k1 : (((w.alloc (Obj.cells #[.int .i64 x.home, .slice a1 x.prog.nodes.length c1, .int .i64 x.prog.root] 132)).alloc (Obj.cells #[.int .i64 0, .slice none 0 0, .int .i64 0] 75)).alloc (Obj.cells #[.int .i64 x.home, .slice none 0 0, .int .i64 0] 75)).heap[w.heap.size + 1]? = some (Obj.cells #[.int .i64 0, .slice none 0 0, .int .i64 0] 75) := blk_past (blk_at _ _ _ (by simp))
 have k2 : (((w.alloc (Obj.cells #[.int .i64 x.home, .slice a1 x.prog.nodes.length c1, .int .i64 x.prog.root] 132)).alloc (Obj.cells #[.int .i64 0, .slice none 0 0, .int .i64 0] 75)).alloc (Obj.cells #[.int .i64 x.home, .slice none 0 0, .int .i64 0] 75)).heap[w.heap.size + 1 + 1]? = some (Obj.cells #[.int .i64 x.home, .slice none 0 0, .int .i64 0] 75) := blk_at _ _ _ (by simp)
 have hz : w.heap.size + 3 ≤ (((w.alloc (Obj.cells #[.int .i64 x.home, .slice a1 x.prog.nodes.length c1, .int .i64 x.prog.root] 132)).alloc (Obj.cells #[.int .i64 0, .slice none 0 0, .int .i64 0] 75)).alloc (Obj.cells #[.int .i64 x.home, .slice none 0 0, .int .i64 0] 75)).heap.size := by simp
 generalize (((w.alloc (Obj.cells #[.int .i64 x.home, .slice a1 x.prog.nodes.length c1, .int .i64 x.prog.root] 132)).alloc (Obj.cells #[.int .i64 0, .slice none 0 0, .int .i64 0] 75)).alloc (Obj.cells #[.int .i64 x.home, .slice none 0 0, .int .i64 0] 75)) = wA at *
 refine (HC0.out _ hb).mono ?_
 rintro e v0 ⟨cs, rfl, ⟨y0_1, z0_1, rfl, hrows⟩, hv⟩
 obtain ⟨hrow1, hlen0_1⟩ := hrows
 have hb1 : Below w.heap.size w v0 := hb.trans (hv.mono hb.size)
 have hsv := hv.size
 have k0 := blk_keep k0 hv (by omega)
 have k1 := blk_keep k1 hv (by omega)
 have k2 := blk_keep k2 hv (by omega)
 have R0_0 : rgN.Row v0 (fun b => w.heap.size + 3 ≤ b ∧ b < v0.heap.size ∧ Unf v0 b) y0_1 x.prog.nodes := hrow1.keep fun b h => ⟨⟨by have := h.1; omega, h.2⟩, rfl⟩
 clear hb hv hrow1
 have R0_0 : Hid (rgN.Row v0 (fun b => w.heap.size + 3 ≤ b ∧ b < v0.heap.size ∧ Unf v0 b) y0_1 x.prog.nodes) := R0_0
 have p0 := cell_blk (j := 0) k0 rfl
 have p1 := cell_blk (j := 1) k0 rfl
 have p2 := cell_blk (j := 2) k0 rfl
 have o0 := cell_blk (j := 0) k2 rfl
 have o1 := cell_blk (j := 1) k2 rfl
 have o2 := cell_blk (j := 2) k2 rfl
 have f1 := frozen_blk k2 1
 have f2 := frozen_blk k2 2
 have s0 := cell_blk (j := 0) k1 rfl
 have l0 := frozen_blk k1 0
 have s1 := cell_blk (j := 1) k1 rfl
 have l1 := frozen_blk k1 1
 have s2 := cell_blk (j := 2) k1 rfl
 have l2 := frozen_blk k1 2
 have K0 : Hid (v0.heap[w.heap.size]? = some (Obj.cells #[.int .i64 x.home, .slice a1 x.prog.nodes.length c1, .int .i64 x.prog.root] 132)) := k0
 have K1 : Hid (v0.heap[w.heap.size + 1]? = some (Obj.cells #[.int .i64 0, .slice none 0 0, .int .i64 0] 75)) := k1
 have K2 : Hid (v0.heap[w.heap.size + 1 + 1]? = some (Obj.cells #[.int .i64 x.home, .slice none 0 0, .int .i64 0] 75)) := k2
 clear k0 k1 k2
 go_wp2
 have K3 : ((v0.setCell ⟨w.heap.size + 1 + 1, 1, none⟩ (.slice y0_1 x.prog.nodes.length z0_1)).setCell ⟨w.heap.size + 1 + 1, 2, none⟩ (.int .i64 x.prog.root)).heap[w.heap.size + 1]? = some (Obj.cells #[.int .i64 0, .slice none 0 0, .int .i64 0] 75) := by
  rw [heap_setCell_other _ _ _ _ (by simp), heap_setCell_other _ _ _ _ (by simp)]; exact K1.out
 refine bodyPost_ret (results_cell_row rfl _ _ (w.heap.size + 1) 75 #[.int .i64 x.home, .slice y0_1 x.prog.nodes.length z0_1, .int .i64 x.prog.root] (0, 0) _ rfl (heap_setCell_same _ _ _ _ _ _ (heap_setCell_same _ _ _ _ _ _ (heap_setCell_same _ _ _ _ _ _ (K3)))) Tryz.underlying75 rfl (by kernel_rfl)) rfl ?_
 have hoth : ∀ b, w.heap.size + 3 ≤ b → (((((v0.setCell ⟨w.heap.size + 1 + 1, 1, none⟩ (.slice y0_1 x.prog.nodes.length z0_1)).setCell ⟨w.heap.size + 1 + 1, 2, none⟩ (.int .i64 x.prog.root)).setCell ⟨w.heap.size + 1, 0, none⟩ (.int .i64 x.home)).setCell ⟨w.heap.size + 1, 1, none⟩ (.slice y0_1 x.prog.nodes.length z0_1)).setCell ⟨w.heap.size + 1, 2, none⟩ (.int .i64 x.prog.root)).heap[b]? = v0.heap[b]? := by
  intro b h
  rw [heap_setCell_other _ _ _ _ (by show b ≠ w.heap.size + 1; omega), heap_setCell_other _ _ _ _ (by show b ≠ w.heap.size + 1; omega), heap_setCell_other _ _ _ _ (by show b ≠ w.heap.size + 1; omega), heap_setCell_other _ _ _ _ (by show b ≠ w.heap.size + 1 + 1; omega), heap_setCell_other _ _ _ _ (by show b ≠ w.heap.size + 1 + 1; omega)]
 exact ⟨_, rfl, ⟨_, _, rfl, ⟨R0_0.out.keep fun b h => ⟨⟨by have := h.1; omega, by have := h.2.1; simpa using this, h.2.2.keep (hoth b h.1)⟩, hoth b h.1⟩, hlen0_1⟩⟩, ((((hb1.setCell (p := ⟨_, _, none⟩) (by simp <;> omega) _).setCell (p := ⟨_, _, none⟩) (by simp <;> omega) _).setCell (p := ⟨_, _, none⟩) (by simp <;> omega) _).setCell (p := ⟨_, _, none⟩) (by simp <;> omega) _).setCell (p := ⟨_, _, none⟩) (by simp <;> omega) _⟩
theorem Tryz.infu_Unit : (Tryz.prog.info? 75).map (fun i => (i.zero, i.size, i.bytes)) = some (some (.agg #[.int .i64 0, .slice none 0 0, .int .i64 0]), 3, 40) := by kernel_rfl
set_option maxRecDepth 100000 in
set_option maxHeartbeats 2000000 in
theorem tu_Unit (a : Option Addr) (l : List Unt) (cap : Nat) (w : World) (hn : l.length ≤ 1048576) (hsm : ∀ d ∈ l, Unt.small d) (hr : rgU.Row w (fun b => b < w.heap.size) a l) :
  Calls Tryz.prog 38 #[.slice a l.length cap] w fun e w' => MadeU rgU l w e w' := by
 obtain ⟨i0, hi, hz0, hz1, hz2⟩ := info_parts Tryz.infu_Unit
 have HR : Hid (rgU.Row w (fun b => b < w.heap.size) a l) := hr
 have HS : Hid (∀ d ∈ l, Unt.small d) := hsm
 clear hr hsm
 go_enter Tryz.func38, Tryz.ntmps38
 go_wp2_with (at_make; refine wpList_make_full _ rfl _ _ 32 rfl w.heap.size 75 i0 _ 3 Tryz.underlying32 hi hz0 hz1 .i64 .i64 _ _ l.length rfl rfl rfl rfl ?c1 ?c2 ?c3 ?_)
 case c1 => rw [hz2]; omega
 case c2 => simp [maxLen]; omega
 case c3 => exact Nat.le_refl _
 intro w1 hown1 hgr1
 go_wp2
 have hb1 : Below w.heap.size w w1 := (Below.refl _ _).grown hgr1 (Nat.le_refl _) (fun _ h => by cases h)
 obtain ⟨hlen, ⟨h0, _⟩ | ⟨g, cp, cur, hv, _, hblk, _, _, hcs, _⟩⟩ := hown1
 ·cases h0
 simp only [Value.slice.injEq, Option.some.injEq, Addr.mk.injEq] at hv
 obtain ⟨⟨rfl, _⟩, _, rfl⟩ := hv
 clear hlen
 go_loopw [4] (fun o wr => ∃ (i : Nat) (cur : Array Value), i ≤ l.length ∧ wr.heap[w.heap.size]? = some (.cells cur 75 (0, 0)) ∧ cur.size = l.length * 3 ∧ LaidU rgU wr w.heap.size i l ∧ o = .int .i64 i ∧ Below w.heap.size w wr)
  (fun o _ => l.length - (intOf o).toNat)
 case atStart => exact ⟨0, cur, by omega, hblk, hcs, LaidU.zero, rfl, hb1⟩
 case round =>
  clear hblk hcs hb1 hgr1
  obtain ⟨i, cur, hi, hblk, hcs, hat0, rfl, hb⟩ := hrel
  have HA : Hid (LaidU rgU wr w.heap.size i l) := hat0
  have HK : Hid (wr.heap[w.heap.size]? = some (.cells cur 75 (0, 0))) := hblk
  have hlt2 : w.heap.size < wr.heap.size := (Array.getElem?_eq_some_iff.1 hblk).1
  clear hat0 hblk
  by_cases hlt : i < l.length
  ·obtain ⟨d, hd⟩ : ∃ d, l[i]? = some d := ⟨_, List.getElem?_eq_getElem hlt⟩
   obtain ⟨b1, o1, cs, rfl, hbb, hat, hlies⟩ := HR.out i d hd
   obtain ⟨a1, c1, rfl, hrows⟩ := hat
   have cx0 : wr.cell? ⟨b1, o1 + i * 3, none⟩ = some (.int .i64 d.home) := cell_keep (hlies 0 _ rfl) hb hbb
   have cx1 : wr.cell? ⟨b1, o1 + i * 3 + 1, none⟩ = some (.slice a1 d.prog.nodes.length c1) := cell_keep (hlies 1 _ rfl) hb hbb
   have cx2 : wr.cell? ⟨b1, o1 + i * 3 + 2, none⟩ = some (.int .i64 d.prog.root) := cell_keep (hlies 2 _ rfl) hb hbb
   have hsz := hb.size
   have HT : Hid (Calls Tryz.prog 85 #[.agg #[.int .i64 d.home, .slice a1 d.prog.nodes.length c1, .int .i64 d.prog.root]] wr fun e w' => MadeEU rgU d wr e w') := tuE_Unit d a1 c1 wr (HS.out d (List.mem_of_getElem? hd)) (hrows.keep fun b h => ⟨by omega, hb.block b h⟩)
   have HD : Hid (l[i]? = some d) := hd
   clear hlies hd hrows
   go_wp2_with fail
   refine HT.out.mono ?_
   rintro e w2 ⟨cs2, rfl, hat2, hb2⟩
   obtain ⟨a1', c1', rfl, hrows2⟩ := hat2
   have HA2 : Hid (rgU.At w2 (fun b => wr.heap.size ≤ b ∧ b < w2.heap.size ∧ Unf w2 b) [.int .i64 d.home, .slice a1' d.prog.nodes.length c1', .int .i64 d.prog.root] d) := ⟨a1', c1', rfl, hrows2⟩
   have hk2 := blk_keep HK.out hb2 hlt2
   have f0 := frozen_blk hk2 (i * 3)
   obtain ⟨x0, e0⟩ := cell_blk' hk2 (i * 3) (by omega)
   have f1 := frozen_blk hk2 (i * 3 + 1)
   obtain ⟨x1, e1⟩ := cell_blk' hk2 (i * 3 + 1) (by omega)
   have f2 := frozen_blk hk2 (i * 3 + 2)
   obtain ⟨x2, e2⟩ := cell_blk' hk2 (i * 3 + 2) (by omega)
   have HK2 : Hid (w2.heap[w.heap.size]? = some (.cells cur 75 (0, 0))) := hk2
   have HB2 : Hid (Below wr.heap.size wr w2) := hb2
   clear hk2 HT hb2 hrows2
   go_wp2
   go_roundw
   case rel =>
    have hput : putL w2 w.heap.size (i * 3) [.int .i64 d.home, .slice a1' d.prog.nodes.length c1', .int .i64 d.prog.root] = (((w2.setCell ⟨w.heap.size, i * 3, none⟩ (.int .i64 d.home)).setCell ⟨w.heap.size, i * 3 + 1, none⟩ (.slice a1' d.prog.nodes.length c1')).setCell ⟨w.heap.size, i * 3 + 2, none⟩ (.int .i64 d.prog.root)) := by simp only [putL, Nat.add_assoc, Nat.reduceAdd]
    rw [← hput]
    obtain ⟨ys, hy1, hy2⟩ := putL_blk [.int .i64 d.home, .slice a1' d.prog.nodes.length c1', .int .i64 d.prog.root] (i * 3) HK2.out
    refine ⟨i + 1, ys, by omega, hy1, by omega, HA.out.next HD.out hlt2 HB2.out HA2.out HK2.out (by show i * 3 + 3 ≤ cur.size; omega), by go_num, putL_below [.int .i64 d.home, .slice a1' d.prog.nodes.length c1', .int .i64 d.prog.root] (i * 3) (hb.trans (HB2.out.mono hsz)) (Nat.le_refl _)⟩
   case measure => simp [intOf]; omega
  ·have hlt' : decide ((i : Int) < (l.length : Int)) = false := by simp; omega
   obtain rfl : i = l.length := by omega
   go_wp2
   go_ret
   exact ⟨w.heap.size, rfl, HA.out.row hlt2 ⟨_, _, HK.out⟩, hb⟩
set_option maxRecDepth 100000 in
set_option maxHeartbeats 2000000 in
theorem tuE_Sys (x : Sy) (a1 a2 a3 a4 : Option Addr) (c1 c2 c3 c4 : Nat) (w : World) (hs : x.small) (hr : SyRows w (fun b => b < w.heap.size) a1 a2 a3 a4 c1 c2 c3 c4 x) :
  Calls Tryz.prog 10 #[.agg #[.slice a1 x.heap.length c1, .slice a2 x.insts.length c2, .slice a3 x.units.length c3, .slice a4 x.out.length c4]] w fun e w' => MadeEU rgY x w e w' := by
 obtain ⟨u0, u1, u2, u3⟩ := hs
 obtain ⟨⟨r1, t1⟩, ⟨r2, t2⟩, ⟨r3, t3⟩, ⟨r4, t4⟩⟩ := hr
 have HC0 : Hid (∀ w2, Below w.heap.size w w2 → Calls Tryz.prog 36 #[.slice a1 x.heap.length c1] w2 fun e w' => MadeU rgC x.heap w2 e w') := fun w2 h2 => tu_Cell a1 x.heap c1 w2 u0.1 u0.2 (r1.keep fun b h => ⟨by have := h2.size; omega, h2.block b h⟩)
 have HC1 : Hid (∀ w2, Below w.heap.size w w2 → Calls Tryz.prog 37 #[.slice a2 x.insts.length c2] w2 fun e w' => MadeU rgX x.insts w2 e w') := fun w2 h2 => tu_Inst a2 x.insts c2 w2 u1.1 u1.2 (r2.keep fun b h => ⟨by have := h2.size; omega, h2.block b h⟩)
 have HC2 : Hid (∀ w2, Below w.heap.size w w2 → Calls Tryz.prog 38 #[.slice a3 x.units.length c3] w2 fun e w' => MadeU rgU x.units w2 e w') := fun w2 h2 => tu_Unit a3 x.units c3 w2 u2.1 u2.2 (r3.keep fun b h => ⟨by have := h2.size; omega, h2.block b h⟩)
 have HC3 : Hid (∀ w2, Below w.heap.size w w2 → Calls Tryz.prog 39 #[.slice a4 x.out.length c4] w2 fun e w' => MadeU rgS x.out w2 e w') := fun w2 h2 => tu_string a4 x.out c4 w2 u3.1 u3.2 (r4.keep fun b h => ⟨by have := h2.size; omega, h2.block b h⟩)
 clear r1 r2 r3 r4
 go_enter Tryz.func10, Tryz.ntmps10
 go_wp2_with fail
 have hb : Below w.heap.size w (((w.alloc (Obj.cells #[.slice a1 x.heap.length c1, .slice a2 x.insts.length c2, .slice a3 x.units.length c3, .slice a4 x.out.length c4] 27)).alloc (Obj.cells #[.slice none 0 0, .slice none 0 0, .slice none 0 0, .slice none 0 0] 34)).alloc (Obj.cells #[.slice none 0 0, .slice none 0 0, .slice none 0 0, .slice none 0 0] 34)) := (((Below.refl _ _).alloc (Nat.le_refl _) _).alloc (by simp) _).alloc (by simp; omega) _
 have k0 : (((w.alloc (Obj.cells #[.slice a1 x.heap.length c1, .slice a2 x.insts.length c2, .slice a3 x.units.length c3, .slice a4 x.out.length c4] 27)).alloc (Obj.cells #[.slice none 0 0, .slice none 0 0, .slice none 0 0, .slice none 0 0] 34)).alloc (Obj.cells #[.slice none 0 0, .slice none 0 0, .slice none 0 0, .slice none 0 0] 34)).heap[w.heap.size]? = some (Obj.cells #[.slice a1 x.heap.length c1, .slice a2 x.insts.length c2, .slice a3 x.units.length c3, .slice a4 x.out.length c4] 27) := blk_past (blk_past (blk_at _ _ _ rfl))
 have k1 : (((w.alloc (Obj.cells #[.slice a1 x.heap.length c1, .slice a2 x.insts.length c2, .slice a3 x.units.length c3, .slice a4 x.out.length c4] 27)).alloc (Obj.cells #[.slice none 0 0, .slice none 0 0, .slice none 0 0, .slice none 0 0] 34)).alloc (Obj.cells #[.slice none 0 0, .slice none 0 0, .slice none 0 0, .slice none 0 0] 34)).heap[w.heap.size + 1]? = some (Obj.cells #[.slice none 0 0, .slice none 0 0, .slice none 0 0, .slice none 0 0] 34) := blk_past (blk_at _ _ _ (by simp))
 have k2 : (((w.alloc (Obj.cells #[.slice a1 x.heap.length c1, .slice a2 x.insts.length c2, .slice a3 x.units.length c3, .slice a4 x.out.length c4] 27)).alloc (Obj.cells #[.slice none 0 0, .slice none 0 0, .slice none 0 0, .slice none 0 0] 34)).alloc (Obj.cells #[.slice none 0 0, .slice none 0 0, .slice none 0 0, .slice none 0 0] 34)).heap[w.heap.size + 1 + 1]? = some (Obj.cells #[.slice none 0 0, .slice none 0 0, .slice none 0 0, .slice none 0 0] 34) := blk_at _ _ _ (by simp)
 have hz : w.heap.size + 3 ≤ (((w.alloc (Obj.cells #[.slice a1 x.heap.length c1, .slice a2 x.insts.length c2, .slice a3 x.units.length c3, .slice a4 x.out.length c4] 27)).alloc (Obj.cells #[.slice none 0 0, .slice none 0 0, .slice none 0 0, .slice none 0 0] 34)).alloc (Obj.cells #[.slice none 0 0, .slice none 0 0, .slice none 0 0, .slice none 0 0] 34)).heap.size := by simp
 generalize (((w.alloc (Obj.cells #[.slice a1 x.heap.length c1, .slice a2 x.insts.length c2, .slice a3 x.units.length c3, .slice a4 x.out.length c4] 27)).alloc (Obj.cells #[.slice none 0 0, .slice none 0 0, .slice none 0 0, .slice none 0 0] 34)).alloc (Obj.cells #[.slice none 0 0, .slice none 0 0, .slice none 0 0, .slice none 0 0] 34)) = wA at *
 refine (HC0.out _ hb).mono ?_
 rintro e v0 ⟨g0, rfl, hrow, hv⟩
 have hb1 : Below w.heap.size w v0 := hb.trans (hv.mono hb.size)
 have hsv := hv.size
 have k0 := blk_keep k0 hv (by omega)
 have k1 := blk_keep k1 hv (by omega)
 have k2 := blk_keep k2 hv (by omega)
 have R0_0 : rgC.Row v0 (fun b => w.heap.size + 3 ≤ b ∧ b < v0.heap.size ∧ Unf v0 b) (some ⟨g0, 0, none⟩) x.heap := hrow.keep fun b h => ⟨⟨by have := h.1; omega, h.2⟩, rfl⟩
 clear hb hv hrow
 have R0_0 : Hid (rgC.Row v0 (fun b => w.heap.size + 3 ≤ b ∧ b < v0.heap.size ∧ Unf v0 b) (some ⟨g0, 0, none⟩) x.heap) := R0_0
 have p0 := cell_blk (j := 0) k0 rfl
 have p1 := cell_blk (j := 1) k0 rfl
 have p2 := cell_blk (j := 2) k0 rfl
 have p3 := cell_blk (j := 3) k0 rfl
 have o0 := cell_blk (j := 0) k2 rfl
 have o1 := cell_blk (j := 1) k2 rfl
 have o2 := cell_blk (j := 2) k2 rfl
 have o3 := cell_blk (j := 3) k2 rfl
 have f0 := frozen_blk k2 0
 have K0 : Hid (v0.heap[w.heap.size]? = some (Obj.cells #[.slice a1 x.heap.length c1, .slice a2 x.insts.length c2, .slice a3 x.units.length c3, .slice a4 x.out.length c4] 27)) := k0
 have K1 : Hid (v0.heap[w.heap.size + 1]? = some (Obj.cells #[.slice none 0 0, .slice none 0 0, .slice none 0 0, .slice none 0 0] 34)) := k1
 have K2 : Hid (v0.heap[w.heap.size + 1 + 1]? = some (Obj.cells #[.slice none 0 0, .slice none 0 0, .slice none 0 0, .slice none 0 0] 34)) := k2
 clear k0 k1 k2
 go_wp2_with fail
 have k0 : (v0.setCell ⟨w.heap.size + 1 + 1, 0, none⟩ (.slice (some ⟨g0, 0, none⟩) x.heap.length x.heap.length)).heap[w.heap.size]? = some (Obj.cells #[.slice a1 x.heap.length c1, .slice a2 x.insts.length c2, .slice a3 x.units.length c3, .slice a4 x.out.length c4] 27) := by
  rw [heap_setCell_other _ _ _ _ (by simp; try omega)]; exact K0.out
 have k1 : (v0.setCell ⟨w.heap.size + 1 + 1, 0, none⟩ (.slice (some ⟨g0, 0, none⟩) x.heap.length x.heap.length)).heap[w.heap.size + 1]? = some (Obj.cells #[.slice none 0 0, .slice none 0 0, .slice none 0 0, .slice none 0 0] 34) := by
  rw [heap_setCell_other _ _ _ _ (by simp)]; exact K1.out
 have k2 : (v0.setCell ⟨w.heap.size + 1 + 1, 0, none⟩ (.slice (some ⟨g0, 0, none⟩) x.heap.length x.heap.length)).heap[w.heap.size + 1 + 1]? = some (Obj.cells #[.slice (some ⟨g0, 0, none⟩) x.heap.length x.heap.length, .slice none 0 0, .slice none 0 0, .slice none 0 0] 34) := heap_setCell_same _ _ _ _ _ _ (K2.out)
 have hb : Below w.heap.size w (v0.setCell ⟨w.heap.size + 1 + 1, 0, none⟩ (.slice (some ⟨g0, 0, none⟩) x.heap.length x.heap.length)) := hb1.setCell (p := ⟨_, _, none⟩) (by simp; omega) _
 have hz : w.heap.size + 3 ≤ (v0.setCell ⟨w.heap.size + 1 + 1, 0, none⟩ (.slice (some ⟨g0, 0, none⟩) x.heap.length x.heap.length)).heap.size := by simp; omega
 have hoE : ∀ b, w.heap.size + 3 ≤ b → (v0.setCell ⟨w.heap.size + 1 + 1, 0, none⟩ (.slice (some ⟨g0, 0, none⟩) x.heap.length x.heap.length)).heap[b]? = v0.heap[b]? := by
  intro b h
  rw [heap_setCell_other _ _ _ _ (by show b ≠ w.heap.size + 1 + 1; omega)]
 have R0_0 : Hid (rgC.Row (v0.setCell ⟨w.heap.size + 1 + 1, 0, none⟩ (.slice (some ⟨g0, 0, none⟩) x.heap.length x.heap.length)) (fun b => w.heap.size + 3 ≤ b ∧ b < (v0.setCell ⟨w.heap.size + 1 + 1, 0, none⟩ (.slice (some ⟨g0, 0, none⟩) x.heap.length x.heap.length)).heap.size ∧ Unf (v0.setCell ⟨w.heap.size + 1 + 1, 0, none⟩ (.slice (some ⟨g0, 0, none⟩) x.heap.length x.heap.length)) b) (some ⟨g0, 0, none⟩) x.heap) := R0_0.out.keep fun b h => ⟨⟨h.1, by have := h.2.1; simpa using this, h.2.2.keep (hoE b h.1)⟩, hoE b h.1⟩
 clear hoE K0 K1 K2 hb1 hsv p0 o0 p1 o1 p2 o2 p3 o3 f0
 generalize (v0.setCell ⟨w.heap.size + 1 + 1, 0, none⟩ (.slice (some ⟨g0, 0, none⟩) x.heap.length x.heap.length)) = w0A at *
 refine (HC1.out _ hb).mono ?_
 rintro e v1 ⟨g1, rfl, hrow, hv⟩
 have hb1 : Below w.heap.size w v1 := hb.trans (hv.mono hb.size)
 have hsv := hv.size
 have k0 := blk_keep k0 hv (by omega)
 have k1 := blk_keep k1 hv (by omega)
 have k2 := blk_keep k2 hv (by omega)
 have R0_0 : rgC.Row v1 (fun b => w.heap.size + 3 ≤ b ∧ b < v1.heap.size ∧ Unf v1 b) (some ⟨g0, 0, none⟩) x.heap := R0_0.out.keep fun b h => ⟨⟨h.1, by have := h.2.1; omega, h.2.2.keep (hv.block b h.2.1)⟩, hv.block b h.2.1⟩
 have R1_0 : rgX.Row v1 (fun b => w.heap.size + 3 ≤ b ∧ b < v1.heap.size ∧ Unf v1 b) (some ⟨g1, 0, none⟩) x.insts := hrow.keep fun b h => ⟨⟨by have := h.1; omega, h.2⟩, rfl⟩
 clear hb hv hrow
 have R0_0 : Hid (rgC.Row v1 (fun b => w.heap.size + 3 ≤ b ∧ b < v1.heap.size ∧ Unf v1 b) (some ⟨g0, 0, none⟩) x.heap) := R0_0
 have R1_0 : Hid (rgX.Row v1 (fun b => w.heap.size + 3 ≤ b ∧ b < v1.heap.size ∧ Unf v1 b) (some ⟨g1, 0, none⟩) x.insts) := R1_0
 have p0 := cell_blk (j := 0) k0 rfl
 have p1 := cell_blk (j := 1) k0 rfl
 have p2 := cell_blk (j := 2) k0 rfl
 have p3 := cell_blk (j := 3) k0 rfl
 have o0 := cell_blk (j := 0) k2 rfl
 have o1 := cell_blk (j := 1) k2 rfl
 have o2 := cell_blk (j := 2) k2 rfl
 have o3 := cell_blk (j := 3) k2 rfl
 have f1 := frozen_blk k2 1
 have K0 : Hid (v1.heap[w.heap.size]? = some (Obj.cells #[.slice a1 x.heap.length c1, .slice a2 x.insts.length c2, .slice a3 x.units.length c3, .slice a4 x.out.length c4] 27)) := k0
 have K1 : Hid (v1.heap[w.heap.size + 1]? = some (Obj.cells #[.slice none 0 0, .slice none 0 0, .slice none 0 0, .slice none 0 0] 34)) := k1
 have K2 : Hid (v1.heap[w.heap.size + 1 + 1]? = some (Obj.cells #[.slice (some ⟨g0, 0, none⟩) x.heap.length x.heap.length, .slice none 0 0, .slice none 0 0, .slice none 0 0] 34)) := k2
 clear k0 k1 k2
 go_wp2_with fail
 have k0 : (v1.setCell ⟨w.heap.size + 1 + 1, 1, none⟩ (.slice (some ⟨g1, 0, none⟩) x.insts.length x.insts.length)).heap[w.heap.size]? = some (Obj.cells #[.slice a1 x.heap.length c1, .slice a2 x.insts.length c2, .slice a3 x.units.length c3, .slice a4 x.out.length c4] 27) := by
  rw [heap_setCell_other _ _ _ _ (by simp; try omega)]; exact K0.out
 have k1 : (v1.setCell ⟨w.heap.size + 1 + 1, 1, none⟩ (.slice (some ⟨g1, 0, none⟩) x.insts.length x.insts.length)).heap[w.heap.size + 1]? = some (Obj.cells #[.slice none 0 0, .slice none 0 0, .slice none 0 0, .slice none 0 0] 34) := by
  rw [heap_setCell_other _ _ _ _ (by simp)]; exact K1.out
 have k2 : (v1.setCell ⟨w.heap.size + 1 + 1, 1, none⟩ (.slice (some ⟨g1, 0, none⟩) x.insts.length x.insts.length)).heap[w.heap.size + 1 + 1]? = some (Obj.cells #[.slice (some ⟨g0, 0, none⟩) x.heap.length x.heap.length, .slice (some ⟨g1, 0, none⟩) x.insts.length x.insts.length, .slice none 0 0, .slice none 0 0] 34) := heap_setCell_same _ _ _ _ _ _ (K2.out)
 have hb : Below w.heap.size w (v1.setCell ⟨w.heap.size + 1 + 1, 1, none⟩ (.slice (some ⟨g1, 0, none⟩) x.insts.length x.insts.length)) := hb1.setCell (p := ⟨_, _, none⟩) (by simp; omega) _
 have hz : w.heap.size + 3 ≤ (v1.setCell ⟨w.heap.size + 1 + 1, 1, none⟩ (.slice (some ⟨g1, 0, none⟩) x.insts.length x.insts.length)).heap.size := by simp; omega
 have hoE : ∀ b, w.heap.size + 3 ≤ b → (v1.setCell ⟨w.heap.size + 1 + 1, 1, none⟩ (.slice (some ⟨g1, 0, none⟩) x.insts.length x.insts.length)).heap[b]? = v1.heap[b]? := by
  intro b h
  rw [heap_setCell_other _ _ _ _ (by show b ≠ w.heap.size + 1 + 1; omega)]
 have R0_0 : Hid (rgC.Row (v1.setCell ⟨w.heap.size + 1 + 1, 1, none⟩ (.slice (some ⟨g1, 0, none⟩) x.insts.length x.insts.length)) (fun b => w.heap.size + 3 ≤ b ∧ b < (v1.setCell ⟨w.heap.size + 1 + 1, 1, none⟩ (.slice (some ⟨g1, 0, none⟩) x.insts.length x.insts.length)).heap.size ∧ Unf (v1.setCell ⟨w.heap.size + 1 + 1, 1, none⟩ (.slice (some ⟨g1, 0, none⟩) x.insts.length x.insts.length)) b) (some ⟨g0, 0, none⟩) x.heap) := R0_0.out.keep fun b h => ⟨⟨h.1, by have := h.2.1; simpa using this, h.2.2.keep (hoE b h.1)⟩, hoE b h.1⟩
 have R1_0 : Hid (rgX.Row (v1.setCell ⟨w.heap.size + 1 + 1, 1, none⟩ (.slice (some ⟨g1, 0, none⟩) x.insts.length x.insts.length)) (fun b => w.heap.size + 3 ≤ b ∧ b < (v1.setCell ⟨w.heap.size + 1 + 1, 1, none⟩ (.slice (some ⟨g1, 0, none⟩) x.insts.length x.insts.length)).heap.size ∧ Unf (v1.setCell ⟨w.heap.size + 1 + 1, 1, none⟩ (.slice (some ⟨g1, 0, none⟩) x.insts.length x.insts.length)) b) (some ⟨g1, 0, none⟩) x.insts) := R1_0.out.keep fun b h => ⟨⟨h.1, by have := h.2.1; simpa using this, h.2.2.keep (hoE b h.1)⟩, hoE b h.1⟩
 clear hoE K0 K1 K2 hb1 hsv p0 o0 p1 o1 p2 o2 p3 o3 f1
 generalize (v1.setCell ⟨w.heap.size + 1 + 1, 1, none⟩ (.slice (some ⟨g1, 0, none⟩) x.insts.length x.insts.length)) = w1A at *
 refine (HC2.out _ hb).mono ?_
 rintro e v2 ⟨g2, rfl, hrow, hv⟩
 have hb1 : Below w.heap.size w v2 := hb.trans (hv.mono hb.size)
 have hsv := hv.size
 have k0 := blk_keep k0 hv (by omega)
 have k1 := blk_keep k1 hv (by omega)
 have k2 := blk_keep k2 hv (by omega)
 have R0_0 : rgC.Row v2 (fun b => w.heap.size + 3 ≤ b ∧ b < v2.heap.size ∧ Unf v2 b) (some ⟨g0, 0, none⟩) x.heap := R0_0.out.keep fun b h => ⟨⟨h.1, by have := h.2.1; omega, h.2.2.keep (hv.block b h.2.1)⟩, hv.block b h.2.1⟩
 have R1_0 : rgX.Row v2 (fun b => w.heap.size + 3 ≤ b ∧ b < v2.heap.size ∧ Unf v2 b) (some ⟨g1, 0, none⟩) x.insts := R1_0.out.keep fun b h => ⟨⟨h.1, by have := h.2.1; omega, h.2.2.keep (hv.block b h.2.1)⟩, hv.block b h.2.1⟩
 have R2_0 : rgU.Row v2 (fun b => w.heap.size + 3 ≤ b ∧ b < v2.heap.size ∧ Unf v2 b) (some ⟨g2, 0, none⟩) x.units := hrow.keep fun b h => ⟨⟨by have := h.1; omega, h.2⟩, rfl⟩
 clear hb hv hrow
 have R0_0 : Hid (rgC.Row v2 (fun b => w.heap.size + 3 ≤ b ∧ b < v2.heap.size ∧ Unf v2 b) (some ⟨g0, 0, none⟩) x.heap) := R0_0
 have R1_0 : Hid (rgX.Row v2 (fun b => w.heap.size + 3 ≤ b ∧ b < v2.heap.size ∧ Unf v2 b) (some ⟨g1, 0, none⟩) x.insts) := R1_0
 have R2_0 : Hid (rgU.Row v2 (fun b => w.heap.size + 3 ≤ b ∧ b < v2.heap.size ∧ Unf v2 b) (some ⟨g2, 0, none⟩) x.units) := R2_0
 have p0 := cell_blk (j := 0) k0 rfl
 have p1 := cell_blk (j := 1) k0 rfl
 have p2 := cell_blk (j := 2) k0 rfl
 have p3 := cell_blk (j := 3) k0 rfl
 have o0 := cell_blk (j := 0) k2 rfl
 have o1 := cell_blk (j := 1) k2 rfl
 have o2 := cell_blk (j := 2) k2 rfl
 have o3 := cell_blk (j := 3) k2 rfl
 have f2 := frozen_blk k2 2
 have K0 : Hid (v2.heap[w.heap.size]? = some (Obj.cells #[.slice a1 x.heap.length c1, .slice a2 x.insts.length c2, .slice a3 x.units.length c3, .slice a4 x.out.length c4] 27)) := k0
 have K1 : Hid (v2.heap[w.heap.size + 1]? = some (Obj.cells #[.slice none 0 0, .slice none 0 0, .slice none 0 0, .slice none 0 0] 34)) := k1
 have K2 : Hid (v2.heap[w.heap.size + 1 + 1]? = some (Obj.cells #[.slice (some ⟨g0, 0, none⟩) x.heap.length x.heap.length, .slice (some ⟨g1, 0, none⟩) x.insts.length x.insts.length, .slice none 0 0, .slice none 0 0] 34)) := k2
 clear k0 k1 k2
 go_wp2_with fail
 have k0 : (v2.setCell ⟨w.heap.size + 1 + 1, 2, none⟩ (.slice (some ⟨g2, 0, none⟩) x.units.length x.units.length)).heap[w.heap.size]? = some (Obj.cells #[.slice a1 x.heap.length c1, .slice a2 x.insts.length c2, .slice a3 x.units.length c3, .slice a4 x.out.length c4] 27) := by
  rw [heap_setCell_other _ _ _ _ (by simp; try omega)]; exact K0.out
 have k1 : (v2.setCell ⟨w.heap.size + 1 + 1, 2, none⟩ (.slice (some ⟨g2, 0, none⟩) x.units.length x.units.length)).heap[w.heap.size + 1]? = some (Obj.cells #[.slice none 0 0, .slice none 0 0, .slice none 0 0, .slice none 0 0] 34) := by
  rw [heap_setCell_other _ _ _ _ (by simp)]; exact K1.out
 have k2 : (v2.setCell ⟨w.heap.size + 1 + 1, 2, none⟩ (.slice (some ⟨g2, 0, none⟩) x.units.length x.units.length)).heap[w.heap.size + 1 + 1]? = some (Obj.cells #[.slice (some ⟨g0, 0, none⟩) x.heap.length x.heap.length, .slice (some ⟨g1, 0, none⟩) x.insts.length x.insts.length, .slice (some ⟨g2, 0, none⟩) x.units.length x.units.length, .slice none 0 0] 34) := heap_setCell_same _ _ _ _ _ _ (K2.out)
 have hb : Below w.heap.size w (v2.setCell ⟨w.heap.size + 1 + 1, 2, none⟩ (.slice (some ⟨g2, 0, none⟩) x.units.length x.units.length)) := hb1.setCell (p := ⟨_, _, none⟩) (by simp; omega) _
 have hz : w.heap.size + 3 ≤ (v2.setCell ⟨w.heap.size + 1 + 1, 2, none⟩ (.slice (some ⟨g2, 0, none⟩) x.units.length x.units.length)).heap.size := by simp; omega
 have hoE : ∀ b, w.heap.size + 3 ≤ b → (v2.setCell ⟨w.heap.size + 1 + 1, 2, none⟩ (.slice (some ⟨g2, 0, none⟩) x.units.length x.units.length)).heap[b]? = v2.heap[b]? := by
  intro b h
  rw [heap_setCell_other _ _ _ _ (by show b ≠ w.heap.size + 1 + 1; omega)]
 have R0_0 : Hid (rgC.Row (v2.setCell ⟨w.heap.size + 1 + 1, 2, none⟩ (.slice (some ⟨g2, 0, none⟩) x.units.length x.units.length)) (fun b => w.heap.size + 3 ≤ b ∧ b < (v2.setCell ⟨w.heap.size + 1 + 1, 2, none⟩ (.slice (some ⟨g2, 0, none⟩) x.units.length x.units.length)).heap.size ∧ Unf (v2.setCell ⟨w.heap.size + 1 + 1, 2, none⟩ (.slice (some ⟨g2, 0, none⟩) x.units.length x.units.length)) b) (some ⟨g0, 0, none⟩) x.heap) := R0_0.out.keep fun b h => ⟨⟨h.1, by have := h.2.1; simpa using this, h.2.2.keep (hoE b h.1)⟩, hoE b h.1⟩
 have R1_0 : Hid (rgX.Row (v2.setCell ⟨w.heap.size + 1 + 1, 2, none⟩ (.slice (some ⟨g2, 0, none⟩) x.units.length x.units.length)) (fun b => w.heap.size + 3 ≤ b ∧ b < (v2.setCell ⟨w.heap.size + 1 + 1, 2, none⟩ (.slice (some ⟨g2, 0, none⟩) x.units.length x.units.length)).heap.size ∧ Unf (v2.setCell ⟨w.heap.size + 1 + 1, 2, none⟩ (.slice (some ⟨g2, 0, none⟩) x.units.length x.units.length)) b) (some ⟨g1, 0, none⟩) x.insts) := R1_0.out.keep fun b h => ⟨⟨h.1, by have := h.2.1; simpa using this, h.2.2.keep (hoE b h.1)⟩, hoE b h.1⟩
 have R2_0 : Hid (rgU.Row (v2.setCell ⟨w.heap.size + 1 + 1, 2, none⟩ (.slice (some ⟨g2, 0, none⟩) x.units.length x.units.length)) (fun b => w.heap.size + 3 ≤ b ∧ b < (v2.setCell ⟨w.heap.size + 1 + 1, 2, none⟩ (.slice (some ⟨g2, 0, none⟩) x.units.length x.units.length)).heap.size ∧ Unf (v2.setCell ⟨w.heap.size + 1 + 1, 2, none⟩ (.slice (some ⟨g2, 0, none⟩) x.units.length x.units.length)) b) (some ⟨g2, 0, none⟩) x.units) := R2_0.out.keep fun b h => ⟨⟨h.1, by have := h.2.1; simpa using this, h.2.2.keep (hoE b h.1)⟩, hoE b h.1⟩
 clear hoE K0 K1 K2 hb1 hsv p0 o0 p1 o1 p2 o2 p3 o3 f2
 generalize (v2.setCell ⟨w.heap.size + 1 + 1, 2, none⟩ (.slice (some ⟨g2, 0, none⟩) x.units.length x.units.length)) = w2A at *
 refine (HC3.out _ hb).mono ?_
 rintro e v3 ⟨g3, rfl, hrow, hv⟩
 have hb1 : Below w.heap.size w v3 := hb.trans (hv.mono hb.size)
 have hsv := hv.size
 have k0 := blk_keep k0 hv (by omega)
 have k1 := blk_keep k1 hv (by omega)
 have k2 := blk_keep k2 hv (by omega)
 have R0_0 : rgC.Row v3 (fun b => w.heap.size + 3 ≤ b ∧ b < v3.heap.size ∧ Unf v3 b) (some ⟨g0, 0, none⟩) x.heap := R0_0.out.keep fun b h => ⟨⟨h.1, by have := h.2.1; omega, h.2.2.keep (hv.block b h.2.1)⟩, hv.block b h.2.1⟩
 have R1_0 : rgX.Row v3 (fun b => w.heap.size + 3 ≤ b ∧ b < v3.heap.size ∧ Unf v3 b) (some ⟨g1, 0, none⟩) x.insts := R1_0.out.keep fun b h => ⟨⟨h.1, by have := h.2.1; omega, h.2.2.keep (hv.block b h.2.1)⟩, hv.block b h.2.1⟩
 have R2_0 : rgU.Row v3 (fun b => w.heap.size + 3 ≤ b ∧ b < v3.heap.size ∧ Unf v3 b) (some ⟨g2, 0, none⟩) x.units := R2_0.out.keep fun b h => ⟨⟨h.1, by have := h.2.1; omega, h.2.2.keep (hv.block b h.2.1)⟩, hv.block b h.2.1⟩
 have R3_0 : rgS.Row v3 (fun b => w.heap.size + 3 ≤ b ∧ b < v3.heap.size ∧ Unf v3 b) (some ⟨g3, 0, none⟩) x.out := hrow.keep fun b h => ⟨⟨by have := h.1; omega, h.2⟩, rfl⟩
 clear hb hv hrow
 have R0_0 : Hid (rgC.Row v3 (fun b => w.heap.size + 3 ≤ b ∧ b < v3.heap.size ∧ Unf v3 b) (some ⟨g0, 0, none⟩) x.heap) := R0_0
 have R1_0 : Hid (rgX.Row v3 (fun b => w.heap.size + 3 ≤ b ∧ b < v3.heap.size ∧ Unf v3 b) (some ⟨g1, 0, none⟩) x.insts) := R1_0
 have R2_0 : Hid (rgU.Row v3 (fun b => w.heap.size + 3 ≤ b ∧ b < v3.heap.size ∧ Unf v3 b) (some ⟨g2, 0, none⟩) x.units) := R2_0
 have R3_0 : Hid (rgS.Row v3 (fun b => w.heap.size + 3 ≤ b ∧ b < v3.heap.size ∧ Unf v3 b) (some ⟨g3, 0, none⟩) x.out) := R3_0
 have p0 := cell_blk (j := 0) k0 rfl
 have p1 := cell_blk (j := 1) k0 rfl
 have p2 := cell_blk (j := 2) k0 rfl
 have p3 := cell_blk (j := 3) k0 rfl
 have o0 := cell_blk (j := 0) k2 rfl
 have o1 := cell_blk (j := 1) k2 rfl
 have o2 := cell_blk (j := 2) k2 rfl
 have o3 := cell_blk (j := 3) k2 rfl
 have f3 := frozen_blk k2 3
 have s0 := cell_blk (j := 0) k1 rfl
 have l0 := frozen_blk k1 0
 have s1 := cell_blk (j := 1) k1 rfl
 have l1 := frozen_blk k1 1
 have s2 := cell_blk (j := 2) k1 rfl
 have l2 := frozen_blk k1 2
 have s3 := cell_blk (j := 3) k1 rfl
 have l3 := frozen_blk k1 3
 have K0 : Hid (v3.heap[w.heap.size]? = some (Obj.cells #[.slice a1 x.heap.length c1, .slice a2 x.insts.length c2, .slice a3 x.units.length c3, .slice a4 x.out.length c4] 27)) := k0
 have K1 : Hid (v3.heap[w.heap.size + 1]? = some (Obj.cells #[.slice none 0 0, .slice none 0 0, .slice none 0 0, .slice none 0 0] 34)) := k1
 have K2 : Hid (v3.heap[w.heap.size + 1 + 1]? = some (Obj.cells #[.slice (some ⟨g0, 0, none⟩) x.heap.length x.heap.length, .slice (some ⟨g1, 0, none⟩) x.insts.length x.insts.length, .slice (some ⟨g2, 0, none⟩) x.units.length x.units.length, .slice none 0 0] 34)) := k2
 clear k0 k1 k2
 go_wp2
 have K3 : (v3.setCell ⟨w.heap.size + 1 + 1, 3, none⟩ (.slice (some ⟨g3, 0, none⟩) x.out.length x.out.length)).heap[w.heap.size + 1]? = some (Obj.cells #[.slice none 0 0, .slice none 0 0, .slice none 0 0, .slice none 0 0] 34) := by
  rw [heap_setCell_other _ _ _ _ (by simp)]; exact K1.out
 refine bodyPost_ret (results_cell_row rfl _ _ (w.heap.size + 1) 34 #[.slice (some ⟨g0, 0, none⟩) x.heap.length x.heap.length, .slice (some ⟨g1, 0, none⟩) x.insts.length x.insts.length, .slice (some ⟨g2, 0, none⟩) x.units.length x.units.length, .slice (some ⟨g3, 0, none⟩) x.out.length x.out.length] (0, 0) _ rfl (heap_setCell_same _ _ _ _ _ _ (heap_setCell_same _ _ _ _ _ _ (heap_setCell_same _ _ _ _ _ _ (heap_setCell_same _ _ _ _ _ _ (K3))))) Tryz.underlying34 rfl (by kernel_rfl)) rfl ?_
 have hoth : ∀ b, w.heap.size + 3 ≤ b → (((((v3.setCell ⟨w.heap.size + 1 + 1, 3, none⟩ (.slice (some ⟨g3, 0, none⟩) x.out.length x.out.length)).setCell ⟨w.heap.size + 1, 0, none⟩ (.slice (some ⟨g0, 0, none⟩) x.heap.length x.heap.length)).setCell ⟨w.heap.size + 1, 1, none⟩ (.slice (some ⟨g1, 0, none⟩) x.insts.length x.insts.length)).setCell ⟨w.heap.size + 1, 2, none⟩ (.slice (some ⟨g2, 0, none⟩) x.units.length x.units.length)).setCell ⟨w.heap.size + 1, 3, none⟩ (.slice (some ⟨g3, 0, none⟩) x.out.length x.out.length)).heap[b]? = v3.heap[b]? := by
  intro b h
  rw [heap_setCell_other _ _ _ _ (by show b ≠ w.heap.size + 1; omega), heap_setCell_other _ _ _ _ (by show b ≠ w.heap.size + 1; omega), heap_setCell_other _ _ _ _ (by show b ≠ w.heap.size + 1; omega), heap_setCell_other _ _ _ _ (by show b ≠ w.heap.size + 1; omega), heap_setCell_other _ _ _ _ (by show b ≠ w.heap.size + 1 + 1; omega)]
 exact ⟨_, rfl, ⟨_, _, _, _, _, _, _, _, rfl, ⟨⟨R0_0.out.keep fun b h => ⟨⟨by have := h.1; omega, by have := h.2.1; simpa using this, h.2.2.keep (hoth b h.1)⟩, hoth b h.1⟩, Nat.le_refl _⟩, ⟨R1_0.out.keep fun b h => ⟨⟨by have := h.1; omega, by have := h.2.1; simpa using this, h.2.2.keep (hoth b h.1)⟩, hoth b h.1⟩, Nat.le_refl _⟩, ⟨R2_0.out.keep fun b h => ⟨⟨by have := h.1; omega, by have := h.2.1; simpa using this, h.2.2.keep (hoth b h.1)⟩, hoth b h.1⟩, Nat.le_refl _⟩, ⟨R3_0.out.keep fun b h => ⟨⟨by have := h.1; omega, by have := h.2.1; simpa using this, h.2.2.keep (hoth b h.1)⟩, hoth b h.1⟩, Nat.le_refl _⟩⟩⟩, ((((hb1.setCell (p := ⟨_, _, none⟩) (by simp <;> omega) _).setCell (p := ⟨_, _, none⟩) (by simp <;> omega) _).setCell (p := ⟨_, _, none⟩) (by simp <;> omega) _).setCell (p := ⟨_, _, none⟩) (by simp <;> omega) _).setCell (p := ⟨_, _, none⟩) (by simp <;> omega) _⟩
end Go.Proofs.YtmnkomgdcebniaaGreat
