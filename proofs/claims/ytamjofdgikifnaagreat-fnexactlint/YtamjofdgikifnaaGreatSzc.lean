/- Readings: what a number of cells stand for; rows of what has a reading; cells laid one behind the other. The size of a heap that comes in. -/
import Derived.Test.YtamjofdgikifnaaGreatVlp
import Derived.Test.YtamjofdgikifnaaGreatPrp
set_option linter.unusedVariables false
namespace Go.Proofs.YtamjofdgikifnaaGreat
open Go.ChangeShapes Go.WideShapes Go.ChangeAt Go.RowKit
structure Rd (α : Type) where
 n : Nat
 At : World → (Nat → Prop) → List Value → α → Prop
 len : ∀ {w p cs x}, At w p cs x → cs.length = n
 keep : ∀ {w w' : World} {p q : Nat → Prop} {cs x}, At w p cs x → (∀ b, p b → q b ∧ w'.heap[b]? = w.heap[b]?) → At w' q cs x
def LiesAt (w : World) (b o : Nat) (cs : List Value) : Prop := ∀ j v, cs[j]? = some v → w.cell? ⟨b, o + j, none⟩ = some v
theorem LiesAt.keep {w w' : World} {b o : Nat} {cs : List Value} (h : LiesAt w b o cs) (hb : w'.heap[b]? = w.heap[b]?) : LiesAt w' b o cs := fun j v hj =>
 (World.cell?_of_block (w := w) (a := ⟨b, o + j, none⟩) hb).trans (h j v hj)
def Rd.Row {α : Type} (R : Rd α) (w : World) (p : Nat → Prop) (a : Option Addr) (l : List α) : Prop :=
 ∀ i x, l[i]? = some x → ∃ b o cs, a = some ⟨b, o, none⟩ ∧ p b ∧ R.At w p cs x ∧ LiesAt w b (o + i * R.n) cs
theorem Rd.Row.keep {α : Type} {R : Rd α} {w w' : World} {p q : Nat → Prop} {a : Option Addr} {l : List α} (h : R.Row w p a l) (hk : ∀ b, p b → q b ∧ w'.heap[b]? = w.heap[b]?) : R.Row w' q a l := by
 intro i x hi
 obtain ⟨b, o, cs, ha, hb, hat, hl⟩ := h i x hi
 exact ⟨b, o, cs, ha, (hk b hb).1, R.keep hat hk, hl.keep (hk b hb).2⟩
theorem Rd.Row.below {α : Type} {R : Rd α} {w w' : World} {B : Nat} {a : Option Addr} {l : List α} (h : R.Row w (fun b => b < B) a l) (hb : Below B w w') : R.Row w' (fun b => b < B) a l :=
 h.keep fun b hl => ⟨hl, hb.block b hl⟩
theorem Rd.Row.now {α : Type} {R : Rd α} {w w' : World} {B : Nat} {a : Option Addr} {l : List α} (h : R.Row w (fun b => b < w.heap.size) a l) (hb : Below w.heap.size w w') : R.Row w' (fun b => b < w'.heap.size) a l :=
 h.keep fun b hl => ⟨Nat.lt_of_lt_of_le hl hb.size, hb.block b hl⟩
theorem Rd.Row.low {α : Type} {R : Rd α} {w : World} {p : Nat → Prop} {B : Nat} {a : Option Addr} {l : List α} (h : R.Row w p a l) (hp : ∀ b, p b → b < B) : R.Row w (fun b => b < B) a l :=
 h.keep fun b hl => ⟨hp b hl, rfl⟩
theorem Rd.Row.take {α : Type} {R : Rd α} {w : World} {p : Nat → Prop} {a : Option Addr} {l : List α} (h : R.Row w p a l) (n : Nat) : R.Row w p a (l.take n) := by
 intro i d hi
 rw [List.getElem?_take] at hi
 split at hi
 ·exact h i d hi
 ·cases hi
theorem Rd.Row.nil {α : Type} {R : Rd α} {w : World} {p : Nat → Prop} {a : Option Addr} : R.Row w p a [] := fun i x hi => by cases hi
def rgS : Rd ByteArray where
 n := 1
 At _ _ cs x := cs = [.string x]
 len h := by rw [h]; rfl
 keep h _ := h
def rgN : Rd Nod where
 n := 5
 At w p cs d := ∃ an cn aa ca, cs = [.int .i64 d.k, .int .i64 d.n, .string d.s, .slice an d.names.length cn, .slice aa d.args.length ca] ∧ NodRows w p an cn aa ca d
 len h := by obtain ⟨_, _, _, _, rfl, _⟩ := h; rfl
 keep h hk := by
  obtain ⟨a, b, c, d, rfl, hr⟩ := h
  exact ⟨a, b, c, d, rfl, hr.keep hk⟩
theorem rowSP_iff {w : World} {p : Nat → Prop} {a : Option Addr} {l : List ByteArray} : rgS.Row w p a l ↔ RowSP w p a l := by
 constructor
 ·intro h i x hi
  obtain ⟨b, o, cs, ha, hb, rfl, hl⟩ := h i x hi
  have := hl 0 _ rfl
  exact ⟨b, o, ha, hb, by simpa [rgS] using this⟩
 ·intro h i x hi
  obtain ⟨b, o, ha, hb, hc⟩ := h i x hi
  refine ⟨b, o, _, ha, hb, rfl, fun j v hj => ?_⟩
  match j, hj with
  | 0, hj => simp at hj; subst hj; simpa [rgS] using hc
theorem rowS_iff {w : World} {B : Nat} {a : Option Addr} {l : List ByteArray} : rgS.Row w (fun b => b < B) a l ↔ RowS w B a l := rowSP_iff
theorem rowN_iff {w : World} {B : Nat} {a : Option Addr} {l : List Nod} : rgN.Row w (fun b => b < B) a l ↔ RowN w B a l := by
 constructor
 ·intro h i x hi
  obtain ⟨b, o, cs, ha, hb, ⟨an, cn, av, cv, rfl, hr⟩, hl⟩ := h i x hi
  exact ⟨b, o, ha, hb, an, cn, av, cv, hl 0 _ rfl, hl 1 _ rfl, hl 2 _ rfl, hl 3 _ rfl, hl 4 _ rfl, hr⟩
 ·intro h i x hi
  obtain ⟨b, o, ha, hb, an, cn, av, cv, h0, h1, h2, h3, h4, hr⟩ := h i x hi
  refine ⟨b, o, _, ha, hb, ⟨an, cn, av, cv, rfl, hr⟩, fun j v hj => ?_⟩
  match j, hj with
  | 0, hj => simp at hj; subst hj; exact h0
  | 1, hj => simp at hj; subst hj; exact h1
  | 2, hj => simp at hj; subst hj; exact h2
  | 3, hj => simp at hj; subst hj; exact h3
  | 4, hj => simp at hj; subst hj; exact h4
def putL (w : World) (g : Nat) : Nat → List Value → World
 | _, [] => w
 | o, v :: vs => putL (w.setCell ⟨g, o, none⟩ v) g (o + 1) vs
theorem putL_blk : ∀ (vs : List Value) {w : World} {g : Nat} {xs : Array Value} {t : TypeId} (o : Nat), w.heap[g]? = some (.cells xs t (0, 0)) → ∃ ys, (putL w g o vs).heap[g]? = some (.cells ys t (0, 0)) ∧ ys.size = xs.size
 | [], w, g, xs, t, o, h => ⟨xs, h, rfl⟩
 | v :: vs, w, g, xs, t, o, h => by
  obtain ⟨ys, h1, h2⟩ := putL_blk vs (o + 1) (heap_setCell_same w g o _ _ v h)
  exact ⟨ys, h1, by rw [h2]; simp⟩
theorem putL_below : ∀ (vs : List Value) {B g : Nat} {w0 w : World} (o : Nat), Below B w0 w → B ≤ g → Below B w0 (putL w g o vs)
 | [], B, g, w0, w, o, h, hg => h
 | v :: vs, B, g, w0, w, o, h, hg => putL_below vs (o + 1) (h.setCell (p := ⟨g, o, none⟩) hg v) hg
theorem putL_other : ∀ (vs : List Value) {w : World} {g b : Nat} (o : Nat), b ≠ g → (putL w g o vs).heap[b]? = w.heap[b]?
 | [], w, g, b, o, h => rfl
 | v :: vs, w, g, b, o, h => (putL_other vs (o + 1) h).trans (heap_setCell_other _ _ _ _ h)
theorem putL_size : ∀ (vs : List Value) {w : World} {g : Nat} (o : Nat), (putL w g o vs).heap.size = w.heap.size
 | [], w, g, o => rfl
 | v :: vs, w, g, o => (putL_size vs (o + 1)).trans (by simp)
theorem setc_other (w : World) (c j k : Nat) (v : Value) (h : j ≠ k) : (w.setCell ⟨c, j, none⟩ v).cell? ⟨c, k, none⟩ = w.cell? ⟨c, k, none⟩ := by
 apply World.cell?_setCell_other
 intro e
 injection e with _ e2
 exact h e2
theorem putL_out : ∀ (vs : List Value) {w : World} {g k : Nat} (o : Nat), k < o ∨ o + vs.length ≤ k → (putL w g o vs).cell? ⟨g, k, none⟩ = w.cell? ⟨g, k, none⟩
 | [], w, g, k, o, h => rfl
 | v :: vs, w, g, k, o, h => by
  rw [List.length_cons] at h
  exact (putL_out vs (o + 1) (by omega)).trans (setc_other _ _ _ _ _ (by omega))
theorem putL_same : ∀ (vs : List Value) {w : World} {g : Nat} {xs : Array Value} {t : TypeId} (o : Nat), w.heap[g]? = some (.cells xs t (0, 0)) → o + vs.length ≤ xs.size → LiesAt (putL w g o vs) g o vs
 | [], w, g, xs, t, o, h, hs => fun j v hj => by cases hj
 | u :: vs, w, g, xs, t, o, h, hs => by
  rw [List.length_cons] at hs
  have hk := heap_setCell_same w g o _ _ u h
  intro j v hj
  match j, hj with
  | 0, hj =>
   simp at hj
   subst hj
   refine (putL_out vs (o + 1) (by omega)).trans ?_
   exact cell_blk hk (by rw [Array.getElem?_setIfInBounds]; simp; omega)
  | j + 1, hj =>
   have := putL_same vs (o + 1) hk (by simp; omega) j v (by simpa using hj)
   rw [show o + (j + 1) = o + 1 + j by omega]
   exact this
theorem LiesAt.beside {w : World} {g o k : Nat} {cs vs : List Value} (h : LiesAt w g k cs) (ho : k + cs.length ≤ o ∨ o + vs.length ≤ k) : LiesAt (putL w g o vs) g k cs := fun j v hj =>
 (putL_out vs o (by have := (List.getElem?_eq_some_iff.1 hj).1; omega)).trans (h j v hj)
def Laid {α : Type} (R : Rd α) (w : World) (g i : Nat) (l : List α) : Prop :=
 ∀ j x, j < i → l[j]? = some x → ∃ cs, R.At w (fun b => g < b ∧ b < w.heap.size) cs x ∧ LiesAt w g (j * R.n) cs
theorem Laid.zero {α : Type} {R : Rd α} {w : World} {g : Nat} {l : List α} : Laid R w g 0 l := fun j x hj => by omega
theorem Laid.row {α : Type} {R : Rd α} {w : World} {g : Nat} {l : List α} (h : Laid R w g l.length l) (hg : g < w.heap.size) : R.Row w (fun b => g ≤ b ∧ b < w.heap.size) (some ⟨g, 0, none⟩) l := by
 intro i x hi
 obtain ⟨cs, h1, h2⟩ := h i x (List.getElem?_eq_some_iff.1 hi).1 hi
 refine ⟨g, 0, cs, rfl, ⟨Nat.le_refl _, hg⟩, R.keep h1 fun b hb => ⟨⟨by have := hb.1; omega, hb.2⟩, rfl⟩, ?_⟩
 rw [Nat.zero_add]
 exact h2
theorem Laid.next {α : Type} {R : Rd α} {w w2 : World} {g i : Nat} {l : List α} {x : α} {vs : List Value} {cur : Array Value} {t : TypeId} (h : Laid R w g i l) (hx : l[i]? = some x)
  (hg : g < w.heap.size) (hb : Below w.heap.size w w2) (hat : R.At w2 (fun b => w.heap.size ≤ b ∧ b < w2.heap.size) vs x) (hk : w2.heap[g]? = some (.cells cur t (0, 0))) (hc : i * R.n + R.n ≤ cur.size) :
  Laid R (putL w2 g (i * R.n) vs) g (i + 1) l := by
 have hl := R.len hat
 intro j y hj hy
 by_cases hji : j = i
 ·subst hji
  obtain rfl : x = y := Option.some.inj (hx.symm.trans hy)
  refine ⟨vs, R.keep hat fun b hb' => ⟨⟨by have := hb'.1; omega, by rw [putL_size]; exact hb'.2⟩, putL_other _ _ (by have := hb'.1; omega)⟩, putL_same vs _ hk (by omega)⟩
 ·obtain ⟨cs, h1, h2⟩ := h j y (by omega) hy
  have hlc := R.len h1
  have hs := hb.size
  refine ⟨cs, R.keep h1 fun b hb' => ⟨⟨hb'.1, by rw [putL_size]; have := hb'.2; omega⟩, (putL_other _ _ (by have := hb'.1; omega)).trans (hb.block b hb'.2)⟩, ?_⟩
  refine (h2.keep (hb.block g hg)).beside ?_
  have : j * R.n + R.n ≤ i * R.n := by
   have : (j + 1) * R.n ≤ i * R.n := Nat.mul_le_mul_right _ (by omega)
   rw [Nat.add_mul] at this
   omega
  omega
end Go.Proofs.YtamjofdgikifnaaGreat
set_option linter.unusedVariables false
namespace Go.Proofs.YtamjofdgikifnaaGreat
open Go.ChangeShapes Go.WideShapes Go.ChangeAt Go.RowKit
def leftOf (left b : Nat) : Int := if left < b then -1 else (left : Int) - b
theorem leftOf_nat {left b : Nat} (h : ¬ left < b) : leftOf left b = ((left - b : Nat) : Int) := by
 unfold leftOf
 rw [if_neg h]
 omega
theorem leftOf_neg {left b : Nat} (h : left < b) : leftOf left b = -1 := if_pos h
theorem leftOf_add {left b c : Nat} (h : ¬ left < b) : leftOf left (b + c) = leftOf (left - b) c := by
 unfold leftOf
 by_cases h2 : left - b < c
 ·rw [if_pos (by omega), if_pos h2]
 ·rw [if_neg (by omega), if_neg h2]; omega
def bulkOf {α : Type} (f : α → Nat) : List α → Nat
 | [] => 0
 | x :: r => 1 + f x + bulkOf f r
theorem bulkOf_append {α : Type} (f : α → Nat) : ∀ (a b : List α), bulkOf f (a ++ b) = bulkOf f a + bulkOf f b
 | [], b => by simp [bulkOf]
 | d :: a, b => by simp [bulkOf, bulkOf_append f a b]; omega
theorem bulkOf_take_succ {α : Type} (f : α → Nat) {cs : List α} {i : Nat} {d : α} (h : cs[i]? = some d) : bulkOf f (cs.take (i + 1)) = bulkOf f (cs.take i) + (1 + f d) := by
 rw [List.take_add_one, h]
 simp [bulkOf_append, bulkOf]
theorem bulkOf_len {α : Type} (f : α → Nat) : ∀ (cs : List α), cs.length ≤ bulkOf f cs
 | [] => by simp [bulkOf]
 | d :: cs => by have := bulkOf_len f cs; simp [bulkOf]; omega
theorem bulkOf_take_le {α : Type} (f : α → Nat) (cs : List α) (i : Nat) : bulkOf f (cs.take i) + (cs.length - i) ≤ bulkOf f cs := by
 have := bulkOf_len f (cs.drop i)
 rw [List.length_drop] at this
 conv => rhs; rw [← List.take_append_drop i cs, bulkOf_append]
 omega
theorem bulkOf_mem {α : Type} (f : α → Nat) {cs : List α} {x : α} (h : x ∈ cs) : f x ≤ bulkOf f cs := by
 obtain ⟨a, b, rfl⟩ := List.append_of_mem h
 rw [bulkOf_append]
 simp [bulkOf]
 omega
def bulkS (l : List ByteArray) : Nat := bulkOf ByteArray.size l
def bulkV (l : List Val) : Nat := bulkOf (fun v => v.s.size) l
def Cel.bulk (c : Cel) : Nat := c.s.size + bulkS c.names + bulkV c.vals
def bulkC (l : List Cel) : Nat := bulkOf Cel.bulk l
theorem small_of {cs : List Cel} (hw : ∀ d ∈ cs, d.wf) (h : bulkC cs ≤ 1048576) : ∀ d ∈ cs, d.small := by
 intro d hd
 obtain ⟨w1, w2, w3, w4, w5, w6, w7, w8⟩ := hw d hd
 have hb := bulkOf_mem Cel.bulk hd
 have hl := bulkOf_len ByteArray.size d.names
 have hv := bulkOf_len (fun v : Val => v.s.size) d.vals
 have hb' : d.s.size + bulkOf ByteArray.size d.names + bulkOf (fun v : Val => v.s.size) d.vals ≤ 1048576 := Nat.le_trans hb h
 exact ⟨w1, w2, w3, by omega, by omega, by omega, fun x hx => by have := bulkOf_mem ByteArray.size hx; omega, fun v hv => by
  have := bulkOf_mem (fun v : Val => v.s.size) hv
  obtain ⟨q1, q2, _⟩ := w8 v hv
  exact ⟨q1, q2, by omega⟩⟩
set_option maxRecDepth 100000 in
theorem szStringS_any (a : Option Addr) (ts : List ByteArray) (cap : Nat) (left : Nat) (w : World) (hl : left ≤ 1048576) (hn : ts.length ≤ 9223372036854775807) (hr : RowS w w.heap.size a ts) (hsz : ∀ x ∈ ts, x.size ≤ 9223372036854775807) :
  Calls Tryz.prog 6 #[.slice a ts.length cap, .int .i64 left] w fun e w' => Ans w (.int .i64 (leftOf left (bulkS ts))) e w' := by
 by_cases h : left < ts.length
 ·have HL : Hid (leftOf left (bulkS ts) = -1) := if_pos (by have := bulkOf_len ByteArray.size ts; unfold bulkS; omega)
  have hd : decide ((left : Int) - (ts.length : Int) < 0) = true := by simp; omega
  go_enter Tryz.func6, Tryz.ntmps6
  go_wp2
  all_goals go_ret
  all_goals exact ⟨by rw [HL.out]; rfl, Below.refl _ _⟩
 ·have hd : decide ((left : Int) - (ts.length : Int) < 0) = false := by simp; omega
  have HR : Hid (RowS w w.heap.size a ts) := hr
  have HW : Hid (∀ x ∈ ts, x.size ≤ 9223372036854775807) := hsz
  clear hr hsz
  unfold bulkS
  go_enter Tryz.func6, Tryz.ntmps6
  go_wp2
  go_loopw [1, 5] (fun t o wr => ∃ (i m : Nat), i ≤ ts.length ∧ m + bulkOf ByteArray.size (ts.take i) + (ts.length - i) = left ∧ t = .int .i64 m ∧ o = .int .i64 i ∧ Below w.heap.size w wr)
   (fun _ o _ => ts.length - (intOf o).toNat)
  case atStart => exact ⟨0, left - ts.length, by omega, by simp [bulkOf]; omega, by go_num, rfl, Below.refl _ _⟩
  case round =>
   obtain ⟨i, m, hi, hm, rfl, rfl, hb⟩ := hrel
   by_cases hlt : i < ts.length
   ·obtain ⟨d, hd⟩ : ∃ d, ts[i]? = some d := ⟨_, List.getElem?_eq_getElem hlt⟩
    obtain ⟨b, o, rfl, hbb, c0⟩ := (HR.out.below hb) i d hd
    have hdw := HW.out d (List.mem_of_getElem? hd)
    have HM : Hid (m + bulkOf ByteArray.size (ts.take i) + (ts.length - i) = left) := hm
    have hm' : m ≤ 1048576 := by omega
    have hbs := bulkOf_take_succ ByteArray.size hd
    have hle := bulkOf_take_le ByteArray.size ts (i + 1)
    clear hm
    by_cases hq : m < d.size
    ·have HL : Hid (leftOf left (bulkOf ByteArray.size ts) = -1) := if_pos (by have := HM.out; omega)
     have g1 : decide ((m : Int) - (d.size : Int) < 0) = true := by simp; omega
     clear hbs hle
     go_wp2
     go_ret
     exact ⟨by rw [HL.out]; rfl, hb⟩
    ·have g1 : decide ((m : Int) - (d.size : Int) < 0) = false := by simp; omega
     have HQ : Hid ((m - d.size) + bulkOf ByteArray.size (ts.take (i + 1)) + (ts.length - (i + 1)) = left) := by have := HM.out; show _ = _; omega
     clear hbs hle
     go_wp2
     go_roundw
     case rel => exact ⟨i + 1, m - d.size, by omega, HQ.out, by go_num, by go_num, hb⟩
     case measure => simp [intOf]; omega
   ·have hlt' : decide ((i : Int) < (ts.length : Int)) = false := by simp; omega
    obtain rfl : i = ts.length := by omega
    rw [List.take_length] at hm
    have HL : Hid (leftOf left (bulkOf ByteArray.size ts) = m) := by show _ = _; rw [show leftOf left (bulkOf ByteArray.size ts) = (left : Int) - bulkOf ByteArray.size ts from if_neg (by omega)]; omega
    clear hm
    go_wp2
    go_ret
    exact ⟨by rw [HL.out]; rfl, hb⟩
end Go.Proofs.YtamjofdgikifnaaGreat
