/- The law's marks: blocks that may be written, of any numbers and texts; what a mark leaves as it was. The law's marks: a text of a number. The law's marks, into rows of structs. -/
import Derived.Test.YtmnkomgdcebniaaGreatRdg
import Derived.Test.YtmnkomgdcebniaaGreatRdx
import Derived.Test.YtmnkomgdcebniaaGreatMem
import Derived.Test.YtmnkomgdcebniaaGreatSyp
set_option linter.unusedVariables false
namespace Go.Proofs.YtmnkomgdcebniaaGreat
open Go.ChangeShapes Go.WideShapes Go.ChangeAt Go.RowKit
inductive Like : Value → Value → Prop
 | int (n m : Int) : Like (.int .i64 n) (.int .i64 m)
 | str (s t : ByteArray) : Like (.string s) (.string t)
 | same (v : Value) : Like v v
theorem Like.trans {a b c : Value} (h : Like a b) (g : Like b c) : Like a c := by
 cases h with
 | int n m =>
  cases g with
  | int _ p => exact .int _ _
  | same => exact .int _ _
 | str s t =>
  cases g with
  | str _ p => exact .str _ _
  | same => exact .str _ _
 | same => exact g
theorem Like.slice {a : Option Addr} {n c : Nat} {v : Value} (h : Like (.slice a n c) v) : v = .slice a n c := by
 cases h; rfl
structure Ks (B C : Nat) (w w' : World) : Prop where
 os : w'.os = w.os
 tape : w'.tape = w.tape
 output : w'.output = w.output
 size : w.heap.size ≤ w'.heap.size
 same : ∀ b, b < w.heap.size → (b < B ∨ C ≤ b) → w'.heap[b]? = w.heap[b]?
 cells : ∀ (b : Nat) (X : Array Value) (t : TypeId), w.heap[b]? = some (.cells X t (0, 0)) → ∃ X' : Array Value, w'.heap[b]? = some (.cells X' t (0, 0)) ∧ X'.size = X.size ∧ ∀ (j : Nat) (v : Value), X[j]? = some v → ∃ v', X'[j]? = some v' ∧ Like v v'
theorem Ks.refl (B C : Nat) (w : World) : Ks B C w w := ⟨rfl, rfl, rfl, Nat.le_refl _, fun _ _ _ => rfl, fun _ X _ h => ⟨X, h, rfl, fun _ v hv => ⟨v, hv, .same v⟩⟩⟩
theorem Ks.trans {B C : Nat} {a b c : World} (h : Ks B C a b) (g : Ks B C b c) : Ks B C a c :=
 ⟨g.os.trans h.os, g.tape.trans h.tape, g.output.trans h.output, Nat.le_trans h.size g.size, fun k hk hb => (g.same k (Nat.lt_of_lt_of_le hk h.size) hb).trans (h.same k hk hb), fun k X t hX => by
  obtain ⟨X1, e1, s1, c1⟩ := h.cells k X t hX
  obtain ⟨X2, e2, s2, c2⟩ := g.cells k X1 t e1
  refine ⟨X2, e2, s2.trans s1, fun j v hv => ?_⟩
  obtain ⟨v1, h1, l1⟩ := c1 j v hv
  obtain ⟨v2, h2, l2⟩ := c2 j v1 h1
  exact ⟨v2, h2, l1.trans l2⟩⟩
theorem Ks.of_below {B C : Nat} {w w' : World} (h : Below w.heap.size w w') : Ks B C w w' :=
 ⟨h.os, h.tape, h.output, h.size, fun k hk _ => h.block k hk, fun k X t hX => ⟨X, (h.block k (Array.getElem?_eq_some_iff.1 hX).1).trans hX, rfl, fun _ v hv => ⟨v, hv, .same v⟩⟩⟩
theorem Ks.set {B C : Nat} {w : World} {g o : Nat} {X : Array Value} {t : TypeId} {v v' : Value} (h1 : B ≤ g) (h2 : g < C) (hX : w.heap[g]? = some (.cells X t (0, 0))) (hv : X[o]? = some v) (hl : Like v v') : Ks B C w (w.setCell ⟨g, o, none⟩ v') := by
 refine ⟨rfl, rfl, rfl, by simp, fun k hk hb => heap_setCell_other _ _ _ _ (by show k ≠ g; omega), fun k Y u hY => ?_⟩
 by_cases hk : k = g
 ·subst hk
  rw [hX] at hY
  obtain ⟨rfl, rfl⟩ : X = Y ∧ t = u := by simpa using hY
  refine ⟨_, heap_setCell_same _ _ _ _ _ _ hX, by simp, fun j u hu => ?_⟩
  rw [Array.getElem?_setIfInBounds]
  by_cases hj : o = j
  ·subst hj
   rw [hv] at hu
   obtain rfl := Option.some.inj hu
   rw [if_pos rfl, if_pos (Array.getElem?_eq_some_iff.1 hv).1]
   exact ⟨v', rfl, hl⟩
  ·rw [if_neg hj]
   exact ⟨u, hu, .same u⟩
 ·exact ⟨Y, (heap_setCell_other _ _ _ _ hk).trans hY, rfl, fun _ u hu => ⟨u, hu, .same u⟩⟩
inductive Sh
 | i
 | s
 | r (m : Nat) (els : List (List Sh))
inductive Fits (B C : Nat) (w : World) : Sh → Value → Prop
 | i (n : Int) : Fits B C w .i (.int .i64 n)
 | s (t : ByteArray) : Fits B C w .s (.string t)
 | r (m : Nat) (els : List (List Sh)) (a : Option Addr) (cap b o : Nat) (X : Array Value) (t : TypeId) (V : Nat → Nat → Value)
   (ha : els ≠ [] → a = some ⟨b, o, none⟩ ∧ B ≤ b ∧ b < C ∧ w.heap[b]? = some (.cells X t (0, 0)))
   (hv : ∀ i fs j f, els[i]? = some fs → fs[j]? = some f → X[o + i * m + j]? = some (V i j))
   (hf : ∀ i fs j f, els[i]? = some fs → fs[j]? = some f → Fits B C w f (V i j)) : Fits B C w (.r m els) (.slice a els.length cap)
theorem Fits.ks {B C : Nat} {w w' : World} {f : Sh} {v : Value} (h : Fits B C w f v) (hk : Ks B C w w') : ∀ v', Like v v' → Fits B C w' f v' := by
 induction h with
 | i n =>
  intro v' hl
  cases hl with
  | int _ m => exact .i m
  | same => exact .i n
 | s t =>
  intro v' hl
  cases hl with
  | str _ u => exact .s u
  | same => exact .s t
 | r m els a cap b o X t V ha hv hf ih =>
  intro v' hl
  rw [hl.slice]
  by_cases hne : els = []
  ·subst hne
   exact .r m [] a cap b o X t V (fun h => absurd rfl h) (fun i fs j f h => by simp at h) (fun i fs j f h => by simp at h)
  ·obtain ⟨h1, h2, h3, h4⟩ := ha hne
   obtain ⟨X', e', s', c'⟩ := hk.cells b X t h4
   refine .r m els a cap b o X' t (fun i j => (X'[o + i * m + j]?).getD undef) (fun _ => ⟨h1, h2, h3, e'⟩) (fun i fs j f hi hj => ?_) (fun i fs j f hi hj => ?_)
   ·obtain ⟨v1, g1, _⟩ := c' _ _ (hv i fs j f hi hj)
    rw [g1]; rfl
   ·obtain ⟨v1, g1, l1⟩ := c' _ _ (hv i fs j f hi hj)
    rw [g1]
    exact ih i fs j f hi hj v1 l1
theorem Fits.row {B C : Nat} {w : World} {m : Nat} {els : List (List Sh)} {a : Option Addr} {n cap : Nat} (h : Fits B C w (.r m els) (.slice a n cap)) {i : Nat} {fs : List Sh} (hi : els[i]? = some fs) :
  ∃ (b o : Nat) (X : Array Value) (t : TypeId), a = some ⟨b, o, none⟩ ∧ B ≤ b ∧ b < C ∧ w.heap[b]? = some (.cells X t (0, 0)) ∧ ∀ (j : Nat) (f : Sh), fs[j]? = some f → ∃ u, X[o + i * m + j]? = some u ∧ Fits B C w f u := by
 cases h with
 | r _ _ _ _ b o X t V ha hv hf =>
  have hne : els ≠ [] := fun e => by subst e; simp at hi
  obtain ⟨h1, h2, h3, h4⟩ := ha hne
  exact ⟨b, o, X, t, h1, h2, h3, h4, fun j f hj => ⟨V i j, hv i fs j f hi hj, hf i fs j f hi hj⟩⟩
theorem Fits.int {B C : Nat} {w : World} {v : Value} (h : Fits B C w .i v) : ∃ n, v = .int .i64 n := by cases h; exact ⟨_, rfl⟩
theorem Fits.text {B C : Nat} {w : World} {v : Value} (h : Fits B C w .s v) : ∃ t, v = .string t := by cases h; exact ⟨_, rfl⟩
theorem Fits.slice {B C : Nat} {w : World} {m : Nat} {els : List (List Sh)} {v : Value} (h : Fits B C w (.r m els) v) : ∃ a cap, v = .slice a els.length cap := by cases h; exact ⟨_, _, rfl⟩
def MkP (B C : Nat) (w : World) (k n : Nat) (e : Ending) (w' : World) : Prop := ∃ k' : Nat, e = .returned (.int .i64 (k' : Int)) ∧ k ≤ k' ∧ k' ≤ k + 6 * n ∧ Ks B C w w'
end Go.Proofs.YtmnkomgdcebniaaGreat
set_option linter.unusedVariables false
namespace Go.Proofs.YtmnkomgdcebniaaGreat
open Go.ChangeShapes Go.WideShapes Go.ChangeAt Go.RowKit
def mtx (n : Nat) : ByteArray := ⟨(109 :: digs 20 n).toArray⟩
set_option maxRecDepth 100000 in
set_option maxHeartbeats 1000000 in
theorem markText_any (n : Nat) (w : World) (h0 : 0 < n) (hn : n ≤ 9223372036854775807) :
  Calls Tryz.prog 101 #[.int .i64 n] w fun e w' => Ans w (.string (mtx n)) e w' := by
 have hz : decide ((n : Int) ≤ 0) = false := by simp; omega
 go_enter Tryz.func101, Tryz.ntmps101
 go_wp2
 go_loopw [0, 3] (fun t o wr => ∃ (f m : Nat) (out : List UInt8), f + out.length = 20 ∧ m < 10 ^ f ∧ m ≤ 9223372036854775807 ∧ digs f m ++ out = digs 20 n ∧ t = .int .i64 m ∧ o = .string ⟨out.toArray⟩ ∧ Below w.heap.size w wr)
  (fun t _ _ => (intOf t).toNat)
 case atStart => exact ⟨20, n, [], rfl, by omega, hn, by simp, rfl, rfl, Below.refl _ _⟩
 case round =>
  clear hz
  obtain ⟨f, m, out, hf, hm, hmn, hpre, rfl, rfl, hnx⟩ := hrel
  have hsz := hnx.size
  by_cases hm0 : m = 0
  ·subst hm0
   rw [digs_zero, List.nil_append] at hpre
   have HP : Hid (out = digs 20 n) := hpre
   have hll : out.length ≤ 20 := by omega
   clear hpre hm
   go_wp2
   go_ret
   exact ⟨by rw [mtx, ← HP.out]; exact congrArg (fun b => Ending.returned (Value.string b)) (ByteArray.mk_append_mk [109] out), hnx⟩
  ·match f, hf, hm, hpre with
   | 0, hf, hm, hpre => exact absurd hm (by simp; omega)
   | f + 1, hf, hm, hpre =>
    rw [digs_pos f m hm0] at hpre
    rw [Nat.pow_succ] at hm
    obtain ⟨c, hc⟩ : ∃ c, c = UInt8.ofNat (48 + m % 10) := ⟨_, rfl⟩
    have HP : Hid (digs f (m / 10) ++ (c :: out) = digs 20 n) := by
     show _ = _; rw [← hpre, hc]; simp
    have HM : Hid (m / 10 < 10 ^ f) := by show _ < _; omega
    have HC : Hid ((48 : Int) + (m : Int) % 10 = (c.toNat : Int)) := by
     have := ofNat48 (m % 10) (by omega)
     show _ = _; rw [hc, this]; omega
    have hll : out.length ≤ 20 := by omega
    have hz2 : decide ((0 : Int) < (m : Int)) = true := by simp; omega
    have hz3 : (0 : Int) < (m : Int) := by omega
    have hcv := conv_one wr c
    rw [← HC.out] at hcv
    clear hpre hm hc
    go_wp2
    go_roundw
    case rel => exact ⟨f, m / 10, c :: out, by simp; omega, HM.out, by omega, HP.out, by go_num, congrArg Value.string (ByteArray.mk_append_mk [c] out), hnx.alloc hsz _⟩
    case measure => simp [intOf]; omega
end Go.Proofs.YtmnkomgdcebniaaGreat
set_option linter.unusedVariables false
namespace Go.Proofs.YtmnkomgdcebniaaGreat
open Go.ChangeShapes Go.WideShapes Go.ChangeAt Go.RowKit
def cnt {α : Type} (f : α → Nat) (l : List α) : Nat := (l.map f).sum
theorem cnt_take_succ {α : Type} (f : α → Nat) {l : List α} {i : Nat} {x : α} (h : l[i]? = some x) : cnt f (l.take (i + 1)) = cnt f (l.take i) + f x := by
 unfold cnt
 rw [List.take_add_one, h]
 simp
theorem cnt_append {α : Type} (f : α → Nat) (a b : List α) : cnt f (a ++ b) = cnt f a + cnt f b := by simp [cnt]
theorem cnt_take_le {α : Type} (f : α → Nat) (l : List α) (i : Nat) : cnt f (l.take i) ≤ cnt f l := by
 have h : cnt f l = cnt f (l.take i ++ l.drop i) := by rw [List.take_append_drop]
 rw [h, cnt_append]
 omega
theorem Like.int_of {n : Int} {v : Value} (h : Like (.int .i64 n) v) : ∃ m, v = .int .i64 m := by cases h <;> exact ⟨_, rfl⟩
theorem Like.str_of {t : ByteArray} {v : Value} (h : Like (.string t) v) : ∃ u, v = .string u := by cases h <;> exact ⟨_, rfl⟩
theorem Ks.put {B C : Nat} {w W : World} {b o : Nat} {X : Array Value} {t : TypeId} {v v' : Value} (hk : Ks B C w W) (hX : w.heap[b]? = some (.cells X t (0, 0))) (h1 : B ≤ b) (h2 : b < C) (hv : X[o]? = some v) (hl : ∀ u, Like v u → Like u v') : Ks B C w (W.setCell ⟨b, o, none⟩ v') := by
 obtain ⟨X', e', _, c'⟩ := hk.cells b X t hX
 obtain ⟨u, hu, lu⟩ := c' o v hv
 exact hk.trans (Ks.set h1 h2 e' hu (hl u lu))
theorem like_i {n m : Int} : ∀ u, Like (.int .i64 n) u → Like u (.int .i64 m) := fun u h => by
 obtain ⟨p, rfl⟩ := h.int_of
 exact .int _ _
theorem like_s {s t : ByteArray} : ∀ u, Like (.string s) u → Like u (.string t) := fun u h => by
 obtain ⟨p, rfl⟩ := h.str_of
 exact .str _ _
def Mk (B C : Nat) (w : World) (k n : Nat) (e : Ending) (w' : World) : Prop := e = .returned (.int .i64 ((k + n : Nat) : Int)) ∧ Ks B C w w'
theorem map_at {α β : Type} (f : α → β) {l : List α} {i : Nat} {x : α} (h : l[i]? = some x) : (l.map f)[i]? = some (f x) := by simp [h]
def sh_string (x : ByteArray) : List Sh := [.s]
def c_string (x : ByteArray) : Nat := 1
set_option maxRecDepth 100000 in
set_option maxHeartbeats 2000000 in
theorem mark_string (B C : Nat) (a : Option Addr) (l : List ByteArray) (cap k : Nat) (w : World) (h : Fits B C w (.r 1 (l.map sh_string)) (.slice a l.length cap)) (hn : l.length ≤ 1048576) (hk1 : 1 ≤ k) (hk : k + cnt c_string l ≤ 9000000) :
  Calls Tryz.prog 56 #[.slice a l.length cap, .int .i64 (k : Int)] w fun e w' => Mk B C w k (cnt c_string l) e w' := by
 have HF : Hid (Fits B C w (.r 1 (l.map sh_string)) (.slice a l.length cap)) := h
 clear h
 go_enter Tryz.func56, Tryz.ntmps56
 go_wp2
 go_loopw [1, 5] (fun kv iv wr => ∃ (i kk : Nat), i ≤ l.length ∧ kk = k + cnt c_string (l.take i) ∧ kv = .int .i64 kk ∧ iv = .int .i64 i ∧ Ks B C w wr)
  (fun kv iv _ => l.length - (intOf iv).toNat)
 case atStart => exact ⟨0, k, Nat.zero_le _, by simp [cnt], rfl, rfl, Ks.refl _ _ _⟩
 case round =>
  obtain ⟨i, kk, hi, hkk, rfl, rfl, hks⟩ := hrel
  have HKK : Hid (kk = k + cnt c_string (l.take i)) := hkk
  have hle := cnt_take_le c_string l (i + 1)
  by_cases hlt : i < l.length
  ·obtain ⟨x, hx⟩ : ∃ x, l[i]? = some x := ⟨_, List.getElem?_eq_getElem hlt⟩
   have hcs := cnt_take_succ c_string hx
   obtain ⟨b, o, X, t, rfl, hB, hC, hX, hfl⟩ := (HF.out.ks hks _ (.same _)).row (map_at sh_string hx)
   have hil : (i : Int) < (l.length : Int) := by omega
   have hcx : c_string x = 1 := rfl
   have hkb : kk + (1) ≤ 9000000 := by omega
   have hkp : 1 ≤ kk := by omega
   have HKN : Hid (kk + (1) = k + cnt c_string (l.take (i + 1))) := by show _ = _; omega
   clear hcx
   have HX : Hid (wr.heap[b]? = some (.cells X t (0, 0))) := hX
   have HB : Hid (B ≤ b) := hB
   have HC : Hid (b < C) := hC
   have HKS : Hid (Ks B C w wr) := hks
   clear hle hcs hkk
   obtain ⟨u0, w0, f0⟩ := hfl 0 (.s) rfl
   obtain ⟨n0_wr, rfl⟩ := f0.text
   have v0_wr : X[o + i]? = some (.string n0_wr) := by simpa using w0
   have V0 : Hid (X[o + i]? = some (.string n0_wr)) := v0_wr
   have HT : Hid (∀ (m : Nat) (w1 : World), 1 ≤ m → m ≤ 9000000 → Calls Tryz.prog 101 #[.int .i64 (m : Int)] w1 fun e w' => Ans w1 (.string (mtx m)) e w') := fun m w1 h1 h2 => markText_any m w1 (by omega) (by omega)
   have x0 : wr.cell? ⟨b, o + i, none⟩ = some (.string n0_wr) := cell_blk hX v0_wr
   have z0 := frozen_blk hX (o + i)
   clear hfl hX hB hC hks w0 v0_wr f0
   go_wp2_with fail
   refine (HT.out (kk) _ (by omega) (by omega)).mono ?_
   rintro e w1x ⟨rfl, hb1⟩
   have q1 : Ks B C wr w1x := (Ks.refl B C wr).trans (Ks.of_below hb1)
   clear hb1
   clear x0 z0
   obtain ⟨X1, hX1, -, hc1⟩ := q1.cells b X t HX.out
   obtain ⟨u0, v0_w1x, l0⟩ := hc1 _ _ V0.out
   obtain ⟨n0_w1x, rfl⟩ := l0.str_of
   have x0 : w1x.cell? ⟨b, o + i, none⟩ = some (.string n0_w1x) := cell_blk hX1 v0_w1x
   have z0 := frozen_blk hX1 (o + i)
   have HQ1 : Hid (Ks B C wr w1x) := q1
   clear q1 hc1 hX1 v0_w1x l0
   go_wp2
   go_roundw
   case rel => exact ⟨i + 1, kk + 1, by omega, by have := HKN.out; omega, by go_num, by go_num, HKS.out.trans (HQ1.out.put HX.out HB.out HC.out V0.out like_s)⟩
   case measure => simp [intOf]; omega
  ·have hlt' : decide ((i : Int) < (l.length : Int)) = false := by simp; omega
   obtain rfl : i = l.length := by omega
   rw [List.take_length] at HKK
   have HQ : Hid (kk = k + cnt c_string l) := HKK.out
   have HKS : Hid (Ks B C w wr) := hks
   clear hkk HKK hle hks
   go_wp2
   go_ret
   exact ⟨by rw [HQ.out]; rfl, HKS.out⟩
def sh_int (x : Int) : List Sh := [.i]
def c_int (x : Int) : Nat := 1
set_option maxRecDepth 100000 in
set_option maxHeartbeats 2000000 in
theorem mark_int (B C : Nat) (a : Option Addr) (l : List Int) (cap k : Nat) (w : World) (h : Fits B C w (.r 1 (l.map sh_int)) (.slice a l.length cap)) (hn : l.length ≤ 1048576) (hk1 : 1 ≤ k) (hk : k + cnt c_int l ≤ 9000000) :
  Calls Tryz.prog 143 #[.slice a l.length cap, .int .i64 (k : Int)] w fun e w' => Mk B C w k (cnt c_int l) e w' := by
 have HF : Hid (Fits B C w (.r 1 (l.map sh_int)) (.slice a l.length cap)) := h
 clear h
 go_enter Tryz.func143, Tryz.ntmps143
 go_wp2
 go_loopw [1, 5] (fun kv iv wr => ∃ (i kk : Nat), i ≤ l.length ∧ kk = k + cnt c_int (l.take i) ∧ kv = .int .i64 kk ∧ iv = .int .i64 i ∧ Ks B C w wr)
  (fun kv iv _ => l.length - (intOf iv).toNat)
 case atStart => exact ⟨0, k, Nat.zero_le _, by simp [cnt], rfl, rfl, Ks.refl _ _ _⟩
 case round =>
  obtain ⟨i, kk, hi, hkk, rfl, rfl, hks⟩ := hrel
  have HKK : Hid (kk = k + cnt c_int (l.take i)) := hkk
  have hle := cnt_take_le c_int l (i + 1)
  by_cases hlt : i < l.length
  ·obtain ⟨x, hx⟩ : ∃ x, l[i]? = some x := ⟨_, List.getElem?_eq_getElem hlt⟩
   have hcs := cnt_take_succ c_int hx
   obtain ⟨b, o, X, t, rfl, hB, hC, hX, hfl⟩ := (HF.out.ks hks _ (.same _)).row (map_at sh_int hx)
   have hil : (i : Int) < (l.length : Int) := by omega
   have hcx : c_int x = 1 := rfl
   have hkb : kk + (1) ≤ 9000000 := by omega
   have hkp : 1 ≤ kk := by omega
   have HKN : Hid (kk + (1) = k + cnt c_int (l.take (i + 1))) := by show _ = _; omega
   clear hcx
   have HX : Hid (wr.heap[b]? = some (.cells X t (0, 0))) := hX
   have HB : Hid (B ≤ b) := hB
   have HC : Hid (b < C) := hC
   have HKS : Hid (Ks B C w wr) := hks
   clear hle hcs hkk
   obtain ⟨u0, w0, f0⟩ := hfl 0 (.i) rfl
   obtain ⟨n0_wr, rfl⟩ := f0.int
   have v0_wr : X[o + i]? = some (.int .i64 n0_wr) := by simpa using w0
   have V0 : Hid (X[o + i]? = some (.int .i64 n0_wr)) := v0_wr
   have x0 : wr.cell? ⟨b, o + i, none⟩ = some (.int .i64 n0_wr) := cell_blk hX v0_wr
   have z0 := frozen_blk hX (o + i)
   clear hfl hX hB hC hks w0 v0_wr f0
   go_wp2
   go_roundw
   case rel => exact ⟨i + 1, kk + 1, by omega, by have := HKN.out; omega, by go_num, by go_num, HKS.out.trans ((Ks.refl B C wr).put HX.out HB.out HC.out V0.out like_i)⟩
   case measure => simp [intOf]; omega
  ·have hlt' : decide ((i : Int) < (l.length : Int)) = false := by simp; omega
   obtain rfl : i = l.length := by omega
   rw [List.take_length] at HKK
   have HQ : Hid (kk = k + cnt c_int l) := HKK.out
   have HKS : Hid (Ks B C w wr) := hks
   clear hkk HKK hle hks
   go_wp2
   go_ret
   exact ⟨by rw [HQ.out]; rfl, HKS.out⟩
def sh_Value (x : Val) : List Sh := [.i, .i, .s]
def c_Value (x : Val) : Nat := 3
set_option maxRecDepth 100000 in
set_option maxHeartbeats 2000000 in
theorem mark_Value (B C : Nat) (a : Option Addr) (l : List Val) (cap k : Nat) (w : World) (h : Fits B C w (.r 3 (l.map sh_Value)) (.slice a l.length cap)) (hn : l.length ≤ 1048576) (hk1 : 1 ≤ k) (hk : k + cnt c_Value l ≤ 9000000) :
  Calls Tryz.prog 102 #[.slice a l.length cap, .int .i64 (k : Int)] w fun e w' => Mk B C w k (cnt c_Value l) e w' := by
 have HF : Hid (Fits B C w (.r 3 (l.map sh_Value)) (.slice a l.length cap)) := h
 clear h
 go_enter Tryz.func102, Tryz.ntmps102
 go_wp2
 go_loopw [1, 5] (fun kv iv wr => ∃ (i kk : Nat), i ≤ l.length ∧ kk = k + cnt c_Value (l.take i) ∧ kv = .int .i64 kk ∧ iv = .int .i64 i ∧ Ks B C w wr)
  (fun kv iv _ => l.length - (intOf iv).toNat)
 case atStart => exact ⟨0, k, Nat.zero_le _, by simp [cnt], rfl, rfl, Ks.refl _ _ _⟩
 case round =>
  obtain ⟨i, kk, hi, hkk, rfl, rfl, hks⟩ := hrel
  have HKK : Hid (kk = k + cnt c_Value (l.take i)) := hkk
  have hle := cnt_take_le c_Value l (i + 1)
  by_cases hlt : i < l.length
  ·obtain ⟨x, hx⟩ : ∃ x, l[i]? = some x := ⟨_, List.getElem?_eq_getElem hlt⟩
   have hcs := cnt_take_succ c_Value hx
   obtain ⟨b, o, X, t, rfl, hB, hC, hX, hfl⟩ := (HF.out.ks hks _ (.same _)).row (map_at sh_Value hx)
   have hil : (i : Int) < (l.length : Int) := by omega
   have hcx : c_Value x = 3 := rfl
   have hkb : kk + (3) ≤ 9000000 := by omega
   have hkp : 1 ≤ kk := by omega
   have HKN : Hid (kk + (3) = k + cnt c_Value (l.take (i + 1))) := by show _ = _; omega
   clear hcx
   have HX : Hid (wr.heap[b]? = some (.cells X t (0, 0))) := hX
   have HB : Hid (B ≤ b) := hB
   have HC : Hid (b < C) := hC
   have HKS : Hid (Ks B C w wr) := hks
   clear hle hcs hkk
   obtain ⟨u0, w0, f0⟩ := hfl 0 (.i) rfl
   obtain ⟨n0_wr, rfl⟩ := f0.int
   have v0_wr : X[o + i * 3]? = some (.int .i64 n0_wr) := by simpa using w0
   have V0 : Hid (X[o + i * 3]? = some (.int .i64 n0_wr)) := v0_wr
   obtain ⟨u1, w1, f1⟩ := hfl 1 (.i) rfl
   obtain ⟨n1_wr, rfl⟩ := f1.int
   have v1_wr : X[o + i * 3 + 1]? = some (.int .i64 n1_wr) := by simpa using w1
   have V1 : Hid (X[o + i * 3 + 1]? = some (.int .i64 n1_wr)) := v1_wr
   obtain ⟨u2, w2, f2⟩ := hfl 2 (.s) rfl
   obtain ⟨n2_wr, rfl⟩ := f2.text
   have v2_wr : X[o + i * 3 + 2]? = some (.string n2_wr) := by simpa using w2
   have V2 : Hid (X[o + i * 3 + 2]? = some (.string n2_wr)) := v2_wr
   have HT : Hid (∀ (m : Nat) (w1 : World), 1 ≤ m → m ≤ 9000000 → Calls Tryz.prog 101 #[.int .i64 (m : Int)] w1 fun e w' => Ans w1 (.string (mtx m)) e w') := fun m w1 h1 h2 => markText_any m w1 (by omega) (by omega)
   have x0 : wr.cell? ⟨b, o + i * 3, none⟩ = some (.int .i64 n0_wr) := cell_blk hX v0_wr
   have z0 := frozen_blk hX (o + i * 3)
   have x1 : wr.cell? ⟨b, o + i * 3 + 1, none⟩ = some (.int .i64 n1_wr) := cell_blk hX v1_wr
   have z1 := frozen_blk hX (o + i * 3 + 1)
   have x2 : wr.cell? ⟨b, o + i * 3 + 2, none⟩ = some (.string n2_wr) := cell_blk hX v2_wr
   have z2 := frozen_blk hX (o + i * 3 + 2)
   clear hfl hX hB hC hks w0 v0_wr w1 v1_wr w2 v2_wr f0 f1 f2
   go_wp2_with fail
   refine (HT.out (kk + 1 + 1) _ (by omega) (by omega)).mono ?_
   rintro e w1x ⟨rfl, hb1⟩
   have q1 : Ks B C wr w1x := (((Ks.refl B C wr).put HX.out HB.out HC.out V0.out like_i).put HX.out HB.out HC.out V1.out like_i).trans (Ks.of_below hb1)
   clear hb1
   clear x0 z0 x1 z1 x2 z2
   obtain ⟨X1, hX1, -, hc1⟩ := q1.cells b X t HX.out
   obtain ⟨u0, v0_w1x, l0⟩ := hc1 _ _ V0.out
   obtain ⟨n0_w1x, rfl⟩ := l0.int_of
   obtain ⟨u1, v1_w1x, l1⟩ := hc1 _ _ V1.out
   obtain ⟨n1_w1x, rfl⟩ := l1.int_of
   obtain ⟨u2, v2_w1x, l2⟩ := hc1 _ _ V2.out
   obtain ⟨n2_w1x, rfl⟩ := l2.str_of
   have x0 : w1x.cell? ⟨b, o + i * 3, none⟩ = some (.int .i64 n0_w1x) := cell_blk hX1 v0_w1x
   have z0 := frozen_blk hX1 (o + i * 3)
   have x1 : w1x.cell? ⟨b, o + i * 3 + 1, none⟩ = some (.int .i64 n1_w1x) := cell_blk hX1 v1_w1x
   have z1 := frozen_blk hX1 (o + i * 3 + 1)
   have x2 : w1x.cell? ⟨b, o + i * 3 + 2, none⟩ = some (.string n2_w1x) := cell_blk hX1 v2_w1x
   have z2 := frozen_blk hX1 (o + i * 3 + 2)
   have HQ1 : Hid (Ks B C wr w1x) := q1
   clear q1 hc1 hX1 v0_w1x l0 v1_w1x l1 v2_w1x l2
   go_wp2
   go_roundw
   case rel => exact ⟨i + 1, kk + 1 + 1 + 1, by omega, by have := HKN.out; omega, by go_num, by go_num, HKS.out.trans (HQ1.out.put HX.out HB.out HC.out V2.out like_s)⟩
   case measure => simp [intOf]; omega
  ·have hlt' : decide ((i : Int) < (l.length : Int)) = false := by simp; omega
   obtain rfl : i = l.length := by omega
   rw [List.take_length] at HKK
   have HQ : Hid (kk = k + cnt c_Value l) := HKK.out
   have HKS : Hid (Ks B C w wr) := hks
   clear hkk HKK hle hks
   go_wp2
   go_ret
   exact ⟨by rw [HQ.out]; rfl, HKS.out⟩
def sh_Link (x : Lnk) : List Sh := [.s, .i, .s]
def c_Link (x : Lnk) : Nat := 3
set_option maxRecDepth 100000 in
set_option maxHeartbeats 2000000 in
theorem mark_Link (B C : Nat) (a : Option Addr) (l : List Lnk) (cap k : Nat) (w : World) (h : Fits B C w (.r 3 (l.map sh_Link)) (.slice a l.length cap)) (hn : l.length ≤ 1048576) (hk1 : 1 ≤ k) (hk : k + cnt c_Link l ≤ 9000000) :
  Calls Tryz.prog 103 #[.slice a l.length cap, .int .i64 (k : Int)] w fun e w' => Mk B C w k (cnt c_Link l) e w' := by
 have HF : Hid (Fits B C w (.r 3 (l.map sh_Link)) (.slice a l.length cap)) := h
 clear h
 go_enter Tryz.func103, Tryz.ntmps103
 go_wp2
 go_loopw [1, 5] (fun kv iv wr => ∃ (i kk : Nat), i ≤ l.length ∧ kk = k + cnt c_Link (l.take i) ∧ kv = .int .i64 kk ∧ iv = .int .i64 i ∧ Ks B C w wr)
  (fun kv iv _ => l.length - (intOf iv).toNat)
 case atStart => exact ⟨0, k, Nat.zero_le _, by simp [cnt], rfl, rfl, Ks.refl _ _ _⟩
 case round =>
  obtain ⟨i, kk, hi, hkk, rfl, rfl, hks⟩ := hrel
  have HKK : Hid (kk = k + cnt c_Link (l.take i)) := hkk
  have hle := cnt_take_le c_Link l (i + 1)
  by_cases hlt : i < l.length
  ·obtain ⟨x, hx⟩ : ∃ x, l[i]? = some x := ⟨_, List.getElem?_eq_getElem hlt⟩
   have hcs := cnt_take_succ c_Link hx
   obtain ⟨b, o, X, t, rfl, hB, hC, hX, hfl⟩ := (HF.out.ks hks _ (.same _)).row (map_at sh_Link hx)
   have hil : (i : Int) < (l.length : Int) := by omega
   have hcx : c_Link x = 3 := rfl
   have hkb : kk + (3) ≤ 9000000 := by omega
   have hkp : 1 ≤ kk := by omega
   have HKN : Hid (kk + (3) = k + cnt c_Link (l.take (i + 1))) := by show _ = _; omega
   clear hcx
   have HX : Hid (wr.heap[b]? = some (.cells X t (0, 0))) := hX
   have HB : Hid (B ≤ b) := hB
   have HC : Hid (b < C) := hC
   have HKS : Hid (Ks B C w wr) := hks
   clear hle hcs hkk
   obtain ⟨u0, w0, f0⟩ := hfl 0 (.s) rfl
   obtain ⟨n0_wr, rfl⟩ := f0.text
   have v0_wr : X[o + i * 3]? = some (.string n0_wr) := by simpa using w0
   have V0 : Hid (X[o + i * 3]? = some (.string n0_wr)) := v0_wr
   obtain ⟨u1, w1, f1⟩ := hfl 1 (.i) rfl
   obtain ⟨n1_wr, rfl⟩ := f1.int
   have v1_wr : X[o + i * 3 + 1]? = some (.int .i64 n1_wr) := by simpa using w1
   have V1 : Hid (X[o + i * 3 + 1]? = some (.int .i64 n1_wr)) := v1_wr
   obtain ⟨u2, w2, f2⟩ := hfl 2 (.s) rfl
   obtain ⟨n2_wr, rfl⟩ := f2.text
   have v2_wr : X[o + i * 3 + 2]? = some (.string n2_wr) := by simpa using w2
   have V2 : Hid (X[o + i * 3 + 2]? = some (.string n2_wr)) := v2_wr
   have HT : Hid (∀ (m : Nat) (w1 : World), 1 ≤ m → m ≤ 9000000 → Calls Tryz.prog 101 #[.int .i64 (m : Int)] w1 fun e w' => Ans w1 (.string (mtx m)) e w') := fun m w1 h1 h2 => markText_any m w1 (by omega) (by omega)
   have x0 : wr.cell? ⟨b, o + i * 3, none⟩ = some (.string n0_wr) := cell_blk hX v0_wr
   have z0 := frozen_blk hX (o + i * 3)
   have x1 : wr.cell? ⟨b, o + i * 3 + 1, none⟩ = some (.int .i64 n1_wr) := cell_blk hX v1_wr
   have z1 := frozen_blk hX (o + i * 3 + 1)
   have x2 : wr.cell? ⟨b, o + i * 3 + 2, none⟩ = some (.string n2_wr) := cell_blk hX v2_wr
   have z2 := frozen_blk hX (o + i * 3 + 2)
   clear hfl hX hB hC hks w0 v0_wr w1 v1_wr w2 v2_wr f0 f1 f2
   go_wp2_with fail
   refine (HT.out (kk) _ (by omega) (by omega)).mono ?_
   rintro e w1x ⟨rfl, hb1⟩
   have q1 : Ks B C wr w1x := (Ks.refl B C wr).trans (Ks.of_below hb1)
   clear hb1
   clear x0 z0 x1 z1 x2 z2
   obtain ⟨X1, hX1, -, hc1⟩ := q1.cells b X t HX.out
   obtain ⟨u0, v0_w1x, l0⟩ := hc1 _ _ V0.out
   obtain ⟨n0_w1x, rfl⟩ := l0.str_of
   obtain ⟨u1, v1_w1x, l1⟩ := hc1 _ _ V1.out
   obtain ⟨n1_w1x, rfl⟩ := l1.int_of
   obtain ⟨u2, v2_w1x, l2⟩ := hc1 _ _ V2.out
   obtain ⟨n2_w1x, rfl⟩ := l2.str_of
   have x0 : w1x.cell? ⟨b, o + i * 3, none⟩ = some (.string n0_w1x) := cell_blk hX1 v0_w1x
   have z0 := frozen_blk hX1 (o + i * 3)
   have x1 : w1x.cell? ⟨b, o + i * 3 + 1, none⟩ = some (.int .i64 n1_w1x) := cell_blk hX1 v1_w1x
   have z1 := frozen_blk hX1 (o + i * 3 + 1)
   have x2 : w1x.cell? ⟨b, o + i * 3 + 2, none⟩ = some (.string n2_w1x) := cell_blk hX1 v2_w1x
   have z2 := frozen_blk hX1 (o + i * 3 + 2)
   have HQ1 : Hid (Ks B C wr w1x) := q1
   clear q1 hc1 hX1 v0_w1x l0 v1_w1x l1 v2_w1x l2
   go_wp2_with fail
   refine (HT.out (kk + 1 + 1) _ (by omega) (by omega)).mono ?_
   rintro e w2x ⟨rfl, hb2⟩
   have q2 : Ks B C wr w2x := ((HQ1.out.put HX.out HB.out HC.out V0.out like_s).put HX.out HB.out HC.out V1.out like_i).trans (Ks.of_below hb2)
   clear hb2
   clear x0 z0 x1 z1 x2 z2
   obtain ⟨X2, hX2, -, hc2⟩ := q2.cells b X t HX.out
   obtain ⟨u0, v0_w2x, l0⟩ := hc2 _ _ V0.out
   obtain ⟨n0_w2x, rfl⟩ := l0.str_of
   obtain ⟨u1, v1_w2x, l1⟩ := hc2 _ _ V1.out
   obtain ⟨n1_w2x, rfl⟩ := l1.int_of
   obtain ⟨u2, v2_w2x, l2⟩ := hc2 _ _ V2.out
   obtain ⟨n2_w2x, rfl⟩ := l2.str_of
   have x0 : w2x.cell? ⟨b, o + i * 3, none⟩ = some (.string n0_w2x) := cell_blk hX2 v0_w2x
   have z0 := frozen_blk hX2 (o + i * 3)
   have x1 : w2x.cell? ⟨b, o + i * 3 + 1, none⟩ = some (.int .i64 n1_w2x) := cell_blk hX2 v1_w2x
   have z1 := frozen_blk hX2 (o + i * 3 + 1)
   have x2 : w2x.cell? ⟨b, o + i * 3 + 2, none⟩ = some (.string n2_w2x) := cell_blk hX2 v2_w2x
   have z2 := frozen_blk hX2 (o + i * 3 + 2)
   have HQ2 : Hid (Ks B C wr w2x) := q2
   clear q2 hc2 hX2 v0_w2x l0 v1_w2x l1 v2_w2x l2
   go_wp2
   go_roundw
   case rel => exact ⟨i + 1, kk + 1 + 1 + 1, by omega, by have := HKN.out; omega, by go_num, by go_num, HKS.out.trans (HQ2.out.put HX.out HB.out HC.out V2.out like_s)⟩
   case measure => simp [intOf]; omega
  ·have hlt' : decide ((i : Int) < (l.length : Int)) = false := by simp; omega
   obtain rfl : i = l.length := by omega
   rw [List.take_length] at HKK
   have HQ : Hid (kk = k + cnt c_Link l) := HKK.out
   have HKS : Hid (Ks B C w wr) := hks
   clear hkk HKK hle hks
   go_wp2
   go_ret
   exact ⟨by rw [HQ.out]; rfl, HKS.out⟩
def sh_Type (x : Typ) : List Sh := [.s, .i]
def c_Type (x : Typ) : Nat := 2
set_option maxRecDepth 100000 in
set_option maxHeartbeats 2000000 in
theorem mark_Type (B C : Nat) (a : Option Addr) (l : List Typ) (cap k : Nat) (w : World) (h : Fits B C w (.r 2 (l.map sh_Type)) (.slice a l.length cap)) (hn : l.length ≤ 1048576) (hk1 : 1 ≤ k) (hk : k + cnt c_Type l ≤ 9000000) :
  Calls Tryz.prog 104 #[.slice a l.length cap, .int .i64 (k : Int)] w fun e w' => Mk B C w k (cnt c_Type l) e w' := by
 have HF : Hid (Fits B C w (.r 2 (l.map sh_Type)) (.slice a l.length cap)) := h
 clear h
 go_enter Tryz.func104, Tryz.ntmps104
 go_wp2
 go_loopw [1, 5] (fun kv iv wr => ∃ (i kk : Nat), i ≤ l.length ∧ kk = k + cnt c_Type (l.take i) ∧ kv = .int .i64 kk ∧ iv = .int .i64 i ∧ Ks B C w wr)
  (fun kv iv _ => l.length - (intOf iv).toNat)
 case atStart => exact ⟨0, k, Nat.zero_le _, by simp [cnt], rfl, rfl, Ks.refl _ _ _⟩
 case round =>
  obtain ⟨i, kk, hi, hkk, rfl, rfl, hks⟩ := hrel
  have HKK : Hid (kk = k + cnt c_Type (l.take i)) := hkk
  have hle := cnt_take_le c_Type l (i + 1)
  by_cases hlt : i < l.length
  ·obtain ⟨x, hx⟩ : ∃ x, l[i]? = some x := ⟨_, List.getElem?_eq_getElem hlt⟩
   have hcs := cnt_take_succ c_Type hx
   obtain ⟨b, o, X, t, rfl, hB, hC, hX, hfl⟩ := (HF.out.ks hks _ (.same _)).row (map_at sh_Type hx)
   have hil : (i : Int) < (l.length : Int) := by omega
   have hcx : c_Type x = 2 := rfl
   have hkb : kk + (2) ≤ 9000000 := by omega
   have hkp : 1 ≤ kk := by omega
   have HKN : Hid (kk + (2) = k + cnt c_Type (l.take (i + 1))) := by show _ = _; omega
   clear hcx
   have HX : Hid (wr.heap[b]? = some (.cells X t (0, 0))) := hX
   have HB : Hid (B ≤ b) := hB
   have HC : Hid (b < C) := hC
   have HKS : Hid (Ks B C w wr) := hks
   clear hle hcs hkk
   obtain ⟨u0, w0, f0⟩ := hfl 0 (.s) rfl
   obtain ⟨n0_wr, rfl⟩ := f0.text
   have v0_wr : X[o + i * 2]? = some (.string n0_wr) := by simpa using w0
   have V0 : Hid (X[o + i * 2]? = some (.string n0_wr)) := v0_wr
   obtain ⟨u1, w1, f1⟩ := hfl 1 (.i) rfl
   obtain ⟨n1_wr, rfl⟩ := f1.int
   have v1_wr : X[o + i * 2 + 1]? = some (.int .i64 n1_wr) := by simpa using w1
   have V1 : Hid (X[o + i * 2 + 1]? = some (.int .i64 n1_wr)) := v1_wr
   have HT : Hid (∀ (m : Nat) (w1 : World), 1 ≤ m → m ≤ 9000000 → Calls Tryz.prog 101 #[.int .i64 (m : Int)] w1 fun e w' => Ans w1 (.string (mtx m)) e w') := fun m w1 h1 h2 => markText_any m w1 (by omega) (by omega)
   have x0 : wr.cell? ⟨b, o + i * 2, none⟩ = some (.string n0_wr) := cell_blk hX v0_wr
   have z0 := frozen_blk hX (o + i * 2)
   have x1 : wr.cell? ⟨b, o + i * 2 + 1, none⟩ = some (.int .i64 n1_wr) := cell_blk hX v1_wr
   have z1 := frozen_blk hX (o + i * 2 + 1)
   clear hfl hX hB hC hks w0 v0_wr w1 v1_wr f0 f1
   go_wp2_with fail
   refine (HT.out (kk) _ (by omega) (by omega)).mono ?_
   rintro e w1x ⟨rfl, hb1⟩
   have q1 : Ks B C wr w1x := (Ks.refl B C wr).trans (Ks.of_below hb1)
   clear hb1
   clear x0 z0 x1 z1
   obtain ⟨X1, hX1, -, hc1⟩ := q1.cells b X t HX.out
   obtain ⟨u0, v0_w1x, l0⟩ := hc1 _ _ V0.out
   obtain ⟨n0_w1x, rfl⟩ := l0.str_of
   obtain ⟨u1, v1_w1x, l1⟩ := hc1 _ _ V1.out
   obtain ⟨n1_w1x, rfl⟩ := l1.int_of
   have x0 : w1x.cell? ⟨b, o + i * 2, none⟩ = some (.string n0_w1x) := cell_blk hX1 v0_w1x
   have z0 := frozen_blk hX1 (o + i * 2)
   have x1 : w1x.cell? ⟨b, o + i * 2 + 1, none⟩ = some (.int .i64 n1_w1x) := cell_blk hX1 v1_w1x
   have z1 := frozen_blk hX1 (o + i * 2 + 1)
   have HQ1 : Hid (Ks B C wr w1x) := q1
   clear q1 hc1 hX1 v0_w1x l0 v1_w1x l1
   go_wp2
   go_roundw
   case rel => exact ⟨i + 1, kk + 1 + 1, by omega, by have := HKN.out; omega, by go_num, by go_num, HKS.out.trans ((HQ1.out.put HX.out HB.out HC.out V0.out like_s).put HX.out HB.out HC.out V1.out like_i)⟩
   case measure => simp [intOf]; omega
  ·have hlt' : decide ((i : Int) < (l.length : Int)) = false := by simp; omega
   obtain rfl : i = l.length := by omega
   rw [List.take_length] at HKK
   have HQ : Hid (kk = k + cnt c_Type l) := HKK.out
   have HKS : Hid (Ks B C w wr) := hks
   clear hkk HKK hle hks
   go_wp2
   go_ret
   exact ⟨by rw [HQ.out]; rfl, HKS.out⟩
def sh_Node (x : Nod) : List Sh := [.i, .i, .s, .r 1 (x.names.map sh_string), .r 1 (x.args.map sh_int)]
def c_Node (x : Nod) : Nat := 3 + cnt c_string x.names + cnt c_int x.args
set_option maxRecDepth 100000 in
set_option maxHeartbeats 2000000 in
theorem mark_Node (B C : Nat) (a : Option Addr) (l : List Nod) (cap k : Nat) (w : World) (h : Fits B C w (.r 5 (l.map sh_Node)) (.slice a l.length cap)) (hn : l.length ≤ 1048576) (hin : ∀ x ∈ l, x.small) (hk1 : 1 ≤ k) (hk : k + cnt c_Node l ≤ 9000000) :
  Calls Tryz.prog 105 #[.slice a l.length cap, .int .i64 (k : Int)] w fun e w' => Mk B C w k (cnt c_Node l) e w' := by
 have HF : Hid (Fits B C w (.r 5 (l.map sh_Node)) (.slice a l.length cap)) := h
 clear h
 go_enter Tryz.func105, Tryz.ntmps105
 go_wp2
 go_loopw [1, 5] (fun kv iv wr => ∃ (i kk : Nat), i ≤ l.length ∧ kk = k + cnt c_Node (l.take i) ∧ kv = .int .i64 kk ∧ iv = .int .i64 i ∧ Ks B C w wr)
  (fun kv iv _ => l.length - (intOf iv).toNat)
 case atStart => exact ⟨0, k, Nat.zero_le _, by simp [cnt], rfl, rfl, Ks.refl _ _ _⟩
 case round =>
  obtain ⟨i, kk, hi, hkk, rfl, rfl, hks⟩ := hrel
  have HKK : Hid (kk = k + cnt c_Node (l.take i)) := hkk
  have hle := cnt_take_le c_Node l (i + 1)
  by_cases hlt : i < l.length
  ·obtain ⟨x, hx⟩ : ∃ x, l[i]? = some x := ⟨_, List.getElem?_eq_getElem hlt⟩
   have hcs := cnt_take_succ c_Node hx
   obtain ⟨b, o, X, t, rfl, hB, hC, hX, hfl⟩ := (HF.out.ks hks _ (.same _)).row (map_at sh_Node hx)
   have hil : (i : Int) < (l.length : Int) := by omega
   have hcx : c_Node x = 3 + cnt c_string x.names + cnt c_int x.args := rfl
   have hkb : kk + (3 + cnt c_string x.names + cnt c_int x.args) ≤ 9000000 := by omega
   have hkp : 1 ≤ kk := by omega
   have HKN : Hid (kk + (3 + cnt c_string x.names + cnt c_int x.args) = k + cnt c_Node (l.take (i + 1))) := by show _ = _; omega
   clear hcx
   have HX : Hid (wr.heap[b]? = some (.cells X t (0, 0))) := hX
   have HB : Hid (B ≤ b) := hB
   have HC : Hid (b < C) := hC
   have HKS : Hid (Ks B C w wr) := hks
   clear hle hcs hkk
   obtain ⟨u0, w0, f0⟩ := hfl 0 (.i) rfl
   obtain ⟨n0_wr, rfl⟩ := f0.int
   have v0_wr : X[o + i * 5]? = some (.int .i64 n0_wr) := by simpa using w0
   have V0 : Hid (X[o + i * 5]? = some (.int .i64 n0_wr)) := v0_wr
   obtain ⟨u1, w1, f1⟩ := hfl 1 (.i) rfl
   obtain ⟨n1_wr, rfl⟩ := f1.int
   have v1_wr : X[o + i * 5 + 1]? = some (.int .i64 n1_wr) := by simpa using w1
   have V1 : Hid (X[o + i * 5 + 1]? = some (.int .i64 n1_wr)) := v1_wr
   obtain ⟨u2, w2, f2⟩ := hfl 2 (.s) rfl
   obtain ⟨n2_wr, rfl⟩ := f2.text
   have v2_wr : X[o + i * 5 + 2]? = some (.string n2_wr) := by simpa using w2
   have V2 : Hid (X[o + i * 5 + 2]? = some (.string n2_wr)) := v2_wr
   obtain ⟨u3, w3, f3⟩ := hfl 3 (.r 1 (x.names.map sh_string)) rfl
   obtain ⟨a3, c3, rfl⟩ := f3.slice
   rw [List.length_map] at w3 f3
   have v3_wr : X[o + i * 5 + 3]? = some (.slice a3 x.names.length c3) := by simpa using w3
   have V3 : Hid (X[o + i * 5 + 3]? = some (.slice a3 x.names.length c3)) := v3_wr
   have HLN3 : Hid (x.names.length ≤ 1048576) := (hin x (List.mem_of_getElem? hx)).2.2.2.1
   have HY3 : Hid (∀ (w1 : World) (k1 : Nat), Ks B C wr w1 → 1 ≤ k1 → k1 + cnt c_string x.names ≤ 9000000 → Calls Tryz.prog 56 #[.slice a3 x.names.length c3, .int .i64 (k1 : Int)] w1 fun e w' => Mk B C w1 k1 (cnt c_string x.names) e w') := fun w1 k1 hq h1 h2 => mark_string B C a3 x.names c3 k1 w1 (f3.ks hq _ (.same _)) (HLN3.out) h1 h2
   obtain ⟨u4, w4, f4⟩ := hfl 4 (.r 1 (x.args.map sh_int)) rfl
   obtain ⟨a4, c4, rfl⟩ := f4.slice
   rw [List.length_map] at w4 f4
   have v4_wr : X[o + i * 5 + 4]? = some (.slice a4 x.args.length c4) := by simpa using w4
   have V4 : Hid (X[o + i * 5 + 4]? = some (.slice a4 x.args.length c4)) := v4_wr
   have HLN4 : Hid (x.args.length ≤ 1048576) := (hin x (List.mem_of_getElem? hx)).2.2.2.2.1
   have HY4 : Hid (∀ (w1 : World) (k1 : Nat), Ks B C wr w1 → 1 ≤ k1 → k1 + cnt c_int x.args ≤ 9000000 → Calls Tryz.prog 143 #[.slice a4 x.args.length c4, .int .i64 (k1 : Int)] w1 fun e w' => Mk B C w1 k1 (cnt c_int x.args) e w') := fun w1 k1 hq h1 h2 => mark_int B C a4 x.args c4 k1 w1 (f4.ks hq _ (.same _)) (HLN4.out) h1 h2
   have HT : Hid (∀ (m : Nat) (w1 : World), 1 ≤ m → m ≤ 9000000 → Calls Tryz.prog 101 #[.int .i64 (m : Int)] w1 fun e w' => Ans w1 (.string (mtx m)) e w') := fun m w1 h1 h2 => markText_any m w1 (by omega) (by omega)
   have x0 : wr.cell? ⟨b, o + i * 5, none⟩ = some (.int .i64 n0_wr) := cell_blk hX v0_wr
   have z0 := frozen_blk hX (o + i * 5)
   have x1 : wr.cell? ⟨b, o + i * 5 + 1, none⟩ = some (.int .i64 n1_wr) := cell_blk hX v1_wr
   have z1 := frozen_blk hX (o + i * 5 + 1)
   have x2 : wr.cell? ⟨b, o + i * 5 + 2, none⟩ = some (.string n2_wr) := cell_blk hX v2_wr
   have z2 := frozen_blk hX (o + i * 5 + 2)
   have x3 : wr.cell? ⟨b, o + i * 5 + 3, none⟩ = some (.slice a3 x.names.length c3) := cell_blk hX v3_wr
   have z3 := frozen_blk hX (o + i * 5 + 3)
   have x4 : wr.cell? ⟨b, o + i * 5 + 4, none⟩ = some (.slice a4 x.args.length c4) := cell_blk hX v4_wr
   have z4 := frozen_blk hX (o + i * 5 + 4)
   clear hfl hX hB hC hks w0 v0_wr w1 v1_wr w2 v2_wr w3 v3_wr w4 v4_wr f0 f1 f2 f3 f4
   go_wp2_with fail
   refine (HT.out (kk + 1 + 1) _ (by omega) (by omega)).mono ?_
   rintro e w1x ⟨rfl, hb1⟩
   have q1 : Ks B C wr w1x := (((Ks.refl B C wr).put HX.out HB.out HC.out V0.out like_i).put HX.out HB.out HC.out V1.out like_i).trans (Ks.of_below hb1)
   clear hb1
   clear x0 z0 x1 z1 x2 z2 x3 z3 x4 z4
   obtain ⟨X1, hX1, -, hc1⟩ := q1.cells b X t HX.out
   obtain ⟨u0, v0_w1x, l0⟩ := hc1 _ _ V0.out
   obtain ⟨n0_w1x, rfl⟩ := l0.int_of
   obtain ⟨u1, v1_w1x, l1⟩ := hc1 _ _ V1.out
   obtain ⟨n1_w1x, rfl⟩ := l1.int_of
   obtain ⟨u2, v2_w1x, l2⟩ := hc1 _ _ V2.out
   obtain ⟨n2_w1x, rfl⟩ := l2.str_of
   obtain ⟨u3, v3_w1x, l3⟩ := hc1 _ _ V3.out
   obtain rfl := l3.slice
   obtain ⟨u4, v4_w1x, l4⟩ := hc1 _ _ V4.out
   obtain rfl := l4.slice
   have x0 : w1x.cell? ⟨b, o + i * 5, none⟩ = some (.int .i64 n0_w1x) := cell_blk hX1 v0_w1x
   have z0 := frozen_blk hX1 (o + i * 5)
   have x1 : w1x.cell? ⟨b, o + i * 5 + 1, none⟩ = some (.int .i64 n1_w1x) := cell_blk hX1 v1_w1x
   have z1 := frozen_blk hX1 (o + i * 5 + 1)
   have x2 : w1x.cell? ⟨b, o + i * 5 + 2, none⟩ = some (.string n2_w1x) := cell_blk hX1 v2_w1x
   have z2 := frozen_blk hX1 (o + i * 5 + 2)
   have x3 : w1x.cell? ⟨b, o + i * 5 + 3, none⟩ = some (.slice a3 x.names.length c3) := cell_blk hX1 v3_w1x
   have z3 := frozen_blk hX1 (o + i * 5 + 3)
   have x4 : w1x.cell? ⟨b, o + i * 5 + 4, none⟩ = some (.slice a4 x.args.length c4) := cell_blk hX1 v4_w1x
   have z4 := frozen_blk hX1 (o + i * 5 + 4)
   have HQ1 : Hid (Ks B C wr w1x) := q1
   clear q1 hc1 hX1 v0_w1x l0 v1_w1x l1 v2_w1x l2 v3_w1x l3 v4_w1x l4
   go_wp2_with fail
   refine (HY3.out _ (kk + 1 + 1 + 1) (HQ1.out.put HX.out HB.out HC.out V2.out like_s) (by omega) (by omega)).mono ?_
   rintro e w2x ⟨rfl, hb2⟩
   have q2 : Ks B C wr w2x := (HQ1.out.put HX.out HB.out HC.out V2.out like_s).trans hb2
   clear hb2
   clear x0 z0 x1 z1 x2 z2 x3 z3 x4 z4
   obtain ⟨X2, hX2, -, hc2⟩ := q2.cells b X t HX.out
   obtain ⟨u0, v0_w2x, l0⟩ := hc2 _ _ V0.out
   obtain ⟨n0_w2x, rfl⟩ := l0.int_of
   obtain ⟨u1, v1_w2x, l1⟩ := hc2 _ _ V1.out
   obtain ⟨n1_w2x, rfl⟩ := l1.int_of
   obtain ⟨u2, v2_w2x, l2⟩ := hc2 _ _ V2.out
   obtain ⟨n2_w2x, rfl⟩ := l2.str_of
   obtain ⟨u3, v3_w2x, l3⟩ := hc2 _ _ V3.out
   obtain rfl := l3.slice
   obtain ⟨u4, v4_w2x, l4⟩ := hc2 _ _ V4.out
   obtain rfl := l4.slice
   have x0 : w2x.cell? ⟨b, o + i * 5, none⟩ = some (.int .i64 n0_w2x) := cell_blk hX2 v0_w2x
   have z0 := frozen_blk hX2 (o + i * 5)
   have x1 : w2x.cell? ⟨b, o + i * 5 + 1, none⟩ = some (.int .i64 n1_w2x) := cell_blk hX2 v1_w2x
   have z1 := frozen_blk hX2 (o + i * 5 + 1)
   have x2 : w2x.cell? ⟨b, o + i * 5 + 2, none⟩ = some (.string n2_w2x) := cell_blk hX2 v2_w2x
   have z2 := frozen_blk hX2 (o + i * 5 + 2)
   have x3 : w2x.cell? ⟨b, o + i * 5 + 3, none⟩ = some (.slice a3 x.names.length c3) := cell_blk hX2 v3_w2x
   have z3 := frozen_blk hX2 (o + i * 5 + 3)
   have x4 : w2x.cell? ⟨b, o + i * 5 + 4, none⟩ = some (.slice a4 x.args.length c4) := cell_blk hX2 v4_w2x
   have z4 := frozen_blk hX2 (o + i * 5 + 4)
   have HQ2 : Hid (Ks B C wr w2x) := q2
   clear q2 hc2 hX2 v0_w2x l0 v1_w2x l1 v2_w2x l2 v3_w2x l3 v4_w2x l4
   go_wp2_with fail
   refine (HY4.out _ (kk + 1 + 1 + 1 + cnt c_string x.names) HQ2.out (by omega) (by omega)).mono ?_
   rintro e w3x ⟨rfl, hb3⟩
   have q3 : Ks B C wr w3x := HQ2.out.trans hb3
   clear hb3
   clear x0 z0 x1 z1 x2 z2 x3 z3 x4 z4
   obtain ⟨X3, hX3, -, hc3⟩ := q3.cells b X t HX.out
   obtain ⟨u0, v0_w3x, l0⟩ := hc3 _ _ V0.out
   obtain ⟨n0_w3x, rfl⟩ := l0.int_of
   obtain ⟨u1, v1_w3x, l1⟩ := hc3 _ _ V1.out
   obtain ⟨n1_w3x, rfl⟩ := l1.int_of
   obtain ⟨u2, v2_w3x, l2⟩ := hc3 _ _ V2.out
   obtain ⟨n2_w3x, rfl⟩ := l2.str_of
   obtain ⟨u3, v3_w3x, l3⟩ := hc3 _ _ V3.out
   obtain rfl := l3.slice
   obtain ⟨u4, v4_w3x, l4⟩ := hc3 _ _ V4.out
   obtain rfl := l4.slice
   have x0 : w3x.cell? ⟨b, o + i * 5, none⟩ = some (.int .i64 n0_w3x) := cell_blk hX3 v0_w3x
   have z0 := frozen_blk hX3 (o + i * 5)
   have x1 : w3x.cell? ⟨b, o + i * 5 + 1, none⟩ = some (.int .i64 n1_w3x) := cell_blk hX3 v1_w3x
   have z1 := frozen_blk hX3 (o + i * 5 + 1)
   have x2 : w3x.cell? ⟨b, o + i * 5 + 2, none⟩ = some (.string n2_w3x) := cell_blk hX3 v2_w3x
   have z2 := frozen_blk hX3 (o + i * 5 + 2)
   have x3 : w3x.cell? ⟨b, o + i * 5 + 3, none⟩ = some (.slice a3 x.names.length c3) := cell_blk hX3 v3_w3x
   have z3 := frozen_blk hX3 (o + i * 5 + 3)
   have x4 : w3x.cell? ⟨b, o + i * 5 + 4, none⟩ = some (.slice a4 x.args.length c4) := cell_blk hX3 v4_w3x
   have z4 := frozen_blk hX3 (o + i * 5 + 4)
   have HQ3 : Hid (Ks B C wr w3x) := q3
   clear q3 hc3 hX3 v0_w3x l0 v1_w3x l1 v2_w3x l2 v3_w3x l3 v4_w3x l4
   go_wp2
   go_roundw
   case rel => exact ⟨i + 1, kk + 1 + 1 + 1 + cnt c_string x.names + cnt c_int x.args, by omega, by have := HKN.out; omega, by go_num, by go_num, HKS.out.trans HQ3.out⟩
   case measure => simp [intOf]; omega
  ·have hlt' : decide ((i : Int) < (l.length : Int)) = false := by simp; omega
   obtain rfl : i = l.length := by omega
   rw [List.take_length] at HKK
   have HQ : Hid (kk = k + cnt c_Node l) := HKK.out
   have HKS : Hid (Ks B C w wr) := hks
   clear hkk HKK hle hks
   go_wp2
   go_ret
   exact ⟨by rw [HQ.out]; rfl, HKS.out⟩
def sh_Cell (x : Cel) : List Sh := [.i, .s, .i, .i, .r 1 (x.names.map sh_string), .r 3 (x.vals.map sh_Value)]
def c_Cell (x : Cel) : Nat := 4 + cnt c_string x.names + cnt c_Value x.vals
set_option maxRecDepth 100000 in
set_option maxHeartbeats 2000000 in
theorem mark_Cell (B C : Nat) (a : Option Addr) (l : List Cel) (cap k : Nat) (w : World) (h : Fits B C w (.r 6 (l.map sh_Cell)) (.slice a l.length cap)) (hn : l.length ≤ 1048576) (hin : ∀ x ∈ l, x.small) (hk1 : 1 ≤ k) (hk : k + cnt c_Cell l ≤ 9000000) :
  Calls Tryz.prog 53 #[.slice a l.length cap, .int .i64 (k : Int)] w fun e w' => Mk B C w k (cnt c_Cell l) e w' := by
 have HF : Hid (Fits B C w (.r 6 (l.map sh_Cell)) (.slice a l.length cap)) := h
 clear h
 go_enter Tryz.func53, Tryz.ntmps53
 go_wp2
 go_loopw [1, 5] (fun kv iv wr => ∃ (i kk : Nat), i ≤ l.length ∧ kk = k + cnt c_Cell (l.take i) ∧ kv = .int .i64 kk ∧ iv = .int .i64 i ∧ Ks B C w wr)
  (fun kv iv _ => l.length - (intOf iv).toNat)
 case atStart => exact ⟨0, k, Nat.zero_le _, by simp [cnt], rfl, rfl, Ks.refl _ _ _⟩
 case round =>
  obtain ⟨i, kk, hi, hkk, rfl, rfl, hks⟩ := hrel
  have HKK : Hid (kk = k + cnt c_Cell (l.take i)) := hkk
  have hle := cnt_take_le c_Cell l (i + 1)
  by_cases hlt : i < l.length
  ·obtain ⟨x, hx⟩ : ∃ x, l[i]? = some x := ⟨_, List.getElem?_eq_getElem hlt⟩
   have hcs := cnt_take_succ c_Cell hx
   obtain ⟨b, o, X, t, rfl, hB, hC, hX, hfl⟩ := (HF.out.ks hks _ (.same _)).row (map_at sh_Cell hx)
   have hil : (i : Int) < (l.length : Int) := by omega
   have hcx : c_Cell x = 4 + cnt c_string x.names + cnt c_Value x.vals := rfl
   have hkb : kk + (4 + cnt c_string x.names + cnt c_Value x.vals) ≤ 9000000 := by omega
   have hkp : 1 ≤ kk := by omega
   have HKN : Hid (kk + (4 + cnt c_string x.names + cnt c_Value x.vals) = k + cnt c_Cell (l.take (i + 1))) := by show _ = _; omega
   clear hcx
   have HX : Hid (wr.heap[b]? = some (.cells X t (0, 0))) := hX
   have HB : Hid (B ≤ b) := hB
   have HC : Hid (b < C) := hC
   have HKS : Hid (Ks B C w wr) := hks
   clear hle hcs hkk
   obtain ⟨u0, w0, f0⟩ := hfl 0 (.i) rfl
   obtain ⟨n0_wr, rfl⟩ := f0.int
   have v0_wr : X[o + i * 6]? = some (.int .i64 n0_wr) := by simpa using w0
   have V0 : Hid (X[o + i * 6]? = some (.int .i64 n0_wr)) := v0_wr
   obtain ⟨u1, w1, f1⟩ := hfl 1 (.s) rfl
   obtain ⟨n1_wr, rfl⟩ := f1.text
   have v1_wr : X[o + i * 6 + 1]? = some (.string n1_wr) := by simpa using w1
   have V1 : Hid (X[o + i * 6 + 1]? = some (.string n1_wr)) := v1_wr
   obtain ⟨u2, w2, f2⟩ := hfl 2 (.i) rfl
   obtain ⟨n2_wr, rfl⟩ := f2.int
   have v2_wr : X[o + i * 6 + 2]? = some (.int .i64 n2_wr) := by simpa using w2
   have V2 : Hid (X[o + i * 6 + 2]? = some (.int .i64 n2_wr)) := v2_wr
   obtain ⟨u3, w3, f3⟩ := hfl 3 (.i) rfl
   obtain ⟨n3_wr, rfl⟩ := f3.int
   have v3_wr : X[o + i * 6 + 3]? = some (.int .i64 n3_wr) := by simpa using w3
   have V3 : Hid (X[o + i * 6 + 3]? = some (.int .i64 n3_wr)) := v3_wr
   obtain ⟨u4, w4, f4⟩ := hfl 4 (.r 1 (x.names.map sh_string)) rfl
   obtain ⟨a4, c4, rfl⟩ := f4.slice
   rw [List.length_map] at w4 f4
   have v4_wr : X[o + i * 6 + 4]? = some (.slice a4 x.names.length c4) := by simpa using w4
   have V4 : Hid (X[o + i * 6 + 4]? = some (.slice a4 x.names.length c4)) := v4_wr
   have HLN4 : Hid (x.names.length ≤ 1048576) := (hin x (List.mem_of_getElem? hx)).2.2.2.2.1
   have HY4 : Hid (∀ (w1 : World) (k1 : Nat), Ks B C wr w1 → 1 ≤ k1 → k1 + cnt c_string x.names ≤ 9000000 → Calls Tryz.prog 56 #[.slice a4 x.names.length c4, .int .i64 (k1 : Int)] w1 fun e w' => Mk B C w1 k1 (cnt c_string x.names) e w') := fun w1 k1 hq h1 h2 => mark_string B C a4 x.names c4 k1 w1 (f4.ks hq _ (.same _)) (HLN4.out) h1 h2
   obtain ⟨u5, w5, f5⟩ := hfl 5 (.r 3 (x.vals.map sh_Value)) rfl
   obtain ⟨a5, c5, rfl⟩ := f5.slice
   rw [List.length_map] at w5 f5
   have v5_wr : X[o + i * 6 + 5]? = some (.slice a5 x.vals.length c5) := by simpa using w5
   have V5 : Hid (X[o + i * 6 + 5]? = some (.slice a5 x.vals.length c5)) := v5_wr
   have HLN5 : Hid (x.vals.length ≤ 1048576) := (hin x (List.mem_of_getElem? hx)).2.2.2.2.2.1
   have HY5 : Hid (∀ (w1 : World) (k1 : Nat), Ks B C wr w1 → 1 ≤ k1 → k1 + cnt c_Value x.vals ≤ 9000000 → Calls Tryz.prog 102 #[.slice a5 x.vals.length c5, .int .i64 (k1 : Int)] w1 fun e w' => Mk B C w1 k1 (cnt c_Value x.vals) e w') := fun w1 k1 hq h1 h2 => mark_Value B C a5 x.vals c5 k1 w1 (f5.ks hq _ (.same _)) (HLN5.out) h1 h2
   have HT : Hid (∀ (m : Nat) (w1 : World), 1 ≤ m → m ≤ 9000000 → Calls Tryz.prog 101 #[.int .i64 (m : Int)] w1 fun e w' => Ans w1 (.string (mtx m)) e w') := fun m w1 h1 h2 => markText_any m w1 (by omega) (by omega)
   have x0 : wr.cell? ⟨b, o + i * 6, none⟩ = some (.int .i64 n0_wr) := cell_blk hX v0_wr
   have z0 := frozen_blk hX (o + i * 6)
   have x1 : wr.cell? ⟨b, o + i * 6 + 1, none⟩ = some (.string n1_wr) := cell_blk hX v1_wr
   have z1 := frozen_blk hX (o + i * 6 + 1)
   have x2 : wr.cell? ⟨b, o + i * 6 + 2, none⟩ = some (.int .i64 n2_wr) := cell_blk hX v2_wr
   have z2 := frozen_blk hX (o + i * 6 + 2)
   have x3 : wr.cell? ⟨b, o + i * 6 + 3, none⟩ = some (.int .i64 n3_wr) := cell_blk hX v3_wr
   have z3 := frozen_blk hX (o + i * 6 + 3)
   have x4 : wr.cell? ⟨b, o + i * 6 + 4, none⟩ = some (.slice a4 x.names.length c4) := cell_blk hX v4_wr
   have z4 := frozen_blk hX (o + i * 6 + 4)
   have x5 : wr.cell? ⟨b, o + i * 6 + 5, none⟩ = some (.slice a5 x.vals.length c5) := cell_blk hX v5_wr
   have z5 := frozen_blk hX (o + i * 6 + 5)
   clear hfl hX hB hC hks w0 v0_wr w1 v1_wr w2 v2_wr w3 v3_wr w4 v4_wr w5 v5_wr f0 f1 f2 f3 f4 f5
   go_wp2_with fail
   refine (HT.out (kk + 1) _ (by omega) (by omega)).mono ?_
   rintro e w1x ⟨rfl, hb1⟩
   have q1 : Ks B C wr w1x := ((Ks.refl B C wr).put HX.out HB.out HC.out V0.out like_i).trans (Ks.of_below hb1)
   clear hb1
   clear x0 z0 x1 z1 x2 z2 x3 z3 x4 z4 x5 z5
   obtain ⟨X1, hX1, -, hc1⟩ := q1.cells b X t HX.out
   obtain ⟨u0, v0_w1x, l0⟩ := hc1 _ _ V0.out
   obtain ⟨n0_w1x, rfl⟩ := l0.int_of
   obtain ⟨u1, v1_w1x, l1⟩ := hc1 _ _ V1.out
   obtain ⟨n1_w1x, rfl⟩ := l1.str_of
   obtain ⟨u2, v2_w1x, l2⟩ := hc1 _ _ V2.out
   obtain ⟨n2_w1x, rfl⟩ := l2.int_of
   obtain ⟨u3, v3_w1x, l3⟩ := hc1 _ _ V3.out
   obtain ⟨n3_w1x, rfl⟩ := l3.int_of
   obtain ⟨u4, v4_w1x, l4⟩ := hc1 _ _ V4.out
   obtain rfl := l4.slice
   obtain ⟨u5, v5_w1x, l5⟩ := hc1 _ _ V5.out
   obtain rfl := l5.slice
   have x0 : w1x.cell? ⟨b, o + i * 6, none⟩ = some (.int .i64 n0_w1x) := cell_blk hX1 v0_w1x
   have z0 := frozen_blk hX1 (o + i * 6)
   have x1 : w1x.cell? ⟨b, o + i * 6 + 1, none⟩ = some (.string n1_w1x) := cell_blk hX1 v1_w1x
   have z1 := frozen_blk hX1 (o + i * 6 + 1)
   have x2 : w1x.cell? ⟨b, o + i * 6 + 2, none⟩ = some (.int .i64 n2_w1x) := cell_blk hX1 v2_w1x
   have z2 := frozen_blk hX1 (o + i * 6 + 2)
   have x3 : w1x.cell? ⟨b, o + i * 6 + 3, none⟩ = some (.int .i64 n3_w1x) := cell_blk hX1 v3_w1x
   have z3 := frozen_blk hX1 (o + i * 6 + 3)
   have x4 : w1x.cell? ⟨b, o + i * 6 + 4, none⟩ = some (.slice a4 x.names.length c4) := cell_blk hX1 v4_w1x
   have z4 := frozen_blk hX1 (o + i * 6 + 4)
   have x5 : w1x.cell? ⟨b, o + i * 6 + 5, none⟩ = some (.slice a5 x.vals.length c5) := cell_blk hX1 v5_w1x
   have z5 := frozen_blk hX1 (o + i * 6 + 5)
   have HQ1 : Hid (Ks B C wr w1x) := q1
   clear q1 hc1 hX1 v0_w1x l0 v1_w1x l1 v2_w1x l2 v3_w1x l3 v4_w1x l4 v5_w1x l5
   go_wp2_with fail
   refine (HY4.out _ (kk + 1 + 1 + 1 + 1) (((HQ1.out.put HX.out HB.out HC.out V1.out like_s).put HX.out HB.out HC.out V2.out like_i).put HX.out HB.out HC.out V3.out like_i) (by omega) (by omega)).mono ?_
   rintro e w2x ⟨rfl, hb2⟩
   have q2 : Ks B C wr w2x := (((HQ1.out.put HX.out HB.out HC.out V1.out like_s).put HX.out HB.out HC.out V2.out like_i).put HX.out HB.out HC.out V3.out like_i).trans hb2
   clear hb2
   clear x0 z0 x1 z1 x2 z2 x3 z3 x4 z4 x5 z5
   obtain ⟨X2, hX2, -, hc2⟩ := q2.cells b X t HX.out
   obtain ⟨u0, v0_w2x, l0⟩ := hc2 _ _ V0.out
   obtain ⟨n0_w2x, rfl⟩ := l0.int_of
   obtain ⟨u1, v1_w2x, l1⟩ := hc2 _ _ V1.out
   obtain ⟨n1_w2x, rfl⟩ := l1.str_of
   obtain ⟨u2, v2_w2x, l2⟩ := hc2 _ _ V2.out
   obtain ⟨n2_w2x, rfl⟩ := l2.int_of
   obtain ⟨u3, v3_w2x, l3⟩ := hc2 _ _ V3.out
   obtain ⟨n3_w2x, rfl⟩ := l3.int_of
   obtain ⟨u4, v4_w2x, l4⟩ := hc2 _ _ V4.out
   obtain rfl := l4.slice
   obtain ⟨u5, v5_w2x, l5⟩ := hc2 _ _ V5.out
   obtain rfl := l5.slice
   have x0 : w2x.cell? ⟨b, o + i * 6, none⟩ = some (.int .i64 n0_w2x) := cell_blk hX2 v0_w2x
   have z0 := frozen_blk hX2 (o + i * 6)
   have x1 : w2x.cell? ⟨b, o + i * 6 + 1, none⟩ = some (.string n1_w2x) := cell_blk hX2 v1_w2x
   have z1 := frozen_blk hX2 (o + i * 6 + 1)
   have x2 : w2x.cell? ⟨b, o + i * 6 + 2, none⟩ = some (.int .i64 n2_w2x) := cell_blk hX2 v2_w2x
   have z2 := frozen_blk hX2 (o + i * 6 + 2)
   have x3 : w2x.cell? ⟨b, o + i * 6 + 3, none⟩ = some (.int .i64 n3_w2x) := cell_blk hX2 v3_w2x
   have z3 := frozen_blk hX2 (o + i * 6 + 3)
   have x4 : w2x.cell? ⟨b, o + i * 6 + 4, none⟩ = some (.slice a4 x.names.length c4) := cell_blk hX2 v4_w2x
   have z4 := frozen_blk hX2 (o + i * 6 + 4)
   have x5 : w2x.cell? ⟨b, o + i * 6 + 5, none⟩ = some (.slice a5 x.vals.length c5) := cell_blk hX2 v5_w2x
   have z5 := frozen_blk hX2 (o + i * 6 + 5)
   have HQ2 : Hid (Ks B C wr w2x) := q2
   clear q2 hc2 hX2 v0_w2x l0 v1_w2x l1 v2_w2x l2 v3_w2x l3 v4_w2x l4 v5_w2x l5
   go_wp2_with fail
   refine (HY5.out _ (kk + 1 + 1 + 1 + 1 + cnt c_string x.names) HQ2.out (by omega) (by omega)).mono ?_
   rintro e w3x ⟨rfl, hb3⟩
   have q3 : Ks B C wr w3x := HQ2.out.trans hb3
   clear hb3
   clear x0 z0 x1 z1 x2 z2 x3 z3 x4 z4 x5 z5
   obtain ⟨X3, hX3, -, hc3⟩ := q3.cells b X t HX.out
   obtain ⟨u0, v0_w3x, l0⟩ := hc3 _ _ V0.out
   obtain ⟨n0_w3x, rfl⟩ := l0.int_of
   obtain ⟨u1, v1_w3x, l1⟩ := hc3 _ _ V1.out
   obtain ⟨n1_w3x, rfl⟩ := l1.str_of
   obtain ⟨u2, v2_w3x, l2⟩ := hc3 _ _ V2.out
   obtain ⟨n2_w3x, rfl⟩ := l2.int_of
   obtain ⟨u3, v3_w3x, l3⟩ := hc3 _ _ V3.out
   obtain ⟨n3_w3x, rfl⟩ := l3.int_of
   obtain ⟨u4, v4_w3x, l4⟩ := hc3 _ _ V4.out
   obtain rfl := l4.slice
   obtain ⟨u5, v5_w3x, l5⟩ := hc3 _ _ V5.out
   obtain rfl := l5.slice
   have x0 : w3x.cell? ⟨b, o + i * 6, none⟩ = some (.int .i64 n0_w3x) := cell_blk hX3 v0_w3x
   have z0 := frozen_blk hX3 (o + i * 6)
   have x1 : w3x.cell? ⟨b, o + i * 6 + 1, none⟩ = some (.string n1_w3x) := cell_blk hX3 v1_w3x
   have z1 := frozen_blk hX3 (o + i * 6 + 1)
   have x2 : w3x.cell? ⟨b, o + i * 6 + 2, none⟩ = some (.int .i64 n2_w3x) := cell_blk hX3 v2_w3x
   have z2 := frozen_blk hX3 (o + i * 6 + 2)
   have x3 : w3x.cell? ⟨b, o + i * 6 + 3, none⟩ = some (.int .i64 n3_w3x) := cell_blk hX3 v3_w3x
   have z3 := frozen_blk hX3 (o + i * 6 + 3)
   have x4 : w3x.cell? ⟨b, o + i * 6 + 4, none⟩ = some (.slice a4 x.names.length c4) := cell_blk hX3 v4_w3x
   have z4 := frozen_blk hX3 (o + i * 6 + 4)
   have x5 : w3x.cell? ⟨b, o + i * 6 + 5, none⟩ = some (.slice a5 x.vals.length c5) := cell_blk hX3 v5_w3x
   have z5 := frozen_blk hX3 (o + i * 6 + 5)
   have HQ3 : Hid (Ks B C wr w3x) := q3
   clear q3 hc3 hX3 v0_w3x l0 v1_w3x l1 v2_w3x l2 v3_w3x l3 v4_w3x l4 v5_w3x l5
   go_wp2
   go_roundw
   case rel => exact ⟨i + 1, kk + 1 + 1 + 1 + 1 + cnt c_string x.names + cnt c_Value x.vals, by omega, by have := HKN.out; omega, by go_num, by go_num, HKS.out.trans HQ3.out⟩
   case measure => simp [intOf]; omega
  ·have hlt' : decide ((i : Int) < (l.length : Int)) = false := by simp; omega
   obtain rfl : i = l.length := by omega
   rw [List.take_length] at HKK
   have HQ : Hid (kk = k + cnt c_Cell l) := HKK.out
   have HKS : Hid (Ks B C w wr) := hks
   clear hkk HKK hle hks
   go_wp2
   go_ret
   exact ⟨by rw [HQ.out]; rfl, HKS.out⟩
def sh_Inst (x : Ins) : List Sh := [.s, .i, .r 1 (x.names.map sh_string), .r 3 (x.vals.map sh_Value), .r 3 (x.links.map sh_Link), .r 2 (x.types.map sh_Type)]
def c_Inst (x : Ins) : Nat := 2 + cnt c_string x.names + cnt c_Value x.vals + cnt c_Link x.links + cnt c_Type x.types
set_option maxRecDepth 100000 in
set_option maxHeartbeats 2000000 in
theorem mark_Inst (B C : Nat) (a : Option Addr) (l : List Ins) (cap k : Nat) (w : World) (h : Fits B C w (.r 6 (l.map sh_Inst)) (.slice a l.length cap)) (hn : l.length ≤ 1048576) (hin : ∀ x ∈ l, x.small) (hk1 : 1 ≤ k) (hk : k + cnt c_Inst l ≤ 9000000) :
  Calls Tryz.prog 54 #[.slice a l.length cap, .int .i64 (k : Int)] w fun e w' => Mk B C w k (cnt c_Inst l) e w' := by
 have HF : Hid (Fits B C w (.r 6 (l.map sh_Inst)) (.slice a l.length cap)) := h
 clear h
 go_enter Tryz.func54, Tryz.ntmps54
 go_wp2
 go_loopw [1, 5] (fun kv iv wr => ∃ (i kk : Nat), i ≤ l.length ∧ kk = k + cnt c_Inst (l.take i) ∧ kv = .int .i64 kk ∧ iv = .int .i64 i ∧ Ks B C w wr)
  (fun kv iv _ => l.length - (intOf iv).toNat)
 case atStart => exact ⟨0, k, Nat.zero_le _, by simp [cnt], rfl, rfl, Ks.refl _ _ _⟩
 case round =>
  obtain ⟨i, kk, hi, hkk, rfl, rfl, hks⟩ := hrel
  have HKK : Hid (kk = k + cnt c_Inst (l.take i)) := hkk
  have hle := cnt_take_le c_Inst l (i + 1)
  by_cases hlt : i < l.length
  ·obtain ⟨x, hx⟩ : ∃ x, l[i]? = some x := ⟨_, List.getElem?_eq_getElem hlt⟩
   have hcs := cnt_take_succ c_Inst hx
   obtain ⟨b, o, X, t, rfl, hB, hC, hX, hfl⟩ := (HF.out.ks hks _ (.same _)).row (map_at sh_Inst hx)
   have hil : (i : Int) < (l.length : Int) := by omega
   have hcx : c_Inst x = 2 + cnt c_string x.names + cnt c_Value x.vals + cnt c_Link x.links + cnt c_Type x.types := rfl
   have hkb : kk + (2 + cnt c_string x.names + cnt c_Value x.vals + cnt c_Link x.links + cnt c_Type x.types) ≤ 9000000 := by omega
   have hkp : 1 ≤ kk := by omega
   have HKN : Hid (kk + (2 + cnt c_string x.names + cnt c_Value x.vals + cnt c_Link x.links + cnt c_Type x.types) = k + cnt c_Inst (l.take (i + 1))) := by show _ = _; omega
   clear hcx
   have HX : Hid (wr.heap[b]? = some (.cells X t (0, 0))) := hX
   have HB : Hid (B ≤ b) := hB
   have HC : Hid (b < C) := hC
   have HKS : Hid (Ks B C w wr) := hks
   clear hle hcs hkk
   obtain ⟨u0, w0, f0⟩ := hfl 0 (.s) rfl
   obtain ⟨n0_wr, rfl⟩ := f0.text
   have v0_wr : X[o + i * 6]? = some (.string n0_wr) := by simpa using w0
   have V0 : Hid (X[o + i * 6]? = some (.string n0_wr)) := v0_wr
   obtain ⟨u1, w1, f1⟩ := hfl 1 (.i) rfl
   obtain ⟨n1_wr, rfl⟩ := f1.int
   have v1_wr : X[o + i * 6 + 1]? = some (.int .i64 n1_wr) := by simpa using w1
   have V1 : Hid (X[o + i * 6 + 1]? = some (.int .i64 n1_wr)) := v1_wr
   obtain ⟨u2, w2, f2⟩ := hfl 2 (.r 1 (x.names.map sh_string)) rfl
   obtain ⟨a2, c2, rfl⟩ := f2.slice
   rw [List.length_map] at w2 f2
   have v2_wr : X[o + i * 6 + 2]? = some (.slice a2 x.names.length c2) := by simpa using w2
   have V2 : Hid (X[o + i * 6 + 2]? = some (.slice a2 x.names.length c2)) := v2_wr
   have HLN2 : Hid (x.names.length ≤ 1048576) := (hin x (List.mem_of_getElem? hx)).2.2.1.1
   have HY2 : Hid (∀ (w1 : World) (k1 : Nat), Ks B C wr w1 → 1 ≤ k1 → k1 + cnt c_string x.names ≤ 9000000 → Calls Tryz.prog 56 #[.slice a2 x.names.length c2, .int .i64 (k1 : Int)] w1 fun e w' => Mk B C w1 k1 (cnt c_string x.names) e w') := fun w1 k1 hq h1 h2 => mark_string B C a2 x.names c2 k1 w1 (f2.ks hq _ (.same _)) (HLN2.out) h1 h2
   obtain ⟨u3, w3, f3⟩ := hfl 3 (.r 3 (x.vals.map sh_Value)) rfl
   obtain ⟨a3, c3, rfl⟩ := f3.slice
   rw [List.length_map] at w3 f3
   have v3_wr : X[o + i * 6 + 3]? = some (.slice a3 x.vals.length c3) := by simpa using w3
   have V3 : Hid (X[o + i * 6 + 3]? = some (.slice a3 x.vals.length c3)) := v3_wr
   have HLN3 : Hid (x.vals.length ≤ 1048576) := (hin x (List.mem_of_getElem? hx)).2.2.2.1.1
   have HY3 : Hid (∀ (w1 : World) (k1 : Nat), Ks B C wr w1 → 1 ≤ k1 → k1 + cnt c_Value x.vals ≤ 9000000 → Calls Tryz.prog 102 #[.slice a3 x.vals.length c3, .int .i64 (k1 : Int)] w1 fun e w' => Mk B C w1 k1 (cnt c_Value x.vals) e w') := fun w1 k1 hq h1 h2 => mark_Value B C a3 x.vals c3 k1 w1 (f3.ks hq _ (.same _)) (HLN3.out) h1 h2
   obtain ⟨u4, w4, f4⟩ := hfl 4 (.r 3 (x.links.map sh_Link)) rfl
   obtain ⟨a4, c4, rfl⟩ := f4.slice
   rw [List.length_map] at w4 f4
   have v4_wr : X[o + i * 6 + 4]? = some (.slice a4 x.links.length c4) := by simpa using w4
   have V4 : Hid (X[o + i * 6 + 4]? = some (.slice a4 x.links.length c4)) := v4_wr
   have HLN4 : Hid (x.links.length ≤ 1048576) := (hin x (List.mem_of_getElem? hx)).2.2.2.2.1.1
   have HY4 : Hid (∀ (w1 : World) (k1 : Nat), Ks B C wr w1 → 1 ≤ k1 → k1 + cnt c_Link x.links ≤ 9000000 → Calls Tryz.prog 103 #[.slice a4 x.links.length c4, .int .i64 (k1 : Int)] w1 fun e w' => Mk B C w1 k1 (cnt c_Link x.links) e w') := fun w1 k1 hq h1 h2 => mark_Link B C a4 x.links c4 k1 w1 (f4.ks hq _ (.same _)) (HLN4.out) h1 h2
   obtain ⟨u5, w5, f5⟩ := hfl 5 (.r 2 (x.types.map sh_Type)) rfl
   obtain ⟨a5, c5, rfl⟩ := f5.slice
   rw [List.length_map] at w5 f5
   have v5_wr : X[o + i * 6 + 5]? = some (.slice a5 x.types.length c5) := by simpa using w5
   have V5 : Hid (X[o + i * 6 + 5]? = some (.slice a5 x.types.length c5)) := v5_wr
   have HLN5 : Hid (x.types.length ≤ 1048576) := (hin x (List.mem_of_getElem? hx)).2.2.2.2.2.1
   have HY5 : Hid (∀ (w1 : World) (k1 : Nat), Ks B C wr w1 → 1 ≤ k1 → k1 + cnt c_Type x.types ≤ 9000000 → Calls Tryz.prog 104 #[.slice a5 x.types.length c5, .int .i64 (k1 : Int)] w1 fun e w' => Mk B C w1 k1 (cnt c_Type x.types) e w') := fun w1 k1 hq h1 h2 => mark_Type B C a5 x.types c5 k1 w1 (f5.ks hq _ (.same _)) (HLN5.out) h1 h2
   have HT : Hid (∀ (m : Nat) (w1 : World), 1 ≤ m → m ≤ 9000000 → Calls Tryz.prog 101 #[.int .i64 (m : Int)] w1 fun e w' => Ans w1 (.string (mtx m)) e w') := fun m w1 h1 h2 => markText_any m w1 (by omega) (by omega)
   have x0 : wr.cell? ⟨b, o + i * 6, none⟩ = some (.string n0_wr) := cell_blk hX v0_wr
   have z0 := frozen_blk hX (o + i * 6)
   have x1 : wr.cell? ⟨b, o + i * 6 + 1, none⟩ = some (.int .i64 n1_wr) := cell_blk hX v1_wr
   have z1 := frozen_blk hX (o + i * 6 + 1)
   have x2 : wr.cell? ⟨b, o + i * 6 + 2, none⟩ = some (.slice a2 x.names.length c2) := cell_blk hX v2_wr
   have z2 := frozen_blk hX (o + i * 6 + 2)
   have x3 : wr.cell? ⟨b, o + i * 6 + 3, none⟩ = some (.slice a3 x.vals.length c3) := cell_blk hX v3_wr
   have z3 := frozen_blk hX (o + i * 6 + 3)
   have x4 : wr.cell? ⟨b, o + i * 6 + 4, none⟩ = some (.slice a4 x.links.length c4) := cell_blk hX v4_wr
   have z4 := frozen_blk hX (o + i * 6 + 4)
   have x5 : wr.cell? ⟨b, o + i * 6 + 5, none⟩ = some (.slice a5 x.types.length c5) := cell_blk hX v5_wr
   have z5 := frozen_blk hX (o + i * 6 + 5)
   clear hfl hX hB hC hks w0 v0_wr w1 v1_wr w2 v2_wr w3 v3_wr w4 v4_wr w5 v5_wr f0 f1 f2 f3 f4 f5
   go_wp2_with fail
   refine (HT.out (kk) _ (by omega) (by omega)).mono ?_
   rintro e w1x ⟨rfl, hb1⟩
   have q1 : Ks B C wr w1x := (Ks.refl B C wr).trans (Ks.of_below hb1)
   clear hb1
   clear x0 z0 x1 z1 x2 z2 x3 z3 x4 z4 x5 z5
   obtain ⟨X1, hX1, -, hc1⟩ := q1.cells b X t HX.out
   obtain ⟨u0, v0_w1x, l0⟩ := hc1 _ _ V0.out
   obtain ⟨n0_w1x, rfl⟩ := l0.str_of
   obtain ⟨u1, v1_w1x, l1⟩ := hc1 _ _ V1.out
   obtain ⟨n1_w1x, rfl⟩ := l1.int_of
   obtain ⟨u2, v2_w1x, l2⟩ := hc1 _ _ V2.out
   obtain rfl := l2.slice
   obtain ⟨u3, v3_w1x, l3⟩ := hc1 _ _ V3.out
   obtain rfl := l3.slice
   obtain ⟨u4, v4_w1x, l4⟩ := hc1 _ _ V4.out
   obtain rfl := l4.slice
   obtain ⟨u5, v5_w1x, l5⟩ := hc1 _ _ V5.out
   obtain rfl := l5.slice
   have x0 : w1x.cell? ⟨b, o + i * 6, none⟩ = some (.string n0_w1x) := cell_blk hX1 v0_w1x
   have z0 := frozen_blk hX1 (o + i * 6)
   have x1 : w1x.cell? ⟨b, o + i * 6 + 1, none⟩ = some (.int .i64 n1_w1x) := cell_blk hX1 v1_w1x
   have z1 := frozen_blk hX1 (o + i * 6 + 1)
   have x2 : w1x.cell? ⟨b, o + i * 6 + 2, none⟩ = some (.slice a2 x.names.length c2) := cell_blk hX1 v2_w1x
   have z2 := frozen_blk hX1 (o + i * 6 + 2)
   have x3 : w1x.cell? ⟨b, o + i * 6 + 3, none⟩ = some (.slice a3 x.vals.length c3) := cell_blk hX1 v3_w1x
   have z3 := frozen_blk hX1 (o + i * 6 + 3)
   have x4 : w1x.cell? ⟨b, o + i * 6 + 4, none⟩ = some (.slice a4 x.links.length c4) := cell_blk hX1 v4_w1x
   have z4 := frozen_blk hX1 (o + i * 6 + 4)
   have x5 : w1x.cell? ⟨b, o + i * 6 + 5, none⟩ = some (.slice a5 x.types.length c5) := cell_blk hX1 v5_w1x
   have z5 := frozen_blk hX1 (o + i * 6 + 5)
   have HQ1 : Hid (Ks B C wr w1x) := q1
   clear q1 hc1 hX1 v0_w1x l0 v1_w1x l1 v2_w1x l2 v3_w1x l3 v4_w1x l4 v5_w1x l5
   go_wp2_with fail
   refine (HY2.out _ (kk + 1 + 1) ((HQ1.out.put HX.out HB.out HC.out V0.out like_s).put HX.out HB.out HC.out V1.out like_i) (by omega) (by omega)).mono ?_
   rintro e w2x ⟨rfl, hb2⟩
   have q2 : Ks B C wr w2x := ((HQ1.out.put HX.out HB.out HC.out V0.out like_s).put HX.out HB.out HC.out V1.out like_i).trans hb2
   clear hb2
   clear x0 z0 x1 z1 x2 z2 x3 z3 x4 z4 x5 z5
   obtain ⟨X2, hX2, -, hc2⟩ := q2.cells b X t HX.out
   obtain ⟨u0, v0_w2x, l0⟩ := hc2 _ _ V0.out
   obtain ⟨n0_w2x, rfl⟩ := l0.str_of
   obtain ⟨u1, v1_w2x, l1⟩ := hc2 _ _ V1.out
   obtain ⟨n1_w2x, rfl⟩ := l1.int_of
   obtain ⟨u2, v2_w2x, l2⟩ := hc2 _ _ V2.out
   obtain rfl := l2.slice
   obtain ⟨u3, v3_w2x, l3⟩ := hc2 _ _ V3.out
   obtain rfl := l3.slice
   obtain ⟨u4, v4_w2x, l4⟩ := hc2 _ _ V4.out
   obtain rfl := l4.slice
   obtain ⟨u5, v5_w2x, l5⟩ := hc2 _ _ V5.out
   obtain rfl := l5.slice
   have x0 : w2x.cell? ⟨b, o + i * 6, none⟩ = some (.string n0_w2x) := cell_blk hX2 v0_w2x
   have z0 := frozen_blk hX2 (o + i * 6)
   have x1 : w2x.cell? ⟨b, o + i * 6 + 1, none⟩ = some (.int .i64 n1_w2x) := cell_blk hX2 v1_w2x
   have z1 := frozen_blk hX2 (o + i * 6 + 1)
   have x2 : w2x.cell? ⟨b, o + i * 6 + 2, none⟩ = some (.slice a2 x.names.length c2) := cell_blk hX2 v2_w2x
   have z2 := frozen_blk hX2 (o + i * 6 + 2)
   have x3 : w2x.cell? ⟨b, o + i * 6 + 3, none⟩ = some (.slice a3 x.vals.length c3) := cell_blk hX2 v3_w2x
   have z3 := frozen_blk hX2 (o + i * 6 + 3)
   have x4 : w2x.cell? ⟨b, o + i * 6 + 4, none⟩ = some (.slice a4 x.links.length c4) := cell_blk hX2 v4_w2x
   have z4 := frozen_blk hX2 (o + i * 6 + 4)
   have x5 : w2x.cell? ⟨b, o + i * 6 + 5, none⟩ = some (.slice a5 x.types.length c5) := cell_blk hX2 v5_w2x
   have z5 := frozen_blk hX2 (o + i * 6 + 5)
   have HQ2 : Hid (Ks B C wr w2x) := q2
   clear q2 hc2 hX2 v0_w2x l0 v1_w2x l1 v2_w2x l2 v3_w2x l3 v4_w2x l4 v5_w2x l5
   go_wp2_with fail
   refine (HY3.out _ (kk + 1 + 1 + cnt c_string x.names) HQ2.out (by omega) (by omega)).mono ?_
   rintro e w3x ⟨rfl, hb3⟩
   have q3 : Ks B C wr w3x := HQ2.out.trans hb3
   clear hb3
   clear x0 z0 x1 z1 x2 z2 x3 z3 x4 z4 x5 z5
   obtain ⟨X3, hX3, -, hc3⟩ := q3.cells b X t HX.out
   obtain ⟨u0, v0_w3x, l0⟩ := hc3 _ _ V0.out
   obtain ⟨n0_w3x, rfl⟩ := l0.str_of
   obtain ⟨u1, v1_w3x, l1⟩ := hc3 _ _ V1.out
   obtain ⟨n1_w3x, rfl⟩ := l1.int_of
   obtain ⟨u2, v2_w3x, l2⟩ := hc3 _ _ V2.out
   obtain rfl := l2.slice
   obtain ⟨u3, v3_w3x, l3⟩ := hc3 _ _ V3.out
   obtain rfl := l3.slice
   obtain ⟨u4, v4_w3x, l4⟩ := hc3 _ _ V4.out
   obtain rfl := l4.slice
   obtain ⟨u5, v5_w3x, l5⟩ := hc3 _ _ V5.out
   obtain rfl := l5.slice
   have x0 : w3x.cell? ⟨b, o + i * 6, none⟩ = some (.string n0_w3x) := cell_blk hX3 v0_w3x
   have z0 := frozen_blk hX3 (o + i * 6)
   have x1 : w3x.cell? ⟨b, o + i * 6 + 1, none⟩ = some (.int .i64 n1_w3x) := cell_blk hX3 v1_w3x
   have z1 := frozen_blk hX3 (o + i * 6 + 1)
   have x2 : w3x.cell? ⟨b, o + i * 6 + 2, none⟩ = some (.slice a2 x.names.length c2) := cell_blk hX3 v2_w3x
   have z2 := frozen_blk hX3 (o + i * 6 + 2)
   have x3 : w3x.cell? ⟨b, o + i * 6 + 3, none⟩ = some (.slice a3 x.vals.length c3) := cell_blk hX3 v3_w3x
   have z3 := frozen_blk hX3 (o + i * 6 + 3)
   have x4 : w3x.cell? ⟨b, o + i * 6 + 4, none⟩ = some (.slice a4 x.links.length c4) := cell_blk hX3 v4_w3x
   have z4 := frozen_blk hX3 (o + i * 6 + 4)
   have x5 : w3x.cell? ⟨b, o + i * 6 + 5, none⟩ = some (.slice a5 x.types.length c5) := cell_blk hX3 v5_w3x
   have z5 := frozen_blk hX3 (o + i * 6 + 5)
   have HQ3 : Hid (Ks B C wr w3x) := q3
   clear q3 hc3 hX3 v0_w3x l0 v1_w3x l1 v2_w3x l2 v3_w3x l3 v4_w3x l4 v5_w3x l5
   go_wp2_with fail
   refine (HY4.out _ (kk + 1 + 1 + cnt c_string x.names + cnt c_Value x.vals) HQ3.out (by omega) (by omega)).mono ?_
   rintro e w4x ⟨rfl, hb4⟩
   have q4 : Ks B C wr w4x := HQ3.out.trans hb4
   clear hb4
   clear x0 z0 x1 z1 x2 z2 x3 z3 x4 z4 x5 z5
   obtain ⟨X4, hX4, -, hc4⟩ := q4.cells b X t HX.out
   obtain ⟨u0, v0_w4x, l0⟩ := hc4 _ _ V0.out
   obtain ⟨n0_w4x, rfl⟩ := l0.str_of
   obtain ⟨u1, v1_w4x, l1⟩ := hc4 _ _ V1.out
   obtain ⟨n1_w4x, rfl⟩ := l1.int_of
   obtain ⟨u2, v2_w4x, l2⟩ := hc4 _ _ V2.out
   obtain rfl := l2.slice
   obtain ⟨u3, v3_w4x, l3⟩ := hc4 _ _ V3.out
   obtain rfl := l3.slice
   obtain ⟨u4, v4_w4x, l4⟩ := hc4 _ _ V4.out
   obtain rfl := l4.slice
   obtain ⟨u5, v5_w4x, l5⟩ := hc4 _ _ V5.out
   obtain rfl := l5.slice
   have x0 : w4x.cell? ⟨b, o + i * 6, none⟩ = some (.string n0_w4x) := cell_blk hX4 v0_w4x
   have z0 := frozen_blk hX4 (o + i * 6)
   have x1 : w4x.cell? ⟨b, o + i * 6 + 1, none⟩ = some (.int .i64 n1_w4x) := cell_blk hX4 v1_w4x
   have z1 := frozen_blk hX4 (o + i * 6 + 1)
   have x2 : w4x.cell? ⟨b, o + i * 6 + 2, none⟩ = some (.slice a2 x.names.length c2) := cell_blk hX4 v2_w4x
   have z2 := frozen_blk hX4 (o + i * 6 + 2)
   have x3 : w4x.cell? ⟨b, o + i * 6 + 3, none⟩ = some (.slice a3 x.vals.length c3) := cell_blk hX4 v3_w4x
   have z3 := frozen_blk hX4 (o + i * 6 + 3)
   have x4 : w4x.cell? ⟨b, o + i * 6 + 4, none⟩ = some (.slice a4 x.links.length c4) := cell_blk hX4 v4_w4x
   have z4 := frozen_blk hX4 (o + i * 6 + 4)
   have x5 : w4x.cell? ⟨b, o + i * 6 + 5, none⟩ = some (.slice a5 x.types.length c5) := cell_blk hX4 v5_w4x
   have z5 := frozen_blk hX4 (o + i * 6 + 5)
   have HQ4 : Hid (Ks B C wr w4x) := q4
   clear q4 hc4 hX4 v0_w4x l0 v1_w4x l1 v2_w4x l2 v3_w4x l3 v4_w4x l4 v5_w4x l5
   go_wp2_with fail
   refine (HY5.out _ (kk + 1 + 1 + cnt c_string x.names + cnt c_Value x.vals + cnt c_Link x.links) HQ4.out (by omega) (by omega)).mono ?_
   rintro e w5x ⟨rfl, hb5⟩
   have q5 : Ks B C wr w5x := HQ4.out.trans hb5
   clear hb5
   clear x0 z0 x1 z1 x2 z2 x3 z3 x4 z4 x5 z5
   obtain ⟨X5, hX5, -, hc5⟩ := q5.cells b X t HX.out
   obtain ⟨u0, v0_w5x, l0⟩ := hc5 _ _ V0.out
   obtain ⟨n0_w5x, rfl⟩ := l0.str_of
   obtain ⟨u1, v1_w5x, l1⟩ := hc5 _ _ V1.out
   obtain ⟨n1_w5x, rfl⟩ := l1.int_of
   obtain ⟨u2, v2_w5x, l2⟩ := hc5 _ _ V2.out
   obtain rfl := l2.slice
   obtain ⟨u3, v3_w5x, l3⟩ := hc5 _ _ V3.out
   obtain rfl := l3.slice
   obtain ⟨u4, v4_w5x, l4⟩ := hc5 _ _ V4.out
   obtain rfl := l4.slice
   obtain ⟨u5, v5_w5x, l5⟩ := hc5 _ _ V5.out
   obtain rfl := l5.slice
   have x0 : w5x.cell? ⟨b, o + i * 6, none⟩ = some (.string n0_w5x) := cell_blk hX5 v0_w5x
   have z0 := frozen_blk hX5 (o + i * 6)
   have x1 : w5x.cell? ⟨b, o + i * 6 + 1, none⟩ = some (.int .i64 n1_w5x) := cell_blk hX5 v1_w5x
   have z1 := frozen_blk hX5 (o + i * 6 + 1)
   have x2 : w5x.cell? ⟨b, o + i * 6 + 2, none⟩ = some (.slice a2 x.names.length c2) := cell_blk hX5 v2_w5x
   have z2 := frozen_blk hX5 (o + i * 6 + 2)
   have x3 : w5x.cell? ⟨b, o + i * 6 + 3, none⟩ = some (.slice a3 x.vals.length c3) := cell_blk hX5 v3_w5x
   have z3 := frozen_blk hX5 (o + i * 6 + 3)
   have x4 : w5x.cell? ⟨b, o + i * 6 + 4, none⟩ = some (.slice a4 x.links.length c4) := cell_blk hX5 v4_w5x
   have z4 := frozen_blk hX5 (o + i * 6 + 4)
   have x5 : w5x.cell? ⟨b, o + i * 6 + 5, none⟩ = some (.slice a5 x.types.length c5) := cell_blk hX5 v5_w5x
   have z5 := frozen_blk hX5 (o + i * 6 + 5)
   have HQ5 : Hid (Ks B C wr w5x) := q5
   clear q5 hc5 hX5 v0_w5x l0 v1_w5x l1 v2_w5x l2 v3_w5x l3 v4_w5x l4 v5_w5x l5
   go_wp2
   go_roundw
   case rel => exact ⟨i + 1, kk + 1 + 1 + cnt c_string x.names + cnt c_Value x.vals + cnt c_Link x.links + cnt c_Type x.types, by omega, by have := HKN.out; omega, by go_num, by go_num, HKS.out.trans HQ5.out⟩
   case measure => simp [intOf]; omega
  ·have hlt' : decide ((i : Int) < (l.length : Int)) = false := by simp; omega
   obtain rfl : i = l.length := by omega
   rw [List.take_length] at HKK
   have HQ : Hid (kk = k + cnt c_Inst l) := HKK.out
   have HKS : Hid (Ks B C w wr) := hks
   clear hkk HKK hle hks
   go_wp2
   go_ret
   exact ⟨by rw [HQ.out]; rfl, HKS.out⟩
def sh_Unit (x : Unt) : List Sh := [.i, .r 5 (x.prog.nodes.map sh_Node), .i]
def c_Unit (x : Unt) : Nat := 2 + cnt c_Node x.prog.nodes
set_option maxRecDepth 100000 in
set_option maxHeartbeats 2000000 in
theorem mark_Unit (B C : Nat) (a : Option Addr) (l : List Unt) (cap k : Nat) (w : World) (h : Fits B C w (.r 3 (l.map sh_Unit)) (.slice a l.length cap)) (hn : l.length ≤ 1048576) (hin : ∀ x ∈ l, x.small) (hk1 : 1 ≤ k) (hk : k + cnt c_Unit l ≤ 9000000) :
  Calls Tryz.prog 55 #[.slice a l.length cap, .int .i64 (k : Int)] w fun e w' => Mk B C w k (cnt c_Unit l) e w' := by
 have HF : Hid (Fits B C w (.r 3 (l.map sh_Unit)) (.slice a l.length cap)) := h
 clear h
 go_enter Tryz.func55, Tryz.ntmps55
 go_wp2
 go_loopw [1, 5] (fun kv iv wr => ∃ (i kk : Nat), i ≤ l.length ∧ kk = k + cnt c_Unit (l.take i) ∧ kv = .int .i64 kk ∧ iv = .int .i64 i ∧ Ks B C w wr)
  (fun kv iv _ => l.length - (intOf iv).toNat)
 case atStart => exact ⟨0, k, Nat.zero_le _, by simp [cnt], rfl, rfl, Ks.refl _ _ _⟩
 case round =>
  obtain ⟨i, kk, hi, hkk, rfl, rfl, hks⟩ := hrel
  have HKK : Hid (kk = k + cnt c_Unit (l.take i)) := hkk
  have hle := cnt_take_le c_Unit l (i + 1)
  by_cases hlt : i < l.length
  ·obtain ⟨x, hx⟩ : ∃ x, l[i]? = some x := ⟨_, List.getElem?_eq_getElem hlt⟩
   have hcs := cnt_take_succ c_Unit hx
   obtain ⟨b, o, X, t, rfl, hB, hC, hX, hfl⟩ := (HF.out.ks hks _ (.same _)).row (map_at sh_Unit hx)
   have hil : (i : Int) < (l.length : Int) := by omega
   have hcx : c_Unit x = 2 + cnt c_Node x.prog.nodes := rfl
   have hkb : kk + (2 + cnt c_Node x.prog.nodes) ≤ 9000000 := by omega
   have hkp : 1 ≤ kk := by omega
   have HKN : Hid (kk + (2 + cnt c_Node x.prog.nodes) = k + cnt c_Unit (l.take (i + 1))) := by show _ = _; omega
   clear hcx
   have HX : Hid (wr.heap[b]? = some (.cells X t (0, 0))) := hX
   have HB : Hid (B ≤ b) := hB
   have HC : Hid (b < C) := hC
   have HKS : Hid (Ks B C w wr) := hks
   clear hle hcs hkk
   obtain ⟨u0, w0, f0⟩ := hfl 0 (.i) rfl
   obtain ⟨n0_wr, rfl⟩ := f0.int
   have v0_wr : X[o + i * 3]? = some (.int .i64 n0_wr) := by simpa using w0
   have V0 : Hid (X[o + i * 3]? = some (.int .i64 n0_wr)) := v0_wr
   obtain ⟨u1, w1, f1⟩ := hfl 1 (.r 5 (x.prog.nodes.map sh_Node)) rfl
   obtain ⟨a1, c1, rfl⟩ := f1.slice
   rw [List.length_map] at w1 f1
   have v1_wr : X[o + i * 3 + 1]? = some (.slice a1 x.prog.nodes.length c1) := by simpa using w1
   have V1 : Hid (X[o + i * 3 + 1]? = some (.slice a1 x.prog.nodes.length c1)) := v1_wr
   have HLN1 : Hid (x.prog.nodes.length ≤ 1048576) := (hin x (List.mem_of_getElem? hx)).2.1.1
   have HLM1 : Hid (∀ d ∈ x.prog.nodes, d.small) := (hin x (List.mem_of_getElem? hx)).2.1.2
   have HY1 : Hid (∀ (w1 : World) (k1 : Nat), Ks B C wr w1 → 1 ≤ k1 → k1 + cnt c_Node x.prog.nodes ≤ 9000000 → Calls Tryz.prog 105 #[.slice a1 x.prog.nodes.length c1, .int .i64 (k1 : Int)] w1 fun e w' => Mk B C w1 k1 (cnt c_Node x.prog.nodes) e w') := fun w1 k1 hq h1 h2 => mark_Node B C a1 x.prog.nodes c1 k1 w1 (f1.ks hq _ (.same _)) (HLN1.out) (HLM1.out) h1 h2
   obtain ⟨u2, w2, f2⟩ := hfl 2 (.i) rfl
   obtain ⟨n2_wr, rfl⟩ := f2.int
   have v2_wr : X[o + i * 3 + 2]? = some (.int .i64 n2_wr) := by simpa using w2
   have V2 : Hid (X[o + i * 3 + 2]? = some (.int .i64 n2_wr)) := v2_wr
   have x0 : wr.cell? ⟨b, o + i * 3, none⟩ = some (.int .i64 n0_wr) := cell_blk hX v0_wr
   have z0 := frozen_blk hX (o + i * 3)
   have x1 : wr.cell? ⟨b, o + i * 3 + 1, none⟩ = some (.slice a1 x.prog.nodes.length c1) := cell_blk hX v1_wr
   have z1 := frozen_blk hX (o + i * 3 + 1)
   have x2 : wr.cell? ⟨b, o + i * 3 + 2, none⟩ = some (.int .i64 n2_wr) := cell_blk hX v2_wr
   have z2 := frozen_blk hX (o + i * 3 + 2)
   clear hfl hX hB hC hks w0 v0_wr w1 v1_wr w2 v2_wr f0 f1 f2
   go_wp2_with fail
   refine (HY1.out _ (kk + 1) ((Ks.refl B C wr).put HX.out HB.out HC.out V0.out like_i) (by omega) (by omega)).mono ?_
   rintro e w1x ⟨rfl, hb1⟩
   have q1 : Ks B C wr w1x := ((Ks.refl B C wr).put HX.out HB.out HC.out V0.out like_i).trans hb1
   clear hb1
   clear x0 z0 x1 z1 x2 z2
   obtain ⟨X1, hX1, -, hc1⟩ := q1.cells b X t HX.out
   obtain ⟨u0, v0_w1x, l0⟩ := hc1 _ _ V0.out
   obtain ⟨n0_w1x, rfl⟩ := l0.int_of
   obtain ⟨u1, v1_w1x, l1⟩ := hc1 _ _ V1.out
   obtain rfl := l1.slice
   obtain ⟨u2, v2_w1x, l2⟩ := hc1 _ _ V2.out
   obtain ⟨n2_w1x, rfl⟩ := l2.int_of
   have x0 : w1x.cell? ⟨b, o + i * 3, none⟩ = some (.int .i64 n0_w1x) := cell_blk hX1 v0_w1x
   have z0 := frozen_blk hX1 (o + i * 3)
   have x1 : w1x.cell? ⟨b, o + i * 3 + 1, none⟩ = some (.slice a1 x.prog.nodes.length c1) := cell_blk hX1 v1_w1x
   have z1 := frozen_blk hX1 (o + i * 3 + 1)
   have x2 : w1x.cell? ⟨b, o + i * 3 + 2, none⟩ = some (.int .i64 n2_w1x) := cell_blk hX1 v2_w1x
   have z2 := frozen_blk hX1 (o + i * 3 + 2)
   have HQ1 : Hid (Ks B C wr w1x) := q1
   clear q1 hc1 hX1 v0_w1x l0 v1_w1x l1 v2_w1x l2
   go_wp2
   go_roundw
   case rel => exact ⟨i + 1, kk + 1 + cnt c_Node x.prog.nodes + 1, by omega, by have := HKN.out; omega, by go_num, by go_num, HKS.out.trans (HQ1.out.put HX.out HB.out HC.out V2.out like_i)⟩
   case measure => simp [intOf]; omega
  ·have hlt' : decide ((i : Int) < (l.length : Int)) = false := by simp; omega
   obtain rfl : i = l.length := by omega
   rw [List.take_length] at HKK
   have HQ : Hid (kk = k + cnt c_Unit l) := HKK.out
   have HKS : Hid (Ks B C w wr) := hks
   clear hkk HKK hle hks
   go_wp2
   go_ret
   exact ⟨by rw [HQ.out]; rfl, HKS.out⟩
end Go.Proofs.YtmnkomgdcebniaaGreat
