/- Rows of texts and of ints in memory. -/
import Derived.Test.YtlacidojljilaaaGreatDoorOwn
import Derived.OpenShut
import Derived.Deep.QuietTactic
import Derived.Deep.RegionWith
import Derived.BigQuiet
import Derived.Laws.Rows
set_option linter.unusedVariables false
set_option maxRecDepth 100000
set_option maxHeartbeats 8000000
namespace Go.Proofs.YtlacidojljilaaaGreatDoor
open Go.ChangeShapes Go.WideShapes Go.ChangeAt Go.RowKit
def i64B (x : Int) : Prop := -9223372036854775808 ≤ x ∧ x ≤ 9223372036854775807
def RowI (w : World) (B : Nat) (a : Option Addr) (ts : List Int) : Prop :=
 ∀ i x, ts[i]? = some x → ∃ b o, a = some ⟨b, o, none⟩ ∧ b < B ∧ w.cell? ⟨b, o + i, none⟩ = some (.int .i64 x)
def RowS (w : World) (B : Nat) (a : Option Addr) (ts : List ByteArray) : Prop :=
 ∀ i x, ts[i]? = some x → ∃ b o, a = some ⟨b, o, none⟩ ∧ b < B ∧ w.cell? ⟨b, o + i, none⟩ = some (.string x)
theorem RowI.keep {w w' : World} {B : Nat} {a : Option Addr} {ts : List Int} (h : RowI w B a ts) (hk : ∀ b, b < B → w'.heap[b]? = w.heap[b]?) : RowI w' B a ts := by
 intro i d hi
 obtain ⟨b, o, ha, hb, hd⟩ := h i d hi
 exact ⟨b, o, ha, hb, (World.cell?_of_block (w := w) (a := ⟨b, _, none⟩) (hk b hb)).trans hd⟩
theorem RowS.keep {w w' : World} {B : Nat} {a : Option Addr} {ts : List ByteArray} (h : RowS w B a ts) (hk : ∀ b, b < B → w'.heap[b]? = w.heap[b]?) : RowS w' B a ts := by
 intro i d hi
 obtain ⟨b, o, ha, hb, hd⟩ := h i d hi
 exact ⟨b, o, ha, hb, (World.cell?_of_block (w := w) (a := ⟨b, _, none⟩) (hk b hb)).trans hd⟩
theorem RowI.below {w w' : World} {B : Nat} {a : Option Addr} {ts : List Int} (h : RowI w B a ts) (hb : Below B w w') : RowI w' B a ts := h.keep hb.block
theorem RowS.below {w w' : World} {B : Nat} {a : Option Addr} {ts : List ByteArray} (h : RowS w B a ts) (hb : Below B w w') : RowS w' B a ts := h.keep hb.block
theorem RowI.mono {w : World} {B B' : Nat} {a : Option Addr} {cs : List Int} (h : RowI w B a cs) (hb : B ≤ B') : RowI w B' a cs := by
 intro i d hi
 obtain ⟨b, o, ha, hb, hd⟩ := h i d hi
 exact ⟨b, o, ha, by omega, hd⟩
theorem RowS.mono {w : World} {B B' : Nat} {a : Option Addr} {cs : List ByteArray} (h : RowS w B a cs) (hb : B ≤ B') : RowS w B' a cs := by
 intro i d hi
 obtain ⟨b, o, ha, hb, hd⟩ := h i d hi
 exact ⟨b, o, ha, by omega, hd⟩
theorem RowS.take {w : World} {B : Nat} {a : Option Addr} {cs : List ByteArray} (h : RowS w B a cs) (n : Nat) : RowS w B a (cs.take n) := by
 intro i d hi
 rw [List.getElem?_take] at hi
 split at hi
 ·exact h i d hi
 ·cases hi
def Ans (w : World) (v : Value) (e : Ending) (w' : World) : Prop := e = .returned v ∧ Below w.heap.size w w'
theorem blk_alloc (w : World) (o : Obj) : (w.alloc o).heap[w.heap.size]? = some o := by show (w.heap.push o)[w.heap.size]? = some o; simp
theorem blk_at (w : World) (o : Obj) (n : Nat) (h : n = w.heap.size) : (w.alloc o).heap[n]? = some o := by subst h; exact blk_alloc w o
theorem blk_past {w : World} {o o' : Obj} {b : Nat} (h : w.heap[b]? = some o') : (w.alloc o).heap[b]? = some o' := by
 have hl := (Array.getElem?_eq_some_iff.1 h).1
 show (w.heap.push o)[b]? = some o'
 rw [Array.getElem?_push_lt hl, ← h, Array.getElem?_eq_getElem hl]
theorem blk_keep {B b : Nat} {w w' : World} {o : Obj} (h : w.heap[b]? = some o) (hb : Below B w w') (hlt : b < B) : w'.heap[b]? = some o := (hb.block b hlt).trans h
theorem cell_blk {w : World} {b j : Nat} {xs : Array Value} {t : TypeId} {v : Value} (h : w.heap[b]? = some (.cells xs t)) (hj : xs[j]? = some v) : w.cell? ⟨b, j, none⟩ = some v := by
 simp [World.cell?, h, hj]
theorem bK {b : Nat} {w w' : World} {o : Obj} (h : w.heap[b]? = some o) (hb : Below w.heap.size w w') : w'.heap[b]? = some o := blk_keep h hb (Array.getElem?_eq_some_iff.1 h).1
theorem gS {w : World} {b : Nat} {o : Obj} (h : w.heap[b]? = some o) : b < w.heap.size := (Array.getElem?_eq_some_iff.1 h).1
theorem bT {w w1 w2 : World} (h : Below w.heap.size w w1) (g : Below w1.heap.size w1 w2) : Below w.heap.size w w2 := h.trans (g.mono h.size)
theorem bR (w : World) (o : Obj) : Below w.heap.size w (w.alloc o) := (Below.refl _ _).alloc (Nat.le_refl _) _
theorem zB (j : Nat) {w : World} {b : Nat} {xs : Array Value} {t : TypeId} {v : Value} (h : w.heap[b]? = some (.cells xs t)) (hj : xs[j]? = some v) : w.cell? ⟨b, j, none⟩ = some v := cell_blk h hj
theorem zn2 {w : World} {b : Nat} {xs : Array Value} {t : TypeId} {v0 v1 : Value} (h : w.heap[b]? = some (.cells xs t)) (h0 : xs[0]? = some v0) (h1 : xs[1]? = some v1) : w.cell? ⟨b, 0, none⟩ = some v0 ∧ w.cell? ⟨b, 1, none⟩ = some v1 := ⟨cell_blk h h0, cell_blk h h1⟩
theorem zn3 {w : World} {b : Nat} {xs : Array Value} {t : TypeId} {v0 v1 v2 : Value} (h : w.heap[b]? = some (.cells xs t)) (h0 : xs[0]? = some v0) (h1 : xs[1]? = some v1) (h2 : xs[2]? = some v2) : w.cell? ⟨b, 0, none⟩ = some v0 ∧ w.cell? ⟨b, 1, none⟩ = some v1 ∧ w.cell? ⟨b, 2, none⟩ = some v2 := ⟨cell_blk h h0, cell_blk h h1, cell_blk h h2⟩
theorem zn4 {w : World} {b : Nat} {xs : Array Value} {t : TypeId} {v0 v1 v2 v3 : Value} (h : w.heap[b]? = some (.cells xs t)) (h0 : xs[0]? = some v0) (h1 : xs[1]? = some v1) (h2 : xs[2]? = some v2) (h3 : xs[3]? = some v3) : w.cell? ⟨b, 0, none⟩ = some v0 ∧ w.cell? ⟨b, 1, none⟩ = some v1 ∧ w.cell? ⟨b, 2, none⟩ = some v2 ∧ w.cell? ⟨b, 3, none⟩ = some v3 := ⟨cell_blk h h0, cell_blk h h1, cell_blk h h2, cell_blk h h3⟩
theorem zn5 {w : World} {b : Nat} {xs : Array Value} {t : TypeId} {v0 v1 v2 v3 v4 : Value} (h : w.heap[b]? = some (.cells xs t)) (h0 : xs[0]? = some v0) (h1 : xs[1]? = some v1) (h2 : xs[2]? = some v2) (h3 : xs[3]? = some v3) (h4 : xs[4]? = some v4) : w.cell? ⟨b, 0, none⟩ = some v0 ∧ w.cell? ⟨b, 1, none⟩ = some v1 ∧ w.cell? ⟨b, 2, none⟩ = some v2 ∧ w.cell? ⟨b, 3, none⟩ = some v3 ∧ w.cell? ⟨b, 4, none⟩ = some v4 := ⟨cell_blk h h0, cell_blk h h1, cell_blk h h2, cell_blk h h3, cell_blk h h4⟩
theorem zn6 {w : World} {b : Nat} {xs : Array Value} {t : TypeId} {v0 v1 v2 v3 v4 v5 : Value} (h : w.heap[b]? = some (.cells xs t)) (h0 : xs[0]? = some v0) (h1 : xs[1]? = some v1) (h2 : xs[2]? = some v2) (h3 : xs[3]? = some v3) (h4 : xs[4]? = some v4) (h5 : xs[5]? = some v5) : w.cell? ⟨b, 0, none⟩ = some v0 ∧ w.cell? ⟨b, 1, none⟩ = some v1 ∧ w.cell? ⟨b, 2, none⟩ = some v2 ∧ w.cell? ⟨b, 3, none⟩ = some v3 ∧ w.cell? ⟨b, 4, none⟩ = some v4 ∧ w.cell? ⟨b, 5, none⟩ = some v5 := ⟨cell_blk h h0, cell_blk h h1, cell_blk h h2, cell_blk h h3, cell_blk h h4, cell_blk h h5⟩
theorem zn7 {w : World} {b : Nat} {xs : Array Value} {t : TypeId} {v0 v1 v2 v3 v4 v5 v6 : Value} (h : w.heap[b]? = some (.cells xs t)) (h0 : xs[0]? = some v0) (h1 : xs[1]? = some v1) (h2 : xs[2]? = some v2) (h3 : xs[3]? = some v3) (h4 : xs[4]? = some v4) (h5 : xs[5]? = some v5) (h6 : xs[6]? = some v6) : w.cell? ⟨b, 0, none⟩ = some v0 ∧ w.cell? ⟨b, 1, none⟩ = some v1 ∧ w.cell? ⟨b, 2, none⟩ = some v2 ∧ w.cell? ⟨b, 3, none⟩ = some v3 ∧ w.cell? ⟨b, 4, none⟩ = some v4 ∧ w.cell? ⟨b, 5, none⟩ = some v5 ∧ w.cell? ⟨b, 6, none⟩ = some v6 := ⟨cell_blk h h0, cell_blk h h1, cell_blk h h2, cell_blk h h3, cell_blk h h4, cell_blk h h5, cell_blk h h6⟩
theorem zn8 {w : World} {b : Nat} {xs : Array Value} {t : TypeId} {v0 v1 v2 v3 v4 v5 v6 v7 : Value} (h : w.heap[b]? = some (.cells xs t)) (h0 : xs[0]? = some v0) (h1 : xs[1]? = some v1) (h2 : xs[2]? = some v2) (h3 : xs[3]? = some v3) (h4 : xs[4]? = some v4) (h5 : xs[5]? = some v5) (h6 : xs[6]? = some v6) (h7 : xs[7]? = some v7) : w.cell? ⟨b, 0, none⟩ = some v0 ∧ w.cell? ⟨b, 1, none⟩ = some v1 ∧ w.cell? ⟨b, 2, none⟩ = some v2 ∧ w.cell? ⟨b, 3, none⟩ = some v3 ∧ w.cell? ⟨b, 4, none⟩ = some v4 ∧ w.cell? ⟨b, 5, none⟩ = some v5 ∧ w.cell? ⟨b, 6, none⟩ = some v6 ∧ w.cell? ⟨b, 7, none⟩ = some v7 := ⟨cell_blk h h0, cell_blk h h1, cell_blk h h2, cell_blk h h3, cell_blk h h4, cell_blk h h5, cell_blk h h6, cell_blk h h7⟩
theorem zn9 {w : World} {b : Nat} {xs : Array Value} {t : TypeId} {v0 v1 v2 v3 v4 v5 v6 v7 v8 : Value} (h : w.heap[b]? = some (.cells xs t)) (h0 : xs[0]? = some v0) (h1 : xs[1]? = some v1) (h2 : xs[2]? = some v2) (h3 : xs[3]? = some v3) (h4 : xs[4]? = some v4) (h5 : xs[5]? = some v5) (h6 : xs[6]? = some v6) (h7 : xs[7]? = some v7) (h8 : xs[8]? = some v8) : w.cell? ⟨b, 0, none⟩ = some v0 ∧ w.cell? ⟨b, 1, none⟩ = some v1 ∧ w.cell? ⟨b, 2, none⟩ = some v2 ∧ w.cell? ⟨b, 3, none⟩ = some v3 ∧ w.cell? ⟨b, 4, none⟩ = some v4 ∧ w.cell? ⟨b, 5, none⟩ = some v5 ∧ w.cell? ⟨b, 6, none⟩ = some v6 ∧ w.cell? ⟨b, 7, none⟩ = some v7 ∧ w.cell? ⟨b, 8, none⟩ = some v8 := ⟨cell_blk h h0, cell_blk h h1, cell_blk h h2, cell_blk h h3, cell_blk h h4, cell_blk h h5, cell_blk h h6, cell_blk h h7, cell_blk h h8⟩
theorem zj2 (j0 j1 : Nat) {w : World} {b : Nat} {xs : Array Value} {t : TypeId} {v0 v1 : Value} (h : w.heap[b]? = some (.cells xs t)) (h0 : xs[j0]? = some v0) (h1 : xs[j1]? = some v1) : w.cell? ⟨b, j0, none⟩ = some v0 ∧ w.cell? ⟨b, j1, none⟩ = some v1 := ⟨cell_blk h h0, cell_blk h h1⟩
theorem zj3 (j0 j1 j2 : Nat) {w : World} {b : Nat} {xs : Array Value} {t : TypeId} {v0 v1 v2 : Value} (h : w.heap[b]? = some (.cells xs t)) (h0 : xs[j0]? = some v0) (h1 : xs[j1]? = some v1) (h2 : xs[j2]? = some v2) : w.cell? ⟨b, j0, none⟩ = some v0 ∧ w.cell? ⟨b, j1, none⟩ = some v1 ∧ w.cell? ⟨b, j2, none⟩ = some v2 := ⟨cell_blk h h0, cell_blk h h1, cell_blk h h2⟩
theorem zj4 (j0 j1 j2 j3 : Nat) {w : World} {b : Nat} {xs : Array Value} {t : TypeId} {v0 v1 v2 v3 : Value} (h : w.heap[b]? = some (.cells xs t)) (h0 : xs[j0]? = some v0) (h1 : xs[j1]? = some v1) (h2 : xs[j2]? = some v2) (h3 : xs[j3]? = some v3) : w.cell? ⟨b, j0, none⟩ = some v0 ∧ w.cell? ⟨b, j1, none⟩ = some v1 ∧ w.cell? ⟨b, j2, none⟩ = some v2 ∧ w.cell? ⟨b, j3, none⟩ = some v3 := ⟨cell_blk h h0, cell_blk h h1, cell_blk h h2, cell_blk h h3⟩
theorem zj5 (j0 j1 j2 j3 j4 : Nat) {w : World} {b : Nat} {xs : Array Value} {t : TypeId} {v0 v1 v2 v3 v4 : Value} (h : w.heap[b]? = some (.cells xs t)) (h0 : xs[j0]? = some v0) (h1 : xs[j1]? = some v1) (h2 : xs[j2]? = some v2) (h3 : xs[j3]? = some v3) (h4 : xs[j4]? = some v4) : w.cell? ⟨b, j0, none⟩ = some v0 ∧ w.cell? ⟨b, j1, none⟩ = some v1 ∧ w.cell? ⟨b, j2, none⟩ = some v2 ∧ w.cell? ⟨b, j3, none⟩ = some v3 ∧ w.cell? ⟨b, j4, none⟩ = some v4 := ⟨cell_blk h h0, cell_blk h h1, cell_blk h h2, cell_blk h h3, cell_blk h h4⟩
theorem cell_blk' {w : World} {b : Nat} {xs : Array Value} {t : TypeId} (h : w.heap[b]? = some (.cells xs t)) (j : Nat) (hj : j < xs.size) : ∃ v, w.cell? ⟨b, j, none⟩ = some v := by
 simp [World.cell?, h, hj]
theorem frozen_blk {w : World} {b : Nat} {xs : Array Value} {t : TypeId} (h : w.heap[b]? = some (.cells xs t)) (j : Nat) : w.frozen? ⟨b, j, none⟩ = false := by
 simp [World.frozen?, h]
def hasS (ts : List ByteArray) (s : ByteArray) : Bool := ts.any fun t => t.toList == s.toList
theorem hasS_take {ts : List ByteArray} {s t : ByteArray} {k : Nat} (h : ts[k]? = some t) : hasS (ts.take (k + 1)) s = (hasS (ts.take k) s || t.toList == s.toList) := by
 unfold hasS
 rw [List.take_add_one, h]
 simp
theorem hasS_of {ts : List ByteArray} {s t : ByteArray} {k : Nat} (h : ts[k]? = some t) (he : (t.toList == s.toList) = true) : hasS ts s = true :=
 List.any_eq_true.2 ⟨t, List.mem_of_getElem? h, he⟩
theorem l3In_any (a : Option Addr) (ts : List ByteArray) (cap : Nat) (s : ByteArray) (w : World) (hn : ts.length ≤ 1048576) (hr : RowS w w.heap.size a ts) :
  Calls Tryz.prog 103 #[.slice a ts.length cap, .string s] w fun e w' => Ans w (.bool (hasS ts s)) e w' := by
 have HR : Hid (RowS w w.heap.size a ts) := hr
 clear hr
 go_enter Tryz.func103, Tryz.ntmps103
 go_wp2
 go_loopw [5] (fun o wr => ∃ (i : Nat), i ≤ ts.length ∧ o = .int .i64 i ∧ hasS (ts.take i) s = false ∧ Below w.heap.size w wr)
  (fun o _ => ts.length - (intOf o).toNat)
 case atStart => exact ⟨0, by omega, rfl, by simp [hasS], Below.refl _ _⟩
 case round =>
  obtain ⟨i, hi, rfl, hno, hb⟩ := hrel
  by_cases hlt : i < ts.length
  ·obtain ⟨d, hd⟩ : ∃ d, ts[i]? = some d := ⟨_, List.getElem?_eq_getElem hlt⟩
   obtain ⟨b1, o1, rfl, hbb, c0⟩ := (HR.out.below hb) i d hd
   by_cases he : (d.toList == s.toList) = true
   ·have HQ : Hid (hasS ts s = true) := hasS_of hd he
    clear hno
    go_wp2
    all_goals (try go_quiet (fail))
    all_goals (try go_wp2)
    all_goals
     go_ret
     exact ⟨by rw [HQ.out]; rfl, by first | exact hb | exact below_drewN hb _⟩
   ·have he : (d.toList == s.toList) = false := by simpa using he
    have HQ : Hid (hasS (ts.take (i + 1)) s = false) := by show _ = _; rw [hasS_take hd, hno, he]; rfl
    clear hno
    go_wp2
    all_goals (try go_quiet (fail))
    all_goals (try go_wp2)
    all_goals
     go_roundw
     case rel => exact ⟨i + 1, by omega, by go_num, HQ.out, by first | exact hb | exact below_drewN hb _⟩
     case measure => simp [intOf]; omega
  ·have hlt' : decide ((i : Int) < (ts.length : Int)) = false := by simp; omega
   obtain rfl : i = ts.length := by omega
   rw [List.take_length] at hno
   have HQ : Hid (hasS ts s = false) := hno
   clear hno
   go_wp2
   go_ret
   exact ⟨by rw [HQ.out]; rfl, hb⟩
end Go.Proofs.YtlacidojljilaaaGreatDoor
