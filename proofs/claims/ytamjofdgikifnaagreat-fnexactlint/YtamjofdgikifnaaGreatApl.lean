/- Rows side by side in a block, as slices: how they lie. What of a row is in none of others, each once: as a plain function, and how often a value stands in a list. -/
import Derived.Test.YtamjofdgikifnaaGreatSlg
import Derived.Test.YtamjofdgikifnaaGreatMpg
import Derived.Test.YtamjofdgikifnaaGreatApw
set_option linter.unusedVariables false
namespace Go.Proofs.YtamjofdgikifnaaGreat
open Go.ChangeShapes Go.WideShapes Go.ChangeAt Go.RowKit
structure Rw where
 a : Option Addr
 n : Nat
 c : Nat
 u : List Value
structure Rw.At (r : Rw) (sz : Nat) (w : World) : Prop where
 len : r.u.length = r.n * sz
 one : ∀ x ∈ r.u, x.oneCell' = true
 cells : ∀ wr, Below w.heap.size w wr → 0 < r.n → ∃ ad, r.a = some ad ∧ ∀ j x, r.u[j]? = some x → wr.cell? (ad.add j) = some x
def sumN : List Rw → Nat
 | [] => 0
 | r :: l => r.n + sumN l
def catU (l : List Rw) : List Value := l.flatMap (·.u)
theorem sumN_append (l m : List Rw) : sumN (l ++ m) = sumN l + sumN m := by
 induction l with
 | nil => simp [sumN]
 | cons r l ih => simp only [List.cons_append, sumN, ih]; omega
theorem sumN_take {l : List Rw} {i : Nat} {r : Rw} (h : l[i]? = some r) : sumN (l.take (i + 1)) = sumN (l.take i) + r.n := by
 rw [List.take_add_one, h, sumN_append]
 simp [sumN]
theorem catU_take {l : List Rw} {i : Nat} {r : Rw} (h : l[i]? = some r) : catU (l.take (i + 1)) = catU (l.take i) ++ r.u := by
 unfold catU
 rw [List.take_add_one, h, List.flatMap_append]
 simp
theorem sumN_le (l : List Rw) (i : Nat) : sumN (l.take i) ≤ sumN l := by
 have := sumN_append (l.take i) (l.drop i)
 rw [List.take_append_drop] at this
 omega
theorem Rw.At.keep {r : Rw} {sz : Nat} {w w' : World} (h : r.At sz w) (hb : Below w.heap.size w w') : r.At sz w' :=
 ⟨h.len, h.one, fun wr hr => h.cells wr (hb.trans (hr.mono hb.size))⟩
def RwsAt (rs : List Rw) (sz g : Nat) (w : World) : Prop := ∀ i r, rs[i]? = some r → w.cell? ⟨g, i, none⟩ = some (.slice r.a r.n r.c) ∧ r.At sz w
theorem Rd.Row.rw_at {α : Type} {R : Rd α} {w : World} {p : Nat → Prop} {l : List α} {a : Option Addr} (c : Nat) (h : R.Row w p a l) (hp : ∀ b, p b → b < w.heap.size) (h1 : ∀ u, RawOf R w p u l → ∀ v ∈ u, v.oneCell' = true) :
  ∃ r : Rw, r.a = a ∧ r.n = l.length ∧ r.c = c ∧ RawOf R w p r.u l ∧ r.At R.n w := by
 obtain ⟨u, hu, hl⟩ := h.raw
 refine ⟨⟨a, l.length, c, u⟩, rfl, rfl, rfl, hu, hu.len, h1 u hu, fun wr hb h0 => ?_⟩
 obtain ⟨b', o', ha, hh⟩ := hl h0
 obtain ⟨y, hy⟩ : ∃ y, l[0]? = some y := ⟨_, List.getElem?_eq_getElem h0⟩
 obtain ⟨b2, o2, _, e, hlt, _⟩ := h 0 y hy
 rw [ha] at e
 simp only [Option.some.injEq, Addr.mk.injEq, and_true] at e
 obtain ⟨rfl, rfl⟩ := e
 exact ⟨_, ha, fun j x hx => by rw [add_lit]; exact (hh.keep (hb.block _ (hp _ hlt))) j x hx⟩
theorem app_belowR {B : Nat} {w0 w1 w2 : World} {e : TypeId} {s : Nat} {v : Value} {n : Nat} {l : List Value} (hb : Below B w0 w1) (hB2 : B ≤ w1.heap.size) (ho : w1.ownsRow B e s v n l) (hg : w1.grownBy w2 v.ownBlock) : Below B w0 w2 :=
 hb.trans ⟨hg.os, hg.tape, hg.output, hg.size, fun k hk => hg.block k (by omega) (fun e => by have := (own_blk ho e.symm).1; omega)⟩
end Go.Proofs.YtamjofdgikifnaaGreat
set_option linter.unusedVariables false
namespace Go.Proofs.YtamjofdgikifnaaGreat
open Go.ChangeShapes Go.WideShapes Go.ChangeAt Go.RowKit
noncomputable def ocs {α : Type} : List α → α → Int
 | [], _ => 0
 | y :: l, x => ocs l x + (if holds (x = y) then 1 else 0)
theorem ocs_nonneg {α : Type} (l : List α) (x : α) : 0 ≤ ocs l x ∧ ocs l x ≤ l.length := by
 induction l with
 | nil => simp [ocs]
 | cons y l ih =>
  simp only [ocs, List.length_cons]
  split <;> omega
theorem ocs_none {α : Type} (l : List α) (x : α) : ocs l x = 0 ↔ x ∉ l := by
 induction l with
 | nil => simp [ocs]
 | cons y l ih =>
  have := ocs_nonneg l x
  simp only [ocs, List.mem_cons, not_or]
  by_cases e : x = y
  ·rw [if_pos (holds_iff.2 e)]
   constructor
   ·intro h; omega
   ·intro h; exact absurd e h.1
  ·rw [if_neg (fun h => e (holds_iff.1 h)), Int.add_zero, ih]
   exact ⟨fun h => ⟨e, h⟩, fun h => h.2⟩
theorem ocs_snoc {α : Type} (l : List α) (y x : α) : ocs (l ++ [y]) x = ocs l x + (if holds (x = y) then 1 else 0) := by
 induction l with
 | nil => simp [ocs]
 | cons z l ih => simp only [List.cons_append, ocs, ih]; omega
theorem ocs_upd {α : Type} (l : List α) (y x : α) : updG (ocs l) y (ocs l y + 1) x = ocs (l ++ [y]) x := by
 rw [ocs_snoc]
 unfold updG
 split
 ·rename_i e
  rw [if_pos (holds_iff.2 e), e]
 ·rename_i e
  rw [if_neg (fun h => e (holds_iff.1 h)), Int.add_zero]
noncomputable def apR {α : Type} (s : List α) : List α → List α
 | [] => []
 | x :: l => (if holds (x ∈ s) then [] else [x]) ++ apR (s ++ [x]) l
theorem apR_snoc {α : Type} (s l : List α) (x : α) : apR s (l ++ [x]) = apR s l ++ (if holds (x ∈ s ++ l) then [] else [x]) := by
 induction l generalizing s with
 | nil => simp [apR]
 | cons y l ih =>
  simp only [List.cons_append, apR, ih, List.append_assoc, List.nil_append]
theorem apR_len {α : Type} (s l : List α) : (apR s l).length ≤ l.length := by
 induction l generalizing s with
 | nil => simp [apR]
 | cons y l ih =>
  have := ih (s ++ [y])
  simp only [apR, List.length_append, List.length_cons]
  split <;> simp <;> omega
theorem apR_mem {α : Type} {s l : List α} {x : α} (h : x ∈ apR s l) : x ∈ l := by
 induction l generalizing s with
 | nil => exact h
 | cons y l ih =>
  simp only [apR, List.mem_append] at h
  rcases h with h | h
  ·split at h
   ·cases h
   ·simp at h; simp [h]
  ·exact List.mem_cons_of_mem _ (ih h)
theorem take_snc {α : Type} {l : List α} {i : Nat} {x : α} (h : l[i]? = some x) : l.take (i + 1) = l.take i ++ [x] := by
 rw [List.take_add_one, h]
 rfl
theorem gby_trans {w w1 w2 : World} {o : Option Nat} (h : w.grownBy w1 o) (g : w1.grownBy w2 o) : w.grownBy w2 o :=
 ⟨g.os.trans h.os, g.tape.trans h.tape, g.output.trans h.output, Nat.le_trans h.size g.size, fun i hi hne => (g.block i (Nat.lt_of_lt_of_le hi h.size) hne).trans (h.block i hi hne)⟩
theorem gby_below {w w1 w2 : World} {m : Nat} (h : w.grownBy w1 (some m)) (g : Below w.heap.size w1 w2) : w.grownBy w2 (some m) :=
 ⟨g.os.trans h.os, g.tape.trans h.tape, g.output.trans h.output, Nat.le_trans h.size g.size, fun i hi hne => (g.block i hi).trans (h.block i hi hne)⟩
theorem gby_of {w w1 : World} {m : Nat} (g : Below w.heap.size w w1) : w.grownBy w1 (some m) := ⟨g.os, g.tape, g.output, g.size, fun i hi _ => g.block i hi⟩
theorem gby_wide {w w1 w2 : World} {m : Nat} (h : w.grownBy w1 (some m)) (g : w1.grownBy w2 (some m)) : w.grownBy w2 (some m) := gby_trans h g
theorem own_gby {w w' : World} {B n s m : Nat} {e : TypeId} {v : Value} {xs : List Value} (h : w.ownsRow B e s v n xs) (hg : w.grownBy w' (some m)) (hm : m < B) : w'.ownsRow B e s v n xs :=
 own_keep h fun b hb => hg.block b (own_blk h hb).2.1 (fun e => by have := (own_blk h hb).1; have := Option.some.inj e; omega)
theorem gby_own {w w1 w2 : World} {m n s : Nat} {e : TypeId} {v : Value} {xs : List Value} (h : w.grownBy w1 (some m)) (ho : w1.ownsRow w.heap.size e s v n xs) (g : w1.grownBy w2 v.ownBlock) : w.grownBy w2 (some m) :=
 ⟨g.os.trans h.os, g.tape.trans h.tape, g.output.trans h.output, Nat.le_trans h.size g.size, fun i hi hne => (g.block i (Nat.lt_of_lt_of_le hi h.size) (fun e => by have := (own_blk ho e.symm).1; omega)).trans (h.block i hi hne)⟩
theorem map_alloc {w : World} {m : Nat} (o : Obj) (h : m < w.heap.size) : (w.alloc o).heap[m]? = w.heap[m]? := ((Below.refl w.heap.size w).alloc (Nat.le_refl _) o).block m h
theorem cell_no_map {w : World} {m o : Nat} {v : Value} (hm : MapE w m) (h : w.cell? ⟨m, o, none⟩ = some v) : False := by
 obtain ⟨c, hc⟩ := hm
 simp [World.cell?, hc] at h
theorem cell_gby {w w' : World} {m b o : Nat} {v : Value} (hm : MapE w m) (hg : w.grownBy w' (some m)) (hb : b < w.heap.size) (h : w.cell? ⟨b, o, none⟩ = some v) : w'.cell? ⟨b, o, none⟩ = some v :=
 (World.cell?_of_block (w := w) (a := ⟨b, o, none⟩) (hg.block b hb (fun e => cell_no_map hm (Option.some.inj e ▸ h)))).trans h
end Go.Proofs.YtamjofdgikifnaaGreat
