/- Data in memory: what a datum's five cells are, rows of data and of ints. -/
import Derived.Test.YtgfkmppkeolckaaDoorRows
import Derived.WalkKit
import Derived.ProofKit
import Derived.Below
import Derived.Outline
import Derived.WalkSpells
import Derived.WalkLawsBesides
import Derived.OpenShut
import Derived.Deep.QuietTactic
import Derived.BigQuiet
import Derived.Laws.IdiomStrings
import Derived.Laws.Rows
namespace Go.Proofs.YtgfkmppkeolckaaDoor
open Go.ChangeShapes Go.WideShapes Go.ChangeAt Go.RowKit
/-- A datum: its five cells. -/
structure Dat where
  k : Int
  n : Int
  s : ByteArray
  l : Int
  r : Int
deriving Inhabited
def i64B (x : Int) : Prop := -9223372036854775808 ≤ x ∧ x ≤ 9223372036854775807
/-- The numbers of a datum fit, its text is no longer than any is. -/
def Dat.wf (d : Dat) : Prop := i64B d.k ∧ i64B d.n ∧ i64B d.l ∧ i64B d.r ∧ d.s.size ≤ 9223372036854775807
def DatAt (w : World) (b o : Nat) (d : Dat) : Prop :=
  w.cell? ⟨b, o, none⟩ = some (.int .i64 d.k) ∧ w.cell? ⟨b, o + 1, none⟩ = some (.int .i64 d.n) ∧ w.cell? ⟨b, o + 2, none⟩ = some (.string d.s) ∧ w.cell? ⟨b, o + 3, none⟩ = some (.int .i64 d.l) ∧ w.cell? ⟨b, o + 4, none⟩ = some (.int .i64 d.r)
/-- A row of data, below a block. -/
def RowD (w : World) (B : Nat) (a : Option Addr) (cs : List Dat) : Prop :=
  ∀ i d, cs[i]? = some d → ∃ b o, a = some ⟨b, o, none⟩ ∧ b < B ∧ DatAt w b (o + i * 5) d
/-- A row of ints, below a block. -/
def RowI (w : World) (B : Nat) (a : Option Addr) (ts : List Int) : Prop :=
  ∀ i x, ts[i]? = some x → ∃ b o, a = some ⟨b, o, none⟩ ∧ b < B ∧ w.cell? ⟨b, o + i, none⟩ = some (.int .i64 x)
theorem DatAt.block {w w' : World} {b o : Nat} {d : Dat} (h : DatAt w b o d) (hk : w'.heap[b]? = w.heap[b]?) : DatAt w' b o d := by
  obtain ⟨h0, h1, h2, h3, h4⟩ := h
  exact ⟨(World.cell?_of_block (w := w) (a := ⟨b, _, none⟩) hk).trans h0, (World.cell?_of_block (w := w) (a := ⟨b, _, none⟩) hk).trans h1, (World.cell?_of_block (w := w) (a := ⟨b, _, none⟩) hk).trans h2, (World.cell?_of_block (w := w) (a := ⟨b, _, none⟩) hk).trans h3, (World.cell?_of_block (w := w) (a := ⟨b, _, none⟩) hk).trans h4⟩
theorem RowD.keep {w w' : World} {B : Nat} {a : Option Addr} {cs : List Dat} (h : RowD w B a cs) (hk : ∀ b, b < B → w'.heap[b]? = w.heap[b]?) : RowD w' B a cs := by
  intro i d hi
  obtain ⟨b, o, ha, hb, hd⟩ := h i d hi
  exact ⟨b, o, ha, hb, hd.block (hk b hb)⟩
theorem RowI.keep {w w' : World} {B : Nat} {a : Option Addr} {ts : List Int} (h : RowI w B a ts) (hk : ∀ b, b < B → w'.heap[b]? = w.heap[b]?) : RowI w' B a ts := by
  intro i d hi
  obtain ⟨b, o, ha, hb, hd⟩ := h i d hi
  exact ⟨b, o, ha, hb, (World.cell?_of_block (w := w) (a := ⟨b, _, none⟩) (hk b hb)).trans hd⟩
theorem RowD.below {w w' : World} {B : Nat} {a : Option Addr} {cs : List Dat} (h : RowD w B a cs) (hb : Below B w w') : RowD w' B a cs := h.keep hb.block
theorem RowI.below {w w' : World} {B : Nat} {a : Option Addr} {ts : List Int} (h : RowI w B a ts) (hb : Below B w w') : RowI w' B a ts := h.keep hb.block
theorem RowD.mono {w : World} {B B' : Nat} {a : Option Addr} {cs : List Dat} (h : RowD w B a cs) (hb : B ≤ B') : RowD w B' a cs := by
  intro i d hi
  obtain ⟨b, o, ha, hb, hd⟩ := h i d hi
  exact ⟨b, o, ha, by omega, hd⟩
theorem RowI.mono {w : World} {B B' : Nat} {a : Option Addr} {cs : List Int} (h : RowI w B a cs) (hb : B ≤ B') : RowI w B' a cs := by
  intro i d hi
  obtain ⟨b, o, ha, hb, hd⟩ := h i d hi
  exact ⟨b, o, ha, by omega, hd⟩
/-- What a call that only makes answers. -/
def Ans (w : World) (v : Value) (e : Ending) (w' : World) : Prop := e = .returned v ∧ Below w.heap.size w w'
theorem blk_alloc (w : World) (o : Obj) : (w.alloc o).heap[w.heap.size]? = some o := by show (w.heap.push o)[w.heap.size]? = some o; simp
theorem blk_at (w : World) (o : Obj) (n : Nat) (h : n = w.heap.size) : (w.alloc o).heap[n]? = some o := by subst h; exact blk_alloc w o
theorem blk_past {w : World} {o o' : Obj} {b : Nat} (h : w.heap[b]? = some o') : (w.alloc o).heap[b]? = some o' := by
  have hl := (Array.getElem?_eq_some_iff.1 h).1
  show (w.heap.push o)[b]? = some o'
  rw [Array.getElem?_push_lt hl, ← h, Array.getElem?_eq_getElem hl]
theorem blk_keep {B b : Nat} {w w' : World} {o : Obj} (h : w.heap[b]? = some o) (hb : Below B w w') (hlt : b < B) : w'.heap[b]? = some o := (hb.block b hlt).trans h
theorem cell_blk {w : World} {b j : Nat} {xs : Array Value} {t : TypeId} {v : Value} (h : w.heap[b]? = some (.cells xs t)) (hj : xs[j]? = some v) : w.cell? ⟨b, j, none⟩ = some v := by
  simp [World.cell?, h, hj]
theorem cell_blk' {w : World} {b : Nat} {xs : Array Value} {t : TypeId} (h : w.heap[b]? = some (.cells xs t)) (j : Nat) (hj : j < xs.size) : ∃ v, w.cell? ⟨b, j, none⟩ = some v := by
  simp [World.cell?, h, hj]
theorem frozen_blk {w : World} {b : Nat} {xs : Array Value} {t : TypeId} (h : w.heap[b]? = some (.cells xs t)) (j : Nat) : w.frozen? ⟨b, j, none⟩ = false := by
  simp [World.frozen?, h]
/-- A datum laid into five cells. -/
def putDat (w : World) (g o : Nat) (d : Dat) : World :=
  ((((w.setCell ⟨g, o, none⟩ (.int .i64 d.k)).setCell ⟨g, o + 1, none⟩ (.int .i64 d.n)).setCell ⟨g, o + 2, none⟩ (.string d.s)).setCell ⟨g, o + 3, none⟩ (.int .i64 d.l)).setCell ⟨g, o + 4, none⟩ (.int .i64 d.r)
theorem putDat_blk {w : World} {g : Nat} {xs : Array Value} {t : TypeId} (o : Nat) (d : Dat) (h : w.heap[g]? = some (.cells xs t (0, 0))) : ∃ ys, (putDat w g o d).heap[g]? = some (.cells ys t (0, 0)) ∧ ys.size = xs.size :=
  ⟨_, heap_setCell_same _ _ _ _ _ _ (heap_setCell_same _ _ _ _ _ _ (heap_setCell_same _ _ _ _ _ _ (heap_setCell_same _ _ _ _ _ _ (heap_setCell_same _ _ _ _ _ _ h)))), by simp⟩
theorem putDat_below {B g : Nat} {w0 w : World} (h : Below B w0 w) (hg : B ≤ g) (o : Nat) (d : Dat) : Below B w0 (putDat w g o d) :=
  ((((h.setCell (p := ⟨g, _, none⟩) hg _).setCell (p := ⟨g, _, none⟩) hg _).setCell (p := ⟨g, _, none⟩) hg _).setCell (p := ⟨g, _, none⟩) hg _).setCell (p := ⟨g, _, none⟩) hg _
theorem sc_other (w : World) (c j k : Nat) (v : Value) (h : j ≠ k) : (w.setCell ⟨c, j, none⟩ v).cell? ⟨c, k, none⟩ = w.cell? ⟨c, k, none⟩ := by
  apply World.cell?_setCell_other
  intro e
  injection e with _ e2
  exact h e2
theorem putDat_out {w : World} {g o k : Nat} {d : Dat} (h : k < o ∨ o + 5 ≤ k) : (putDat w g o d).cell? ⟨g, k, none⟩ = w.cell? ⟨g, k, none⟩ := by
  unfold putDat
  rw [sc_other _ _ _ _ _ (by omega), sc_other _ _ _ _ _ (by omega), sc_other _ _ _ _ _ (by omega), sc_other _ _ _ _ _ (by omega), sc_other _ _ _ _ _ (by omega)]
theorem putDat_other {w : World} {g o k : Nat} {d d' : Dat} (h : k + 5 ≤ o ∨ o + 5 ≤ k) (hd : DatAt w g k d') : DatAt (putDat w g o d) g k d' := by
  obtain ⟨h0, h1, h2, h3, h4⟩ := hd
  exact ⟨(putDat_out (by omega)).trans h0, (putDat_out (by omega)).trans h1, (putDat_out (by omega)).trans h2, (putDat_out (by omega)).trans h3, (putDat_out (by omega)).trans h4⟩
theorem putDat_same {w : World} {g o : Nat} {d : Dat} {xs : Array Value} {t : TypeId} (h : w.heap[g]? = some (.cells xs t (0, 0))) (hs : o + 5 ≤ xs.size) : DatAt (putDat w g o d) g o d := by
  have key := heap_setCell_same _ g (o + 4) _ _ (.int .i64 d.r) (heap_setCell_same _ g (o + 3) _ _ (.int .i64 d.l) (heap_setCell_same _ g (o + 2) _ _ (.string d.s) (heap_setCell_same _ g (o + 1) _ _ (.int .i64 d.n) (heap_setCell_same _ g o _ _ (.int .i64 d.k) h))))
  have e : (putDat w g o d).heap[g]? = _ := key
  refine ⟨cell_blk e ?_, cell_blk e ?_, cell_blk e ?_, cell_blk e ?_, cell_blk e ?_⟩
  all_goals
    simp only [Array.getElem?_setIfInBounds, Array.size_setIfInBounds]
    simp
    try omega
/-- How much data hold. -/
def bulkD : List Dat → Nat
  | [] => 0
  | d :: cs => 1 + d.s.size + bulkD cs
theorem bulkD_append : ∀ (a b : List Dat), bulkD (a ++ b) = bulkD a + bulkD b
  | [], b => by simp [bulkD]
  | d :: a, b => by simp [bulkD, bulkD_append a b]; omega
theorem bulkD_take_succ {cs : List Dat} {i : Nat} {d : Dat} (h : cs[i]? = some d) : bulkD (cs.take (i + 1)) = bulkD (cs.take i) + (1 + d.s.size) := by
  rw [List.take_add_one, h]
  simp [bulkD_append, bulkD]
theorem bulkD_take_le (cs : List Dat) (i : Nat) : bulkD (cs.take i) ≤ bulkD cs := by
  conv => rhs; rw [← List.take_append_drop i cs, bulkD_append]
  omega
theorem bulkD_len : ∀ (cs : List Dat), cs.length ≤ bulkD cs
  | [] => by simp [bulkD]
  | d :: cs => by have := bulkD_len cs; simp [bulkD]; omega
theorem bulkD_take_le' (cs : List Dat) (i : Nat) : bulkD (cs.take i) + (cs.length - i) ≤ bulkD cs := by
  have := bulkD_len (cs.drop i)
  rw [List.length_drop] at this
  conv => rhs; rw [← List.take_append_drop i cs, bulkD_append]
  omega
/-- What is left of a number behind a bulk. -/
def leftOf (left b : Nat) : Int := if left < b then -1 else (left : Int) - b
end Go.Proofs.YtgfkmppkeolckaaDoor
