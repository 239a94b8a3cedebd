/- Rows of texts and of ints in memory. -/
import Derived.Test.YtamjofdgikifnaaGreatOwn
import Derived.OpenShut
import Derived.Deep.QuietTactic
import Derived.Deep.RegionWith
import Derived.BigQuiet
import Derived.Laws.Rows
namespace Go.Proofs.YtamjofdgikifnaaGreat
open Go.ChangeShapes Go.WideShapes Go.ChangeAt Go.RowKit
def i64B (x : Int) : Prop := -9223372036854775808 ≤ x ∧ x ≤ 9223372036854775807
/-- A row of ints, below a block. -/
def RowI (w : World) (B : Nat) (a : Option Addr) (ts : List Int) : Prop :=
  ∀ i x, ts[i]? = some x → ∃ b o, a = some ⟨b, o, none⟩ ∧ b < B ∧ w.cell? ⟨b, o + i, none⟩ = some (.int .i64 x)
/-- A row of texts, below a block. -/
def RowS (w : World) (B : Nat) (a : Option Addr) (ts : List ByteArray) : Prop :=
  ∀ i x, ts[i]? = some x → ∃ b o, a = some ⟨b, o, none⟩ ∧ b < B ∧ w.cell? ⟨b, o + i, none⟩ = some (.string x)
theorem RowI.keep {w w' : World} {B : Nat} {a : Option Addr} {ts : List Int} (h : RowI w B a ts) (hk : ∀ b, b < B → w'.heap[b]? = w.heap[b]?) : RowI w' B a ts := by
  intro i d hi
  obtain ⟨b, o, ha, hb, hd⟩ := h i d hi
  exact ⟨b, o, ha, hb, (World.cell?_of_block (w := w) (a := ⟨b, _, none⟩) (hk b hb)).trans hd⟩
theorem RowS.keep {w w' : World} {B : Nat} {a : Option Addr} {ts : List ByteArray} (h : RowS w B a ts) (hk : ∀ b, b < B → w'.heap[b]? = w.heap[b]?) : RowS w' B a ts := by
  intro i d hi
  obtain ⟨b, o, ha, hb, hd⟩ := h i d hi
  exact ⟨b, o, ha, hb, (World.cell?_of_block (w := w) (a := ⟨b, _, none⟩) (hk b hb)).trans hd⟩
theorem RowI.below {w w' : World} {B : Nat} {a : Option Addr} {ts : List Int} (h : RowI w B a ts) (hb : Below B w w') : RowI w' B a ts := h.keep hb.block
theorem RowS.below {w w' : World} {B : Nat} {a : Option Addr} {ts : List ByteArray} (h : RowS w B a ts) (hb : Below B w w') : RowS w' B a ts := h.keep hb.block
theorem RowI.mono {w : World} {B B' : Nat} {a : Option Addr} {cs : List Int} (h : RowI w B a cs) (hb : B ≤ B') : RowI w B' a cs := by
  intro i d hi
  obtain ⟨b, o, ha, hb, hd⟩ := h i d hi
  exact ⟨b, o, ha, by omega, hd⟩
theorem RowS.mono {w : World} {B B' : Nat} {a : Option Addr} {cs : List ByteArray} (h : RowS w B a cs) (hb : B ≤ B') : RowS w B' a cs := by
  intro i d hi
  obtain ⟨b, o, ha, hb, hd⟩ := h i d hi
  exact ⟨b, o, ha, by omega, hd⟩
theorem RowS.take {w : World} {B : Nat} {a : Option Addr} {cs : List ByteArray} (h : RowS w B a cs) (n : Nat) : RowS w B a (cs.take n) := by
  intro i d hi
  rw [List.getElem?_take] at hi
  split at hi
  · exact h i d hi
  · cases hi
/-- What a call that only makes answers. -/
def Ans (w : World) (v : Value) (e : Ending) (w' : World) : Prop := e = .returned v ∧ Below w.heap.size w w'
theorem blk_alloc (w : World) (o : Obj) : (w.alloc o).heap[w.heap.size]? = some o := by show (w.heap.push o)[w.heap.size]? = some o; simp
theorem blk_at (w : World) (o : Obj) (n : Nat) (h : n = w.heap.size) : (w.alloc o).heap[n]? = some o := by subst h; exact blk_alloc w o
theorem blk_past {w : World} {o o' : Obj} {b : Nat} (h : w.heap[b]? = some o') : (w.alloc o).heap[b]? = some o' := by
  have hl := (Array.getElem?_eq_some_iff.1 h).1
  show (w.heap.push o)[b]? = some o'
  rw [Array.getElem?_push_lt hl, ← h, Array.getElem?_eq_getElem hl]
theorem blk_keep {B b : Nat} {w w' : World} {o : Obj} (h : w.heap[b]? = some o) (hb : Below B w w') (hlt : b < B) : w'.heap[b]? = some o := (hb.block b hlt).trans h
theorem cell_blk {w : World} {b j : Nat} {xs : Array Value} {t : TypeId} {v : Value} (h : w.heap[b]? = some (.cells xs t)) (hj : xs[j]? = some v) : w.cell? ⟨b, j, none⟩ = some v := by
  simp [World.cell?, h, hj]
theorem cell_blk' {w : World} {b : Nat} {xs : Array Value} {t : TypeId} (h : w.heap[b]? = some (.cells xs t)) (j : Nat) (hj : j < xs.size) : ∃ v, w.cell? ⟨b, j, none⟩ = some v := by
  simp [World.cell?, h, hj]
theorem frozen_blk {w : World} {b : Nat} {xs : Array Value} {t : TypeId} (h : w.heap[b]? = some (.cells xs t)) (j : Nat) : w.frozen? ⟨b, j, none⟩ = false := by
  simp [World.frozen?, h]
/-- Stands a text in a row of texts? -/
def hasS (ts : List ByteArray) (s : ByteArray) : Bool := ts.any fun t => t.toList == s.toList
theorem hasS_take {ts : List ByteArray} {s t : ByteArray} {k : Nat} (h : ts[k]? = some t) : hasS (ts.take (k + 1)) s = (hasS (ts.take k) s || t.toList == s.toList) := by
  unfold hasS
  rw [List.take_add_one, h]
  simp
theorem hasS_of {ts : List ByteArray} {s t : ByteArray} {k : Nat} (h : ts[k]? = some t) (he : (t.toList == s.toList) = true) : hasS ts s = true :=
  List.any_eq_true.2 ⟨t, List.mem_of_getElem? h, he⟩
/-- Looking for a text in a row. -/
theorem l3In_any (a : Option Addr) (ts : List ByteArray) (cap : Nat) (s : ByteArray) (w : World) (hn : ts.length ≤ 1048576) (hr : RowS w w.heap.size a ts) :
    Calls Tryz.prog 27 #[.slice a ts.length cap, .string s] w fun e w' => Ans w (.bool (hasS ts s)) e w' := by
  have HR : Hid (RowS w w.heap.size a ts) := hr
  clear hr
  go_enter Tryz.func27, Tryz.ntmps27
  go_wp2
  go_loopw [5] (fun o wr => ∃ (i : Nat), i ≤ ts.length ∧ o = .int .i64 i ∧ hasS (ts.take i) s = false ∧ Below w.heap.size w wr)
    (fun o _ => ts.length - (intOf o).toNat)
  case atStart => exact ⟨0, by omega, rfl, by simp [hasS], Below.refl _ _⟩
  case round =>
    obtain ⟨i, hi, rfl, hno, hb⟩ := hrel
    by_cases hlt : i < ts.length
    · obtain ⟨d, hd⟩ : ∃ d, ts[i]? = some d := ⟨_, List.getElem?_eq_getElem hlt⟩
      obtain ⟨b1, o1, rfl, hbb, c0⟩ := (HR.out.below hb) i d hd
      by_cases he : (d.toList == s.toList) = true
      · have HQ : Hid (hasS ts s = true) := hasS_of hd he
        clear hno
        go_wp2
        all_goals (try go_quiet (fail))
        all_goals (try go_wp2)
        all_goals
          go_ret
          exact ⟨by rw [HQ.out]; rfl, by first | exact hb | exact below_drewN hb _⟩
      · have he : (d.toList == s.toList) = false := by simpa using he
        have HQ : Hid (hasS (ts.take (i + 1)) s = false) := by show _ = _; rw [hasS_take hd, hno, he]; rfl
        clear hno
        go_wp2
        all_goals (try go_quiet (fail))
        all_goals (try go_wp2)
        all_goals
          go_roundw
          case rel => exact ⟨i + 1, by omega, by go_num, HQ.out, by first | exact hb | exact below_drewN hb _⟩
          case measure => simp [intOf]; omega
    · have hlt' : decide ((i : Int) < (ts.length : Int)) = false := by simp; omega
      obtain rfl : i = ts.length := by omega
      rw [List.take_length] at hno
      have HQ : Hid (hasS ts s = false) := hno
      clear hno
      go_wp2
      go_ret
      exact ⟨by rw [HQ.out]; rfl, hb⟩
end Go.Proofs.YtamjofdgikifnaaGreat
