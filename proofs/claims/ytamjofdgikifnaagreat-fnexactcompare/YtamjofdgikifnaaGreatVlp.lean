/- Values and heaps as plain lists; which are right; heaps in memory. -/
import Derived.Test.YtamjofdgikifnaaGreatNax
namespace Go.Proofs.YtamjofdgikifnaaGreat
open Go.ChangeShapes Go.WideShapes Go.ChangeAt Go.RowKit
/-- A value: its three cells. -/
structure Val where
  k : Int
  n : Int
  s : ByteArray
/-- A cell: its six cells of memory. -/
structure Cel where
  k : Int
  s : ByteArray
  a : Int
  b : Int
  names : List ByteArray
  vals : List Val
/-- Is there a cell n, of that kind? -/
def cellB (h : List Cel) (n k : Int) : Bool := decide (0 ≤ n) && ((h[n.toNat]?).map (·.k) == some k)
/-- A right value. -/
def Val.ok (h : List Cel) (v : Val) : Bool :=
  if v.k = 4 then decide (v.n = 0) && syL v.s.data.toList
  else decide (v.s.size = 0) && (
    if v.k = 1 then decide (-1000000 ≤ v.n) && decide (v.n ≤ 1000000)
    else if v.k = 2 then decide (v.n = 0) || decide (v.n = 1)
    else if v.k = 3 then decide (v.n = 0)
    else if v.k = 5 then cellB h v.n 1
    else if v.k = 6 then cellB h v.n 2
    else if v.k = 7 then cellB h v.n 3 else false)
/-- Does it name a cell? -/
def Val.points (v : Val) : Bool := decide (5 ≤ v.k) && decide (v.k ≤ 7)
theorem cellB_take (h : List Cel) (i : Nat) (n k : Int) : cellB (h.take i) n k = (cellB h n k && decide (n < i)) := by
  unfold cellB
  by_cases h0 : 0 ≤ n
  · by_cases h1 : n < i
    · rw [List.getElem?_take_of_lt (by omega)]
      simp [h0, h1]
    · have : (h.take i)[n.toNat]? = none := List.getElem?_eq_none (by rw [List.length_take]; omega)
      rw [this]
      simp [h1]
  · simp [h0]
theorem Val.ok_take (h : List Cel) (i : Nat) (v : Val) : v.ok (h.take i) = (v.ok h && !(v.points && decide ((i : Int) ≤ v.n))) := by
  unfold Val.ok Val.points
  by_cases h4 : v.k = 4
  · simp [h4]
  by_cases h1 : v.k = 1
  · simp [h1]
  by_cases h2 : v.k = 2
  · simp [h2]
  by_cases h3 : v.k = 3
  · simp [h3]
  have key : ∀ k : Int, cellB (h.take i) v.n k = (cellB h v.n k && !decide ((i : Int) ≤ v.n)) := by
    intro k
    rw [cellB_take]
    congr 1
    by_cases hq : v.n < i
    · simp [hq]
    · have : (i : Int) ≤ v.n := by omega
      simp [hq, this]
  by_cases h5 : v.k = 5
  · simp [h5, key, Bool.and_assoc]
  by_cases h6 : v.k = 6
  · simp [h6, key, Bool.and_assoc]
  by_cases h7 : v.k = 7
  · simp [h7, key, Bool.and_assoc]
  simp [h1, h2, h3, h4, h5, h6, h7]
/-- What a cell of its kind has. -/
def Cel.shape (c : Cel) : Bool :=
  if c.k = 1 then decide (c.s.size = 0) && decide (c.a = 0) && decide (c.b = 0) && decide (c.names.length = 0) && decide (c.vals.length = 2)
  else if c.k = 2 then decide (c.s.size = 0) && decide (0 ≤ c.a) && decide (0 ≤ c.b) && c.names.all (fun x => naL x.data.toList) && decide (c.vals.length = c.names.length)
  else if c.k = 3 then decide (c.s.size ≠ 0) && decide (0 ≤ c.a) && decide (c.a ≤ 1000) && decide (c.b = 0) && decide (c.names.length = 0) && decide (c.vals.length ≤ 8)
  else false
/-- Are its values right, those of a pair and of a function below it? -/
def Cel.fits (h : List Cel) (i : Nat) (c : Cel) : Bool := if c.k = 3 then c.vals.all (·.ok h) else c.vals.all (·.ok (h.take i))
def Cel.ok (h : List Cel) (i : Nat) (c : Cel) : Bool := c.shape && c.fits h i
/-- A right heap. -/
def HeapP (h : List Cel) : Prop := h.length ≤ 300 ∧ ∀ (i : Nat) (c : Cel), h[i]? = some c → c.ok h i = true
def Val.wf (v : Val) : Prop := i64B v.k ∧ i64B v.n ∧ v.s.size ≤ 9223372036854775807
def Val.small (v : Val) : Prop := i64B v.k ∧ i64B v.n ∧ v.s.size ≤ 1048576
def Cel.wf (c : Cel) : Prop := i64B c.k ∧ i64B c.a ∧ i64B c.b ∧ c.s.size ≤ 9223372036854775807 ∧ c.names.length ≤ 9223372036854775807 ∧ c.vals.length ≤ 9223372036854775807 ∧ (∀ x ∈ c.names, x.size ≤ 9223372036854775807) ∧ ∀ v ∈ c.vals, v.wf
def Cel.small (c : Cel) : Prop := i64B c.k ∧ i64B c.a ∧ i64B c.b ∧ c.s.size ≤ 1048576 ∧ c.names.length ≤ 1048576 ∧ c.vals.length ≤ 1048576 ∧ (∀ x ∈ c.names, x.size ≤ 1048576) ∧ ∀ v ∈ c.vals, v.small
theorem cell_keep {B b o : Nat} {w w' : World} {v : Value} (h : w.cell? ⟨b, o, none⟩ = some v) (hb : Below B w w') (hlt : b < B) : w'.cell? ⟨b, o, none⟩ = some v :=
  (World.cell?_of_block (w := w) (a := ⟨b, o, none⟩) (hb.block b hlt)).trans h
theorem made_row {w : World} {B g len t : Nat} {v : Value} (h : w.ownsRow B t 1 (.slice (some ⟨g, 0, none⟩) len len) len (madeCells #[v] len).toList) : ∃ cur : Array Value, w.heap[g]? = some (.cells cur t (0, 0)) ∧ cur.size = len ∧ ∀ j : Nat, j < len → cur[j]? = some v := by
  obtain ⟨hlen, ⟨h0, _⟩ | ⟨g', cp, cur, hv, _, hblk, _, _, hcs, htk⟩⟩ := h
  · cases h0
  simp only [Value.slice.injEq, Option.some.injEq, Addr.mk.injEq] at hv
  obtain ⟨⟨rfl, _⟩, _, rfl⟩ := hv
  have hcs : cur.size = len := by omega
  refine ⟨cur, hblk, hcs, fun j hj => ?_⟩
  have e : cur.toList = (madeCells #[v] len).toList := by
    rw [← htk, List.take_of_length_le]
    simp [hcs]
  rw [toList_madeCells_one] at e
  rw [← Array.getElem?_toList, e, List.getElem?_replicate, if_pos hj]
/-- A row of texts in blocks of which p holds. -/
def RowSP (w : World) (p : Nat → Prop) (a : Option Addr) (ts : List ByteArray) : Prop :=
  ∀ i x, ts[i]? = some x → ∃ b o, a = some ⟨b, o, none⟩ ∧ p b ∧ w.cell? ⟨b, o + i, none⟩ = some (.string x)
theorem RowSP.keep {w w' : World} {p q : Nat → Prop} {a : Option Addr} {ts : List ByteArray} (h : RowSP w p a ts) (hk : ∀ b, p b → q b ∧ w'.heap[b]? = w.heap[b]?) : RowSP w' q a ts := by
  intro i d hi
  obtain ⟨b, o, ha, hb, hd⟩ := h i d hi
  exact ⟨b, o, ha, (hk b hb).1, (World.cell?_of_block (w := w) (a := ⟨b, _, none⟩) (hk b hb).2).trans hd⟩
/-- A value in three cells. -/
def ValAt (w : World) (b o : Nat) (v : Val) : Prop :=
  w.cell? ⟨b, o, none⟩ = some (.int .i64 v.k) ∧ w.cell? ⟨b, o + 1, none⟩ = some (.int .i64 v.n) ∧ w.cell? ⟨b, o + 2, none⟩ = some (.string v.s)
/-- A row of values in blocks of which p holds. -/
def RowVP (w : World) (p : Nat → Prop) (a : Option Addr) (vs : List Val) : Prop :=
  ∀ i v, vs[i]? = some v → ∃ b o, a = some ⟨b, o, none⟩ ∧ p b ∧ ValAt w b (o + i * 3) v
def RowV (w : World) (B : Nat) (a : Option Addr) (vs : List Val) : Prop := RowVP w (fun b => b < B) a vs
theorem ValAt.keep {w w' : World} {b o : Nat} {v : Val} (h : ValAt w b o v) (hb : w'.heap[b]? = w.heap[b]?) : ValAt w' b o v := by
  have f : ∀ {o v}, w.cell? ⟨b, o, none⟩ = some v → w'.cell? ⟨b, o, none⟩ = some v := fun {o v} h => (World.cell?_of_block (w := w) (a := ⟨b, o, none⟩) hb).trans h
  exact ⟨f h.1, f h.2.1, f h.2.2⟩
theorem RowVP.keep {w w' : World} {p q : Nat → Prop} {a : Option Addr} {vs : List Val} (h : RowVP w p a vs) (hk : ∀ b, p b → q b ∧ w'.heap[b]? = w.heap[b]?) : RowVP w' q a vs := by
  intro i v hi
  obtain ⟨b, o, ha, hb, hd⟩ := h i v hi
  exact ⟨b, o, ha, (hk b hb).1, hd.keep (hk b hb).2⟩
theorem RowV.below {w w' : World} {B : Nat} {a : Option Addr} {vs : List Val} (h : RowV w B a vs) (hb : Below B w w') : RowV w' B a vs := RowVP.keep h fun b hb' => ⟨hb', hb.block b hb'⟩
theorem RowV.mono {w : World} {B B' : Nat} {a : Option Addr} {vs : List Val} (h : RowV w B a vs) (hb : B ≤ B') : RowV w B' a vs := RowVP.keep h fun _ hb' => ⟨Nat.lt_of_lt_of_le hb' hb, rfl⟩
/-- What the two slices of a cell lead to. -/
def CelRows (w : World) (p : Nat → Prop) (an : Option Addr) (cn : Nat) (av : Option Addr) (cv : Nat) (c : Cel) : Prop :=
  RowSP w p an c.names ∧ RowVP w p av c.vals ∧ c.names.length ≤ cn ∧ c.vals.length ≤ cv
/-- A cell in six cells. -/
def CelAt (w : World) (p : Nat → Prop) (b o : Nat) (c : Cel) : Prop := ∃ an cn av cv,
  w.cell? ⟨b, o, none⟩ = some (.int .i64 c.k) ∧ w.cell? ⟨b, o + 1, none⟩ = some (.string c.s) ∧ w.cell? ⟨b, o + 2, none⟩ = some (.int .i64 c.a) ∧ w.cell? ⟨b, o + 3, none⟩ = some (.int .i64 c.b) ∧
  w.cell? ⟨b, o + 4, none⟩ = some (.slice an c.names.length cn) ∧ w.cell? ⟨b, o + 5, none⟩ = some (.slice av c.vals.length cv) ∧ CelRows w p an cn av cv c
/-- A row of cells, below a block. -/
def RowC (w : World) (B : Nat) (a : Option Addr) (h : List Cel) : Prop :=
  ∀ i c, h[i]? = some c → ∃ b o, a = some ⟨b, o, none⟩ ∧ b < B ∧ CelAt w (fun b => b < B) b (o + i * 6) c
theorem CelRows.keep {w w' : World} {p q : Nat → Prop} {an av : Option Addr} {cn cv : Nat} {c : Cel} (h : CelRows w p an cn av cv c) (hk : ∀ b, p b → q b ∧ w'.heap[b]? = w.heap[b]?) : CelRows w' q an cn av cv c :=
  ⟨h.1.keep hk, h.2.1.keep hk, h.2.2⟩
theorem CelAt.keep {w w' : World} {p q : Nat → Prop} {b o : Nat} {c : Cel} (h : CelAt w p b o c) (hb : w'.heap[b]? = w.heap[b]?) (hk : ∀ b, p b → q b ∧ w'.heap[b]? = w.heap[b]?) : CelAt w' q b o c := by
  obtain ⟨an, cn, av, cv, h0, h1, h2, h3, h4, h5, hr⟩ := h
  have f : ∀ {o v}, w.cell? ⟨b, o, none⟩ = some v → w'.cell? ⟨b, o, none⟩ = some v := fun {o v} h => (World.cell?_of_block (w := w) (a := ⟨b, o, none⟩) hb).trans h
  exact ⟨an, cn, av, cv, f h0, f h1, f h2, f h3, f h4, f h5, hr.keep hk⟩
theorem RowC.below {w w' : World} {B : Nat} {a : Option Addr} {h : List Cel} (hr : RowC w B a h) (hb : Below B w w') : RowC w' B a h := by
  intro i d hi
  obtain ⟨b, o, ha, hlt, hd⟩ := hr i d hi
  exact ⟨b, o, ha, hlt, hd.keep (hb.block b hlt) fun b' h' => ⟨h', hb.block b' h'⟩⟩
theorem RowC.mono {w : World} {B B' : Nat} {a : Option Addr} {h : List Cel} (hr : RowC w B a h) (hB : B ≤ B') : RowC w B' a h := by
  intro i d hi
  obtain ⟨b, o, ha, hlt, hd⟩ := hr i d hi
  exact ⟨b, o, ha, by omega, hd.keep rfl fun b' h' => ⟨Nat.lt_of_lt_of_le h' hB, rfl⟩⟩
theorem RowC.take {w : World} {B : Nat} {a : Option Addr} {h : List Cel} (hr : RowC w B a h) (n : Nat) : RowC w B a (h.take n) := by
  intro i d hi
  rw [List.getElem?_take] at hi
  split at hi
  · exact hr i d hi
  · cases hi
end Go.Proofs.YtamjofdgikifnaaGreat
