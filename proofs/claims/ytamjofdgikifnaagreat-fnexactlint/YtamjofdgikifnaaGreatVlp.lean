/- The names that a program sets, as a plain function; rows of texts that a call made; the library's Clone, Index and Contains. Values and heaps as plain lists; which are right; heaps in memory. -/
import Derived.Shelf.LaysM
import Derived.Shelf.Strconv.Clone
import Derived.Test.YtamjofdgikifnaaGreatPsx
import Derived.Test.YtamjofdgikifnaaGreatNix
import Derived.Deep.AppendLies
import Derived.Deep.RegionLaw
import Derived.Test.YtamjofdgikifnaaGreatNax
set_option linter.unusedVariables false
namespace Go.Proofs
def Tryz.laysM316_ren : Go.Shelf.Ren := ⟨fun | 316 => 94 | n => n, fun | 9 => 9 | 3 => 3 | 4 => 4 | 37 => 113 | 0 => 0 | 127 => 142 | 5 => 5 | n => n, fun | n => n⟩
theorem Tryz.laysM316 : Go.Proofs.LaysM.n316 Tryz.prog Tryz.laysM316_ren := {
 mixed := by kernel_rfl
 f316 := Tryz.func94.trans (congrArg some (by kernel_rfl))
 t0 := Tryz.underlying0
 a0 := Tryz.isAgg0
 z0 := Tryz.sizeOf0
 v0 := Tryz.zeroValue0
 t3 := Tryz.underlying3
 a3 := Tryz.isAgg3
 z3 := Tryz.sizeOf3
 v3 := Tryz.zeroValue3
 t4 := Tryz.underlying4
 a4 := Tryz.isAgg4
 z4 := Tryz.sizeOf4
 v4 := Tryz.zeroValue4
 t9 := Tryz.underlying9
 a9 := Tryz.isAgg9
 z9 := Tryz.sizeOf9
 v9 := Tryz.zeroValue9
 t37 := Tryz.underlying113
 a37 := Tryz.isAgg113
 z37 := Tryz.sizeOf113
 v37 := Tryz.zeroValue113
 t127 := Tryz.underlying142
 a127 := Tryz.isAgg142
 z127 := Tryz.sizeOf142
 v127 := Tryz.zeroValue142
 t5 := Tryz.underlying5
 a5 := Tryz.isAgg5
 z5 := Tryz.sizeOf5
 v5 := Tryz.zeroValue5
 i0 := by kernel_rfl
 i3 := by kernel_rfl
 i4 := by kernel_rfl
 i5 := by kernel_rfl
 i9 := by kernel_rfl
 i37 := by kernel_rfl
 i127 := by kernel_rfl }
open Go.RowKit in
theorem Tryz.stringslite_Clone (s : ByteArray) (w : World) (hlim : s.size ≤ 281474976710656) :
  Calls Tryz.prog 94 #[.string s] w fun e w' => e = .returned (.string s) ∧ Below w.heap.size w w' := Any.stringslite_Clone Tryz.laysM316 s w hlim
end Go.Proofs
namespace Go.Proofs.YtamjofdgikifnaaGreat.Fr
open Go.ChangeShapes Go.WideShapes Go.ChangeAt Go.RowKit
theorem clone_any (s : ByteArray) (w : World) (hs : s.size ≤ 1048576) : Calls Tryz.prog 68 #[.string s] w fun e w' => Ans w (.string s) e w' := by
 have HC : Hid (Calls Tryz.prog 94 #[.string s] w fun e w' => e = .returned (.string s) ∧ Below w.heap.size w w') := Tryz.stringslite_Clone s w (by omega)
 go_enter Tryz.func68, Tryz.ntmps68
 go_wp2_with (go_at_call 94; refine HC.out.mono ?_; rintro e w2 ⟨rfl, hb⟩)
 go_ret
 exact ⟨rfl, hb⟩
def setsL (ns : List Nod) : List ByteArray := ns.foldl (fun l d => if d.k = 10 ∧ hasS l d.s = false then l ++ [d.s] else l) []
theorem setsL_snoc (ns : List Nod) (d : Nod) : setsL (ns ++ [d]) = if d.k = 10 ∧ hasS (setsL ns) d.s = false then setsL ns ++ [d.s] else setsL ns := by
 unfold setsL
 rw [List.foldl_append]
 rfl
theorem setsL_take {ns : List Nod} {i : Nat} {d : Nod} (h : ns[i]? = some d) : setsL (ns.take (i + 1)) = if d.k = 10 ∧ hasS (setsL (ns.take i)) d.s = false then setsL (ns.take i) ++ [d.s] else setsL (ns.take i) := by
 rw [List.take_add_one, h]
 exact setsL_snoc _ _
theorem setsL_len : ∀ (n : Nat) (ns : List Nod), ns.length = n → (setsL ns).length ≤ n
 | 0, ns, h => by
  obtain rfl := List.length_eq_zero_iff.1 h
  simp [setsL]
 | n + 1, ns, h => by
  obtain ⟨bs, d, rfl⟩ : ∃ bs d, ns = bs ++ [d] := by
   have : ns ≠ [] := by intro e; rw [e] at h; simp at h
   exact ⟨ns.dropLast, ns.getLast this, (List.dropLast_concat_getLast this).symm⟩
  have hl : bs.length = n := by simp at h; exact h
  have h1 := setsL_len n bs hl
  rw [setsL_snoc]
  split
  ·simp; omega
  ·omega
theorem take_get {cur : Array Value} {xs : List Value} {m i : Nat} {v : Value} (h : List.take m cur.toList = xs) (hx : xs[i]? = some v) : cur[i]? = some v := by
 rw [← h] at hx
 by_cases hi : i < m
 ·rw [List.getElem?_take_of_lt hi] at hx
  simpa using hx
 ·rw [List.getElem?_take_eq_none (by omega)] at hx
  cases hx
def OwnS (w : World) (B : Nat) (v : Value) (l : List ByteArray) : Prop := w.ownsRow B 9 1 v l.length (l.map Value.string)
theorem OwnS.row {w : World} {B cap : Nat} {a : Option Addr} {l : List ByteArray} {n : Nat} (h : OwnS w B (.slice a n cap) l) : n = l.length ∧ RowS w w.heap.size a l := by
 obtain ⟨hl, ⟨hv, h0⟩ | ⟨g, cap', cur, hv, a1, hblk, a3, a4, a5, a6⟩⟩ := h
 ·injection hv with h1 h2 h3
  refine ⟨by omega, fun i x hx => ?_⟩
  rw [List.eq_nil_of_length_eq_zero h0] at hx
  simp at hx
 ·injection hv with h1 h2 h3
  refine ⟨h2, fun i x hx => ⟨g, 0, h1, (Array.getElem?_eq_some_iff.1 hblk).1, ?_⟩⟩
  rw [Nat.zero_add]
  exact cell_blk hblk (take_get a6 (by rw [List.getElem?_map, hx]; rfl))
theorem OwnS.slice {w : World} {B : Nat} {v : Value} {l : List ByteArray} (h : OwnS w B v l) : ∃ (a : Option Addr) (cap : Nat), v = .slice a l.length cap := by
 obtain ⟨hl, ⟨hv, h0⟩ | ⟨g, cap', cur, hv, _⟩⟩ := h
 ·exact ⟨none, 0, by rw [hv, h0]⟩
 ·exact ⟨_, _, hv⟩
theorem OwnS.below {w w' : World} {B : Nat} {v : Value} {l : List ByteArray} (h : OwnS w B v l) (hb : Below w.heap.size w w') : OwnS w' B v l := by
 obtain ⟨hl, ⟨hv, h0⟩ | ⟨g, cap', cur, hv, a1, hblk, a3⟩⟩ := h
 ·exact ⟨hl, .inl ⟨hv, h0⟩⟩
 ·exact ⟨hl, .inr ⟨g, cap', cur, hv, a1, (hb.block g (Array.getElem?_eq_some_iff.1 hblk).1).trans hblk, a3⟩⟩
def TellP (l : List ByteArray) (w : World) (e : Ending) (w' : World) : Prop := ∃ v, e = .returned v ∧ OwnS w' w.heap.size v l ∧ Below w.heap.size w w'
end Go.Proofs.YtamjofdgikifnaaGreat.Fr
namespace Go.Proofs.YtamjofdgikifnaaGreat
open Go.ChangeShapes Go.WideShapes Go.ChangeAt Go.RowKit
structure Val where
 k : Int
 n : Int
 s : ByteArray
structure Cel where
 k : Int
 s : ByteArray
 a : Int
 b : Int
 names : List ByteArray
 vals : List Val
def cellB (h : List Cel) (n k : Int) : Bool := decide (0 ≤ n) && ((h[n.toNat]?).map (·.k) == some k)
def Val.ok (h : List Cel) (v : Val) : Bool :=
 if v.k = 4 then decide (v.n = 0) && syL v.s.data.toList
 else decide (v.s.size = 0) && (
  if v.k = 1 then decide (-1000000 ≤ v.n) && decide (v.n ≤ 1000000)
  else if v.k = 2 then decide (v.n = 0) || decide (v.n = 1)
  else if v.k = 3 then decide (v.n = 0)
  else if v.k = 5 then cellB h v.n 1
  else if v.k = 6 then cellB h v.n 2
  else if v.k = 7 then cellB h v.n 3 else false)
def Cel.shape (c : Cel) : Bool :=
 if c.k = 1 then decide (c.s.size = 0) && decide (c.a = 0) && decide (c.b = 0) && decide (c.names.length = 0) && decide (c.vals.length = 2)
 else if c.k = 2 then decide (c.s.size = 0) && decide (0 ≤ c.a) && decide (0 ≤ c.b) && c.names.all (fun x => naL x.data.toList) && decide (c.vals.length = c.names.length)
 else if c.k = 3 then decide (c.s.size ≠ 0) && decide (0 ≤ c.a) && decide (c.a ≤ 1000) && decide (c.b = 0) && decide (c.names.length = 0) && decide (c.vals.length ≤ 8)
 else false
def Cel.fits (h : List Cel) (i : Nat) (c : Cel) : Bool := if c.k = 3 then c.vals.all (·.ok h) else c.vals.all (·.ok (h.take i))
def Cel.ok (h : List Cel) (i : Nat) (c : Cel) : Bool := c.shape && c.fits h i
def Val.wf (v : Val) : Prop := i64B v.k ∧ i64B v.n ∧ v.s.size ≤ 9223372036854775807
def Val.small (v : Val) : Prop := i64B v.k ∧ i64B v.n ∧ v.s.size ≤ 1048576
def Cel.wf (c : Cel) : Prop := i64B c.k ∧ i64B c.a ∧ i64B c.b ∧ c.s.size ≤ 9223372036854775807 ∧ c.names.length ≤ 9223372036854775807 ∧ c.vals.length ≤ 9223372036854775807 ∧ (∀ x ∈ c.names, x.size ≤ 9223372036854775807) ∧ ∀ v ∈ c.vals, v.wf
def Cel.small (c : Cel) : Prop := i64B c.k ∧ i64B c.a ∧ i64B c.b ∧ c.s.size ≤ 1048576 ∧ c.names.length ≤ 1048576 ∧ c.vals.length ≤ 1048576 ∧ (∀ x ∈ c.names, x.size ≤ 1048576) ∧ ∀ v ∈ c.vals, v.small
theorem cell_keep {B b o : Nat} {w w' : World} {v : Value} (h : w.cell? ⟨b, o, none⟩ = some v) (hb : Below B w w') (hlt : b < B) : w'.cell? ⟨b, o, none⟩ = some v :=
 (World.cell?_of_block (w := w) (a := ⟨b, o, none⟩) (hb.block b hlt)).trans h
theorem made_row {w : World} {B g len t : Nat} {v : Value} (h : w.ownsRow B t 1 (.slice (some ⟨g, 0, none⟩) len len) len (madeCells #[v] len).toList) : ∃ cur : Array Value, w.heap[g]? = some (.cells cur t (0, 0)) ∧ cur.size = len ∧ ∀ j : Nat, j < len → cur[j]? = some v := by
 obtain ⟨hlen, ⟨h0, _⟩ | ⟨g', cp, cur, hv, _, hblk, _, _, hcs, htk⟩⟩ := h
 ·cases h0
 simp only [Value.slice.injEq, Option.some.injEq, Addr.mk.injEq] at hv
 obtain ⟨⟨rfl, _⟩, _, rfl⟩ := hv
 have hcs : cur.size = len := by omega
 refine ⟨cur, hblk, hcs, fun j hj => ?_⟩
 have e : cur.toList = (madeCells #[v] len).toList := by
  rw [← htk, List.take_of_length_le]
  simp [hcs]
 rw [toList_madeCells_one] at e
 rw [← Array.getElem?_toList, e, List.getElem?_replicate, if_pos hj]
def RowSP (w : World) (p : Nat → Prop) (a : Option Addr) (ts : List ByteArray) : Prop :=
 ∀ i x, ts[i]? = some x → ∃ b o, a = some ⟨b, o, none⟩ ∧ p b ∧ w.cell? ⟨b, o + i, none⟩ = some (.string x)
theorem RowSP.keep {w w' : World} {p q : Nat → Prop} {a : Option Addr} {ts : List ByteArray} (h : RowSP w p a ts) (hk : ∀ b, p b → q b ∧ w'.heap[b]? = w.heap[b]?) : RowSP w' q a ts := by
 intro i d hi
 obtain ⟨b, o, ha, hb, hd⟩ := h i d hi
 exact ⟨b, o, ha, (hk b hb).1, (World.cell?_of_block (w := w) (a := ⟨b, _, none⟩) (hk b hb).2).trans hd⟩
def ValAt (w : World) (b o : Nat) (v : Val) : Prop :=
 w.cell? ⟨b, o, none⟩ = some (.int .i64 v.k) ∧ w.cell? ⟨b, o + 1, none⟩ = some (.int .i64 v.n) ∧ w.cell? ⟨b, o + 2, none⟩ = some (.string v.s)
def RowVP (w : World) (p : Nat → Prop) (a : Option Addr) (vs : List Val) : Prop :=
 ∀ i v, vs[i]? = some v → ∃ b o, a = some ⟨b, o, none⟩ ∧ p b ∧ ValAt w b (o + i * 3) v
def RowV (w : World) (B : Nat) (a : Option Addr) (vs : List Val) : Prop := RowVP w (fun b => b < B) a vs
theorem ValAt.keep {w w' : World} {b o : Nat} {v : Val} (h : ValAt w b o v) (hb : w'.heap[b]? = w.heap[b]?) : ValAt w' b o v := by
 have f : ∀ {o v}, w.cell? ⟨b, o, none⟩ = some v → w'.cell? ⟨b, o, none⟩ = some v := fun {o v} h => (World.cell?_of_block (w := w) (a := ⟨b, o, none⟩) hb).trans h
 exact ⟨f h.1, f h.2.1, f h.2.2⟩
theorem RowVP.keep {w w' : World} {p q : Nat → Prop} {a : Option Addr} {vs : List Val} (h : RowVP w p a vs) (hk : ∀ b, p b → q b ∧ w'.heap[b]? = w.heap[b]?) : RowVP w' q a vs := by
 intro i v hi
 obtain ⟨b, o, ha, hb, hd⟩ := h i v hi
 exact ⟨b, o, ha, (hk b hb).1, hd.keep (hk b hb).2⟩
theorem RowV.below {w w' : World} {B : Nat} {a : Option Addr} {vs : List Val} (h : RowV w B a vs) (hb : Below B w w') : RowV w' B a vs := RowVP.keep h fun b hb' => ⟨hb', hb.block b hb'⟩
theorem RowV.mono {w : World} {B B' : Nat} {a : Option Addr} {vs : List Val} (h : RowV w B a vs) (hb : B ≤ B') : RowV w B' a vs := RowVP.keep h fun _ hb' => ⟨Nat.lt_of_lt_of_le hb' hb, rfl⟩
def CelRows (w : World) (p : Nat → Prop) (an : Option Addr) (cn : Nat) (av : Option Addr) (cv : Nat) (c : Cel) : Prop :=
 RowSP w p an c.names ∧ RowVP w p av c.vals ∧ c.names.length ≤ cn ∧ c.vals.length ≤ cv
def CelAt (w : World) (p : Nat → Prop) (b o : Nat) (c : Cel) : Prop := ∃ an cn av cv,
 w.cell? ⟨b, o, none⟩ = some (.int .i64 c.k) ∧ w.cell? ⟨b, o + 1, none⟩ = some (.string c.s) ∧ w.cell? ⟨b, o + 2, none⟩ = some (.int .i64 c.a) ∧ w.cell? ⟨b, o + 3, none⟩ = some (.int .i64 c.b) ∧
 w.cell? ⟨b, o + 4, none⟩ = some (.slice an c.names.length cn) ∧ w.cell? ⟨b, o + 5, none⟩ = some (.slice av c.vals.length cv) ∧ CelRows w p an cn av cv c
def RowC (w : World) (B : Nat) (a : Option Addr) (h : List Cel) : Prop :=
 ∀ i c, h[i]? = some c → ∃ b o, a = some ⟨b, o, none⟩ ∧ b < B ∧ CelAt w (fun b => b < B) b (o + i * 6) c
theorem CelRows.keep {w w' : World} {p q : Nat → Prop} {an av : Option Addr} {cn cv : Nat} {c : Cel} (h : CelRows w p an cn av cv c) (hk : ∀ b, p b → q b ∧ w'.heap[b]? = w.heap[b]?) : CelRows w' q an cn av cv c :=
 ⟨h.1.keep hk, h.2.1.keep hk, h.2.2⟩
theorem CelAt.keep {w w' : World} {p q : Nat → Prop} {b o : Nat} {c : Cel} (h : CelAt w p b o c) (hb : w'.heap[b]? = w.heap[b]?) (hk : ∀ b, p b → q b ∧ w'.heap[b]? = w.heap[b]?) : CelAt w' q b o c := by
 obtain ⟨an, cn, av, cv, h0, h1, h2, h3, h4, h5, hr⟩ := h
 have f : ∀ {o v}, w.cell? ⟨b, o, none⟩ = some v → w'.cell? ⟨b, o, none⟩ = some v := fun {o v} h => (World.cell?_of_block (w := w) (a := ⟨b, o, none⟩) hb).trans h
 exact ⟨an, cn, av, cv, f h0, f h1, f h2, f h3, f h4, f h5, hr.keep hk⟩
theorem RowC.below {w w' : World} {B : Nat} {a : Option Addr} {h : List Cel} (hr : RowC w B a h) (hb : Below B w w') : RowC w' B a h := by
 intro i d hi
 obtain ⟨b, o, ha, hlt, hd⟩ := hr i d hi
 exact ⟨b, o, ha, hlt, hd.keep (hb.block b hlt) fun b' h' => ⟨h', hb.block b' h'⟩⟩
theorem RowC.mono {w : World} {B B' : Nat} {a : Option Addr} {h : List Cel} (hr : RowC w B a h) (hB : B ≤ B') : RowC w B' a h := by
 intro i d hi
 obtain ⟨b, o, ha, hlt, hd⟩ := hr i d hi
 exact ⟨b, o, ha, by omega, hd.keep rfl fun b' h' => ⟨Nat.lt_of_lt_of_le h' hB, rfl⟩⟩
theorem RowC.take {w : World} {B : Nat} {a : Option Addr} {h : List Cel} (hr : RowC w B a h) (n : Nat) : RowC w B a (h.take n) := by
 intro i d hi
 rw [List.getElem?_take] at hi
 split at hi
 ·exact hr i d hi
 ·cases hi
end Go.Proofs.YtamjofdgikifnaaGreat
