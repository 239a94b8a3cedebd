/- Programs as plain lists of nodes; which are right; programs in memory. -/
import Derived.Test.YtamjofdgikifnaaGreatNms
namespace Go.Proofs.YtamjofdgikifnaaGreat
open Go.ChangeShapes Go.WideShapes Go.ChangeAt Go.RowKit
structure Nod where
 k : Int
 n : Int
 s : ByteArray
 names : List ByteArray
 args : List Int
def flat (ns : List Nod) : List Int := ns.flatMap (·.args)
theorem flat_append (a b : List Nod) : flat (a ++ b) = flat a ++ flat b := by simp [flat]
theorem flat_take {ns : List Nod} {i : Nat} {nd : Nod} (h : ns[i]? = some nd) : flat (ns.take (i + 1)) = flat (ns.take i) ++ nd.args := by
 rw [List.take_add_one, h, flat_append]
 simp [flat]
theorem flat_split {ns : List Nod} {i : Nat} {nd : Nod} (h : ns[i]? = some nd) : flat ns = flat (ns.take i) ++ nd.args ++ flat (ns.drop (i + 1)) := by
 rw [← flat_take h, ← flat_append, List.take_append_drop]
theorem flat_mem {ns : List Nod} {a : Int} (h : a ∈ flat ns) : ∃ (i : Nat) (nd : Nod), ns[i]? = some nd ∧ a ∈ nd.args := by
 obtain ⟨nd, h1, h2⟩ := List.mem_flatMap.1 h
 obtain ⟨i, hi⟩ := List.getElem?_of_mem h1
 exact ⟨i, nd, hi, h2⟩
def inR (ns : List Nod) : Prop := ∀ (i : Nat) (nd : Nod), ns[i]? = some nd → ∀ a ∈ nd.args, 0 ≤ a ∧ a < (i : Int)
def onceS (ns : List Nod) : Prop := ∀ j : Nat, j + 1 < ns.length → (flat ns).count (j : Int) = 1
def onceP (ns : List Nod) : Prop := (∀ a, (flat ns).count a ≤ 1) ∧ ∀ j : Nat, j + 1 < ns.length → (j : Int) ∈ flat ns
theorem inR_mem {ns : List Nod} (hin : inR ns) {a : Int} (h : a ∈ flat ns) : ∃ j : Nat, j + 1 < ns.length ∧ a = (j : Int) := by
 obtain ⟨i, nd, hi, ha⟩ := flat_mem h
 have hlt := (List.getElem?_eq_some_iff.1 hi).1
 obtain ⟨h1, h2⟩ := hin i nd hi a ha
 exact ⟨a.toNat, by omega, by omega⟩
theorem once_iff {ns : List Nod} (hin : inR ns) : onceS ns ↔ onceP ns := by
 constructor
 ·intro h
  refine ⟨fun a => ?_, fun j hj => ?_⟩
  ·by_cases ha : a ∈ flat ns
   ·obtain ⟨j, hj, rfl⟩ := inR_mem hin ha
    rw [h j hj]
    exact Nat.le_refl _
   ·rw [List.count_eq_zero_of_not_mem ha]
    omega
  ·have := h j hj
   exact List.count_pos_iff.1 (by omega)
 ·rintro ⟨h1, h2⟩ j hj
  have := List.count_pos_iff.2 (h2 j hj)
  have := h1 (j : Int)
  omega
def Nod.ok (d : Nod) : Bool := spB d.k d.n d.s d.names.length d.args.length (nmA d.names)
def OkP (ns : List Nod) (root : Int) : Prop := 1 ≤ ns.length ∧ ns.length ≤ 400 ∧ root = (ns.length : Int) - 1 ∧ (∀ d ∈ ns, d.ok = true) ∧ inR ns ∧ onceS ns
def Nod.small (d : Nod) : Prop := i64B d.k ∧ i64B d.n ∧ d.s.size ≤ 1048576 ∧ d.names.length ≤ 1048576 ∧ d.args.length ≤ 1048576 ∧ ∀ x ∈ d.names, x.size ≤ 1048576
def RowSPN (w : World) (p : Nat → Prop) (a : Option Addr) (ts : List ByteArray) : Prop :=
 ∀ i x, ts[i]? = some x → ∃ b o, a = some ⟨b, o, none⟩ ∧ p b ∧ w.cell? ⟨b, o + i, none⟩ = some (.string x)
def RowIP (w : World) (p : Nat → Prop) (a : Option Addr) (ts : List Int) : Prop :=
 ∀ i x, ts[i]? = some x → ∃ b o, a = some ⟨b, o, none⟩ ∧ p b ∧ w.cell? ⟨b, o + i, none⟩ = some (.int .i64 x)
theorem RowSPN.keep {w w' : World} {p q : Nat → Prop} {a : Option Addr} {ts : List ByteArray} (h : RowSPN w p a ts) (hk : ∀ b, p b → q b ∧ w'.heap[b]? = w.heap[b]?) : RowSPN w' q a ts := by
 intro i d hi
 obtain ⟨b, o, ha, hb, hd⟩ := h i d hi
 exact ⟨b, o, ha, (hk b hb).1, (World.cell?_of_block (w := w) (a := ⟨b, _, none⟩) (hk b hb).2).trans hd⟩
theorem RowIP.keep {w w' : World} {p q : Nat → Prop} {a : Option Addr} {ts : List Int} (h : RowIP w p a ts) (hk : ∀ b, p b → q b ∧ w'.heap[b]? = w.heap[b]?) : RowIP w' q a ts := by
 intro i d hi
 obtain ⟨b, o, ha, hb, hd⟩ := h i d hi
 exact ⟨b, o, ha, (hk b hb).1, (World.cell?_of_block (w := w) (a := ⟨b, _, none⟩) (hk b hb).2).trans hd⟩
def NodRows (w : World) (p : Nat → Prop) (an : Option Addr) (cn : Nat) (aa : Option Addr) (ca : Nat) (d : Nod) : Prop :=
 RowSPN w p an d.names ∧ RowIP w p aa d.args ∧ d.names.length ≤ cn ∧ d.args.length ≤ ca
def NodAt (w : World) (p : Nat → Prop) (b o : Nat) (d : Nod) : Prop := ∃ an cn aa ca,
 w.cell? ⟨b, o, none⟩ = some (.int .i64 d.k) ∧ w.cell? ⟨b, o + 1, none⟩ = some (.int .i64 d.n) ∧ w.cell? ⟨b, o + 2, none⟩ = some (.string d.s) ∧
 w.cell? ⟨b, o + 3, none⟩ = some (.slice an d.names.length cn) ∧ w.cell? ⟨b, o + 4, none⟩ = some (.slice aa d.args.length ca) ∧ NodRows w p an cn aa ca d
def RowN (w : World) (B : Nat) (a : Option Addr) (ns : List Nod) : Prop :=
 ∀ i d, ns[i]? = some d → ∃ b o, a = some ⟨b, o, none⟩ ∧ b < B ∧ NodAt w (fun b => b < B) b (o + i * 5) d
theorem NodRows.keep {w w' : World} {p q : Nat → Prop} {an aa : Option Addr} {cn ca : Nat} {d : Nod} (h : NodRows w p an cn aa ca d) (hk : ∀ b, p b → q b ∧ w'.heap[b]? = w.heap[b]?) : NodRows w' q an cn aa ca d :=
 ⟨h.1.keep hk, h.2.1.keep hk, h.2.2⟩
theorem NodAt.keep {w w' : World} {p q : Nat → Prop} {b o : Nat} {d : Nod} (h : NodAt w p b o d) (hb : w'.heap[b]? = w.heap[b]?) (hk : ∀ b, p b → q b ∧ w'.heap[b]? = w.heap[b]?) : NodAt w' q b o d := by
 obtain ⟨an, cn, aa, ca, h0, h1, h2, h3, h4, hr⟩ := h
 have f : ∀ {o v}, w.cell? ⟨b, o, none⟩ = some v → w'.cell? ⟨b, o, none⟩ = some v := fun {o v} h => (World.cell?_of_block (w := w) (a := ⟨b, o, none⟩) hb).trans h
 exact ⟨an, cn, aa, ca, f h0, f h1, f h2, f h3, f h4, hr.keep hk⟩
theorem RowN.below {w w' : World} {B : Nat} {a : Option Addr} {ns : List Nod} (h : RowN w B a ns) (hb : Below B w w') : RowN w' B a ns := by
 intro i d hi
 obtain ⟨b, o, ha, hlt, hd⟩ := h i d hi
 exact ⟨b, o, ha, hlt, hd.keep (hb.block b hlt) fun b' h' => ⟨h', hb.block b' h'⟩⟩
theorem RowN.mono {w : World} {B B' : Nat} {a : Option Addr} {ns : List Nod} (h : RowN w B a ns) (hB : B ≤ B') : RowN w B' a ns := by
 intro i d hi
 obtain ⟨b, o, ha, hlt, hd⟩ := h i d hi
 exact ⟨b, o, ha, by omega, hd.keep rfl fun b' h' => ⟨by omega, rfl⟩⟩
def OkPost (ns : List Nod) (root : Int) (w : World) (e : Ending) (w' : World) : Prop := ∃ b : Bool, e = .returned (.bool b) ∧ (b = true ↔ OkP ns root) ∧ Below w.heap.size w w'
theorem count_snoc_same (l : List Int) (a : Int) : (l ++ [a]).count a = l.count a + 1 := by simp
theorem count_snoc_other (l : List Int) {a b : Int} (h : a ≠ b) : (l ++ [a]).count b = l.count b := by
 rw [List.count_append, List.count_cons_of_ne h]
 simp
end Go.Proofs.YtamjofdgikifnaaGreat
