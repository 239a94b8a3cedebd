/- The law FnFree: what both Frees tell, in plain words; the world that it walks through. -/
import Derived.Test.YtgjeefedcfakdaaYpw
import Derived.Test.YtgjeefedcfakdaaMpe
import Derived.Test.YtgjeefedcfakdaaDpi
set_option linter.unusedVariables false
set_option maxRecDepth 100000
set_option maxHeartbeats 8000000
namespace Go.Proofs.Ytgjeefedcfakdaa
open Go.ChangeShapes Go.WideShapes Go.ChangeAt Go.RowKit
theorem NSw.small {d : Nod} (h : NSw d) : d.small := ⟨h.1, h.2.1, h.2.2.1, by have := h.2.2.2.1; omega, by have := h.2.2.2.2.1; omega, h.2.2.2.2.2⟩
theorem flat_bound : ∀ (ns : List Nod), (∀ d ∈ ns, NSw d) → (flat ns).length ≤ ns.length * 1002
 | [], _ => by simp [flat]
 | d :: ns, h => by
  have h1 := flat_bound ns fun x hx => h x (List.mem_cons_of_mem _ hx)
  have h2 := (h d (List.mem_cons_self ..)).2.2.2.2.1
  have h3 : (flat (d :: ns)).length = d.args.length + (flat ns).length := by simp [flat]
  rw [h3, List.length_cons]
  omega
theorem lk_bound : ∀ (ns : List Nod), (∀ d ∈ ns, NSw d) → (ns.flatMap fun d => d.s :: d.names).length ≤ ns.length * 1002
 | [], _ => by simp
 | d :: ns, h => by
  have h1 := lk_bound ns fun x hx => h x (List.mem_cons_of_mem _ hx)
  have h2 := (h d (List.mem_cons_self ..)).2.2.2.1
  rw [List.flatMap_cons, List.length_append, List.length_cons, List.length_cons]
  omega
def FreeL (ns : List Nod) (root idx : Int) (l : List ByteArray) : Prop :=
 (¬ (OkP ns root ∧ 0 ≤ idx ∧ idx < ns.length) ∧ l = []) ∨ (OkP ns root ∧ ∃ i : Nat, idx = (i : Int) ∧ i < ns.length ∧ l.Nodup ∧ (∀ s ∈ l, VarTo ns i s) ∧ ∀ d, ns[i]? = some d → d.k = 7 → ∀ s ∈ l, s ∉ d.names)
theorem frees2 (ns : List Nod) (root idx : Int) (hidx : i64B idx) (hn : ns.length ≤ 401) (hsm : ∀ d ∈ ns, NSw d) :
  ∃ l : List ByteArray, l.length ≤ 400 ∧ (∀ (a : Option Addr) (ca : Nat) (w : World), RowN w w.heap.size a ns → Calls Try.prog 8 #[.agg #[.slice a ns.length ca, .int .i64 root], .int .i64 idx] w fun e w' => TellP l w e w') ∧ (∀ (a : Option Addr) (ca : Nat) (w : World), RowN w w.heap.size a ns → Calls Try.prog 6 #[.agg #[.slice a ns.length ca, .int .i64 root], .int .i64 idx] w fun e w' => TellP l w e w') ∧ FreeL ns root idx l := by
 have hs : ∀ d ∈ ns, d.small := fun d hd => (hsm d hd).small
 have hfl := flat_bound ns hsm
 by_cases h : OkP ns root ∧ 0 ≤ idx ∧ idx < ns.length
 ·obtain ⟨hok, h0, h1⟩ := h
  obtain ⟨i, rfl⟩ := Int.eq_ofNat_of_zero_le h0
  have hi : i < ns.length := by omega
  have hLk : (Lk ns).length ≤ 8388608 := by
   rw [Lk_len]
   have := lk_bound ns hsm
   omega
  have hf := Fnd.free hok.2.2.2.2.1 ns.length i [] [] hi (Fnd.nil ns)
  refine ⟨freeF ns ns.length (i : Int) [] [], ?_, fun a ca w hr => specFree_yes a ns ca root i w (by omega) (by omega) hr hs hok hi, fun a ca w hr => implFree_yes a ns ca root i w (by omega) hr hs hok hi hLk, .inr ⟨hok, i, rfl, hi, hf.1, fun s h => ?_, fun d hd hk s h => ?_⟩⟩
  ·have := hf.len
   have := hok.2.1
   omega
  ·rcases free_mem hok.2.2.2.2.1 ns.length i [] [] s hi h with h | h
   ·cases h
   ·exact h.2
  ·obtain ⟨n, hn⟩ : ∃ n, ns.length = n + 1 := ⟨ns.length - 1, by omega⟩
   rw [hn] at h
   exact free_lam hok.2.2.2.2.1 (by omega) hd hk h
 ·exact ⟨[], by simp, fun a ca w hr => specFree_no a ns ca root idx w (by omega) (by omega) hr hs hidx h, fun a ca w hr => implFree_no a ns ca root idx w (by omega) hr hs hidx h, .inl ⟨h, rfl⟩⟩
def isV (ns : List Nod) (s : ByteArray) (j : Nat) : Bool := (ns.take j).any fun d => d.k == 5 && d.s.toList == s.toList
theorem isV_step {ns : List Nod} {s : ByteArray} {j : Nat} {d : Nod} (h : ns[j]? = some d) : isV ns s (j + 1) = (isV ns s j || (d.k == 5 && d.s.toList == s.toList)) := by
 unfold isV
 rw [List.take_add_one, h]
 simp
theorem isV_yes {ns : List Nod} {s : ByteArray} {i : Nat} (h : VarTo ns i s) : isV ns s (i + 1) = true := by
 obtain ⟨j, d, h1, h2, h3, h4⟩ := h
 refine List.any_eq_true.2 ⟨d, List.mem_of_getElem? (i := j) (by rw [List.getElem?_take_of_lt (by omega)]; exact h2), by rw [h3, h4]; simp⟩
theorem nodup_has {l : List ByteArray} {k : Nat} {s : ByteArray} (hn : l.Nodup) (h : l[k]? = some s) : hasS (l.take k) s = false := by
 rw [hasS_not]
 intro hm
 obtain ⟨j, hj⟩ := List.getElem?_of_mem hm
 have hjk : j < k := by
  have := (llt hj)
  rw [List.length_take] at this
  omega
 rw [List.getElem?_take_of_lt hjk] at hj
 obtain ⟨h1, h2⟩ := List.getElem?_eq_some_iff.1 hj
 obtain ⟨h3, h4⟩ := List.getElem?_eq_some_iff.1 h
 exact List.pairwise_iff_getElem.1 hn j k h1 h3 hjk (h2.trans h4.symm)
theorem RowN.up {w w' : World} {a : Option Addr} {ns : List Nod} (h : RowN w w.heap.size a ns) (hb : Below w.heap.size w w') : RowN w' w'.heap.size a ns := (h.below hb).mono hb.size
theorem RowS.up {w w' : World} {a : Option Addr} {ns : List ByteArray} (h : RowS w w.heap.size a ns) (hb : Below w.heap.size w w') : RowS w' w'.heap.size a ns := (h.below hb).mono hb.size
theorem bstep {w w1 w2 : World} (h : Below w.heap.size w w1) (hb : Below w1.heap.size w1 w2) : Below w.heap.size w w2 := bT h hb
theorem TellP.row {l : List ByteArray} {w w' : World} {e : Ending} (h : TellP l w e w') : ∃ a c, e = .returned (.slice a l.length c) ∧ RowS w' w'.heap.size a l ∧ l.length ≤ c ∧ Below w.heap.size w w' := by
 obtain ⟨v, he, ho, hb⟩ := h
 obtain ⟨a, c, rfl⟩ := ho.slice
 refine ⟨a, c, he, ho.row.2, ?_, hb⟩
 obtain ⟨hl, ⟨hv, h0⟩ | ⟨g, cap', cur, hv, a1, hblk, a3, _⟩⟩ := ho
 ·omega
 ·injection hv with _ _ h3
  omega
end Go.Proofs.Ytgjeefedcfakdaa
