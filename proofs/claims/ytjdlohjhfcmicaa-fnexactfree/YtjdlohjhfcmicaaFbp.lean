/- What the program counts while it goes through a node: how often a name is bound around, and whether it is told. -/
import Derived.Test.YtjdlohjhfcmicaaMpc
import Derived.Test.YtjdlohjhfcmicaaApp
set_option linter.unusedVariables false
namespace Go.Proofs.Ytjdlohjhfcmicaa
open Go.ChangeShapes Go.WideShapes Go.ChangeAt Go.RowKit
def cbS (b : List ByteArray) (s : ByteArray) : Nat := b.countP fun t => decide (t = s)
def FB (b out : List ByteArray) (s : ByteArray) (h : Int) : Int := if h = 0 then (cbS b s : Nat) else if h = 1 then (if hasS out s = true then 1 else 0) else 0
theorem FB_nil (s : ByteArray) (k : Int) : (0 : Int) = FB [] [] s k := by
  unfold FB
  split
  · rfl
  · split
    · rfl
    · rfl
theorem cbS_zero {b : List ByteArray} {s : ByteArray} : cbS b s = 0 ↔ hasS b s = false := by
  unfold cbS
  rw [List.countP_eq_zero, hasS_not]
  constructor
  · intro h hm
    have := h s hm
    simp at this
  · intro h t ht
    simp
    rintro rfl
    exact h ht
theorem cbS_le (b : List ByteArray) (s : ByteArray) : cbS b s ≤ b.length := List.countP_le_length
theorem FB_0 (b out : List ByteArray) (s : ByteArray) : FB b out s 0 = (cbS b s : Nat) := if_pos rfl
theorem FB_1 (b out : List ByteArray) (s : ByteArray) : FB b out s 1 = if hasS out s = true then 1 else 0 := by
  unfold FB
  rw [if_neg (by omega), if_pos rfl]
theorem FB_bind (b out : List ByteArray) (s0 s : ByteArray) (k : Int) : updC (FB b out) s0 0 ((cbS b s0 : Nat) + 1) s k = FB (b ++ [s0]) out s k := by
  unfold updC
  by_cases h : s = s0 ∧ k = 0
  · obtain ⟨rfl, rfl⟩ := h
    rw [if_pos ⟨rfl, rfl⟩, FB_0]
    simp [cbS]
  · rw [if_neg h]
    by_cases hk : k = 0
    · subst hk
      have hs : ¬ s0 = s := fun e => h ⟨e.symm, rfl⟩
      rw [FB_0, FB_0]
      simp [cbS, hs]
    · unfold FB
      rw [if_neg hk, if_neg hk]
theorem FB_unbind (b r out : List ByteArray) (s0 s : ByteArray) (k : Int) : updC (FB (b ++ s0 :: r) out) s0 0 ((cbS (b ++ s0 :: r) s0 : Nat) - 1) s k = FB (b ++ r) out s k := by
  unfold updC
  by_cases h : s = s0 ∧ k = 0
  · obtain ⟨rfl, rfl⟩ := h
    rw [if_pos ⟨rfl, rfl⟩, FB_0]
    simp [cbS]
    omega
  · rw [if_neg h]
    by_cases hk : k = 0
    · subst hk
      have hs : ¬ s0 = s := fun e => h ⟨e.symm, rfl⟩
      rw [FB_0, FB_0]
      simp [cbS, hs]
    · unfold FB
      rw [if_neg hk, if_neg hk]
theorem FB_tell (b out : List ByteArray) (s0 : ByteArray) (s : ByteArray) (k : Int) : updC (FB b out) s0 1 1 s k = FB b (out ++ [s0]) s k := by
  unfold updC
  have ha : ∀ t, hasS (out ++ [s0]) t = (hasS out t || s0.toList == t.toList) := fun t => by unfold hasS; simp
  by_cases h : s = s0 ∧ k = 1
  · obtain ⟨rfl, rfl⟩ := h
    rw [if_pos ⟨rfl, rfl⟩, FB_1, ha]
    simp
  · rw [if_neg h]
    by_cases hk : k = 1
    · subst hk
      have hs : ¬ s0 = s := fun e => h ⟨e.symm, rfl⟩
      have : hasS (out ++ [s0]) s = hasS out s := by
        cases hq : hasS out s
        · rw [hasS_not] at hq ⊢
          simp [hq]
          exact fun e => hs e.symm
        · rw [hasS_iff] at hq ⊢
          simp [hq]
      rw [FB_1, FB_1, this]
    · unfold FB
      by_cases h0 : k = 0
      · rw [if_pos h0, if_pos h0]
      · rw [if_neg h0, if_neg h0, if_neg hk, if_neg hk]
/-- All keys that can come up. -/
def Lk (ns : List Nod) : List Value := (ns.flatMap fun d => d.s :: d.names).flatMap fun s => [Ks s 0, Ks s 1]
theorem Lk_s {ns : List Nod} {i : Nat} {d : Nod} (h : ns[i]? = some d) : Ks d.s 1 ∈ Lk ns := by
  refine List.mem_flatMap.2 ⟨d.s, List.mem_flatMap.2 ⟨d, List.mem_of_getElem? h, by simp⟩, by simp⟩
theorem Lk_n {ns : List Nod} {i : Nat} {d : Nod} {s : ByteArray} (h : ns[i]? = some d) (hs : s ∈ d.names) : Ks s 0 ∈ Lk ns := by
  refine List.mem_flatMap.2 ⟨s, List.mem_flatMap.2 ⟨d, List.mem_of_getElem? h, by simp [hs]⟩, by simp⟩
theorem Lk_len (ns : List Nod) : (Lk ns).length = 2 * (ns.flatMap fun d => d.s :: d.names).length := by
  unfold Lk
  generalize (ns.flatMap fun d => d.s :: d.names) = l
  induction l with
  | nil => rfl
  | cons x l ih => simp only [List.flatMap_cons, List.length_append, ih, List.length_cons]; simp; omega
/-- boundBy. -/
def nmsF (d : Nod) : List ByteArray := if d.k = 7 then d.names else []
theorem bndF_eq (d : Nod) (b : List ByteArray) : bndF d b = b ++ nmsF d := by
  unfold bndF nmsF
  split <;> simp
set_option maxRecDepth 100000 in
theorem boundBy_any (d : Nod) (an aa : Option Addr) (cn ca : Nat) (w : World) (hk : i64B d.k) : Calls Try.prog 26 #[.agg #[.int .i64 d.k, .int .i64 d.n, .string d.s, .slice an d.names.length cn, .slice aa d.args.length ca]] w fun e w' => e = .returned (if d.k = 7 then .slice an d.names.length cn else .slice none 0 0) ∧ Below w.heap.size w w' := by
  have hb : Below w.heap.size w (w.alloc (Obj.cells #[.int .i64 d.k, .int .i64 d.n, .string d.s, .slice an d.names.length cn, .slice aa d.args.length ca] 48)) := (Below.refl _ _).alloc (Nat.le_refl _) _
  by_cases h : d.k = 7
  · rw [if_pos h]
    have h1 : (d.k != 7) = false := by rw [h]; rfl
    clear h
    go_enter Try.func26, Try.ntmps26
    go_wp2
    go_ret
    exact ⟨rfl, hb⟩
  · rw [if_neg h]
    have h1 : (d.k != 7) = true := by rw [bne_iff_ne]; exact h
    clear h
    go_enter Try.func26, Try.ntmps26
    go_wp2
    go_ret
    exact ⟨rfl, hb⟩
end Go.Proofs.Ytjdlohjhfcmicaa
