/- What is free in a node, as a plain function. -/
import Derived.Test.YtjdlohjhfcmicaaSts
set_option linter.unusedVariables false
namespace Go.Proofs.Ytjdlohjhfcmicaa
open Go.ChangeShapes Go.WideShapes Go.ChangeAt Go.RowKit
/-- What a variable adds. -/
def tellF (b out : List ByteArray) (s : ByteArray) : List ByteArray := if hasS b s = false ∧ hasS out s = false then out ++ [s] else out
/-- What is bound inside of a node. -/
def bndF (d : Nod) (b : List ByteArray) : List ByteArray := if d.k = 7 then b ++ d.names else b
/-- What is free in a node, behind what was found; the first number bounds how deep it is looked. -/
def freeF (ns : List Nod) : Nat → Int → List ByteArray → List ByteArray → List ByteArray
  | 0, _, _, out => out
  | f + 1, i, b, out =>
    match ns[i.toNat]? with
    | none => out
    | some d => if d.k = 5 then tellF b out d.s else d.args.foldl (fun o a => freeF ns f a (bndF d b) o) out
theorem freeF_var {ns : List Nod} {f i : Nat} {d : Nod} {b out : List ByteArray} (h : ns[i]? = some d) (hk : d.k = 5) : freeF ns (f + 1) (i : Int) b out = tellF b out d.s := by
  simp only [freeF, Int.toNat_natCast, h, hk, if_true]
theorem freeF_else {ns : List Nod} {f i : Nat} {d : Nod} {b out : List ByteArray} (h : ns[i]? = some d) (hk : ¬ d.k = 5) : freeF ns (f + 1) (i : Int) b out = d.args.foldl (fun o a => freeF ns f a (bndF d b) o) out := by
  simp only [freeF, Int.toNat_natCast, h, hk, if_false]
theorem hasS_iff {l : List ByteArray} {s : ByteArray} : hasS l s = true ↔ s ∈ l := by
  unfold hasS
  rw [List.any_eq_true]
  constructor
  · rintro ⟨t, ht, he⟩
    have : t.toList = s.toList := by simpa using he
    have : t = s := by
      rw [ByteArray.toList_eq, ByteArray.toList_eq] at this
      cases t; cases s
      simpa using this
    exact this ▸ ht
  · intro h
    exact ⟨s, h, by simp⟩
theorem hasS_not {l : List ByteArray} {s : ByteArray} : hasS l s = false ↔ s ∉ l := by
  rw [← hasS_iff]
  simp
theorem nodup_le {α : Type} [DecidableEq α] : ∀ (l m : List α), l.Nodup → (∀ x ∈ l, x ∈ m) → l.length ≤ m.length
  | [], _, _, _ => by simp
  | x :: l, m, hn, hs => by
    rw [List.nodup_cons] at hn
    have hx := hs x (by simp)
    have := nodup_le l (m.erase x) hn.2 fun y hy => (List.mem_erase_of_ne (by rintro rfl; exact hn.1 hy)).2 (hs y (by simp [hy]))
    rw [List.length_erase_of_mem hx] at this
    have := List.length_pos_of_mem hx
    simp only [List.length_cons]
    omega
/-- What was found: each once, each a node's text. -/
def Fnd (ns : List Nod) (out : List ByteArray) : Prop := out.Nodup ∧ ∀ s ∈ out, s ∈ ns.map (·.s)
theorem Fnd.len {ns : List Nod} {out : List ByteArray} (h : Fnd ns out) : out.length ≤ ns.length := by
  have := nodup_le out _ h.1 h.2
  simpa using this
theorem Fnd.tell {ns : List Nod} {i : Nat} {d : Nod} {b out : List ByteArray} (h : Fnd ns out) (hd : ns[i]? = some d) : Fnd ns (tellF b out d.s) := by
  unfold tellF
  split
  · rename_i hc
    have hno := hasS_not.1 hc.2
    refine ⟨?_, fun s hs => ?_⟩
    · rw [List.nodup_append]
      exact ⟨h.1, by simp, fun x hx y hy => by rw [List.mem_singleton.1 hy]; rintro rfl; exact hno hx⟩
    · rcases List.mem_append.1 hs with hs | hs
      · exact h.2 s hs
      · rw [List.mem_singleton.1 hs]
        exact List.mem_map.2 ⟨d, List.mem_of_getElem? hd, rfl⟩
  · exact h
theorem Fnd.free {ns : List Nod} (hin : inR ns) : ∀ (f : Nat) (i : Nat) (b out : List ByteArray), i < f → Fnd ns out → Fnd ns (freeF ns f (i : Int) b out)
  | 0, i, b, out, h, ho => absurd h (by omega)
  | f + 1, i, b, out, h, ho => by
    cases hd : ns[i]? with
    | none =>
      simp only [freeF, Int.toNat_natCast, hd]
      exact ho
    | some d =>
      by_cases hk : d.k = 5
      · rw [freeF_var hd hk]
        exact ho.tell hd
      · rw [freeF_else hd hk]
        have : ∀ (l : List Int) (o : List ByteArray), (∀ a ∈ l, 0 ≤ a ∧ a < (i : Int)) → Fnd ns o → Fnd ns (l.foldl (fun o a => freeF ns f a (bndF d b) o) o) := by
          intro l
          induction l with
          | nil => intro o _ ho; exact ho
          | cons a l ih =>
            intro o hl ho
            obtain ⟨h1, h2⟩ := hl a (by simp)
            obtain ⟨A, rfl⟩ := Int.eq_ofNat_of_zero_le h1
            exact ih _ (fun a' ha' => hl a' (by simp [ha'])) (Fnd.free hin f A _ o (by omega) ho)
        exact this d.args out (hin i d hd) ho
/-- The Args that are gone through already. -/
def argsF (ns : List Nod) (f : Nat) (b : List ByteArray) (l : List Int) (out : List ByteArray) : List ByteArray := l.foldl (fun o a => freeF ns f a b o) out
theorem argsF_snoc (ns : List Nod) (f : Nat) (b : List ByteArray) (l : List Int) (x : Int) (out : List ByteArray) : argsF ns f b (l ++ [x]) out = freeF ns f x b (argsF ns f b l out) := by simp [argsF]
theorem Fnd.args {ns : List Nod} (hin : inR ns) {f i : Nat} {d : Nod} (hd : ns[i]? = some d) (hf : i ≤ f) (b out : List ByteArray) (ho : Fnd ns out) (k : Nat) : Fnd ns (argsF ns f b (d.args.take k) out) := by
  have : ∀ (l : List Int) (o : List ByteArray), (∀ a ∈ l, 0 ≤ a ∧ a < (i : Int)) → Fnd ns o → Fnd ns (argsF ns f b l o) := by
    intro l
    induction l with
    | nil => intro o _ ho; exact ho
    | cons a l ih =>
      intro o hl ho
      obtain ⟨h1, h2⟩ := hl a (by simp)
      obtain ⟨A, rfl⟩ := Int.eq_ofNat_of_zero_le h1
      exact ih _ (fun a' ha' => hl a' (by simp [ha'])) (Fnd.free hin f A _ o (by omega) ho)
  exact this _ out (fun a ha => hin i d hd a (List.mem_of_mem_take ha)) ho
theorem Fnd.nil (ns : List Nod) : Fnd ns [] := ⟨by simp, fun s h => by cases h⟩
theorem ok_var {d : Nod} (h : d.ok = true) (hk : d.k = 5) : d.args = [] := by
  unfold Nod.ok spB at h
  rw [hk] at h
  simp at h
  exact h.1.1.2
theorem ok_lam {d : Nod} (h : d.ok = true) (hk : d.k = 7) : d.names.length ≤ 8 := by
  unfold Nod.ok spB at h
  rw [hk] at h
  simp at h
  exact h.1.1.1.1
end Go.Proofs.Ytjdlohjhfcmicaa
