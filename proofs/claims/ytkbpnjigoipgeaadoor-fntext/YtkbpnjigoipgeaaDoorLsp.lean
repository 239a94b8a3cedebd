/- Lists in a heap: what stands in one, and what it ends with. -/
import Derived.Test.YtkbpnjigoipgeaaDoorCpx
import Derived.Test.YtkbpnjigoipgeaaDoorHot
set_option linter.unusedVariables false
namespace Go.Proofs.YtkbpnjigoipgeaaDoor
open Go.ChangeShapes Go.WideShapes Go.ChangeAt Go.RowKit
/-- From a value on: what stands there pair by pair, and what the last rest is. -/
inductive Lst (h : List Cel) : Val → List Val → Val → Prop
  | last {v : Val} : v.k ≠ 5 → Lst h v [] v
  | pair {m : Nat} {s : ByteArray} {c : Cel} {x y : Val} {l : List Val} {e : Val} : h[m]? = some c → c.vals = [x, y] → Lst h y l e → Lst h ⟨5, (m : Int), s⟩ (x :: l) e
theorem ok_wider {h : List Cel} {i : Nat} {v : Val} (hv : v.ok (h.take i) = true) : v.ok h = true ∧ (v.k = 5 → v.n < i) := by
  rw [Val.ok_take] at hv
  rw [Bool.and_eq_true] at hv
  refine ⟨hv.1, fun h5 => ?_⟩
  have hp : v.points = true := by unfold Val.points; rw [h5]; rfl
  have h2 := hv.2
  rw [hp] at h2
  simp at h2
  exact h2
theorem lst_pair {h : List Cel} (hH : HeapP h) {v : Val} (hv : v.ok h = true) (h5 : v.k = 5) : ∃ (m : Nat) (c : Cel) (x y : Val), v = ⟨5, (m : Int), v.s⟩ ∧ h[m]? = some c ∧ c.vals = [x, y] ∧ x.ok h = true ∧ y.ok h = true ∧ (y.k = 5 → y.n < m) ∧ v.s.size = 0 := by
  have hs : v.s.size = 0 := by
    by_cases hs : v.s.size = 0
    · exact hs
    · rw [vokS (by omega) hs] at hv; cases hv
  rw [vok5 h5 hs] at hv
  have h0 : 0 ≤ v.n := by
    by_cases h0 : 0 ≤ v.n
    · exact h0
    · rw [cellB_neg (by omega)] at hv; cases hv
  obtain ⟨m, hm⟩ := Int.eq_ofNat_of_zero_le h0
  rw [hm] at hv
  cases hc : h[m]? with
  | none =>
    have := List.getElem?_eq_none_iff.1 hc
    rw [cellB_out (by omega)] at hv; cases hv
  | some c =>
    rw [cellB_at hc] at hv
    have hk : c.k = 1 := of_decide_eq_true hv
    have hok := hH.2 m c hc
    unfold Cel.ok at hok
    rw [Bool.and_eq_true] at hok
    obtain ⟨hsh, hft⟩ := hok
    unfold Cel.shape at hsh
    rw [if_pos hk] at hsh
    simp only [Bool.and_eq_true, decide_eq_true_eq] at hsh
    unfold Cel.fits at hft
    rw [if_neg (by omega)] at hft
    have h2 := hsh.2
    match hvs : c.vals, h2 with
    | [x, y], _ =>
      rw [hvs] at hft
      simp only [List.all_cons, List.all_nil, Bool.and_true, Bool.and_eq_true] at hft
      have hx := ok_wider hft.1
      have hy := ok_wider hft.2
      refine ⟨m, c, x, y, ?_, hc, hvs, hx.1, hy.1, hy.2, hs⟩
      obtain ⟨k, n, s⟩ := v
      simp only at h5 hm ⊢
      rw [h5, hm]
theorem lst_any {h : List Cel} (hH : HeapP h) : ∀ (N : Nat) (v : Val), v.ok h = true → (v.k = 5 → v.n < N) → ∃ l e, Lst h v l e ∧ l.length ≤ N ∧ ∀ x ∈ l, x.ok h = true ∧ ∃ c ∈ h, x ∈ c.vals
  | 0, v, hv, hn => by
    by_cases h5 : v.k = 5
    · obtain ⟨m, c, x, y, e, -⟩ := lst_pair hH hv h5
      have := hn h5
      rw [e] at this
      simp at this
      omega
    · exact ⟨[], v, .last h5, Nat.le_refl _, fun x hx => by cases hx⟩
  | N + 1, v, hv, hn => by
    by_cases h5 : v.k = 5
    · obtain ⟨m, c, x, y, e, hc, hvs, hx, hy, hlt, -⟩ := lst_pair hH hv h5
      have hm := hn h5
      rw [e] at hm
      simp only at hm
      obtain ⟨l, z, hl, hlen, hok⟩ := lst_any hH N y hy (fun q => by have := hlt q; omega)
      refine ⟨x :: l, z, ?_, by simp; omega, ?_⟩
      · rw [e]; exact .pair hc hvs hl
      · intro q hq
        rcases List.mem_cons.1 hq with rfl | hq
        · exact ⟨hx, c, List.mem_of_getElem? hc, by rw [hvs]; simp⟩
        · exact hok q hq
    · exact ⟨[], v, .last h5, Nat.zero_le _, fun x hx => by cases hx⟩
theorem lst_of {h : List Cel} (hH : HeapP h) {v : Val} (hv : v.ok h = true) (hsm : ∀ d ∈ h, d.small) : ∃ l e, Lst h v l e ∧ l.length ≤ 300 ∧ ∀ x ∈ l, x.small := by
  obtain ⟨l, e, hl, hn, hok⟩ := lst_any hH 300 v hv (fun h5 => by
    obtain ⟨m, c, x, y, ev, hc, -⟩ := lst_pair hH hv h5
    have := (List.getElem?_eq_some_iff.1 hc).1
    have := hH.1
    rw [ev]
    simp only
    omega)
  refine ⟨l, e, hl, hn, fun x hx => ?_⟩
  obtain ⟨-, c, hc, hxc⟩ := hok x hx
  exact (hsm c hc).2.2.2.2.2.2.2 x hxc
/-- What both AsLists tell: a row of one's own, and whether it was a list. -/
def LsPost (L : List Val) (b : Bool) (w : World) (e : Ending) (w' : World) : Prop := ∃ v, e = .returned (.tuple #[v, .bool b]) ∧ OwnV w' w.heap.size v (if b = true then L else []) ∧ Below w.heap.size w w'
theorem LsPost.mk' {L : List Val} {bz b : Bool} {w w' : World} {v : Value} (hb : bz = b) (ho : OwnV w' w.heap.size v (if b = true then L else [])) (hl : Below w.heap.size w w') : LsPost L bz w (.returned (.tuple #[v, .bool b])) w' := by
  subst hb
  exact ⟨_, rfl, ho, hl⟩
/-- How long a row is. -/
def slen : Value → Nat
  | .slice _ n _ => n
  | _ => 0
theorem vcells_app (a b : List Val) : vcells (a ++ b) = vcells a ++ vcells b := by
  induction a with
  | nil => rfl
  | cons d r ih => simp [vcells, ih]
theorem own_none {w : World} {B : Nat} {e : TypeId} {size : Nat} : w.ownsRow B e size (.slice none 0 0) 0 [] := ⟨by simp, .inl ⟨rfl, rfl⟩⟩
theorem news_one {w : World} {g : Nat} {x : Val} (h : w.heap[g]? = some (.cells #[.int .i64 x.k, .int .i64 x.n, .string x.s] 26 (0, 0))) : ∀ j u, (vcells [x])[j]? = some u → w.cell? ((⟨g, 0, none⟩ : Addr).add j) = some u := by
  intro j u hj
  rw [add_lit]
  simp only [vcells, Nat.zero_add] at hj ⊢
  match j, hj with
  | 0, hj => simp at hj; subst hj; exact cell_blk (j := 0) h rfl
  | 1, hj => simp at hj; subst hj; exact cell_blk (j := 1) h rfl
  | 2, hj => simp at hj; subst hj; exact cell_blk (j := 2) h rfl
end Go.Proofs.YtkbpnjigoipgeaaDoor
