/- Rows appended onto rows of one's own; the model's copy of a heap. -/
import Derived.Test.YtkbpnjigoipgeaaDoorMkv
set_option linter.unusedVariables false
namespace Go.Proofs.YtkbpnjigoipgeaaDoor
open Go.ChangeShapes Go.WideShapes Go.ChangeAt Go.RowKit
theorem stop {p : Prop} (h : Hid p) : p := h.out
theorem append_zero (w : World) (i : TypeInfo) (t e : TypeId) (ht : Tryd.prog.underlying t = some (.slice e)) (hi : Tryd.prog.info? e = some i) (ty : TypeId) (base a : Option Addr) (n c cx : Nat) (hle : n ≤ c) :
    (Builtin.append_ #[t, t] ty #[.slice base n c, .slice a 0 cx]).run Tryd.prog w = .ok (.slice base n c) w := by
  cases base <;> cases a <;> simp [Builtin.append_, run_underlying ht, sizeOf, typeInfo, hi, hle, storeCells, Builtin.lenOf, Builtin.firstCells, loadCells, loadCellsFrom]
theorem own_empty {W : World} {B g size : Nat} {e : TypeId} (h : W.heap[g]? = some (.cells #[] e (0, 0))) (hB : B ≤ g) : W.ownsRow B e size (.slice (some ⟨g, 0, none⟩) 0 0) 0 [] :=
  ⟨by simp, .inr ⟨g, 0, #[], rfl, hB, h, Nat.le_refl _, Nat.zero_le _, by simp, by simp⟩⟩
/-- A row behind a row of one's own, be it empty or not. -/
theorem wpList_append_row {ops : Array Oper} {rest : List Oper} {o : Oper} {a : Act} {w : World} {Q : Exit → Act → World → Prop} (hgd : o.guard = none) (s x : Operand) (t : TypeId)
    (ho : o.op = .call { callee := .builtin .append, args := #[s, x], argTypes := #[t, t] })
    (base : Nat) (e : TypeId) (i : TypeInfo) (z : Value) (size bytes : Nat) (ht : Tryd.prog.underlying t = some (.slice e)) (hi : Tryd.prog.info? e = some i) (hz : i.zero = some z)
    (hsize : i.size = size) (hby : i.bytes = bytes) (hzs : z.cells.size = size) (hsz : 0 < size)
    (v : Value) (n : Nat) (xs : List Value) (hs : a.eval s = v) (hown : w.ownsRow base e size v n xs)
    (ax : Option Addr) (m c : Nat) (news : List Value) (hx : a.eval x = .slice ax m c) (hl : news.length = m * size) (hnews : 0 < m → ∃ ad, ax = some ad ∧ ∀ j u, news[j]? = some u → w.cell? (ad.add j) = some u) (h1 : ∀ u ∈ news, u.oneCell' = true)
    (h63 : n + m ≤ maxLen) (hbytes : (n + m) * bytes ≤ 140737488355328) (hbase : base ≤ w.heap.size)
    (h : ∀ v' w', w'.ownsRow base e size v' (n + m) (xs ++ news) → w.grownBy w' v.ownBlock → (v'.ownBlock = v.ownBlock ∨ v'.ownBlock = some w.heap.size) → wpList Tryd.prog ops Q rest (a.put o.dst v') w') :
    wpList Tryd.prog ops Q (o :: rest) a w := by
  by_cases hm : m = 0
  · subst hm
    obtain rfl : news = [] := List.eq_nil_of_length_eq_zero (by omega)
    obtain ⟨av, cv, rfl, hc⟩ := own_slice hown
    have hrun := append_zero w i t e ht hi o.type av ax n cv c hc
    have hK := h (.slice av n cv) w (by simpa using hown) (gb_refl _ _) (.inl rfl)
    refine wpList_plain hgd fun K hK' => ?_
    unfold Oper.wp
    simp [execOp, ho, resolve, invoke, builtin, hs, hx, hrun, Result.andThen]
    exact hK' _ _ hK
  · obtain ⟨ad, rfl, hn⟩ := hnews (by omega)
    exact wpList_append_own_at w hgd s x t ho base e i z size bytes ht hi hz hsize hby hzs hsz v n xs hs hown ad m c news hx hl hn h1 h63 hbytes hbase fun v' w' q1 q2 _ q4 => h v' w' q1 q2 q4
/-- The cells of a row of texts, of values. -/
def vcells : List Val → List Value
  | [] => []
  | d :: r => .int .i64 d.k :: .int .i64 d.n :: .string d.s :: vcells r
theorem vcells_len : ∀ l : List Val, (vcells l).length = l.length * 3
  | [] => rfl
  | d :: r => by simp [vcells, vcells_len r]; omega
theorem vcells_get : ∀ (l : List Val) (j : Nat) (d : Val), l[j]? = some d → (vcells l)[j * 3]? = some (.int .i64 d.k) ∧ (vcells l)[j * 3 + 1]? = some (.int .i64 d.n) ∧ (vcells l)[j * 3 + 2]? = some (.string d.s)
  | [], j, d, h => by simp at h
  | c :: r, 0, d, h => by
    simp at h
    subst h
    exact ⟨rfl, rfl, rfl⟩
  | c :: r, j + 1, d, h => by
    simp at h
    have := vcells_get r j d h
    rw [show (j + 1) * 3 = j * 3 + 1 + 1 + 1 by omega]
    exact this
theorem vcells_one (l : List Val) : ∀ u ∈ vcells l, u.oneCell' = true := by
  induction l with
  | nil => intro u hu; cases hu
  | cons d r ih =>
    intro u hu
    simp [vcells] at hu
    rcases hu with rfl | rfl | rfl | hu
    · rfl
    · rfl
    · rfl
    · exact ih u hu
theorem vcells_at {l : List Val} {o : Nat} {u : Value} (h : (vcells l)[o]? = some u) : ∃ j d i, l[j]? = some d ∧ o = j * 3 + i ∧ ((i = 0 ∧ u = .int .i64 d.k) ∨ (i = 1 ∧ u = .int .i64 d.n) ∨ (i = 2 ∧ u = .string d.s)) := by
  have hlt := (List.getElem?_eq_some_iff.1 h).1
  rw [vcells_len] at hlt
  obtain ⟨d, hd⟩ : ∃ d, l[o / 3]? = some d := ⟨_, List.getElem?_eq_getElem (by omega)⟩
  obtain ⟨h0, h1, h2⟩ := vcells_get l _ d hd
  refine ⟨o / 3, d, o % 3, hd, by omega, ?_⟩
  have e : o = o / 3 * 3 + o % 3 := by omega
  have hm : o % 3 = 0 ∨ o % 3 = 1 ∨ o % 3 = 2 := by omega
  rcases hm with hm | hm | hm
  · rw [hm, Nat.add_zero] at e
    rw [e, h0] at h
    exact .inl ⟨hm, (Option.some.inj h).symm⟩
  · rw [hm] at e
    rw [e, h1] at h
    exact .inr (.inl ⟨hm, (Option.some.inj h).symm⟩)
  · rw [hm] at e
    rw [e, h2] at h
    exact .inr (.inr ⟨hm, (Option.some.inj h).symm⟩)
theorem add_lit (b o j : Nat) : (⟨b, o, none⟩ : Addr).add j = ⟨b, o + j, none⟩ := by unfold Addr.add; split <;> simp_all
/-- What is appended, out of rows. -/
theorem news_S {w : World} {p : Nat → Prop} {a : Option Addr} {l : List ByteArray} (h : RowSP w p a l) : 0 < l.length → ∃ ad, a = some ad ∧ ∀ j u, (l.map Value.string)[j]? = some u → w.cell? (ad.add j) = some u := by
  intro hl
  obtain ⟨x, hx⟩ : ∃ x, l[0]? = some x := ⟨_, List.getElem?_eq_getElem hl⟩
  obtain ⟨b, o, rfl, _, _⟩ := h 0 x hx
  refine ⟨_, rfl, fun j u hu => ?_⟩
  rw [List.getElem?_map] at hu
  cases hj : l[j]? with
  | none => rw [hj] at hu; cases hu
  | some y =>
    rw [hj] at hu
    obtain rfl := Option.some.inj hu
    obtain ⟨b', o', e, _, hc⟩ := h j y hj
    simp only [Option.some.injEq, Addr.mk.injEq, and_true] at e
    obtain ⟨rfl, rfl⟩ := e
    rw [add_lit]
    exact hc
theorem news_V {w : World} {p : Nat → Prop} {a : Option Addr} {l : List Val} (h : RowVP w p a l) : 0 < l.length → ∃ ad, a = some ad ∧ ∀ j u, (vcells l)[j]? = some u → w.cell? (ad.add j) = some u := by
  intro hl
  obtain ⟨x, hx⟩ : ∃ x, l[0]? = some x := ⟨_, List.getElem?_eq_getElem hl⟩
  obtain ⟨b, o, rfl, _, _⟩ := h 0 x hx
  refine ⟨_, rfl, fun q u hu => ?_⟩
  obtain ⟨j, d, i, hj, rfl, hd⟩ := vcells_at hu
  obtain ⟨b', o', e, _, c0, c1, c2⟩ := h j d hj
  simp only [Option.some.injEq, Addr.mk.injEq, and_true] at e
  obtain ⟨rfl, rfl⟩ := e
  rw [add_lit, ← Nat.add_assoc]
  rcases hd with ⟨rfl, rfl⟩ | ⟨rfl, rfl⟩ | ⟨rfl, rfl⟩
  · exact c0
  · exact c1
  · exact c2
theorem OwnV.of {w : World} {B : Nat} {v : Value} {l : List Val} (h : w.ownsRow B 26 3 v l.length (vcells l)) : OwnV w B v l := ⟨_, h, fun j d hj => vcells_get l j d hj⟩
theorem info9 : (Tryd.prog.info? 9).map (fun i => (i.zero, i.size, i.bytes)) = some (some (.string ⟨#[]⟩), 1, 16) := by kernel_rfl
theorem info28 : (Tryd.prog.info? 26).map (fun i => (i.zero, i.size, i.bytes)) = some (some (.agg #[.int .i64 0, .int .i64 0, .string ⟨#[]⟩]), 3, 32) := by kernel_rfl
theorem info55 : (Tryd.prog.info? 40).map (fun i => (i.zero, i.size, i.bytes)) = some (some (.agg #[.int .i64 0, .string ⟨#[]⟩, .int .i64 0, .int .i64 0, .slice none 0 0, .slice none 0 0]), 6, 88) := by kernel_rfl
end Go.Proofs.YtkbpnjigoipgeaaDoor
