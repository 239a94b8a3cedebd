/- Rows of texts that a call made; a row appended onto one of them. -/
import Derived.Test.YtamjofdgikifnaaGreatRdg
import Derived.Maps.AppendAt
import Derived.Deep.AppendLies
set_option linter.unusedVariables false
namespace Go.Proofs.YtamjofdgikifnaaGreat
open Go.ChangeShapes Go.WideShapes Go.ChangeAt Go.RowKit
theorem own_keep {w w' : World} {B n s : Nat} {e : TypeId} {v : Value} {xs : List Value} (h : w.ownsRow B e s v n xs) (hk : ∀ b, v.ownBlock = some b → w'.heap[b]? = w.heap[b]?) : w'.ownsRow B e s v n xs := by
  obtain ⟨hl, ⟨hv, h0⟩ | ⟨g, cap', cur, hv, a1, hblk, a3⟩⟩ := h
  · exact ⟨hl, .inl ⟨hv, h0⟩⟩
  · exact ⟨hl, .inr ⟨g, cap', cur, hv, a1, (hk g (by rw [hv]; rfl)).trans hblk, a3⟩⟩
theorem own_slice {w : World} {B n s : Nat} {e : TypeId} {v : Value} {xs : List Value} (h : w.ownsRow B e s v n xs) : ∃ (a : Option Addr) (cap : Nat), v = .slice a n cap ∧ n ≤ cap := by
  obtain ⟨hl, ⟨hv, h0⟩ | ⟨g, cap', cur, hv, _, _, h3, _⟩⟩ := h
  · exact ⟨none, 0, by rw [hv, h0], by omega⟩
  · exact ⟨_, _, hv, h3⟩
theorem own_weak {w : World} {B B' n s : Nat} {e : TypeId} {v : Value} {xs : List Value} (h : w.ownsRow B e s v n xs) (hB : B' ≤ B) : w.ownsRow B' e s v n xs := by
  obtain ⟨hl, ⟨hv, h0⟩ | ⟨g, cap', cur, hv, a1, a3⟩⟩ := h
  · exact ⟨hl, .inl ⟨hv, h0⟩⟩
  · exact ⟨hl, .inr ⟨g, cap', cur, hv, by omega, a3⟩⟩
theorem own_blk {w : World} {B n s b : Nat} {e : TypeId} {v : Value} {xs : List Value} (h : w.ownsRow B e s v n xs) (hv : v.ownBlock = some b) : B ≤ b ∧ b < w.heap.size ∧ ∃ cur cap, v = .slice (some ⟨b, 0, none⟩) n cap ∧ n ≤ cap ∧ w.heap[b]? = some (.cells cur e (0, 0)) ∧ cur.size = cap * s ∧ cur.toList.take (n * s) = xs := by
  obtain ⟨hl, ⟨hv', h0⟩ | ⟨g, cap', cur, hv', a1, hblk, a3, a4, a5, a6⟩⟩ := h
  · subst hv'
    cases hv
  · subst hv'
    obtain rfl : g = b := by injection hv
    exact ⟨a1, (Array.getElem?_eq_some_iff.1 hblk).1, cur, cap', rfl, a3, hblk, a5, a6⟩
theorem own_cell {w : World} {B n s g cap o : Nat} {e : TypeId} {xs : List Value} (h : w.ownsRow B e s (.slice (some ⟨g, 0, none⟩) n cap) n xs) (ho : o < n * s) : w.cell? ⟨g, o, none⟩ = xs[o]? := by
  obtain ⟨_, _, cur, cap', _, _, hblk, _, h6⟩ := own_blk h rfl
  rw [cell_of_row w g o cur e (0, 0) hblk, ← h6, List.getElem?_take_of_lt ho]
  simp
def OwnS (w : World) (B : Nat) (v : Value) (l : List ByteArray) : Prop := w.ownsRow B 9 1 v l.length (l.map Value.string)
theorem OwnS.keep {w w' : World} {B : Nat} {v : Value} {l : List ByteArray} (h : OwnS w B v l) (hk : ∀ b, v.ownBlock = some b → w'.heap[b]? = w.heap[b]?) : OwnS w' B v l := own_keep h hk
theorem OwnS.weak {w : World} {B B' : Nat} {v : Value} {l : List ByteArray} (h : OwnS w B v l) (hB : B' ≤ B) : OwnS w B' v l := own_weak h hB
theorem OwnS.slice {w : World} {B : Nat} {v : Value} {l : List ByteArray} (h : OwnS w B v l) : ∃ (a : Option Addr) (cap : Nat), v = .slice a l.length cap ∧ l.length ≤ cap := own_slice h
theorem OwnS.blk {w : World} {B b : Nat} {v : Value} {l : List ByteArray} (h : OwnS w B v l) (hv : v.ownBlock = some b) : B ≤ b ∧ b < w.heap.size ∧ ∃ cur, w.heap[b]? = some (.cells cur 9 (0, 0)) := by
  obtain ⟨h1, h2, cur, _, _, _, h3, _⟩ := own_blk h hv
  exact ⟨h1, h2, cur, h3⟩
theorem OwnS.row {w : World} {B n cap : Nat} {a : Option Addr} {l : List ByteArray} (h : OwnS w B (.slice a n cap) l) : RowSP w (fun b => (Value.slice a n cap).ownBlock = some b) a l := by
  intro i x hx
  obtain ⟨hl, ⟨hv, h0⟩ | ⟨g, cap', cur, hv, a1, hblk, a3, a4, a5, a6⟩⟩ := h
  · rw [List.eq_nil_of_length_eq_zero h0] at hx
    simp at hx
  · injection hv with h1 h2 h3
    subst h1
    refine ⟨g, 0, rfl, rfl, ?_⟩
    rw [Nat.zero_add]
    have hil := (List.getElem?_eq_some_iff.1 hx).1
    refine cell_blk hblk ?_
    rw [← Array.getElem?_toList, ← List.getElem?_take_of_lt (j := l.length * 1) (by omega), a6, List.getElem?_map, hx]
    rfl
theorem gb_set (w : World) (g o : Nat) (u : Value) : w.grownBy (w.setCell ⟨g, o, none⟩ u) (some g) :=
  ⟨rfl, rfl, rfl, by simp, fun i hi hne => heap_setCell_other _ _ _ _ (by rintro rfl; exact hne rfl)⟩
theorem gb_below {w w' : World} (r : Option Nat) (h : Below w.heap.size w w') : w.grownBy w' r := ⟨h.os, h.tape, h.output, h.size, fun i hi _ => h.block i hi⟩
theorem gb_refl (w : World) (r : Option Nat) : w.grownBy w r := ⟨rfl, rfl, rfl, Nat.le_refl _, fun _ _ _ => rfl⟩
theorem gb_trans {w w1 w2 : World} {r : Option Nat} (h : w.grownBy w1 r) (g : w1.grownBy w2 r) : w.grownBy w2 r :=
  ⟨g.os.trans h.os, g.tape.trans h.tape, g.output.trans h.output, Nat.le_trans h.size g.size, fun i hi hne => (g.block i (Nat.lt_of_lt_of_le hi h.size) hne).trans (h.block i hi hne)⟩
theorem stop {p : Prop} (h : Hid p) : p := h.out
theorem append_zero (w : World) (i : TypeInfo) (t e : TypeId) (ht : Tryz.prog.underlying t = some (.slice e)) (hi : Tryz.prog.info? e = some i) (ty : TypeId) (base a : Option Addr) (n c cx : Nat) (hle : n ≤ c) :
    (Builtin.append_ #[t, t] ty #[.slice base n c, .slice a 0 cx]).run Tryz.prog w = .ok (.slice base n c) w := by
  cases base <;> cases a <;> simp [Builtin.append_, run_underlying ht, sizeOf, typeInfo, hi, hle, storeCells, Builtin.lenOf, Builtin.firstCells, loadCells, loadCellsFrom]
theorem own_empty {W : World} {B g size : Nat} {e : TypeId} (h : W.heap[g]? = some (.cells #[] e (0, 0))) (hB : B ≤ g) : W.ownsRow B e size (.slice (some ⟨g, 0, none⟩) 0 0) 0 [] :=
  ⟨by simp, .inr ⟨g, 0, #[], rfl, hB, h, Nat.le_refl _, Nat.zero_le _, by simp, by simp⟩⟩
theorem wpList_append_row {ops : Array Oper} {rest : List Oper} {o : Oper} {a : Act} {w : World} {Q : Exit → Act → World → Prop} (hgd : o.guard = none) (s x : Operand) (t : TypeId)
    (ho : o.op = .call { callee := .builtin .append, args := #[s, x], argTypes := #[t, t] })
    (base : Nat) (e : TypeId) (i : TypeInfo) (z : Value) (size bytes : Nat) (ht : Tryz.prog.underlying t = some (.slice e)) (hi : Tryz.prog.info? e = some i) (hz : i.zero = some z)
    (hsize : i.size = size) (hby : i.bytes = bytes) (hzs : z.cells.size = size) (hsz : 0 < size)
    (v : Value) (n : Nat) (xs : List Value) (hs : a.eval s = v) (hown : w.ownsRow base e size v n xs)
    (ax : Option Addr) (m c : Nat) (news : List Value) (hx : a.eval x = .slice ax m c) (hl : news.length = m * size) (hnews : 0 < m → ∃ ad, ax = some ad ∧ ∀ j u, news[j]? = some u → w.cell? (ad.add j) = some u) (h1 : ∀ u ∈ news, u.oneCell' = true)
    (h63 : n + m ≤ maxLen) (hbytes : (n + m) * bytes ≤ 140737488355328) (hbase : base ≤ w.heap.size)
    (h : ∀ v' w', w'.ownsRow base e size v' (n + m) (xs ++ news) → w.grownBy w' v.ownBlock → (v'.ownBlock = v.ownBlock ∨ v'.ownBlock = some w.heap.size) → wpList Tryz.prog ops Q rest (a.put o.dst v') w') :
    wpList Tryz.prog ops Q (o :: rest) a w := by
  by_cases hm : m = 0
  · subst hm
    obtain rfl : news = [] := List.eq_nil_of_length_eq_zero (by omega)
    obtain ⟨av, cv, rfl, hc⟩ := own_slice hown
    have hrun := append_zero w i t e ht hi o.type av ax n cv c hc
    have hK := h (.slice av n cv) w (by simpa using hown) (gb_refl _ _) (.inl rfl)
    refine wpList_plain hgd fun K hK' => ?_
    unfold Oper.wp
    simp [execOp, ho, resolve, invoke, builtin, hs, hx, hrun, Result.andThen]
    exact hK' _ _ hK
  · obtain ⟨ad, rfl, hn⟩ := hnews (by omega)
    exact wpList_append_own_at w hgd s x t ho base e i z size bytes ht hi hz hsize hby hzs hsz v n xs hs hown ad m c news hx hl hn h1 h63 hbytes hbase fun v' w' q1 q2 _ q4 => h v' w' q1 q2 q4
end Go.Proofs.YtamjofdgikifnaaGreat
