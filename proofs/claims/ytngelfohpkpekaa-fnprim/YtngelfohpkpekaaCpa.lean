/- Rows appended onto rows of one's own; the model's copy of a heap. -/
import Derived.Test.YtngelfohpkpekaaMkv
set_option linter.unusedVariables false
namespace Go.Proofs.Ytngelfohpkpekaa
open Go.ChangeShapes Go.WideShapes Go.ChangeAt Go.RowKit
theorem stop {p : Prop} (h : Hid p) : p := h.out
theorem append_zero (w : World) (i : TypeInfo) (t e : TypeId) (ht : Try.prog.underlying t = some (.slice e)) (hi : Try.prog.info? e = some i) (ty : TypeId) (base a : Option Addr) (n c cx : Nat) (hle : n ≤ c) :
    (Builtin.append_ #[t, t] ty #[.slice base n c, .slice a 0 cx]).run Try.prog w = .ok (.slice base n c) w := by
  cases base <;> cases a <;> simp [Builtin.append_, run_underlying ht, sizeOf, typeInfo, hi, hle, storeCells, Builtin.lenOf, Builtin.firstCells, loadCells, loadCellsFrom]
theorem own_empty {W : World} {B g size : Nat} {e : TypeId} (h : W.heap[g]? = some (.cells #[] e (0, 0))) (hB : B ≤ g) : W.ownsRow B e size (.slice (some ⟨g, 0, none⟩) 0 0) 0 [] :=
  ⟨by simp, .inr ⟨g, 0, #[], rfl, hB, h, Nat.le_refl _, Nat.zero_le _, by simp, by simp⟩⟩
/-- A row behind a row of one's own, be it empty or not. -/
theorem wpList_append_row {ops : Array Oper} {rest : List Oper} {o : Oper} {a : Act} {w : World} {Q : Exit → Act → World → Prop} (hgd : o.guard = none) (s x : Operand) (t : TypeId)
    (ho : o.op = .call { callee := .builtin .append, args := #[s, x], argTypes := #[t, t] })
    (base : Nat) (e : TypeId) (i : TypeInfo) (z : Value) (size bytes : Nat) (ht : Try.prog.underlying t = some (.slice e)) (hi : Try.prog.info? e = some i) (hz : i.zero = some z)
    (hsize : i.size = size) (hby : i.bytes = bytes) (hzs : z.cells.size = size) (hsz : 0 < size)
    (v : Value) (n : Nat) (xs : List Value) (hs : a.eval s = v) (hown : w.ownsRow base e size v n xs)
    (ax : Option Addr) (m c : Nat) (news : List Value) (hx : a.eval x = .slice ax m c) (hl : news.length = m * size) (hnews : 0 < m → ∃ ad, ax = some ad ∧ ∀ j u, news[j]? = some u → w.cell? (ad.add j) = some u) (h1 : ∀ u ∈ news, u.oneCell' = true)
    (h63 : n + m ≤ maxLen) (hbytes : (n + m) * bytes ≤ 140737488355328) (hbase : base ≤ w.heap.size)
    (h : ∀ v' w', w'.ownsRow base e size v' (n + m) (xs ++ news) → w.grownBy w' v.ownBlock → (v'.ownBlock = v.ownBlock ∨ v'.ownBlock = some w.heap.size) → wpList Try.prog ops Q rest (a.put o.dst v') w') :
    wpList Try.prog ops Q (o :: rest) a w := by
  by_cases hm : m = 0
  · subst hm
    obtain rfl : news = [] := List.eq_nil_of_length_eq_zero (by omega)
    obtain ⟨av, cv, rfl, hc⟩ := own_slice hown
    have hrun := append_zero w i t e ht hi o.type av ax n cv c hc
    have hK := h (.slice av n cv) w (by simpa using hown) (gb_refl _ _) (.inl rfl)
    refine wpList_plain hgd fun K hK' => ?_
    unfold Oper.wp
    simp [execOp, ho, resolve, invoke, builtin, hs, hx, hrun, Result.andThen]
    exact hK' _ _ hK
  · obtain ⟨ad, rfl, hn⟩ := hnews (by omega)
    exact wpList_append_own_at w hgd s x t ho base e i z size bytes ht hi hz hsize hby hzs hsz v n xs hs hown ad m c news hx hl hn h1 h63 hbytes hbase fun v' w' q1 q2 _ q4 => h v' w' q1 q2 q4
/-- The cells of a row of texts, of values. -/
def vcells : List Val → List Value
  | [] => []
  | d :: r => .int .i64 d.k :: .int .i64 d.n :: .string d.s :: vcells r
theorem vcells_len : ∀ l : List Val, (vcells l).length = l.length * 3
  | [] => rfl
  | d :: r => by simp [vcells, vcells_len r]; omega
theorem vcells_get : ∀ (l : List Val) (j : Nat) (d : Val), l[j]? = some d → (vcells l)[j * 3]? = some (.int .i64 d.k) ∧ (vcells l)[j * 3 + 1]? = some (.int .i64 d.n) ∧ (vcells l)[j * 3 + 2]? = some (.string d.s)
  | [], j, d, h => by simp at h
  | c :: r, 0, d, h => by
    simp at h
    subst h
    exact ⟨rfl, rfl, rfl⟩
  | c :: r, j + 1, d, h => by
    simp at h
    have := vcells_get r j d h
    rw [show (j + 1) * 3 = j * 3 + 1 + 1 + 1 by omega]
    exact this
theorem vcells_one (l : List Val) : ∀ u ∈ vcells l, u.oneCell' = true := by
  induction l with
  | nil => intro u hu; cases hu
  | cons d r ih =>
    intro u hu
    simp [vcells] at hu
    rcases hu with rfl | rfl | rfl | hu
    · rfl
    · rfl
    · rfl
    · exact ih u hu
theorem vcells_at {l : List Val} {o : Nat} {u : Value} (h : (vcells l)[o]? = some u) : ∃ j d i, l[j]? = some d ∧ o = j * 3 + i ∧ ((i = 0 ∧ u = .int .i64 d.k) ∨ (i = 1 ∧ u = .int .i64 d.n) ∨ (i = 2 ∧ u = .string d.s)) := by
  have hlt := (List.getElem?_eq_some_iff.1 h).1
  rw [vcells_len] at hlt
  obtain ⟨d, hd⟩ : ∃ d, l[o / 3]? = some d := ⟨_, List.getElem?_eq_getElem (by omega)⟩
  obtain ⟨h0, h1, h2⟩ := vcells_get l _ d hd
  refine ⟨o / 3, d, o % 3, hd, by omega, ?_⟩
  have e : o = o / 3 * 3 + o % 3 := by omega
  have hm : o % 3 = 0 ∨ o % 3 = 1 ∨ o % 3 = 2 := by omega
  rcases hm with hm | hm | hm
  · rw [hm, Nat.add_zero] at e
    rw [e, h0] at h
    exact .inl ⟨hm, (Option.some.inj h).symm⟩
  · rw [hm] at e
    rw [e, h1] at h
    exact .inr (.inl ⟨hm, (Option.some.inj h).symm⟩)
  · rw [hm] at e
    rw [e, h2] at h
    exact .inr (.inr ⟨hm, (Option.some.inj h).symm⟩)
theorem add_lit (b o j : Nat) : (⟨b, o, none⟩ : Addr).add j = ⟨b, o + j, none⟩ := by unfold Addr.add; split <;> simp_all
/-- What is appended, out of rows. -/
theorem news_S {w : World} {p : Nat → Prop} {a : Option Addr} {l : List ByteArray} (h : RowSP w p a l) : 0 < l.length → ∃ ad, a = some ad ∧ ∀ j u, (l.map Value.string)[j]? = some u → w.cell? (ad.add j) = some u := by
  intro hl
  obtain ⟨x, hx⟩ : ∃ x, l[0]? = some x := ⟨_, List.getElem?_eq_getElem hl⟩
  obtain ⟨b, o, rfl, _, _⟩ := h 0 x hx
  refine ⟨_, rfl, fun j u hu => ?_⟩
  rw [List.getElem?_map] at hu
  cases hj : l[j]? with
  | none => rw [hj] at hu; cases hu
  | some y =>
    rw [hj] at hu
    obtain rfl := Option.some.inj hu
    obtain ⟨b', o', e, _, hc⟩ := h j y hj
    simp only [Option.some.injEq, Addr.mk.injEq, and_true] at e
    obtain ⟨rfl, rfl⟩ := e
    rw [add_lit]
    exact hc
theorem news_V {w : World} {p : Nat → Prop} {a : Option Addr} {l : List Val} (h : RowVP w p a l) : 0 < l.length → ∃ ad, a = some ad ∧ ∀ j u, (vcells l)[j]? = some u → w.cell? (ad.add j) = some u := by
  intro hl
  obtain ⟨x, hx⟩ : ∃ x, l[0]? = some x := ⟨_, List.getElem?_eq_getElem hl⟩
  obtain ⟨b, o, rfl, _, _⟩ := h 0 x hx
  refine ⟨_, rfl, fun q u hu => ?_⟩
  obtain ⟨j, d, i, hj, rfl, hd⟩ := vcells_at hu
  obtain ⟨b', o', e, _, c0, c1, c2⟩ := h j d hj
  simp only [Option.some.injEq, Addr.mk.injEq, and_true] at e
  obtain ⟨rfl, rfl⟩ := e
  rw [add_lit, ← Nat.add_assoc]
  rcases hd with ⟨rfl, rfl⟩ | ⟨rfl, rfl⟩ | ⟨rfl, rfl⟩
  · exact c0
  · exact c1
  · exact c2
theorem OwnV.of {w : World} {B : Nat} {v : Value} {l : List Val} (h : w.ownsRow B 29 3 v l.length (vcells l)) : OwnV w B v l := ⟨_, h, fun j d hj => vcells_get l j d hj⟩
theorem info9 : (Try.prog.info? 9).map (fun i => (i.zero, i.size, i.bytes)) = some (some (.string ⟨#[]⟩), 1, 16) := by kernel_rfl
theorem info28 : (Try.prog.info? 29).map (fun i => (i.zero, i.size, i.bytes)) = some (some (.agg #[.int .i64 0, .int .i64 0, .string ⟨#[]⟩]), 3, 32) := by kernel_rfl
theorem info55 : (Try.prog.info? 62).map (fun i => (i.zero, i.size, i.bytes)) = some (some (.agg #[.int .i64 0, .string ⟨#[]⟩, .int .i64 0, .int .i64 0, .slice none 0 0, .slice none 0 0]), 6, 88) := by kernel_rfl
set_option maxRecDepth 100000 in
set_option maxHeartbeats 2000000 in
theorem copyCells_any (a : Option Addr) (h : List Cel) (cap : Nat) (w : World) (hn : h.length ≤ 1048576) (hsm : ∀ d ∈ h, d.small) (hr : RowC w w.heap.size a h) :
    Calls Try.prog 26 #[.slice a h.length cap] w fun e w' => ∃ v, e = .returned v ∧ OwnH w' w.heap.size w'.heap.size v h ∧ Below w.heap.size w w' := by
  obtain ⟨i9, hi9, hz90, hz91, hz92⟩ := info_parts info9
  obtain ⟨i28, hi28, hz280, hz281, hz282⟩ := info_parts info28
  obtain ⟨i55, hi55, hz550, hz551, hz552⟩ := info_parts info55
  have HR : Hid (RowC w w.heap.size a h) := hr
  have HSM : Hid (∀ d ∈ h, d.small) := hsm
  clear hr hsm
  go_enter Try.func26, Try.ntmps26
  go_wp2
  go_loopw [3, 4] (fun o iv wr => ∃ (i : Nat), i ≤ h.length ∧ iv = .int .i64 i ∧ OwnH wr w.heap.size wr.heap.size o (h.take i) ∧ Below w.heap.size w wr)
    (fun _ iv _ => h.length - (intOf iv).toNat)
  case atStart =>
    refine ⟨0, Nat.zero_le _, rfl, ?_, (Below.refl _ _).alloc (Nat.le_refl _) _⟩
    rw [List.take_zero]
    exact OwnH.nil (World.ownsRow_made w #[] 0 (Nat.le_refl _) (Nat.zero_le _) rfl) (fun k hk => by have : w.heap.size = k := (by injection hk); subst this; simp) (by simp)
  case round =>
    obtain ⟨i, hi, rfl, ho, hb⟩ := hrel
    obtain ⟨ao, co, rfl, hco⟩ := ho.slice
    have HO : Hid (OwnH wr w.heap.size wr.heap.size (.slice ao (h.take i).length co) (h.take i)) := ho
    have HB : Hid (Below w.heap.size w wr) := hb
    have hli : (h.take i).length = i := by rw [List.length_take]; omega
    by_cases hlt : i < h.length
    · obtain ⟨c, hc⟩ : ∃ c, h[i]? = some c := ⟨_, List.getElem?_eq_getElem hlt⟩
      have HC : Hid (h[i]? = some c) := hc
      obtain ⟨b, of, rfl, hbl, an, cn, av, cv, c0, c1, c2, c3, c4, c5, hrows⟩ := (HR.out.below hb) i c hc
      obtain ⟨k1, k2, k3, k4, k5, k6, k7, k8⟩ := HSM.out c (List.mem_of_getElem? hc)
      obtain ⟨r1, r2, -, -⟩ := hrows
      have hsz := hb.size
      have kx1 : ((wr.alloc (Obj.cells #[.int .i64 c.k, .string c.s, .int .i64 c.a, .int .i64 c.b, .slice an c.names.length cn, .slice av c.vals.length cv] 62)).alloc (Obj.cells #[] 9)).heap[wr.heap.size]? = some (Obj.cells #[.int .i64 c.k, .string c.s, .int .i64 c.a, .int .i64 c.b, .slice an c.names.length cn, .slice av c.vals.length cv] 62) := blk_past (blk_at _ _ _ rfl)
      have ke1 : ((wr.alloc (Obj.cells #[.int .i64 c.k, .string c.s, .int .i64 c.a, .int .i64 c.b, .slice an c.names.length cn, .slice av c.vals.length cv] 62)).alloc (Obj.cells #[] 9)).heap[wr.heap.size + 1]? = some (Obj.cells #[] 9) := blk_at _ _ _ (by simp)
      have hs1 : ((wr.alloc (Obj.cells #[.int .i64 c.k, .string c.s, .int .i64 c.a, .int .i64 c.b, .slice an c.names.length cn, .slice av c.vals.length cv] 62)).alloc (Obj.cells #[] 9)).heap.size = wr.heap.size + 2 := by simp
      have hb1 : Below wr.heap.size wr ((wr.alloc (Obj.cells #[.int .i64 c.k, .string c.s, .int .i64 c.a, .int .i64 c.b, .slice an c.names.length cn, .slice av c.vals.length cv] 62)).alloc (Obj.cells #[] 9)) := ((Below.refl _ _).alloc (Nat.le_refl _) _).alloc (by simp) _
      have ho1 : ((wr.alloc (Obj.cells #[.int .i64 c.k, .string c.s, .int .i64 c.a, .int .i64 c.b, .slice an c.names.length cn, .slice av c.vals.length cv] 62)).alloc (Obj.cells #[] 9)).ownsRow (wr.heap.size + 1) 9 1 (.slice (some ⟨wr.heap.size + 1, 0, none⟩) 0 0) 0 [] := own_empty ke1 (Nat.le_refl _)
      have hn1 := news_S (w := ((wr.alloc (Obj.cells #[.int .i64 c.k, .string c.s, .int .i64 c.a, .int .i64 c.b, .slice an c.names.length cn, .slice av c.vals.length cv] 62)).alloc (Obj.cells #[] 9))) (p := fun b => b < w.heap.size) (r1.keep fun b hb' => ⟨hb', hb1.block b (by omega)⟩)
      have HKX : Hid (((wr.alloc (Obj.cells #[.int .i64 c.k, .string c.s, .int .i64 c.a, .int .i64 c.b, .slice an c.names.length cn, .slice av c.vals.length cv] 62)).alloc (Obj.cells #[] 9)).heap[wr.heap.size]? = some (Obj.cells #[.int .i64 c.k, .string c.s, .int .i64 c.a, .int .i64 c.b, .slice an c.names.length cn, .slice av c.vals.length cv] 62)) := kx1
      have HB1 : Hid (Below wr.heap.size wr ((wr.alloc (Obj.cells #[.int .i64 c.k, .string c.s, .int .i64 c.a, .int .i64 c.b, .slice an c.names.length cn, .slice av c.vals.length cv] 62)).alloc (Obj.cells #[] 9))) := hb1
      have HR2 : Hid (RowVP wr (fun b => b < w.heap.size) av c.vals) := r2
      clear ho hb hc r1 r2 kx1 ke1 hb1 k1 k2 k3
      go_wp2_with (at_builtin; go_loud (refine wpList_append_row rfl _ _ 40 rfl (wr.heap.size + 1) 9 i9 _ 1 16 Try.underlying40 hi9 hz90 hz91 hz92 rfl (by omega) (.slice (some ⟨wr.heap.size + 1, 0, none⟩) 0 0) 0 [] rfl ho1 an c.names.length cn (c.names.map Value.string) rfl (by simp) hn1 (by intro u hu; obtain ⟨z, _, rfl⟩ := List.mem_map.1 hu; rfl) (by unfold maxLen; omega) (by omega) (by omega) ?_; intro nv w2 hown2 hgr2 hat2; refine stop ?_))
      have hs2 : wr.heap.size + 2 ≤ w2.heap.size := by have := hgr2.size; omega
      have kx2 := (hgr2.block wr.heap.size (by omega) (by simp [Value.ownBlock])).trans HKX.out
      have hb2 : Below wr.heap.size wr w2 := HB1.out.grown hgr2 (by omega) (by intro k hk; simp [Value.ownBlock] at hk; omega)
      have hon2 : OwnS w2 (wr.heap.size + 1) nv c.names := by
        rw [Nat.zero_add, List.nil_append] at hown2
        exact hown2
      have HON : Hid (OwnS w2 (wr.heap.size + 1) nv c.names) := hon2
      obtain ⟨an2, cn2, rfl, hcn2⟩ := hon2.slice
      have e4 := cell_blk (j := 4) kx2 rfl
      have f4 := frozen_blk kx2 4
      have e5 := cell_blk (j := 5) kx2 rfl
      have KX2 : Hid (w2.heap[wr.heap.size]? = some (Obj.cells #[.int .i64 c.k, .string c.s, .int .i64 c.a, .int .i64 c.b, .slice an c.names.length cn, .slice av c.vals.length cv] 62)) := kx2
      have HB2 : Hid (Below wr.heap.size wr w2) := hb2
      clear hown2 hgr2 hat2 kx2 hb2 hon2 ho1 hn1 HKX HB1 c0 c1 c2 c3 c4 c5 hs1
      have kx3 : ((w2.setCell ⟨wr.heap.size, 4, none⟩ (.slice an2 c.names.length cn2)).alloc (Obj.cells #[] 29)).heap[wr.heap.size]? = some (Obj.cells #[.int .i64 c.k, .string c.s, .int .i64 c.a, .int .i64 c.b, .slice an2 c.names.length cn2, .slice av c.vals.length cv] 62) := blk_past (heap_setCell_same _ _ _ _ _ _ KX2.out)
      have ke3 : ((w2.setCell ⟨wr.heap.size, 4, none⟩ (.slice an2 c.names.length cn2)).alloc (Obj.cells #[] 29)).heap[w2.heap.size]? = some (Obj.cells #[] 29) := blk_at _ _ _ (by simp)
      have hs3 : ((w2.setCell ⟨wr.heap.size, 4, none⟩ (.slice an2 c.names.length cn2)).alloc (Obj.cells #[] 29)).heap.size = w2.heap.size + 1 := by simp
      have hb3 : Below wr.heap.size wr ((w2.setCell ⟨wr.heap.size, 4, none⟩ (.slice an2 c.names.length cn2)).alloc (Obj.cells #[] 29)) := (HB2.out.setCell (p := ⟨_, _, none⟩) (Nat.le_refl _) _).alloc (by simp; omega) _
      have hk3 : ∀ b, wr.heap.size < b → b < w2.heap.size → ((w2.setCell ⟨wr.heap.size, 4, none⟩ (.slice an2 c.names.length cn2)).alloc (Obj.cells #[] 29)).heap[b]? = w2.heap[b]? := fun b h1 h2 => by
        have e : (w2.setCell ⟨wr.heap.size, 4, none⟩ (.slice an2 c.names.length cn2)).heap[b]? = w2.heap[b]? := heap_setCell_other _ _ _ _ (by show b ≠ wr.heap.size; omega)
        rw [← e]
        have hl : b < (w2.setCell ⟨wr.heap.size, 4, none⟩ (.slice an2 c.names.length cn2)).heap.size := by simpa using h2
        show (Array.push _ _)[b]? = _
        rw [Array.getElem?_push_lt hl, Array.getElem?_eq_getElem hl]
      have ho3 : ((w2.setCell ⟨wr.heap.size, 4, none⟩ (.slice an2 c.names.length cn2)).alloc (Obj.cells #[] 29)).ownsRow (wr.heap.size + 1) 29 3 (.slice (some ⟨w2.heap.size, 0, none⟩) 0 0) 0 [] := own_empty ke3 (by omega)
      have hn3 := news_V (w := ((w2.setCell ⟨wr.heap.size, 4, none⟩ (.slice an2 c.names.length cn2)).alloc (Obj.cells #[] 29))) (p := fun b => b < w.heap.size) (HR2.out.keep fun b hb' => ⟨hb', hb3.block b (by omega)⟩)
      have HON3 : Hid (OwnS ((w2.setCell ⟨wr.heap.size, 4, none⟩ (.slice an2 c.names.length cn2)).alloc (Obj.cells #[] 29)) (wr.heap.size + 1) (.slice an2 c.names.length cn2) c.names) := HON.out.keep fun b hb' => hk3 b (HON.out.blk hb').1 (HON.out.blk hb').2.1
      have e6 := cell_blk (j := 5) kx3 rfl
      have KX3 : Hid (((w2.setCell ⟨wr.heap.size, 4, none⟩ (.slice an2 c.names.length cn2)).alloc (Obj.cells #[] 29)).heap[wr.heap.size]? = some (Obj.cells #[.int .i64 c.k, .string c.s, .int .i64 c.a, .int .i64 c.b, .slice an2 c.names.length cn2, .slice av c.vals.length cv] 62)) := kx3
      have HB3 : Hid (Below wr.heap.size wr ((w2.setCell ⟨wr.heap.size, 4, none⟩ (.slice an2 c.names.length cn2)).alloc (Obj.cells #[] 29))) := hb3
      clear kx3 ke3 hb3 hk3 HB2 KX2 HON
      unfold Hid
      go_wp2_with (at_builtin; go_loud (refine wpList_append_row rfl _ _ 25 rfl (wr.heap.size + 1) 29 i28 _ 3 32 Try.underlying25 hi28 hz280 hz281 hz282 rfl (by omega) (.slice (some ⟨w2.heap.size, 0, none⟩) 0 0) 0 [] rfl ho3 av c.vals.length cv (vcells c.vals) rfl (vcells_len _) hn3 (vcells_one _) (by unfold maxLen; omega) (by omega) (by omega) ?_; intro vv w3 hown3 hgr3 hat3; refine stop ?_))
      have hs4 : w2.heap.size + 1 ≤ w3.heap.size := by have := hgr3.size; omega
      have kx4 := (hgr3.block wr.heap.size (by omega) (by simp [Value.ownBlock]; omega)).trans KX3.out
      have hb4 : Below wr.heap.size wr w3 := HB3.out.grown hgr3 (by omega) (by intro k hk; simp [Value.ownBlock] at hk; omega)
      have hov : OwnV w3 (wr.heap.size + 1) vv c.vals := by
        rw [Nat.zero_add, List.nil_append] at hown3
        exact OwnV.of hown3
      have hon4 : OwnS w3 (wr.heap.size + 1) (.slice an2 c.names.length cn2) c.names := HON3.out.keep fun b hb' => hgr3.block b (HON3.out.blk hb').2.1 fun e => by
        have e : b = w2.heap.size := by simpa [Value.ownBlock] using e
        obtain ⟨_, _, cu, q⟩ := HON3.out.blk hb'
        subst e
        rw [blk_at _ _ _ (by simp)] at q
        simp at q
      obtain ⟨av2, cv2, rfl, hcv2⟩ := hov.slice
      have e4 := cell_blk (j := 5) kx4 rfl
      have f4 := frozen_blk kx4 5
      have g0 := cell_blk (j := 0) kx4 rfl
      have g1 := cell_blk (j := 1) kx4 rfl
      have g2 := cell_blk (j := 2) kx4 rfl
      have g3 := cell_blk (j := 3) kx4 rfl
      have g4 := cell_blk (j := 4) kx4 rfl
      have HOV : Hid (OwnV w3 (wr.heap.size + 1) (.slice av2 c.vals.length cv2) c.vals) := hov
      have HON4 : Hid (OwnS w3 (wr.heap.size + 1) (.slice an2 c.names.length cn2) c.names) := hon4
      have KX4 : Hid (w3.heap[wr.heap.size]? = some (Obj.cells #[.int .i64 c.k, .string c.s, .int .i64 c.a, .int .i64 c.b, .slice an2 c.names.length cn2, .slice av c.vals.length cv] 62)) := kx4
      have HB4 : Hid (Below wr.heap.size wr w3) := hb4
      clear hown3 hgr3 hat3 kx4 hb4 hov hon4 ho3 hn3 KX3 HB3 HON3 hs3 e5 e6
      have ke5 : ((w3.setCell ⟨wr.heap.size, 5, none⟩ (.slice av2 c.vals.length cv2)).alloc (Obj.cells #[.int .i64 c.k, .string c.s, .int .i64 c.a, .int .i64 c.b, .slice an2 c.names.length cn2, .slice av2 c.vals.length cv2] 62)).heap[w3.heap.size]? = some (Obj.cells #[.int .i64 c.k, .string c.s, .int .i64 c.a, .int .i64 c.b, .slice an2 c.names.length cn2, .slice av2 c.vals.length cv2] 62) := blk_at _ _ _ (by simp)
      have hs5 : ((w3.setCell ⟨wr.heap.size, 5, none⟩ (.slice av2 c.vals.length cv2)).alloc (Obj.cells #[.int .i64 c.k, .string c.s, .int .i64 c.a, .int .i64 c.b, .slice an2 c.names.length cn2, .slice av2 c.vals.length cv2] 62)).heap.size = w3.heap.size + 1 := by simp
      have hb5 : Below wr.heap.size wr ((w3.setCell ⟨wr.heap.size, 5, none⟩ (.slice av2 c.vals.length cv2)).alloc (Obj.cells #[.int .i64 c.k, .string c.s, .int .i64 c.a, .int .i64 c.b, .slice an2 c.names.length cn2, .slice av2 c.vals.length cv2] 62)) := (HB4.out.setCell (p := ⟨_, _, none⟩) (Nat.le_refl _) _).alloc (by simp; omega) _
      have hk5 : ∀ b, wr.heap.size < b → b < w3.heap.size → ((w3.setCell ⟨wr.heap.size, 5, none⟩ (.slice av2 c.vals.length cv2)).alloc (Obj.cells #[.int .i64 c.k, .string c.s, .int .i64 c.a, .int .i64 c.b, .slice an2 c.names.length cn2, .slice av2 c.vals.length cv2] 62)).heap[b]? = w3.heap[b]? := fun b h1 h2 => by
        have e : (w3.setCell ⟨wr.heap.size, 5, none⟩ (.slice av2 c.vals.length cv2)).heap[b]? = w3.heap[b]? := heap_setCell_other _ _ _ _ (by show b ≠ wr.heap.size; omega)
        rw [← e]
        have hl : b < (w3.setCell ⟨wr.heap.size, 5, none⟩ (.slice av2 c.vals.length cv2)).heap.size := by simpa using h2
        show (Array.push _ _)[b]? = _
        rw [Array.getElem?_push_lt hl, Array.getElem?_eq_getElem hl]
      have HOH : Hid (OwnH ((w3.setCell ⟨wr.heap.size, 5, none⟩ (.slice av2 c.vals.length cv2)).alloc (Obj.cells #[.int .i64 c.k, .string c.s, .int .i64 c.a, .int .i64 c.b, .slice an2 c.names.length cn2, .slice av2 c.vals.length cv2] 62)) w.heap.size wr.heap.size (.slice ao (h.take i).length co) (h.take i)) := HO.out.keep fun b _ hb' _ => hb5.block b hb'
      obtain ⟨xs, hxs⟩ := HOH.out.1
      have HXS : Hid (((w3.setCell ⟨wr.heap.size, 5, none⟩ (.slice av2 c.vals.length cv2)).alloc (Obj.cells #[.int .i64 c.k, .string c.s, .int .i64 c.a, .int .i64 c.b, .slice an2 c.names.length cn2, .slice av2 c.vals.length cv2] 62)).ownsRow w.heap.size 62 6 (.slice ao (h.take i).length co) (h.take i).length xs) := hxs
      have HXS2 : Hid (((w3.setCell ⟨wr.heap.size, 5, none⟩ (.slice av2 c.vals.length cv2)).alloc (Obj.cells #[.int .i64 c.k, .string c.s, .int .i64 c.a, .int .i64 c.b, .slice an2 c.names.length cn2, .slice av2 c.vals.length cv2] 62)).ownsRow w.heap.size 62 6 (.slice ao i co) i xs) := by have q := hxs; rw [hli] at q; exact q
      have HON5 : Hid (OwnS ((w3.setCell ⟨wr.heap.size, 5, none⟩ (.slice av2 c.vals.length cv2)).alloc (Obj.cells #[.int .i64 c.k, .string c.s, .int .i64 c.a, .int .i64 c.b, .slice an2 c.names.length cn2, .slice av2 c.vals.length cv2] 62)) (wr.heap.size + 1) (.slice an2 c.names.length cn2) c.names) := HON4.out.keep fun b hb' => hk5 b (HON4.out.blk hb').1 (HON4.out.blk hb').2.1
      have HOV5 : Hid (OwnV ((w3.setCell ⟨wr.heap.size, 5, none⟩ (.slice av2 c.vals.length cv2)).alloc (Obj.cells #[.int .i64 c.k, .string c.s, .int .i64 c.a, .int .i64 c.b, .slice an2 c.names.length cn2, .slice av2 c.vals.length cv2] 62)) (wr.heap.size + 1) (.slice av2 c.vals.length cv2) c.vals) := HOV.out.keep fun b hb' => hk5 b (HOV.out.blk hb').1 (HOV.out.blk hb').2.1
      have HB5 : Hid (Below wr.heap.size wr ((w3.setCell ⟨wr.heap.size, 5, none⟩ (.slice av2 c.vals.length cv2)).alloc (Obj.cells #[.int .i64 c.k, .string c.s, .int .i64 c.a, .int .i64 c.b, .slice an2 c.names.length cn2, .slice av2 c.vals.length cv2] 62))) := hb5
      clear hb5 hk5 HON4 HOV HB4 KX4 hxs
      unfold Hid
      go_wp2_with (at_builtin; go_loud (refine wpList_append_row rfl _ _ 24 rfl w.heap.size 62 i55 _ 6 88 Try.underlying24 hi55 hz550 hz551 hz552 rfl (by omega) (.slice ao i co) i xs rfl HXS2.out (some ⟨w3.heap.size, 0, none⟩) 1 1 [.int .i64 c.k, .string c.s, .int .i64 c.a, .int .i64 c.b, (.slice an2 c.names.length cn2), (.slice av2 c.vals.length cv2)] rfl rfl (fun _ => ⟨_, rfl, World.news_of_block ke5⟩) (by intro u hu; simp at hu; rcases hu with rfl | rfl | rfl | rfl | rfl | rfl <;> rfl) (by unfold maxLen; omega) (by omega) (by omega) ?_; intro v4 w4 hown4 hgr4 hat4))
      have hTk : h.take (i + 1) = h.take i ++ [c] := by rw [List.take_add_one, HC.out]; rfl
      have hfin : OwnH w4 w.heap.size w4.heap.size v4 (h.take i ++ [c]) := HOH.out.push HXS.out (by rw [hli]; exact hown4) (by rw [hli]; exact hgr4) HON5.out HOV5.out (by omega) (by omega)
      have HF : Hid (OwnH w4 w.heap.size w4.heap.size v4 (h.take (i + 1))) := by rw [hTk]; exact hfin
      have HBF : Hid (Below w.heap.size w w4) := HB.out.trans ((HB5.out.mono hsz).grown hgr4 (by omega) fun k hk => (own_blk HXS2.out hk).1)
      clear hfin hTk hown4 hgr4 hat4
      go_roundw
      case rel => exact ⟨i + 1, by omega, by go_num, HF.out, HBF.out⟩
      case measure => simp [intOf]; omega
    · have hlt' : decide ((i : Int) < (h.length : Int)) = false := by simp; omega
      obtain rfl : i = h.length := by omega
      go_wp2
      go_ret
      refine ⟨_, rfl, ?_, hb⟩
      rw [List.take_length] at HO
      rw [List.take_length]
      exact HO.out
end Go.Proofs.Ytngelfohpkpekaa
