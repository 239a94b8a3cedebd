/- The program's primitives: a new pair. -/
import Derived.Test.YtngelfohpkpekaaPib
set_option linter.unusedVariables false
namespace Go.Proofs.Ytngelfohpkpekaa
open Go.ChangeShapes Go.WideShapes Go.ChangeAt Go.RowKit
/-- The blocks that a heap lies in. -/
def UsesH (w : World) (v : Value) (h : List Cel) (b : Nat) : Prop := v.ownBlock = some b ∨ ∃ j c g nv vv, h[j]? = some c ∧ v.ownBlock = some g ∧ w.cell? ⟨g, j * 6 + 4, none⟩ = some nv ∧ w.cell? ⟨g, j * 6 + 5, none⟩ = some vv ∧ (nv.ownBlock = some b ∨ vv.ownBlock = some b)
theorem UsesH.of_same {w w' : World} {v : Value} {h : List Cel} {b : Nat} (hu : UsesH w' v h b) (hs : ∀ g, v.ownBlock = some g → w'.heap[g]? = w.heap[g]?) : UsesH w v h b := by
  rcases hu with h1 | ⟨j, c, g, nv, vv, h1, h2, h3, h4, h5⟩
  · exact .inl h1
  · have e := hs g h2
    exact .inr ⟨j, c, g, nv, vv, h1, h2, (World.cell?_of_block (w := w) (a := ⟨g, _, none⟩) e).symm.trans h3, (World.cell?_of_block (w := w) (a := ⟨g, _, none⟩) e).symm.trans h4, h5⟩
theorem OwnH.keepU {w w' : World} {B T : Nat} {v : Value} {h : List Cel} (ho : OwnH w B T v h) (hk : ∀ b, UsesH w v h b → w'.heap[b]? = w.heap[b]?) : OwnH w' B T v h := by
  obtain ⟨⟨xs, h1⟩, h2, β, b0, bm, bt, hc⟩ := ho
  refine ⟨⟨xs, own_keep h1 fun b hb => hk b (.inl hb)⟩, h2, β, b0, bm, bt, fun g cap hv j c hj => ?_⟩
  have e := hk g (.inl (by rw [hv]; rfl))
  obtain ⟨nv, vv, c0, c1, c2, c3, c4, c5, hs, hvv, l1, l2⟩ := hc g cap hv j c hj
  have f : ∀ {o v}, w.cell? ⟨g, o, none⟩ = some v → w'.cell? ⟨g, o, none⟩ = some v := fun {o v} h => (World.cell?_of_block (w := w) (a := ⟨g, o, none⟩) e).trans h
  exact ⟨nv, vv, f c0, f c1, f c2, f c3, f c4, f c5, hs.keep fun b hb => hk b (.inr ⟨j, c, g, nv, vv, hj, by rw [hv]; rfl, c4, c5, .inl hb⟩), hvv.keep fun b hb => hk b (.inr ⟨j, c, g, nv, vv, hj, by rw [hv]; rfl, c4, c5, .inr hb⟩), l1, l2⟩
/-- Where the cells of a heap lie that has one cell more. -/
theorem OwnH.uses {w : World} {B T b : Nat} {v : Value} {h : List Cel} (ho : OwnH w B T v h) (hu : UsesH w v h b) : B ≤ b ∧ b < T := by
  obtain ⟨⟨xs, h1⟩, h2, β, b0, bm, bt, hc⟩ := ho
  rcases hu with e | ⟨j, c, g, nv, vv, hj, hg, c4, c5, e⟩
  · exact ⟨(own_blk h1 e).1, h2 b e⟩
  · obtain ⟨_, _, cur, cap, rfl, _⟩ := own_blk h1 hg
    obtain ⟨nv', vv', _, _, _, _, d4, d5, hs, hvv, l1, l2⟩ := hc g cap rfl j c hj
    rw [c4] at d4
    rw [c5] at d5
    obtain rfl := Option.some.inj d4
    obtain rfl := Option.some.inj d5
    have hjl := (List.getElem?_eq_some_iff.1 hj).1
    have q1 : β 0 ≤ β j := beta_mono bm (by omega)
    have q2 : β (j + 1) ≤ β h.length := beta_mono bm (by omega)
    rcases e with e | e
    · have := (hs.blk e).1; have := l1 b e; omega
    · have := (hvv.blk e).1; have := l2 b e; omega
theorem push_uses {w w' : World} {B T b : Nat} {v v' nv vv : Value} {h : List Cel} {c : Cel} {xs : List Value} (ho : OwnH w B T v h) (hx : w.ownsRow B 62 6 v h.length xs)
    (hx' : w'.ownsRow B 62 6 v' (h.length + 1) (xs ++ [.int .i64 c.k, .string c.s, .int .i64 c.a, .int .i64 c.b, nv, vv])) (hu : UsesH w' v' (h ++ [c]) b) : b < T ∨ v'.ownBlock = some b ∨ nv.ownBlock = some b ∨ vv.ownBlock = some b := by
  have hxl : xs.length = h.length * 6 := hx.1
  rcases hu with e | ⟨j, d, g, nv', vv', hj, hg, c4, c5, e⟩
  · exact .inr (.inl e)
  · obtain ⟨_, _, cur, cap, rfl, _⟩ := own_blk hx' hg
    have hjl : j < h.length + 1 := by have := (List.getElem?_eq_some_iff.1 hj).1; simpa using this
    rw [own_cell hx' (by omega)] at c4 c5
    by_cases hlt : j < h.length
    · rw [List.getElem?_append_left (by omega)] at c4 c5
      rw [List.getElem?_append_left hlt] at hj
      cases hvb : v.ownBlock with
      | none =>
        obtain ⟨_, ⟨e1, e2⟩ | ⟨g', cap', cur, e1, _⟩⟩ := hx
        · omega
        · rw [e1] at hvb; cases hvb
      | some k =>
        obtain ⟨_, _, cur2, cap2, e1, _⟩ := own_blk hx hvb
        refine .inl (ho.uses (b := b) (.inr ⟨j, d, k, nv', vv', hj, hvb, ?_, ?_, e⟩)).2
        · subst e1
          rw [own_cell hx (by omega)]
          exact c4
        · subst e1
          rw [own_cell hx (by omega)]
          exact c5
    · obtain rfl : j = h.length := by omega
      rw [List.getElem?_append_right (by omega)] at c4 c5
      rw [show h.length * 6 + 4 - xs.length = 4 by omega] at c4
      rw [show h.length * 6 + 5 - xs.length = 5 by omega] at c5
      obtain rfl := Option.some.inj c4
      obtain rfl := Option.some.inj c5
      rcases e with e | e
      · exact .inr (.inr (.inl e))
      · exact .inr (.inr (.inr e))
theorem OwnV.slice2 {w : World} {B : Nat} {v : Value} {x y : Val} (h : OwnV w B v [x, y]) : ∃ a c, v = .slice a 2 c := by
  obtain ⟨a, c, e, _⟩ := h.slice
  exact ⟨a, c, e⟩
theorem step_call {ops : Array Oper} {o : Oper} {a : Act} {w : World} {K : Act → World → Prop} {Q : Exit → Act → World → Prop} {E : Prop} (hgd : o.guard = none) (x : Operand) (t : TypeId)
    (ho : o.op = .call { callee := .value (.func 37), args := #[x], argTypes := #[t] }) (v : Value) (hx : a.eval x = v) (R : Ending → World → Prop) (hc : Calls Try.prog 37 #[v] w R) (h : ∀ e w', R e w' → ∃ u, e = .returned u ∧ K (a.put o.dst u) w') :
    if Region.wanted o (yielded ops a.tmps) = true then Oper.wp Try.prog o a w K Q else E := by
  have hw : Region.wanted o (yielded ops a.tmps) = true := by simp [Region.wanted, hgd]
  rw [if_pos hw]
  unfold Oper.wp
  have hf : a.eval (Operand.func 37) = .func (.func 37) #[] #[] := rfl
  simp [execOp, ho, resolve, invoke, hx, hf, Deferred.ofValue]
  refine hc.mono fun e w' hr => ?_
  obtain ⟨u, rfl, hk⟩ := h e w' hr
  exact hk
theorem alloc_same (W : World) (o : Obj) {b : Nat} (h : b < W.heap.size) : (W.alloc o).heap[b]? = W.heap[b]? := by
  show (Array.push _ _)[b]? = _
  rw [Array.getElem?_push_lt h, Array.getElem?_eq_getElem h]
/-- What cons leaves where there is room. -/
def CoPost (B T bp : Nat) (aa : Option Addr) (ca : Nat) (h : List Cel) (x y : Val) (w : World) (e : Ending) (w' : World) : Prop :=
  e = .returned (.tuple #[.agg #[.int .i64 5, .int .i64 (h.length : Int), .string ⟨#[]⟩], .int .i64 0]) ∧ ∃ ah' ch', w'.heap[bp]? = some (.cells #[.slice ah' (h.length + 1) ch', .slice aa 2 ca] 52 (0, 0)) ∧
    OwnH w' B w'.heap.size (.slice ah' (h.length + 1) ch') (h ++ [consC x y]) ∧ (∀ b, UsesH w' (.slice ah' (h.length + 1) ch') (h ++ [consC x y]) b → b < T ∨ w.heap.size < b) ∧ (∀ b, T ≤ b → b < w.heap.size → b ≠ bp → w'.heap[b]? = w.heap[b]?) ∧ Below B w w'
set_option maxRecDepth 100000 in
set_option maxHeartbeats 4000000 in
theorem cons_full (B T bp : Nat) (ah : Option Addr) (ch : Nat) (aa : Option Addr) (ca : Nat) (h : List Cel) (x y : Val) (w : World) (hP : w.heap[bp]? = some (.cells #[.slice ah h.length ch, .slice aa 2 ca] 52 (0, 0))) (hr : RowV w w.heap.size aa [x, y]) (hl : h.length = 300) : Calls Try.prog 62 #[.pointer (some ⟨bp, 0, none⟩)] w fun e w' => VcPost (zv, 7) w e w' := by
  have p0 : w.cell? ⟨bp, 0, none⟩ = some (.slice ah h.length ch) := cell_blk (j := 0) hP rfl
  have hbp : bp < w.heap.size := (Array.getElem?_eq_some_iff.1 hP).1
  have q : ((h.length : Int) == 300) = true := by rw [hl]; rfl
  clear hP hr hl
  go_enter Try.func62, Try.ntmps62
  go_wp2
  refine bodyPost_ret (res_ct rfl _ _ w.heap.size (.int .i64 0) (.int .i64 0) (.string ⟨#[]⟩) rfl (blk_at _ _ _ rfl)) rfl ?_
  exact ⟨rfl, (Below.refl _ _).alloc (Nat.le_refl _) _⟩
set_option maxRecDepth 100000 in
set_option maxHeartbeats 4000000 in
theorem cons_any (B T bp : Nat) (ah : Option Addr) (ch : Nat) (aa : Option Addr) (ca : Nat) (h : List Cel) (x y : Val) (w : World) (hP : w.heap[bp]? = some (.cells #[.slice ah h.length ch, .slice aa 2 ca] 52 (0, 0))) (hr : RowV w w.heap.size aa [x, y]) (hl : h.length < 300) (hsx : x.s.size ≤ 1048576) (hsy : y.s.size ≤ 1048576) (ho : OwnH w B T (.slice ah h.length ch) h) (hT : T ≤ bp) (hBT : B ≤ T) : Calls Try.prog 62 #[.pointer (some ⟨bp, 0, none⟩)] w fun e w' => CoPost B T bp aa ca h x y w e w' := by
  obtain ⟨i55, hi55, hz550, hz551, hz552⟩ := info_parts info55
  have p0 : w.cell? ⟨bp, 0, none⟩ = some (.slice ah h.length ch) := cell_blk (j := 0) hP rfl
  have p1 : w.cell? ⟨bp, 1, none⟩ = some (.slice aa 2 ca) := cell_blk (j := 1) hP rfl
  have hbp : bp < w.heap.size := (Array.getElem?_eq_some_iff.1 hP).1
  have q : ((h.length : Int) == 300) = false := by rw [beq_eq_false_iff_ne]; omega
  have hbA : Below w.heap.size w ((w.alloc (Obj.cells #[.int .i64 0, .int .i64 0, .string ⟨#[]⟩] 29)).alloc (Obj.cells #[.int .i64 5, .int .i64 (h.length : Int), .string ⟨#[]⟩] 29)) := ((Below.refl _ _).alloc (Nat.le_refl _) _).alloc (by simp) _
  have hsA : ((w.alloc (Obj.cells #[.int .i64 0, .int .i64 0, .string ⟨#[]⟩] 29)).alloc (Obj.cells #[.int .i64 5, .int .i64 (h.length : Int), .string ⟨#[]⟩] 29)).heap.size = w.heap.size + 1 + 1 := by simp
  have kzA : ((w.alloc (Obj.cells #[.int .i64 0, .int .i64 0, .string ⟨#[]⟩] 29)).alloc (Obj.cells #[.int .i64 5, .int .i64 (h.length : Int), .string ⟨#[]⟩] 29)).heap[w.heap.size]? = some (Obj.cells #[.int .i64 0, .int .i64 0, .string ⟨#[]⟩] 29) := blk_past (blk_at _ _ _ rfl)
  have kvA : ((w.alloc (Obj.cells #[.int .i64 0, .int .i64 0, .string ⟨#[]⟩] 29)).alloc (Obj.cells #[.int .i64 5, .int .i64 (h.length : Int), .string ⟨#[]⟩] 29)).heap[w.heap.size + 1]? = some (Obj.cells #[.int .i64 5, .int .i64 (h.length : Int), .string ⟨#[]⟩] 29) := blk_at _ _ _ (by simp)
  have HCV : Hid (Calls Try.prog 37 #[.slice aa 2 ca] ((w.alloc (Obj.cells #[.int .i64 0, .int .i64 0, .string ⟨#[]⟩] 29)).alloc (Obj.cells #[.int .i64 5, .int .i64 (h.length : Int), .string ⟨#[]⟩] 29)).drew fun e w' => ∃ v, e = .returned v ∧ OwnV w' ((w.alloc (Obj.cells #[.int .i64 0, .int .i64 0, .string ⟨#[]⟩] 29)).alloc (Obj.cells #[.int .i64 5, .int .i64 (h.length : Int), .string ⟨#[]⟩] 29)).drew.heap.size v [x, y] ∧ Below ((w.alloc (Obj.cells #[.int .i64 0, .int .i64 0, .string ⟨#[]⟩] 29)).alloc (Obj.cells #[.int .i64 5, .int .i64 (h.length : Int), .string ⟨#[]⟩] 29)).drew.heap.size ((w.alloc (Obj.cells #[.int .i64 0, .int .i64 0, .string ⟨#[]⟩] 29)).alloc (Obj.cells #[.int .i64 5, .int .i64 (h.length : Int), .string ⟨#[]⟩] 29)).drew w') := copyValues_any aa [x, y] ca _ (by simp) (by intro v hv; simp at hv; rcases hv with rfl | rfl; exact hsx; exact hsy) ((hr.below (below_drewN hbA 1)).mono (below_drewN hbA 1).size)
  have HO : Hid (OwnH w B T (.slice ah h.length ch) h) := ho
  have KP : Hid (w.heap[bp]? = some (.cells #[.slice ah h.length ch, .slice aa 2 ca] 52 (0, 0))) := hP
  clear hP hr ho
  obtain ⟨xs, hxs⟩ := HO.out.1
  have hown : ∀ b, (Value.slice ah h.length ch).ownBlock = some b → b < T ∧ b < w.heap.size := fun b hb => ⟨(HO.out.lt hb).2.1, by have := (HO.out.lt hb).2.1; omega⟩
  have hone : ∀ av cv, ∀ u ∈ [Value.int .i64 1, .string ⟨#[]⟩, .int .i64 0, .int .i64 0, .slice none 0 0, .slice av 2 cv], u.oneCell' = true := by
    intro av cv u hu
    simp at hu
    rcases hu with rfl | rfl | rfl | rfl | rfl <;> rfl
  have a0 := cell_keep p0 hbA hbp
  have a1 := cell_keep p1 hbA hbp
  go_enter Try.func62, Try.ntmps62
  go_wp2_with fail
  go_region_law (first
      | (refine step_append_lies _ rfl _ _ 24 rfl B 62 i55 _ 6 88 Try.underlying24 hi55 hz550 hz551 hz552 rfl (by omega) (.slice ah h.length ch) h.length xs rfl hxs3 ⟨w1.heap.size, 0, none⟩ 1 1 [.int .i64 1, .string ⟨#[]⟩, .int .i64 0, .int .i64 0, .slice none 0 0, .slice av 2 cv] rfl rfl (World.news_of_block ke3) (hone _ _) (by omega) (by unfold maxLen; omega) (by omega) hB3 (w1.heap.size + 1) hs3 ?_; intro g2 c2 w4 hown4 hgr4 hat4 hlt4; have kp4 : w4.heap[bp]? = some (.cells #[.slice ah h.length ch, .slice aa 2 ca] 52 (0, 0)) := (hgr4.block bp (by omega) (fun e => by have := (hown bp e.symm).1; omega)).trans kp3; have t0 := cell_blk (j := 0) kp4 rfl; have t1 := frozen_blk kp4 0)
      | (refine step_call (by rfl) _ _ (by rfl) _ (by rfl) _ HCV.out ?_; rintro e w1 ⟨vv, rfl, hov, hb1⟩; obtain ⟨av, cv, rfl⟩ := hov.slice2; refine ⟨_, rfl, ?_⟩; have hbw1 : Below w.heap.size w w1 := (below_drewN hbA 1).trans (hb1.mono (below_drewN hbA 1).size); have b0 := cell_keep p0 hbw1 hbp; have b1 := cell_keep p1 hbw1 hbp; have hbw3 : Below w.heap.size w (w1.alloc (Obj.cells #[.int .i64 1, .string ⟨#[]⟩, .int .i64 0, .int .i64 0, .slice none 0 0, .slice av 2 cv] 62)) := hbw1.alloc hbw1.size _; have d0 := cell_keep p0 hbw3 hbp; have d1 := cell_keep p1 hbw3 hbp; have hxs3 : (w1.alloc (Obj.cells #[.int .i64 1, .string ⟨#[]⟩, .int .i64 0, .int .i64 0, .slice none 0 0, .slice av 2 cv] 62)).ownsRow B 62 6 (.slice ah h.length ch) h.length xs := own_keep hxs fun b hb => hbw3.block b (hown b hb).2; have hs3 : (w1.alloc (Obj.cells #[.int .i64 1, .string ⟨#[]⟩, .int .i64 0, .int .i64 0, .slice none 0 0, .slice av 2 cv] 62)).heap.size = w1.heap.size + 1 := (by simp); have ke3 : (w1.alloc (Obj.cells #[.int .i64 1, .string ⟨#[]⟩, .int .i64 0, .int .i64 0, .slice none 0 0, .slice av 2 cv] 62)).heap[w1.heap.size]? = some (Obj.cells #[.int .i64 1, .string ⟨#[]⟩, .int .i64 0, .int .i64 0, .slice none 0 0, .slice av 2 cv] 62) := (blk_at _ _ _ rfl); have kp3 : (w1.alloc (Obj.cells #[.int .i64 1, .string ⟨#[]⟩, .int .i64 0, .int .i64 0, .slice none 0 0, .slice av 2 cv] 62)).heap[bp]? = some (.cells #[.slice ah h.length ch, .slice aa 2 ca] 52 (0, 0)) := (hbw3.block bp hbp).trans KP.out; have hsw1 : w.heap.size + 1 + 1 ≤ w1.heap.size := Nat.le_trans (Nat.le_of_eq hsA.symm) hb1.size; have hB3 : B ≤ (w1.alloc (Obj.cells #[.int .i64 1, .string ⟨#[]⟩, .int .i64 0, .int .i64 0, .slice none 0 0, .slice av 2 cv] 62)).heap.size := (by rw [hs3]; omega)))
  all_goals
    have kz1 : w1.heap[w.heap.size]? = some (Obj.cells #[.int .i64 0, .int .i64 0, .string ⟨#[]⟩] 29) := (hb1.block w.heap.size (by show w.heap.size < ((w.heap.push _).push _).size; rw [Array.size_push, Array.size_push]; omega)).trans kzA
    have kv1 : w1.heap[w.heap.size + 1]? = some (Obj.cells #[.int .i64 5, .int .i64 (h.length : Int), .string ⟨#[]⟩] 29) := (hb1.block (w.heap.size + 1) (by show w.heap.size + 1 < ((w.heap.push _).push _).size; rw [Array.size_push, Array.size_push]; omega)).trans kvA
    have hne : ∀ b, T ≤ b → some b ≠ (Value.slice ah h.length ch).ownBlock := fun b hb e => by have := (hown b e.symm).1; omega
    have kz4 : w4.heap[w.heap.size]? = some (Obj.cells #[.int .i64 0, .int .i64 0, .string ⟨#[]⟩] 29) := (hgr4.block _ (by omega) (hne _ (by omega))).trans (blk_past kz1)
    have kv4 : w4.heap[w.heap.size + 1]? = some (Obj.cells #[.int .i64 5, .int .i64 (h.length : Int), .string ⟨#[]⟩] 29) := (hgr4.block _ (by omega) (hne _ (by omega))).trans (blk_past kv1)
    have hsz4 := hgr4.size
    have hov2 : OwnV w1 (w.heap.size + 1 + 1) (.slice av 2 cv) [x, y] := by
      have q : ((w.alloc (Obj.cells #[.int .i64 0, .int .i64 0, .string ⟨#[]⟩] 29)).alloc (Obj.cells #[.int .i64 5, .int .i64 (h.length : Int), .string ⟨#[]⟩] 29)).drew.heap.size = w.heap.size + 1 + 1 := hsA
      rw [q] at hov
      exact hov
    have hov3 : OwnV (w1.alloc (Obj.cells #[.int .i64 1, .string ⟨#[]⟩, .int .i64 0, .int .i64 0, .slice none 0 0, .slice av 2 cv] 62)) (w.heap.size + 1 + 1) (.slice av 2 cv) [x, y] := hov2.keep fun b hb => alloc_same _ _ (hov2.blk hb).2.1
    have hO3 : OwnH (w1.alloc (Obj.cells #[.int .i64 1, .string ⟨#[]⟩, .int .i64 0, .int .i64 0, .slice none 0 0, .slice av 2 cv] 62)) B T (.slice ah h.length ch) h := HO.out.keep fun b _ hb _ => hbw3.block b (by omega)
    have hO4 : OwnH w4 B w4.heap.size (.slice (some ⟨g2, 0, none⟩) (h.length + 1) c2) (h ++ [consC x y]) := hO3.push (c := consC x y) (lo := w.heap.size + 1 + 1) hxs3 hown4 hgr4 ⟨rfl, .inl ⟨rfl, rfl⟩⟩ hov3 (by omega) (by omega)
    have hU4 : ∀ b, UsesH w4 (.slice (some ⟨g2, 0, none⟩) (h.length + 1) c2) (h ++ [consC x y]) b → b < T ∨ w.heap.size < b := fun b hb => by
      rcases push_uses (c := consC x y) hO3 hxs3 hown4 hb with q | q | q | q
      · exact .inl q
      · have e : g2 = b := by injection q
        subst e
        rcases hat4 with r | r
        · exact .inl (hown g2 r).1
        · right; omega
      · cases q
      · right; have := (hov3.blk q).1; omega
    have hB4 : Below B w w4 := (hbw3.mono (by omega)).grown hgr4 (by omega) fun k hk => (HO.out.lt hk).1
    have hM4 : ∀ b, T ≤ b → b < w.heap.size → w4.heap[b]? = w.heap[b]? := fun b h1 h2 => (hgr4.block b (by omega) (hne b h1)).trans (hbw3.block b h2)
    have KZ4 : Hid (w4.heap[w.heap.size]? = some (Obj.cells #[.int .i64 0, .int .i64 0, .string ⟨#[]⟩] 29)) := kz4
    have KP4 : Hid (w4.heap[bp]? = some (.cells #[.slice ah h.length ch, .slice aa 2 ca] 52 (0, 0))) := kp4
    have HO4 : Hid (OwnH w4 B w4.heap.size (.slice (some ⟨g2, 0, none⟩) (h.length + 1) c2) (h ++ [consC x y])) := hO4
    have HU4 : Hid (∀ b, UsesH w4 (.slice (some ⟨g2, 0, none⟩) (h.length + 1) c2) (h ++ [consC x y]) b → b < T ∨ w.heap.size < b) := hU4
    have HB4 : Hid (Below B w w4) := hB4
    have HM4 : Hid (∀ b, T ≤ b → b < w.heap.size → w4.heap[b]? = w.heap[b]?) := hM4
    have kzF : (w4.setCell ⟨bp, 0, none⟩ (.slice (some ⟨g2, 0, none⟩) (h.length + 1) c2)).heap[w.heap.size]? = some (Obj.cells #[.int .i64 0, .int .i64 0, .string ⟨#[]⟩] 29) := (heap_setCell_other _ _ _ _ (by show w.heap.size ≠ bp; omega)).trans kz4
    have kvF : (w4.setCell ⟨bp, 0, none⟩ (.slice (some ⟨g2, 0, none⟩) (h.length + 1) c2)).heap[w.heap.size + 1]? = some (Obj.cells #[.int .i64 5, .int .i64 (h.length : Int), .string ⟨#[]⟩] 29) := (heap_setCell_other _ _ _ _ (by show w.heap.size + 1 ≠ bp; omega)).trans kv4
    have KZF : Hid ((w4.setCell ⟨bp, 0, none⟩ (.slice (some ⟨g2, 0, none⟩) (h.length + 1) c2)).heap[w.heap.size]? = some (Obj.cells #[.int .i64 0, .int .i64 0, .string ⟨#[]⟩] 29)) := kzF
    have c0 := cell_blk (j := 0) kzF rfl
    have c1 := cell_blk (j := 1) kzF rfl
    have c3 := cell_blk (j := 2) kzF rfl
    have f0 := frozen_blk kzF 0
    have f1 := frozen_blk kzF 1
    have f2 := frozen_blk kzF 2
    have v0 := cell_blk (j := 0) kvF rfl
    have v1 := cell_blk (j := 1) kvF rfl
    have v2 := cell_blk (j := 2) kvF rfl
    clear kz1 kv1 kz4 kv4 kzF kvF hov hov2 hov3 hO3 hO4 hU4 hB4 hM4 hown4 hgr4 hat4 t0 t1 kp4 hxs3 ke3 kp3 hb1 hbw1 hbw3 b0 b1 d0 d1
    go_wp2
    refine bodyPost_ret (res_ct rfl _ _ w.heap.size _ _ _ rfl (put_blk _ _ _ KZF.out)) rfl ?_
    have oth : ∀ (u0 u1 u2 : Value) b, b ≠ w.heap.size → b ≠ bp → ((((w4.setCell ⟨bp, 0, none⟩ (.slice (some ⟨g2, 0, none⟩) (h.length + 1) c2)).setCell ⟨w.heap.size, 0, none⟩ u0).setCell ⟨w.heap.size, 1, none⟩ u1).setCell ⟨w.heap.size, 2, none⟩ u2).heap[b]? = w4.heap[b]? := fun u0 u1 u2 b hb hb2 => (heap_setCell_other _ _ _ _ hb).trans ((heap_setCell_other _ _ _ _ hb).trans ((heap_setCell_other _ _ _ _ hb).trans (heap_setCell_other _ _ _ _ hb2)))
    have okU : ∀ b, UsesH w4 (.slice (some ⟨g2, 0, none⟩) (h.length + 1) c2) (h ++ [consC x y]) b → b ≠ w.heap.size ∧ b ≠ bp := fun b hb => by
      rcases HU4.out b hb with q | q <;> omega
    refine ⟨rfl, some ⟨g2, 0, none⟩, c2, ?_, (HO4.out.keepU fun b hb => oth _ _ _ b (okU b hb).1 (okU b hb).2).weak (Nat.le_refl _) (by simp), fun b hb => HU4.out b (hb.of_same fun g hg => oth _ _ _ g (okU g (.inl hg)).1 (okU g (.inl hg)).2), fun b h1 h2 h3 => (oth _ _ _ b (by omega) h3).trans (HM4.out b h1 h2), put_below (HB4.out.setCell (p := ⟨_, _, none⟩) (by show B ≤ bp; omega) _) (by omega) _ _ _⟩
    have e1 : ∀ (W : World) (u0 u1 u2 : Value), (((W.setCell ⟨w.heap.size, 0, none⟩ u0).setCell ⟨w.heap.size, 1, none⟩ u1).setCell ⟨w.heap.size, 2, none⟩ u2).heap[bp]? = W.heap[bp]? := fun W u0 u1 u2 => by
      have hb : bp ≠ w.heap.size := by omega
      exact (heap_setCell_other _ _ _ _ hb).trans ((heap_setCell_other _ _ _ _ hb).trans (heap_setCell_other _ _ _ _ hb))
    exact (e1 _ _ _ _).trans (heap_setCell_same _ _ _ _ _ _ KP4.out)
end Go.Proofs.Ytngelfohpkpekaa
