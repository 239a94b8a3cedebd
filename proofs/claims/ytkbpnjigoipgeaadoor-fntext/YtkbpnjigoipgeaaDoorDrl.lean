/- Draws: a heap and a value that may be a list in it. -/
import Derived.Test.YtkbpnjigoipgeaaDoorDrt
import Derived.Deep.RegionLaw
import Derived.Deep.AppendLies
set_option linter.unusedVariables false
namespace Go.Proofs.YtkbpnjigoipgeaaDoor
open Go.ChangeShapes Go.WideShapes Go.ChangeAt Go.RowKit
open Cu (Cw Code1 CurS CodeAt)
/-- A row of cells behind the cursor and beside block V. -/
def RX (W : World) (c V : Nat) (a : Option Addr) (h : List Cel) : Prop := ∀ i x, h[i]? = some x → ∃ b o, a = some ⟨b, o, none⟩ ∧ c < b ∧ b < W.heap.size ∧ b ≠ V ∧ CelAt W (fun b => c < b ∧ b < W.heap.size ∧ NT W b ∧ b ≠ V) b (o + i * 6) x
theorem RX.of {W W' : World} {c V : Nat} {a : Option Addr} {h : List Cel} (hr : RowCc W c a h) (hV : W.heap.size ≤ V) (hk : ∀ b, c < b → b < W.heap.size → W'.heap[b]? = W.heap[b]?) (hs : W.heap.size ≤ W'.heap.size) : RX W' c V a h := fun i x hx => by
  obtain ⟨b, o, h1, h2, h3, h4⟩ := hr i x hx
  exact ⟨b, o, h1, h2, by omega, by omega, h4.keep (hk b h2 h3) fun b' hb' => ⟨⟨hb'.1, by have := hb'.2.1; omega, hb'.2.2.keep (hk b' hb'.1 hb'.2.1), by have := hb'.2.1; omega⟩, hk b' hb'.1 hb'.2.1⟩⟩
theorem RX.keep {W W' : World} {c V : Nat} {a : Option Addr} {h : List Cel} (hr : RX W c V a h) (hk : ∀ b, c < b → b ≠ V → b < W.heap.size → W'.heap[b]? = W.heap[b]?) (hs : W.heap.size ≤ W'.heap.size) : RX W' c V a h := fun i x hx => by
  obtain ⟨b, o, h1, h2, h3, hv, h4⟩ := hr i x hx
  exact ⟨b, o, h1, h2, by omega, hv, h4.keep (hk b h2 hv h3) fun b' hb' => ⟨⟨hb'.1, by have := hb'.2.1; omega, hb'.2.2.1.keep (hk b' hb'.1 hb'.2.2.2 hb'.2.1), hb'.2.2.2⟩, hk b' hb'.1 hb'.2.2.2 hb'.2.1⟩⟩
theorem RX.row {W : World} {c V : Nat} {a : Option Addr} {h : List Cel} (hr : RX W c V a h) : RowC W W.heap.size a h := fun i x hx => by
  obtain ⟨b, o, h1, h2, h3, hv, h4⟩ := hr i x hx
  exact ⟨b, o, h1, h3, h4.keep rfl fun b' hb' => ⟨hb'.2.1, rfl⟩⟩
theorem RX.kinds {W : World} {c V : Nat} {a : Option Addr} {h : List Cel} (hr : RX W c V a h) : KindsAt W c a h := fun i x hx => by
  obtain ⟨b, o, h1, h2, h3, hv, an, cn, av, cv, h4, _⟩ := hr i x hx
  exact ⟨b, o, h1, by omega, h3, h4⟩
/-- One pair more. -/
theorem RX.push {U U' : World} {B c V b n cap g' cap' : Nat} {a : Option Addr} {h : List Cel} {xs : List Value} {p q : Val} (hr : RX U c V a h) (hx : U.ownsRow B 40 6 (.slice a n cap) h.length xs)
    (hx' : U'.ownsRow B 40 6 (.slice (some ⟨g', 0, none⟩) (h.length + 1) cap') (h.length + 1) (xs ++ [.int .i64 1, .string ⟨#[]⟩, .int .i64 0, .int .i64 0, .slice none 0 0, .slice (some ⟨b, 0, none⟩) 2 2])) (hg : U.grownBy U' (Value.slice a n cap).ownBlock)
    (hB : c < B) (hgV : g' ≠ V) (hbc : c < b) (hbV : b ≠ V) (hb : U.heap[b]? = some (.cells #[.int .i64 p.k, .int .i64 p.n, .string p.s, .int .i64 q.k, .int .i64 q.n, .string q.s] 26 (0, 0))) : RX U' c V (some ⟨g', 0, none⟩) (h ++ [⟨1, ⟨#[]⟩, 0, 0, [], [p, q]⟩]) := fun j x hj => by
  obtain ⟨hBg', hgl', cur', _, _, _, hblk', _⟩ := own_blk (b := g') hx' rfl
  have hty : ∀ b, b < U.heap.size → NT U b → U'.heap[b]? = U.heap[b]? := fun b hl hn => hg.block b hl fun e => by
    obtain ⟨_, _, cu, _, _, _, q, _⟩ := own_blk hx e.symm
    obtain ⟨cur, t, h1, h2⟩ := hn
    rw [h1] at q
    simp at q
    exact h2 q.2
  refine ⟨g', 0, rfl, by omega, hgl', hgV, ?_⟩
  rw [Nat.zero_add]
  by_cases hjl : j < h.length
  · rw [List.getElem?_append_left hjl] at hj
    obtain ⟨g, o, rfl, h2, h3, hv, an, cn, av, cv, c0, c1, c2, c3, c4, c5, hrows⟩ := hr j x hj
    obtain ⟨hl, ⟨hv', h0⟩ | ⟨g2, cap2, cur, hv2, a1, hblk, a3, a4, a5, a6⟩⟩ := hx
    · omega
    · injection hv2 with q1 q2 q3
      injection q1 with q1
      injection q1 with q1 q4 q5
      subst q1 q4 q2 q3
      have hx : U.ownsRow B 40 6 (.slice (some ⟨g, 0, none⟩) h.length cap) h.length xs := ⟨hl, .inr ⟨g, cap, cur, rfl, a1, hblk, a3, a4, a5, a6⟩⟩
      have f : ∀ i v, i < 6 → U.cell? ⟨g, 0 + j * 6 + i, none⟩ = some v → U'.cell? ⟨g', j * 6 + i, none⟩ = some v := fun i v hi hc => by
        rw [Nat.zero_add, own_cell hx (by omega)] at hc
        rw [own_cell hx' (by omega), List.getElem?_append_left (by omega)]
        exact hc
      exact ⟨an, cn, av, cv, f 0 _ (by omega) c0, f 1 _ (by omega) c1, f 2 _ (by omega) c2, f 3 _ (by omega) c3, f 4 _ (by omega) c4, f 5 _ (by omega) c5, hrows.keep fun b' hb' => ⟨⟨hb'.1, Nat.lt_of_lt_of_le hb'.2.1 hg.size, hb'.2.2.1.keep (hty b' hb'.2.1 hb'.2.2.1), hb'.2.2.2⟩, hty b' hb'.2.1 hb'.2.2.1⟩⟩
  · rw [List.getElem?_append_right (by omega)] at hj
    have hj0 : j - h.length = 0 := by
      have := (List.getElem?_eq_some_iff.1 hj).1
      simp at this
      omega
    rw [hj0] at hj
    simp at hj
    subst hj
    obtain rfl : j = h.length := by omega
    have hl : xs.length = h.length * 6 := hx.1
    have f : ∀ i v, i < 6 → ([.int .i64 1, .string ⟨#[]⟩, .int .i64 0, .int .i64 0, .slice none 0 0, .slice (some ⟨b, 0, none⟩) 2 2] : List Value)[i]? = some v → U'.cell? ⟨g', h.length * 6 + i, none⟩ = some v := fun i v hi hc => by
      rw [own_cell hx' (by omega), List.getElem?_append_right (by omega), hl, Nat.add_sub_cancel_left]
      exact hc
    have hbl : b < U.heap.size := (Array.getElem?_eq_some_iff.1 hb).1
    have hb' : U'.heap[b]? = some (.cells #[.int .i64 p.k, .int .i64 p.n, .string p.s, .int .i64 q.k, .int .i64 q.n, .string q.s] 26 (0, 0)) := (hty b hbl ⟨_, 26, hb, by decide⟩).trans hb
    refine ⟨none, 0, some ⟨b, 0, none⟩, 2, f 0 _ (by omega) rfl, f 1 _ (by omega) rfl, f 2 _ (by omega) rfl, f 3 _ (by omega) rfl, f 4 _ (by omega) rfl, f 5 _ (by omega) rfl, fun i y hy => by simp at hy, fun i y hy => ?_, Nat.le_refl _, Nat.le_refl _⟩
    refine ⟨b, 0, rfl, ⟨hbc, Nat.lt_of_lt_of_le hbl hg.size, ⟨_, 26, hb', by decide⟩, hbV⟩, ?_⟩
    match i, hy with
    | 0, hy => simp at hy; subst hy; exact ⟨cell_blk (j := 0) hb' rfl, cell_blk (j := 1) hb' rfl, cell_blk (j := 2) hb' rfl⟩
    | 1, hy => simp at hy; subst hy; exact ⟨cell_blk (j := 3) hb' rfl, cell_blk (j := 4) hb' rfl, cell_blk (j := 5) hb' rfl⟩
theorem threen (w : World) {g b : Nat} (v0 v1 v2 : Value) (h : b ≠ g) : (((w.setCell ⟨g, 0, none⟩ v0).setCell ⟨g, 1, none⟩ v1).setCell ⟨g, 2, none⟩ v2).heap[b]? = w.heap[b]? := by
  rw [heap_setCell_other _ _ _ _ (by simpa using h), heap_setCell_other _ _ _ _ (by simpa using h), heap_setCell_other _ _ _ _ (by simpa using h)]
theorem cw_b {w W : World} {c : Nat} {d : Code1} (h : Cw w c d W) : Below c w W := ⟨h.2.1.os, h.2.1.tape, h.2.1.output, h.2.1.size, fun b hb => h.2.1.block b (by have := h.2.2; omega) fun e => by have := Option.some.inj e; omega⟩
theorem step_call27 {ops : Array Oper} {o : Oper} {a : Act} {w : World} {K : Act → World → Prop} {Q : Exit → Act → World → Prop} {E : Prop} (hgd : o.guard = none) (x y : Operand) (t u : TypeId)
    (ho : o.op = .call { callee := .value (.func 27), args := #[x, y], argTypes := #[t, u] }) (v1 v2 : Value) (hx : a.eval x = v1) (hy : a.eval y = v2) (R : Ending → World → Prop) (hc : Calls Tryd.prog 27 #[v1, v2] w R) (h : ∀ e w', R e w' → ∃ u, e = .returned u ∧ K (a.put o.dst u) w') :
    if Region.wanted o (yielded ops a.tmps) = true then Oper.wp Tryd.prog o a w K Q else E := by
  have hw : Region.wanted o (yielded ops a.tmps) = true := by simp [Region.wanted, hgd]
  rw [if_pos hw]
  unfold Oper.wp
  have hf : a.eval (Operand.func 27) = .func (.func 27) #[] #[] := rfl
  simp [execOp, ho, resolve, invoke, hx, hy, hf, Deferred.ofValue]
  refine hc.mono fun e w' hr => ?_
  obtain ⟨u, rfl, hk⟩ := h e w' hr
  exact hk
set_option maxRecDepth 100000 in
set_option maxHeartbeats 8000000 in
theorem drawList_any (d : Code1) (w : World) (hc : CodeAt w w.heap.size d) : Calls Tryd.prog 10 #[.slice d.a d.len d.cap] w fun e W => DtPost w e W := by
  obtain ⟨i62, hi62, hz620, hz621, hz622⟩ := info_parts info62
  have hl : d.len ≤ 1048576 := hc.1
  have hb0 : Below w.heap.size w (w.alloc (Obj.cells #[.int .i64 0, .int .i64 0, .string ⟨#[]⟩] 26)) := (Below.refl _ _).alloc (Nat.le_refl _) _
  have hs0 : (w.alloc (Obj.cells #[.int .i64 0, .int .i64 0, .string ⟨#[]⟩] 26)).heap.size = w.heap.size + 1 := by simp
  have hc0 := code_up hc hb0
  have HN : Hid (Calls Tryd.prog 13 #[.slice d.a d.len d.cap] (w.alloc (Obj.cells #[.int .i64 0, .int .i64 0, .string ⟨#[]⟩] 26)) fun e w' => e = .returned (.pointer (some ⟨w.heap.size + 1, 0, none⟩)) ∧ CurS w' (w.heap.size + 1) d (Cu.newS d) ∧ Below (w.heap.size + 1) (w.alloc (Obj.cells #[.int .i64 0, .int .i64 0, .string ⟨#[]⟩] 26)) w') := by
    have := Cu.new_st d _ hc0
    rwa [hs0] at this
  have HK0 : Hid ((w.alloc (Obj.cells #[.int .i64 0, .int .i64 0, .string ⟨#[]⟩] 26)).heap[w.heap.size]? = some (Obj.cells #[.int .i64 0, .int .i64 0, .string ⟨#[]⟩] 26)) := blk_at _ _ _ rfl
  have HB0 : Hid (Below w.heap.size w (w.alloc (Obj.cells #[.int .i64 0, .int .i64 0, .string ⟨#[]⟩] 26))) := hb0
  clear hc hc0 hb0
  go_enter Tryd.func10, Tryd.ntmps10
  go_wp2_with fail
  refine HN.out.mono ?_
  rintro e w1 ⟨rfl, hcur, hb1⟩
  have hlt1 : w.heap.size + 1 < w1.heap.size := Cu.cur_lt hcur
  have HB1 : Hid (Below w.heap.size w w1) := HB0.out.trans (hb1.mono (by omega))
  have HK1 : Hid (w1.heap[w.heap.size]? = some (Obj.cells #[.int .i64 0, .int .i64 0, .string ⟨#[]⟩] 26)) := (hb1.block _ (by omega)).trans HK0.out
  have H1 : Hid (Cw w1 (w.heap.size + 1) d w1) := Cw_self ⟨_, hcur⟩ hlt1
  have HS : Hid (Calls Tryd.prog 16 #[.slice d.a d.len d.cap, .int .i64 (12 : Nat)] w1 fun e w' => ∃ k : Nat, e = .returned (.int .i64 (k : Int)) ∧ 0 < k ∧ k ≤ 12 ∧ w' = w1) := size_pos d.a d.len d.cap 12 w1 hl (by decide) (by decide)
  clear HN hcur hb1 HB0 HK0 hs0
  go_wp2_with fail
  refine HS.out.mono ?_
  rintro e W2 ⟨k, rfl, hk0, hk, rfl⟩
  clear HS
  have HH : Hid (Calls Tryd.prog 15 #[.pointer (some ⟨w.heap.size + 1, 0, none⟩), .int .i64 (k : Int)] W2 fun e W' => HdPost W2 (w.heap.size + 1) d e W') := l6Heap_any _ d k W2 H1.out hk0 (by omega)
  go_wp2_with fail
  refine HH.out.mono ?_
  rintro e w3 ⟨h0, ah, ch, rfl, hhl, hhc, hht, hrow, htop, hc3⟩
  have hs3 : W2.heap.size ≤ w3.heap.size := hc3.2.1.size
  have HR3 : Hid (RowCc w3 (w.heap.size + 1) ah h0) := hrow
  have HO3 : Hid (TopO w3 (w.heap.size + 1) (.slice ah h0.length ch) h0.length) := htop
  have HT3 : Hid (∀ x ∈ h0, x.tiny) := hht
  have HC3 : Hid (Cw W2 (w.heap.size + 1) d w3) := hc3
  have HON : Hid (Calls Tryd.prog 14 #[.pointer (some ⟨w.heap.size + 1, 0, none⟩), .int .i64 (2 : Nat)] w3 fun e W' => ∃ b : Bool, e = .returned (.bool b) ∧ Cw w3 (w.heap.size + 1) d W') := Cu.once_cw _ _ d 2 _ (Cw_self hc3.1 (by omega)) (by omega) (by omega)
  clear HH hrow hht hc3 htop H1
  go_wp2_with fail
  refine HON.out.mono ?_
  rintro e w4 ⟨b, rfl, hc4⟩
  have hs4 : w3.heap.size ≤ w4.heap.size := hc4.2.1.size
  have HC4 : Hid (Cw W2 (w.heap.size + 1) d w4) := Cw_trans HC3.out hc4
  have HR4 : Hid (RowCc w4 (w.heap.size + 1) ah h0) := HR3.out.keep hc4
  have HO4 : Hid (TopO w4 (w.heap.size + 1) (.slice ah h0.length ch) h0.length) := HO3.out.keep hc4
  have HS4 : Hid (Cw w4 (w.heap.size + 1) d w4) := Cw_self hc4.1 (by omega)
  have HK4 : Hid (w4.heap[w.heap.size]? = some (Obj.cells #[.int .i64 0, .int .i64 0, .string ⟨#[]⟩] 26)) := Cw_blk HC4.out HK1.out (by omega)
  clear HON hc4 HR3 HO3 HC3 HK1
  cases b with
  | true =>
    have hsv : (w4.alloc (Obj.cells #[.int .i64 3, .int .i64 0, .string ⟨#[]⟩] 26)).heap.size = w4.heap.size + 1 := by simp
    have hcv : Cw w4 (w.heap.size + 1) d (w4.alloc (Obj.cells #[.int .i64 3, .int .i64 0, .string ⟨#[]⟩] 26)) := HS4.out.alloc _
    have HBE : Hid (Calls Tryd.prog 26 #[.pointer (some ⟨w.heap.size + 1, 0, none⟩), .int .i64 (4 : Nat)] (w4.alloc (Obj.cells #[.int .i64 3, .int .i64 0, .string ⟨#[]⟩] 26)) fun e W' => ∃ k : Nat, e = .returned (.int .i64 (k : Int)) ∧ k < 4 ∧ Cw w4 (w.heap.size + 1) d W' ∧ W'.heap[w4.heap.size]? = some (Obj.cells #[.int .i64 3, .int .i64 0, .string ⟨#[]⟩] 26)) := (Cu.below_cw (w4.alloc (Obj.cells #[.int .i64 3, .int .i64 0, .string ⟨#[]⟩] 26)) _ d 4 _ (Cw_self hcv.1 (by omega)) (by omega) (by omega)).mono fun e W' ⟨k, h1, h2, h3⟩ => ⟨k, h1, h2, Cw_trans hcv h3, Cw_blk h3 (blk_at _ _ _ rfl) (by omega)⟩
    clear hcv
    go_wp2_with fail
    refine HBE.out.mono ?_
    rintro e w5 ⟨n0, rfl, hn0, hc5, hv5⟩
    have HV5 : Hid (w5.heap[w4.heap.size]? = some (Obj.cells #[.int .i64 3, .int .i64 0, .string ⟨#[]⟩] 26)) := hv5
    have HC5 : Hid (Cw w4 (w.heap.size + 1) d w5) := hc5
    have HX5 : Hid (RX w5 (w.heap.size + 1) w4.heap.size ah h0) := RX.of HR4.out (Nat.le_refl _) (fun b h1 h2 => hc5.2.1.block b h2 fun e => by have := Option.some.inj e; omega) hc5.2.1.size
    have HO5 : Hid (TopO w5 (w.heap.size + 1) (.slice ah h0.length ch) h0.length) := HO4.out.keep hc5
    clear HBE hc5 hv5 HR4 HO4
    go_wp2
    go_loopw [5, 7] (fun o nv wr => ∃ (h : List Cel) (m : Nat) (u : Val) (oa : Option Addr) (oc : Nat), h.length + m ≤ 25 ∧ m ≤ 4 ∧ nv = .int .i64 (m : Nat) ∧ o = .slice oa h.length oc ∧ h.length ≤ oc ∧ TopO wr (w.heap.size + 1) (.slice oa h.length oc) h.length ∧ RX wr (w.heap.size + 1) w4.heap.size oa h ∧ (∀ x ∈ h, x.tiny) ∧ wr.heap[w4.heap.size]? = some (.cells #[.int .i64 u.k, .int .i64 u.n, .string u.s] 26 (0, 0)) ∧ u.tiny ∧ (∃ s, CurS wr (w.heap.size + 1) d s) ∧ Below (w.heap.size + 1) w4 wr)
      (fun _ nv _ => (intOf nv).toNat)
    case atStart =>
      exact ⟨h0, n0, ⟨3, 0, ⟨#[]⟩⟩, ah, ch, by omega, by omega, rfl, rfl, hhc, HO5.out, HX5.out, HT3.out, HV5.out, ⟨by show (-10 : Int) ≤ 3; omega, by show (3 : Int) ≤ 20; omega, by show (-1000000 : Int) ≤ 0; omega, by show (0 : Int) ≤ 1000001; omega, by show (0 : Nat) ≤ 40; omega⟩, HC5.out.1, cw_b HC5.out⟩
    case round =>
      clear HO5 HX5 HV5 HC5
      obtain ⟨h, m, u, oa, oc, hlm, hm4, rfl, rfl, hoc, hto, hx, htn, hk, hu, hcr, hbw⟩ := hrel
      have hsr : w4.heap.size < wr.heap.size := (Array.getElem?_eq_some_iff.1 hk).1
      have HTN : Hid (∀ x ∈ h, x.tiny) := htn
      have HX : Hid (RX wr (w.heap.size + 1) w4.heap.size oa h) := hx
      have HU : Hid u.tiny := hu
      have HCR : Hid (∃ s, CurS wr (w.heap.size + 1) d s) := hcr
      have HBW : Hid (Below (w.heap.size + 1) w4 wr) := hbw
      have HK : Hid (wr.heap[w4.heap.size]? = some (.cells #[.int .i64 u.k, .int .i64 u.n, .string u.s] 26 (0, 0))) := hk
      obtain ⟨xs, hxs⟩ := hto
      have HXS : Hid (wr.ownsRow ((w.heap.size + 1) + 1) 40 6 (.slice oa h.length oc) h.length xs) := hxs
      have e0 := cell_blk (j := 0) hk rfl
      have e1 := cell_blk (j := 1) hk rfl
      have e2 := cell_blk (j := 2) hk rfl
      clear hx htn hk hu hcr hxs hbw
      match m with
      | m + 1 =>
        have hpos : (0 : Int) < ((m + 1 : Nat) : Int) := by omega
        have HCV : Hid (Calls Tryd.prog 27 #[.pointer (some ⟨w.heap.size + 1, 0, none⟩), .slice oa h.length oc] wr.drew fun e W' => VdPost wr.drew (w.heap.size + 1) d e W') := l6Val_any _ d oa oc h _ (Cw_self (W := wr.drew) HCR.out (by show w.heap.size + 1 < wr.heap.size; omega)) (by omega) (HX.out.keep (W' := wr.drew) (fun _ _ _ _ => rfl) (Nat.le_refl _)).kinds
        have HBL : Hid (∀ b, (Value.slice oa h.length oc).ownBlock = some b → (w.heap.size + 1) < b ∧ b < wr.heap.size ∧ b ≠ w4.heap.size) := fun b hb => by
          obtain ⟨q1, q2, cur, _, _, _, q3, _⟩ := own_blk HXS.out hb
          exact ⟨by omega, q2, fun e => by rw [e, HK.out] at q3; simp at q3⟩
        have hone : ∀ (x y : Val) (n : Nat), ∀ t ∈ ([.int .i64 1, .string ⟨#[]⟩, .int .i64 0, .int .i64 0, .slice none 0 0, .slice (some ⟨n, 0, none⟩) 2 2] : List Value), t.oneCell' = true := by
          intro x y n t ht
          simp at ht
          rcases ht with rfl | rfl | rfl | rfl | rfl | rfl <;> rfl
        go_wp2_with fail
        go_region_law (first
          | (refine step_append_lies _ rfl _ _ 24 rfl ((w.heap.size + 1) + 1) 40 i62 _ 6 88 Tryd.underlying24 hi62 hz620 hz621 hz622 rfl (by omega) (.slice oa h.length oc) h.length xs rfl hxs5 ⟨w6.heap.size + 1, 0, none⟩ 1 1 [.int .i64 1, .string ⟨#[]⟩, .int .i64 0, .int .i64 0, .slice none 0 0, .slice (some ⟨w6.heap.size, 0, none⟩) 2 2] rfl rfl (World.news_of_block ke5) (hone v u _) (by omega) (by unfold maxLen; omega) (by omega) hB5 (w6.heap.size + 1 + 1) hs5 ?_; intro g7 c7 w7 hown7 hgr7 hat7 hlt7)
          | (refine step_call27 rfl _ _ _ _ rfl _ _ (by kernel_rfl) (by kernel_rfl) _ HCV.out ?_; rintro e w6 ⟨v, rfl, hv, hc6⟩; refine ⟨_, rfl, ?_⟩; have hs6 : wr.heap.size ≤ w6.heap.size := hc6.2.1.size; have d0 : w6.cell? ⟨w4.heap.size, 0, none⟩ = some (.int .i64 u.k) := Cw_cell hc6 e0 (by omega); have d1 : w6.cell? ⟨w4.heap.size, 1, none⟩ = some (.int .i64 u.n) := Cw_cell hc6 e1 (by omega); have d2 : w6.cell? ⟨w4.heap.size, 2, none⟩ = some (.string u.s) := Cw_cell hc6 e2 (by omega); have hs5 : ((w6.alloc (Obj.cells #[.int .i64 v.k, .int .i64 v.n, .string v.s, .int .i64 u.k, .int .i64 u.n, .string u.s] 26)).alloc (Obj.cells #[.int .i64 1, .string ⟨#[]⟩, .int .i64 0, .int .i64 0, .slice none 0 0, .slice (some ⟨w6.heap.size, 0, none⟩) 2 2] 40)).heap.size = w6.heap.size + 1 + 1 := (by simp); have ke5 : ((w6.alloc (Obj.cells #[.int .i64 v.k, .int .i64 v.n, .string v.s, .int .i64 u.k, .int .i64 u.n, .string u.s] 26)).alloc (Obj.cells #[.int .i64 1, .string ⟨#[]⟩, .int .i64 0, .int .i64 0, .slice none 0 0, .slice (some ⟨w6.heap.size, 0, none⟩) 2 2] 40)).heap[w6.heap.size + 1]? = some (Obj.cells #[.int .i64 1, .string ⟨#[]⟩, .int .i64 0, .int .i64 0, .slice none 0 0, .slice (some ⟨w6.heap.size, 0, none⟩) 2 2] 40) := blk_at _ _ _ (by simp); have kb5 : ((w6.alloc (Obj.cells #[.int .i64 v.k, .int .i64 v.n, .string v.s, .int .i64 u.k, .int .i64 u.n, .string u.s] 26)).alloc (Obj.cells #[.int .i64 1, .string ⟨#[]⟩, .int .i64 0, .int .i64 0, .slice none 0 0, .slice (some ⟨w6.heap.size, 0, none⟩) 2 2] 40)).heap[w6.heap.size]? = some (Obj.cells #[.int .i64 v.k, .int .i64 v.n, .string v.s, .int .i64 u.k, .int .i64 u.n, .string u.s] 26) := blk_past (blk_at _ _ _ rfl); have hlo : ∀ b, (w.heap.size + 1) < b → b < wr.heap.size → ((w6.alloc (Obj.cells #[.int .i64 v.k, .int .i64 v.n, .string v.s, .int .i64 u.k, .int .i64 u.n, .string u.s] 26)).alloc (Obj.cells #[.int .i64 1, .string ⟨#[]⟩, .int .i64 0, .int .i64 0, .slice none 0 0, .slice (some ⟨w6.heap.size, 0, none⟩) 2 2] 40)).heap[b]? = wr.heap[b]? := (fun b h1 h2 => ((al_same _ _ (by simp; omega)).trans (al_same _ _ (by omega))).trans (hc6.2.1.block b h2 (fun e => by have := Option.some.inj e; omega))); have hxs5 : ((w6.alloc (Obj.cells #[.int .i64 v.k, .int .i64 v.n, .string v.s, .int .i64 u.k, .int .i64 u.n, .string u.s] 26)).alloc (Obj.cells #[.int .i64 1, .string ⟨#[]⟩, .int .i64 0, .int .i64 0, .slice none 0 0, .slice (some ⟨w6.heap.size, 0, none⟩) 2 2] 40)).ownsRow ((w.heap.size + 1) + 1) 40 6 (.slice oa h.length oc) h.length xs := own_keep HXS.out (fun b hb => hlo b (HBL.out b hb).1 (HBL.out b hb).2.1); have hB5 : (w.heap.size + 1) + 1 ≤ ((w6.alloc (Obj.cells #[.int .i64 v.k, .int .i64 v.n, .string v.s, .int .i64 u.k, .int .i64 u.n, .string u.s] 26)).alloc (Obj.cells #[.int .i64 1, .string ⟨#[]⟩, .int .i64 0, .int .i64 0, .slice none 0 0, .slice (some ⟨w6.heap.size, 0, none⟩) 2 2] 40)).heap.size := (by rw [hs5]; omega)))
        all_goals
          have hV7 : g7 ≠ w4.heap.size := by
            rcases hat7 with e | e
            · exact (HBL.out g7 e).2.2
            · omega
          have kA : ((w6.alloc (Obj.cells #[.int .i64 v.k, .int .i64 v.n, .string v.s, .int .i64 u.k, .int .i64 u.n, .string u.s] 26)).alloc (Obj.cells #[.int .i64 1, .string ⟨#[]⟩, .int .i64 0, .int .i64 0, .slice none 0 0, .slice (some ⟨w6.heap.size, 0, none⟩) 2 2] 40)).heap[w4.heap.size]? = some (.cells #[.int .i64 u.k, .int .i64 u.n, .string u.s] 26 (0, 0)) := (hlo _ (by omega) (by omega)).trans HK.out
          have k7 : w7.heap[w4.heap.size]? = some (.cells #[.int .i64 u.k, .int .i64 u.n, .string u.s] 26 (0, 0)) := (hgr7.block _ (by omega) (fun e => (HBL.out _ e.symm).2.2 rfl)).trans kA
          have HK7 : Hid (w7.heap[w4.heap.size]? = some (.cells #[.int .i64 u.k, .int .i64 u.n, .string u.s] 26 (0, 0))) := k7
          have HX7 : Hid (RX w7 (w.heap.size + 1) w4.heap.size (some ⟨g7, 0, none⟩) (h ++ [(⟨1, ⟨#[]⟩, 0, 0, [], [v, u]⟩ : Cel)])) := RX.push (HX.out.keep (fun b h1 _ h3 => hlo b h1 h3) (by omega)) hxs5 hown7 hgr7 (by omega) hV7 (by omega) (by omega) kb5
          have HC7 : Hid (∃ s, CurS w7 (w.heap.size + 1) d s) := by
            obtain ⟨s, hs⟩ := hc6.1
            exact ⟨s, Cu.cur_blocks (Cu.cur_alloc (Cu.cur_alloc hs _) _) fun k hk => hgr7.block k (by omega) fun e => by have := (HBL.out k e.symm).1; omega⟩
          have HB7 : Hid (Below (w.heap.size + 1) w4 w7) := ((((below_drewN HBW.out 1).trans (cw_b hc6)).alloc (by omega) _).alloc (by simp; omega) _).grown hgr7 (by omega) fun k hk => by have := (HBL.out k hk).1; omega
          have HO7 : Hid (w7.ownsRow ((w.heap.size + 1) + 1) 40 6 (.slice (some ⟨g7, 0, none⟩) (h.length + 1) c7) (h.length + 1) (xs ++ [.int .i64 1, .string ⟨#[]⟩, .int .i64 0, .int .i64 0, .slice none 0 0, .slice (some ⟨w6.heap.size, 0, none⟩) 2 2])) := hown7
          have HT7 : Hid (∀ x ∈ h ++ [(⟨1, ⟨#[]⟩, 0, 0, [], [v, u]⟩ : Cel)], x.tiny) := fun x hx => by
            rcases List.mem_append.1 hx with hx | hx
            · exact HTN.out x hx
            · simp at hx
              subst hx
              exact ⟨by show (-10 : Int) ≤ 1; omega, by show (1 : Int) ≤ 20; omega, by show (-10 : Int) ≤ 0; omega, by show (0 : Int) ≤ 2000; omega, rfl, by show (0 : Nat) ≤ 40; omega, by show (0 : Nat) ≤ 1; omega, by intro y hy; simp at hy, by show (2 : Nat) ≤ 3; omega, by intro t ht; simp at ht; rcases ht with rfl | rfl; exact hv; exact HU.out⟩
          have HG7 : Hid (g7 ≠ w4.heap.size) := hV7
          have hc7 : h.length + 1 ≤ c7 := by obtain ⟨_, _, q, _⟩ := own_slice hown7; injection q; omega
          have y0 := cell_blk (j := 0) k7 rfl
          have y1 := cell_blk (j := 1) k7 rfl
          have y2 := cell_blk (j := 2) k7 rfl
          have f0 := frozen_blk k7 0
          have f1 := frozen_blk k7 1
          have f2 := frozen_blk k7 2
          clear hown7 hgr7 hat7 hxs5 ke5 kb5 kA k7 hlo hB5 hs5 hc6 hv d0 d1 d2 e0 e1 e2 hV7 hone HCV
          go_wp2
          go_roundw
          case rel =>
            refine ⟨h ++ [(⟨1, ⟨#[]⟩, 0, 0, [], [v, u]⟩ : Cel)], m, ⟨5, (h.length : Int), ⟨#[]⟩⟩, some ⟨g7, 0, none⟩, c7, by simp; omega, by omega, by go_num, by simp, by simpa using hc7, ?_, ?_, HT7.out, put_blk _ _ _ HK7.out, ?_, ?_, ?_⟩
            · refine ⟨xs ++ [.int .i64 1, .string ⟨#[]⟩, .int .i64 0, .int .i64 0, .slice none 0 0, .slice (some ⟨w6.heap.size, 0, none⟩) 2 2], ?_⟩
              rw [List.length_append]
              exact own_keep HO7.out fun k hk => threen _ _ _ _ (by have : g7 = k := (by injection hk); have := HG7.out; omega)
            · exact HX7.out.keep (fun b _ h2 _ => threen _ _ _ _ h2) (by simp)
            · exact ⟨by show (-10 : Int) ≤ 5; omega, by show (5 : Int) ≤ 20; omega, by show (-1000000 : Int) ≤ (h.length : Int); omega, by show (h.length : Int) ≤ 1000001; omega, by show (0 : Nat) ≤ 40; omega⟩
            · obtain ⟨s, hs⟩ := HC7.out
              exact ⟨s, Cu.cur_blocks hs fun k hk => threen _ _ _ _ (by omega)⟩
            · exact ((HB7.out.setCell (p := ⟨_, _, none⟩) (by simp; omega) _).setCell (p := ⟨_, _, none⟩) (by simp; omega) _).setCell (p := ⟨_, _, none⟩) (by simp; omega) _
          case measure => simp [intOf]
      | 0 =>
        have kz : wr.heap[w.heap.size]? = some (Obj.cells #[.int .i64 0, .int .i64 0, .string ⟨#[]⟩] 26) := (HBW.out.block _ (by omega)).trans HK4.out
        have HKZ : Hid (wr.heap[w.heap.size]? = some (Obj.cells #[.int .i64 0, .int .i64 0, .string ⟨#[]⟩] 26)) := kz
        have z0 := cell_blk (j := 0) kz rfl
        have z1 := cell_blk (j := 1) kz rfl
        have z2 := cell_blk (j := 2) kz rfl
        have f0 := frozen_blk kz 0
        have f1 := frozen_blk kz 1
        have f2 := frozen_blk kz 2
        clear kz
        go_wp2_with fail
        go_region
        all_goals
          go_wp2
          (try simp only [Exit.inBlock, Exit.then])
          refine bodyPost_ret (res_tc rfl _ _ w.heap.size _ _ _ rfl (put_blk _ _ _ HKZ.out)) rfl ?_
          exact ⟨h, oa, oc, u, rfl, by omega, hoc, HTN.out, HU.out, (HX.out.keep (fun b h1 h2 h3 => three _ _ _ _ (by omega)) (by simp)).row, (by first | exact below_drewN (((cw_belowc HB1.out (by omega) HC4.out).trans (HBW.out.mono (by omega))).setCell (p := ⟨_, _, none⟩) (Nat.le_refl _) _ |>.setCell (p := ⟨_, _, none⟩) (Nat.le_refl _) _ |>.setCell (p := ⟨_, _, none⟩) (Nat.le_refl _) _) 1 | exact below_drewN (((cw_belowc HB1.out (by omega) HC4.out).trans (HBW.out.mono (by omega))).setCell (p := ⟨_, _, none⟩) (Nat.le_refl _) _ |>.setCell (p := ⟨_, _, none⟩) (Nat.le_refl _) _ |>.setCell (p := ⟨_, _, none⟩) (Nat.le_refl _) _) 2 | exact below_drewN (((cw_belowc HB1.out (by omega) HC4.out).trans (HBW.out.mono (by omega))).setCell (p := ⟨_, _, none⟩) (Nat.le_refl _) _ |>.setCell (p := ⟨_, _, none⟩) (Nat.le_refl _) _ |>.setCell (p := ⟨_, _, none⟩) (Nat.le_refl _) _) 3)⟩
  | false =>
    have HCA : Hid (Calls Tryd.prog 17 #[.pointer (some ⟨w.heap.size + 1, 0, none⟩), .slice ah h0.length ch] w4 fun e W' => VdPost w4 (w.heap.size + 1) d e W') := l6AnyVal_any _ d ah ch h0 _ HS4.out (by omega) HR4.out.kinds
    go_wp2_with fail
    refine HCA.out.mono ?_
    rintro e w5 ⟨v, rfl, hv, hc5⟩
    have HC5 : Hid (Cw W2 (w.heap.size + 1) d w5) := Cw_trans HC4.out hc5
    have HR5 : Hid (RowCc w5 (w.heap.size + 1) ah h0) := HR4.out.keep hc5
    have HV : Hid v.tiny := hv
    have k4 : w5.heap[w.heap.size]? = some (Obj.cells #[.int .i64 0, .int .i64 0, .string ⟨#[]⟩] 26) := Cw_blk hc5 HK4.out (by omega)
    have HK5 : Hid (w5.heap[w.heap.size]? = some (Obj.cells #[.int .i64 0, .int .i64 0, .string ⟨#[]⟩] 26)) := k4
    have z0 := cell_blk (j := 0) k4 rfl
    have z1 := cell_blk (j := 1) k4 rfl
    have z2 := cell_blk (j := 2) k4 rfl
    have f0 := frozen_blk k4 0
    have f1 := frozen_blk k4 1
    have f2 := frozen_blk k4 2
    clear hc5 hv k4 HCA
    go_wp2
    (try simp only [Exit.inBlock, Exit.then])
    refine bodyPost_ret (res_tc rfl _ _ w.heap.size _ _ _ rfl (put_blk _ _ _ HK5.out)) rfl ?_
    exact ⟨h0, ah, ch, v, rfl, by omega, hhc, HT3.out, HV.out, (HR5.out.keepB (fun b hb => three _ _ _ _ (by omega)) (by simp)).row, ((cw_belowc HB1.out (by omega) HC5.out).setCell (p := ⟨_, _, none⟩) (Nat.le_refl _) _ |>.setCell (p := ⟨_, _, none⟩) (Nat.le_refl _) _ |>.setCell (p := ⟨_, _, none⟩) (Nat.le_refl _) _)⟩
end Go.Proofs.YtkbpnjigoipgeaaDoor
