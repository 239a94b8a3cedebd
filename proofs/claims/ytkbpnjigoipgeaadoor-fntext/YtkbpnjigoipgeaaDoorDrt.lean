/- Draws: a heap and a value in it. -/
import Derived.Test.YtkbpnjigoipgeaaDoorDvd
import Derived.Test.YtkbpnjigoipgeaaDoorLsp
set_option linter.unusedVariables false
namespace Go.Proofs.YtkbpnjigoipgeaaDoor
open Go.ChangeShapes Go.WideShapes Go.ChangeAt Go.RowKit
open Cu (Cw Code1 CurS CodeAt)
set_option maxRecDepth 100000 in
theorem size_pos (a : Option Addr) (n cap : Nat) (m : Nat) (w : World) (hn : n ≤ 1048576) (hm : 2 ≤ m) (hm2 : m ≤ 100) : Calls Tryd.prog 16 #[.slice a n cap, .int .i64 (m : Int)] w fun e w' => ∃ k : Nat, e = .returned (.int .i64 (k : Int)) ∧ 0 < k ∧ k ≤ m ∧ w' = w := by
  by_cases h : m < 2 + n / 20
  · have hd : decide ((m : Int) < 2 + (n : Int) / 20) = true := by simp; omega
    have hd' : (m : Int) < 2 + (n : Int) / 20 := by omega
    go_enter Tryd.func16, Tryd.ntmps16
    go_wp2
    go_ret
    exact ⟨m, rfl, by omega, Nat.le_refl _, rfl⟩
  · have hd : decide ((m : Int) < 2 + (n : Int) / 20) = false := by simp; omega
    go_enter Tryd.func16, Tryd.ntmps16
    go_wp2
    go_ret
    exact ⟨2 + n / 20, by go_num, by omega, by omega, rfl⟩
theorem code_up {w w' : World} {d : Code1} (h : CodeAt w w.heap.size d) (hb : Below w.heap.size w w') : CodeAt w' w'.heap.size d :=
  ⟨h.1, h.2.1, fun j hj => by
    obtain ⟨b, o, h1, h2, h3⟩ := h.2.2 j hj
    exact ⟨b, o, h1, Nat.lt_of_lt_of_le h2 hb.size, (World.cell?_of_block (w := w) (a := ⟨b, _, none⟩) (hb.block b h2)).trans h3⟩⟩
theorem cw_belowc {w w1 W : World} {c : Nat} {d : Code1} (hb : Below w.heap.size w w1) (hc : w.heap.size ≤ c) (h : Cw w1 c d W) : Below w.heap.size w W :=
  ⟨h.2.1.os.trans hb.os, h.2.1.tape.trans hb.tape, h.2.1.output.trans hb.output, Nat.le_trans hb.size h.2.1.size, fun b hlt => (h.2.1.block b (Nat.lt_of_lt_of_le hlt hb.size) fun e => by have := Option.some.inj e; omega).trans (hb.block b hlt)⟩
/-- What a draw of a heap and a value leaves. -/
def DtPost (w : World) (e : Ending) (W : World) : Prop := ∃ (h : List Cel) (ah : Option Addr) (ch : Nat) (v : Val),
  e = .returned (.tuple #[.slice ah h.length ch, .agg #[.int .i64 v.k, .int .i64 v.n, .string v.s]]) ∧ h.length ≤ 30 ∧ h.length ≤ ch ∧ (∀ x ∈ h, x.tiny) ∧ v.tiny ∧ RowC W W.heap.size ah h ∧ Below w.heap.size w W
/-- Pairs, each one's two values in a block of its own beside block V. -/
def PrC (wr : World) (V : Nat) (xs : List Value) (h : List Cel) : Prop := ∀ j x, h[j]? = some x → ∃ (b : Nat) (p q : Val), x = ⟨1, ⟨#[]⟩, 0, 0, [], [p, q]⟩ ∧ p.tiny ∧ q.tiny ∧ V < b ∧
  xs[j * 6]? = some (.int .i64 1) ∧ xs[j * 6 + 1]? = some (.string ⟨#[]⟩) ∧ xs[j * 6 + 2]? = some (.int .i64 0) ∧ xs[j * 6 + 3]? = some (.int .i64 0) ∧ xs[j * 6 + 4]? = some (.slice none 0 0) ∧ xs[j * 6 + 5]? = some (.slice (some ⟨b, 0, none⟩) 2 2) ∧
  wr.heap[b]? = some (.cells #[.int .i64 p.k, .int .i64 p.n, .string p.s, .int .i64 q.k, .int .i64 q.n, .string q.s] 26 (0, 0))
theorem PrC.keep {w w' : World} {V : Nat} {xs : List Value} {h : List Cel} (hp : PrC w V xs h) (hk : ∀ b cur, V < b → w.heap[b]? = some (.cells cur 26 (0, 0)) → w'.heap[b]? = w.heap[b]?) : PrC w' V xs h := fun j x hx => by
  obtain ⟨b, p, q, h1, h2, h3, h4, h5, h6, h7, h8, h9, h10, h11⟩ := hp j x hx
  exact ⟨b, p, q, h1, h2, h3, h4, h5, h6, h7, h8, h9, h10, (hk b _ h4 h11).trans h11⟩
theorem PrC.push {w : World} {V b : Nat} {xs : List Value} {h : List Cel} {p q : Val} (hp : PrC w V xs h) (hl : xs.length = h.length * 6) (h2 : p.tiny) (h3 : q.tiny) (h4 : V < b) (hb : w.heap[b]? = some (.cells #[.int .i64 p.k, .int .i64 p.n, .string p.s, .int .i64 q.k, .int .i64 q.n, .string q.s] 26 (0, 0))) :
    PrC w V (xs ++ [.int .i64 1, .string ⟨#[]⟩, .int .i64 0, .int .i64 0, .slice none 0 0, .slice (some ⟨b, 0, none⟩) 2 2]) (h ++ [⟨1, ⟨#[]⟩, 0, 0, [], [p, q]⟩]) := fun j x hx => by
  by_cases hj : j < h.length
  · rw [List.getElem?_append_left hj] at hx
    obtain ⟨b, p, q, e1, e2, e3, e4, e5, e6, e7, e8, e9, e10, e11⟩ := hp j x hx
    refine ⟨b, p, q, e1, e2, e3, e4, ?_, ?_, ?_, ?_, ?_, ?_, e11⟩
    all_goals
      rw [List.getElem?_append_left (by omega)]
      assumption
  · rw [List.getElem?_append_right (by omega)] at hx
    have hj0 : j - h.length = 0 := by
      have := (List.getElem?_eq_some_iff.1 hx).1
      simp at this
      omega
    rw [hj0] at hx
    simp at hx
    subst hx
    obtain rfl : j = h.length := by omega
    refine ⟨b, p, q, rfl, h2, h3, h4, ?_, ?_, ?_, ?_, ?_, ?_, hb⟩
    all_goals
      rw [List.getElem?_append_right (by omega), hl]
      simp
theorem res_tc {fn : Func} {t p : Tmp} (h : fn.results = #[.tmp t, .cell p 26]) (tmps : Array Value) (w : World) (g : Nat) (v0 v1 v2 : Value)
    (hp : tmps.getD p undef = .pointer (some ⟨g, 0, none⟩)) (hg : w.heap[g]? = some (.cells #[v0, v1, v2] 26 (0, 0))) :
    (results fn tmps).run Tryd.prog w = .ok (.tuple #[tmps.getD t undef, .agg #[v0, v1, v2]]) w := by
  have hp' : tmps[p]?.getD undef = .pointer (some ⟨g, 0, none⟩) := by simpa using hp
  simp [results, h, hp', asAddr, run_loadVar_row w g 26 26 #[v0, v1, v2] (0, 0) _ hg Tryd.underlying26 rfl (by kernel_rfl)]
theorem RowCc.keepB {W W' : World} {c : Nat} {a : Option Addr} {h : List Cel} (hr : RowCc W c a h) (hk : ∀ b, c < b → W'.heap[b]? = W.heap[b]?) (hs : W.heap.size ≤ W'.heap.size) : RowCc W' c a h := fun i x hx => by
  obtain ⟨b, o, h1, h2, h3, h4⟩ := hr i x hx
  exact ⟨b, o, h1, h2, by omega, h4.keep (hk b h2) fun b' hb' => ⟨⟨hb'.1, by have := hb'.2.1; omega, hb'.2.2.keep (hk b' hb'.1)⟩, hk b' hb'.1⟩⟩
theorem three (w : World) {g b : Nat} (v0 v1 v2 : Value) (h : g < b) : (((w.setCell ⟨g, 0, none⟩ v0).setCell ⟨g, 1, none⟩ v1).setCell ⟨g, 2, none⟩ v2).heap[b]? = w.heap[b]? := by
  rw [heap_setCell_other _ _ _ _ (by simp; omega), heap_setCell_other _ _ _ _ (by simp; omega), heap_setCell_other _ _ _ _ (by simp; omega)]
theorem PrC.row {w : World} {B V n cap : Nat} {a : Option Addr} {xs : List Value} {h : List Cel} (hp : PrC w V xs h) (ho : w.ownsRow B 40 6 (.slice a n cap) h.length xs) : RowC w w.heap.size a h := by
  intro j c hj
  have hjl := (List.getElem?_eq_some_iff.1 hj).1
  obtain ⟨hl, ⟨hn, hx⟩ | ⟨g, cap', cur, hv, hB, hg, h1, h2, h3, h4⟩⟩ := ho
  · omega
  · injection hv with e1 e2 e3
    subst e1 e2 e3
    have ho : w.ownsRow B 40 6 (.slice (some ⟨g, 0, none⟩) h.length cap) h.length xs := ⟨hl, .inr ⟨g, cap, cur, rfl, hB, hg, h1, h2, h3, h4⟩⟩
    obtain ⟨b, p, q, rfl, _, _, _, e0, e1, e2, e3, e4, e5, hb⟩ := hp j c hj
    have hbl : b < w.heap.size := (Array.getElem?_eq_some_iff.1 hb).1
    refine ⟨g, 0, rfl, (Array.getElem?_eq_some_iff.1 hg).1, none, 0, some ⟨b, 0, none⟩, 2, ?_, ?_, ?_, ?_, ?_, ?_, ⟨fun i y hy => by simp at hy, fun i y hy => ?_, Nat.le_refl _, Nat.le_refl _⟩⟩
    · rw [Nat.zero_add, own_cell ho (by omega)]; exact e0
    · rw [Nat.zero_add, own_cell ho (by omega)]; exact e1
    · rw [Nat.zero_add, own_cell ho (by omega)]; exact e2
    · rw [Nat.zero_add, own_cell ho (by omega)]; exact e3
    · rw [Nat.zero_add, own_cell ho (by omega)]; exact e4
    · rw [Nat.zero_add, own_cell ho (by omega)]; exact e5
    · refine ⟨b, 0, rfl, hbl, ?_⟩
      match i, hy with
      | 0, hy => simp at hy; subst hy; exact ⟨cell_blk (j := 0) hb rfl, cell_blk (j := 1) hb rfl, cell_blk (j := 2) hb rfl⟩
      | 1, hy => simp at hy; subst hy; exact ⟨cell_blk (j := 3) hb rfl, cell_blk (j := 4) hb rfl, cell_blk (j := 5) hb rfl⟩
theorem PrC.tiny {w : World} {V : Nat} {xs : List Value} {h : List Cel} (hp : PrC w V xs h) : ∀ x ∈ h, x.tiny := fun x hx => by
  obtain ⟨j, hj⟩ := List.mem_iff_getElem?.1 hx
  obtain ⟨b, p, q, rfl, h1, h2, _⟩ := hp j x hj
  refine ⟨by show (-10 : Int) ≤ 1; omega, by show (1 : Int) ≤ 20; omega, by show (-10 : Int) ≤ 0; omega, by show (0 : Int) ≤ 2000; omega, rfl, by show (0 : Nat) ≤ 40; omega, by show (0 : Nat) ≤ 1; omega, by intro y hy; simp at hy, by show (2 : Nat) ≤ 3; omega, ?_⟩
  intro v hv
  simp at hv
  rcases hv with rfl | rfl
  · exact h1
  · exact h2
set_option maxRecDepth 100000 in
set_option maxHeartbeats 4000000 in
theorem drawText_any (d : Code1) (w : World) (hc : CodeAt w w.heap.size d) : Calls Tryd.prog 5 #[.slice d.a d.len d.cap] w fun e W => DtPost w e W := by
  obtain ⟨i62, hi62, hz620, hz621, hz622⟩ := info_parts info62
  have hl : d.len ≤ 1048576 := hc.1
  have hb0 : Below w.heap.size w (w.alloc (Obj.cells #[.int .i64 0, .int .i64 0, .string ⟨#[]⟩] 26)) := (Below.refl _ _).alloc (Nat.le_refl _) _
  have hs0 : (w.alloc (Obj.cells #[.int .i64 0, .int .i64 0, .string ⟨#[]⟩] 26)).heap.size = w.heap.size + 1 := by simp
  have hc0 := code_up hc hb0
  have HN : Hid (Calls Tryd.prog 13 #[.slice d.a d.len d.cap] (w.alloc (Obj.cells #[.int .i64 0, .int .i64 0, .string ⟨#[]⟩] 26)) fun e w' => e = .returned (.pointer (some ⟨w.heap.size + 1, 0, none⟩)) ∧ CurS w' (w.heap.size + 1) d (Cu.newS d) ∧ Below (w.heap.size + 1) (w.alloc (Obj.cells #[.int .i64 0, .int .i64 0, .string ⟨#[]⟩] 26)) w') := by
    have := Cu.new_st d _ hc0
    rwa [hs0] at this
  have HK0 : Hid ((w.alloc (Obj.cells #[.int .i64 0, .int .i64 0, .string ⟨#[]⟩] 26)).heap[w.heap.size]? = some (Obj.cells #[.int .i64 0, .int .i64 0, .string ⟨#[]⟩] 26)) := blk_at _ _ _ rfl
  have HB0 : Hid (Below w.heap.size w (w.alloc (Obj.cells #[.int .i64 0, .int .i64 0, .string ⟨#[]⟩] 26))) := hb0
  clear hc hc0 hb0
  go_enter Tryd.func5, Tryd.ntmps5
  go_wp2_with fail
  refine HN.out.mono ?_
  rintro e w1 ⟨rfl, hcur, hb1⟩
  have hlt1 : w.heap.size + 1 < w1.heap.size := Cu.cur_lt hcur
  have HB1 : Hid (Below w.heap.size w w1) := HB0.out.trans (hb1.mono (by omega))
  have HK1 : Hid (w1.heap[w.heap.size]? = some (Obj.cells #[.int .i64 0, .int .i64 0, .string ⟨#[]⟩] 26)) := (hb1.block _ (by omega)).trans HK0.out
  have H1 : Hid (Cw w1 (w.heap.size + 1) d w1) := Cw_self ⟨_, hcur⟩ hlt1
  have HON : Hid (Calls Tryd.prog 14 #[.pointer (some ⟨w.heap.size + 1, 0, none⟩), .int .i64 (40 : Nat)] w1 fun e W' => ∃ b : Bool, e = .returned (.bool b) ∧ Cw w1 (w.heap.size + 1) d W') := Cu.once_cw _ _ d 40 _ H1.out (by omega) (by omega)
  clear HN hcur hb1 HB0 HK0 hs0
  go_wp2_with fail
  refine HON.out.mono ?_
  rintro e w2 ⟨b, rfl, hc2⟩
  have HC2 : Hid (Cw w1 (w.heap.size + 1) d w2) := hc2
  have hs2 : w1.heap.size ≤ w2.heap.size := hc2.2.1.size
  have HK2 : Hid (w2.heap[w.heap.size]? = some (Obj.cells #[.int .i64 0, .int .i64 0, .string ⟨#[]⟩] 26)) := Cw_blk hc2 HK1.out (by omega)
  have HS2 : Hid (Cw w2 (w.heap.size + 1) d w2) := Cw_self hc2.1 (by omega)
  clear HON hc2 HK1 H1
  cases b with
  | true =>
    have HST : Hid (Cw w2 (w.heap.size + 1) d ((w2.alloc (Obj.cells #[] 40)).alloc (Obj.cells #[.int .i64 3, .int .i64 0, .string ⟨#[]⟩] 26))) := (HS2.out.alloc _).alloc _
    go_wp2
    go_loopw [5] (fun o wr => ∃ (h : List Cel) (xs : List Value) (u : Val), h.length ≤ 18 ∧ wr.ownsRow w2.heap.size 40 6 o h.length xs ∧ PrC wr (w2.heap.size + 1) xs h ∧ wr.heap[w2.heap.size + 1]? = some (.cells #[.int .i64 u.k, .int .i64 u.n, .string u.s] 26 (0, 0)) ∧ u.tiny ∧ Cw w2 (w.heap.size + 1) d wr)
      (fun o _ => 18 - slen o)
    case atStart =>
      exact ⟨[], [], ⟨3, 0, ⟨#[]⟩⟩, by simp, own_empty (blk_past (blk_at _ _ _ rfl)) (Nat.le_refl _), (fun j x hx => by simp at hx), blk_at _ _ _ (by simp), ⟨by show (-10 : Int) ≤ 3; omega, by show (3 : Int) ≤ 20; omega, by show (-1000000 : Int) ≤ 0; omega, by show (0 : Int) ≤ 1000001; omega, by show (0 : Nat) ≤ 40; omega⟩, HST.out⟩
    case round =>
      clear HST
      obtain ⟨h, xs, u, hh, ho, hp, hk, hu, hcr⟩ := hrel
      obtain ⟨oa, oc, rfl, hoc⟩ := own_slice ho
      have hxl : xs.length = h.length * 6 := ho.1
      have hsr : w2.heap.size + 1 < wr.heap.size := (Array.getElem?_eq_some_iff.1 hk).1
      have HO : Hid (wr.ownsRow w2.heap.size 40 6 (.slice oa h.length oc) h.length xs) := ho
      have HP : Hid (PrC wr (w2.heap.size + 1) xs h) := hp
      have HK : Hid (wr.heap[w2.heap.size + 1]? = some (.cells #[.int .i64 u.k, .int .i64 u.n, .string u.s] 26 (0, 0))) := hk
      have HU : Hid u.tiny := hu
      have HCR : Hid (Cw w2 (w.heap.size + 1) d wr) := hcr
      have e0 := cell_blk (j := 0) hk rfl
      have e1 := cell_blk (j := 1) hk rfl
      have e2 := cell_blk (j := 2) hk rfl
      clear ho hp hk hu hcr
      by_cases hlt : h.length < 18
      · have hd : decide ((h.length : Int) < 18) = true := by simp; omega
        have hlt' : (h.length : Int) < 18 := by omega
        have hs2' : ((wr.alloc (Obj.cells #[.int .i64 u.k, .int .i64 u.n, .string u.s, .int .i64 u.k, .int .i64 u.n, .string u.s] 26)).alloc (Obj.cells #[.int .i64 1, .string ⟨#[]⟩, .int .i64 0, .int .i64 0, .slice none 0 0, .slice (some ⟨wr.heap.size, 0, none⟩) 2 2] 40)).heap.size = wr.heap.size + 1 + 1 := by simp
        have kv3 : ((wr.alloc (Obj.cells #[.int .i64 u.k, .int .i64 u.n, .string u.s, .int .i64 u.k, .int .i64 u.n, .string u.s] 26)).alloc (Obj.cells #[.int .i64 1, .string ⟨#[]⟩, .int .i64 0, .int .i64 0, .slice none 0 0, .slice (some ⟨wr.heap.size, 0, none⟩) 2 2] 40)).heap[wr.heap.size]? = some (Obj.cells #[.int .i64 u.k, .int .i64 u.n, .string u.s, .int .i64 u.k, .int .i64 u.n, .string u.s] 26) := blk_past (blk_at _ _ _ rfl)
        have kc3 : ((wr.alloc (Obj.cells #[.int .i64 u.k, .int .i64 u.n, .string u.s, .int .i64 u.k, .int .i64 u.n, .string u.s] 26)).alloc (Obj.cells #[.int .i64 1, .string ⟨#[]⟩, .int .i64 0, .int .i64 0, .slice none 0 0, .slice (some ⟨wr.heap.size, 0, none⟩) 2 2] 40)).heap[wr.heap.size + 1]? = some (Obj.cells #[.int .i64 1, .string ⟨#[]⟩, .int .i64 0, .int .i64 0, .slice none 0 0, .slice (some ⟨wr.heap.size, 0, none⟩) 2 2] 40) := blk_at _ _ _ (by simp)
        have HC3 : Hid (Cw w2 (w.heap.size + 1) d ((wr.alloc (Obj.cells #[.int .i64 u.k, .int .i64 u.n, .string u.s, .int .i64 u.k, .int .i64 u.n, .string u.s] 26)).alloc (Obj.cells #[.int .i64 1, .string ⟨#[]⟩, .int .i64 0, .int .i64 0, .slice none 0 0, .slice (some ⟨wr.heap.size, 0, none⟩) 2 2] 40))) := (HCR.out.alloc _).alloc _
        have hbl : ∀ b, b < wr.heap.size → ((wr.alloc (Obj.cells #[.int .i64 u.k, .int .i64 u.n, .string u.s, .int .i64 u.k, .int .i64 u.n, .string u.s] 26)).alloc (Obj.cells #[.int .i64 1, .string ⟨#[]⟩, .int .i64 0, .int .i64 0, .slice none 0 0, .slice (some ⟨wr.heap.size, 0, none⟩) 2 2] 40)).heap[b]? = wr.heap[b]? := fun b hb => (al_same _ _ (by simp; omega)).trans (al_same _ _ hb)
        have hxs : ((wr.alloc (Obj.cells #[.int .i64 u.k, .int .i64 u.n, .string u.s, .int .i64 u.k, .int .i64 u.n, .string u.s] 26)).alloc (Obj.cells #[.int .i64 1, .string ⟨#[]⟩, .int .i64 0, .int .i64 0, .slice none 0 0, .slice (some ⟨wr.heap.size, 0, none⟩) 2 2] 40)).ownsRow w2.heap.size 40 6 (.slice oa h.length oc) h.length xs := own_keep HO.out fun b hb => hbl b (own_blk HO.out hb).2.1
        have HP3 : Hid (PrC ((wr.alloc (Obj.cells #[.int .i64 u.k, .int .i64 u.n, .string u.s, .int .i64 u.k, .int .i64 u.n, .string u.s] 26)).alloc (Obj.cells #[.int .i64 1, .string ⟨#[]⟩, .int .i64 0, .int .i64 0, .slice none 0 0, .slice (some ⟨wr.heap.size, 0, none⟩) 2 2] 40)) (w2.heap.size + 1) xs h) := HP.out.keep fun b cur _ hb => hbl b (Array.getElem?_eq_some_iff.1 hb).1
        have HK3 : Hid (((wr.alloc (Obj.cells #[.int .i64 u.k, .int .i64 u.n, .string u.s, .int .i64 u.k, .int .i64 u.n, .string u.s] 26)).alloc (Obj.cells #[.int .i64 1, .string ⟨#[]⟩, .int .i64 0, .int .i64 0, .slice none 0 0, .slice (some ⟨wr.heap.size, 0, none⟩) 2 2] 40)).heap[w2.heap.size + 1]? = some (.cells #[.int .i64 u.k, .int .i64 u.n, .string u.s] 26 (0, 0))) := (hbl _ hsr).trans HK.out
        have HV3 : Hid (((wr.alloc (Obj.cells #[.int .i64 u.k, .int .i64 u.n, .string u.s, .int .i64 u.k, .int .i64 u.n, .string u.s] 26)).alloc (Obj.cells #[.int .i64 1, .string ⟨#[]⟩, .int .i64 0, .int .i64 0, .slice none 0 0, .slice (some ⟨wr.heap.size, 0, none⟩) 2 2] 40)).heap[wr.heap.size]? = some (Obj.cells #[.int .i64 u.k, .int .i64 u.n, .string u.s, .int .i64 u.k, .int .i64 u.n, .string u.s] 26)) := kv3
        have hone : ∀ u ∈ ([.int .i64 1, .string ⟨#[]⟩, .int .i64 0, .int .i64 0, .slice none 0 0, .slice (some ⟨wr.heap.size, 0, none⟩) 2 2] : List Value), u.oneCell' = true := by
          intro u hu
          simp at hu
          rcases hu with rfl | rfl | rfl | rfl | rfl | rfl <;> rfl
        have HNE : Hid (∀ b, (Value.slice oa h.length oc).ownBlock = some b → ∃ cur : Array Value, ((wr.alloc (Obj.cells #[.int .i64 u.k, .int .i64 u.n, .string u.s, .int .i64 u.k, .int .i64 u.n, .string u.s] 26)).alloc (Obj.cells #[.int .i64 1, .string ⟨#[]⟩, .int .i64 0, .int .i64 0, .slice none 0 0, .slice (some ⟨wr.heap.size, 0, none⟩) 2 2] 40)).heap[b]? = some (Obj.cells cur 40 (0, 0))) := fun b hb => by
          obtain ⟨_, _, cur, _, _, _, q, _⟩ := own_blk hxs hb
          exact ⟨cur, q⟩
        have HBB : Hid (∀ b, (Value.slice oa h.length oc).ownBlock = some b → w2.heap.size ≤ b) := fun b hb => (own_blk hxs hb).1
        clear kv3 hbl
        go_wp2_with (at_builtin; go_loud (refine wpList_append_row rfl _ _ 24 rfl w2.heap.size 40 i62 _ 6 88 Tryd.underlying24 hi62 hz620 hz621 hz622 rfl (by omega) (.slice oa h.length oc) h.length xs rfl hxs (some ⟨wr.heap.size + 1, 0, none⟩) 1 1 [.int .i64 1, .string ⟨#[]⟩, .int .i64 0, .int .i64 0, .slice none 0 0, .slice (some ⟨wr.heap.size, 0, none⟩) 2 2] rfl rfl (fun _ => ⟨_, rfl, World.news_of_block kc3⟩) hone (by unfold maxLen; omega) (by omega) (by omega) ?_; intro v4 w4 hown4 hgr4 hat4; refine stop ?_))
        have hkp : ∀ (b : Nat) (cur : Array Value), ((wr.alloc (Obj.cells #[.int .i64 u.k, .int .i64 u.n, .string u.s, .int .i64 u.k, .int .i64 u.n, .string u.s] 26)).alloc (Obj.cells #[.int .i64 1, .string ⟨#[]⟩, .int .i64 0, .int .i64 0, .slice none 0 0, .slice (some ⟨wr.heap.size, 0, none⟩) 2 2] 40)).heap[b]? = some (Obj.cells cur 26 (0, 0)) → w4.heap[b]? = ((wr.alloc (Obj.cells #[.int .i64 u.k, .int .i64 u.n, .string u.s, .int .i64 u.k, .int .i64 u.n, .string u.s] 26)).alloc (Obj.cells #[.int .i64 1, .string ⟨#[]⟩, .int .i64 0, .int .i64 0, .slice none 0 0, .slice (some ⟨wr.heap.size, 0, none⟩) 2 2] 40)).heap[b]? := fun b cur hb => hgr4.block b (Array.getElem?_eq_some_iff.1 hb).1 fun q => by
          obtain ⟨c2, hc2⟩ := HNE.out b q.symm
          rw [hb] at hc2
          simp at hc2
        have HP4 : Hid (PrC w4 (w2.heap.size + 1) (xs ++ [.int .i64 1, .string ⟨#[]⟩, .int .i64 0, .int .i64 0, .slice none 0 0, .slice (some ⟨wr.heap.size, 0, none⟩) 2 2]) (h ++ [(⟨1, ⟨#[]⟩, 0, 0, [], [u, u]⟩ : Cel)])) := (HP3.out.keep fun b cur _ hb => hkp b cur hb).push hxl HU.out HU.out (by omega) ((hkp _ _ HV3.out).trans HV3.out)
        have hk4 : w4.heap[w2.heap.size + 1]? = some (.cells #[.int .i64 u.k, .int .i64 u.n, .string u.s] 26 (0, 0)) := (hkp _ _ HK3.out).trans HK3.out
        have HK4 : Hid (w4.heap[w2.heap.size + 1]? = some (.cells #[.int .i64 u.k, .int .i64 u.n, .string u.s] 26 (0, 0))) := hk4
        have HC4 : Hid (Cw w2 (w.heap.size + 1) d w4) := Cw_grow HC3.out hgr4 fun k hk => HBB.out k hk
        have HO4 : Hid (w4.ownsRow w2.heap.size 40 6 v4 (h ++ [(⟨1, ⟨#[]⟩, 0, 0, [], [u, u]⟩ : Cel)]).length (xs ++ [.int .i64 1, .string ⟨#[]⟩, .int .i64 0, .int .i64 0, .slice none 0 0, .slice (some ⟨wr.heap.size, 0, none⟩) 2 2])) := by
          show w4.ownsRow _ _ _ _ _ _
          rw [List.length_append]
          exact hown4
        obtain ⟨a4, c4, rfl, hc4⟩ := own_slice hown4
        have g0 := frozen_blk hk4 0
        have g1 := frozen_blk hk4 1
        have g2 := frozen_blk hk4 2
        clear e0 e1 e2
        have e0 := cell_blk (j := 0) hk4 rfl
        have e1 := cell_blk (j := 1) hk4 rfl
        have e2 := cell_blk (j := 2) hk4 rfl
        clear hown4 hgr4 hat4 hxs kc3 hkp hk4
        unfold Hid
        go_wp2
        go_roundw
        case rel =>
          refine ⟨h ++ [(⟨1, ⟨#[]⟩, 0, 0, [], [u, u]⟩ : Cel)], xs ++ [.int .i64 1, .string ⟨#[]⟩, .int .i64 0, .int .i64 0, .slice none 0 0, .slice (some ⟨wr.heap.size, 0, none⟩) 2 2], ⟨5, (h.length : Int), ⟨#[]⟩⟩, by simp; omega, ?_, ?_, ?_, ?_, ?_⟩
          · exact own_keep HO4.out (fun k hk => by
              obtain ⟨_, _, cur, _, _, _, q, _⟩ := own_blk HO4.out hk
              have hne : k ≠ w2.heap.size + 1 := fun e => by rw [e, HK4.out] at q; simp at q
              rw [heap_setCell_other _ _ _ _ (by simpa using hne), heap_setCell_other _ _ _ _ (by simpa using hne), heap_setCell_other _ _ _ _ (by simpa using hne)])
          · exact HP4.out.keep fun b cur hne hb => by
              rw [heap_setCell_other _ _ _ _ (by simp; omega), heap_setCell_other _ _ _ _ (by simp; omega), heap_setCell_other _ _ _ _ (by simp; omega)]
          · exact put_blk _ _ _ HK4.out
          · exact ⟨by show (-10 : Int) ≤ 5; omega, by show (5 : Int) ≤ 20; omega, by show (-1000000 : Int) ≤ (h.length : Int); omega, by show (h.length : Int) ≤ 1000001; omega, by show (0 : Nat) ≤ 40; omega⟩
          · exact Cw_set (Cw_set (Cw_set HC4.out (by omega)) (by omega)) (by omega)
        case measure => simp [slen]; omega
      · have hd : decide ((h.length : Int) < 18) = false := by simp; omega
        have hge : ¬ (h.length : Int) < 18 := by omega
        have kz : wr.heap[w.heap.size]? = some (Obj.cells #[.int .i64 0, .int .i64 0, .string ⟨#[]⟩] 26) := Cw_blk HCR.out HK2.out (by omega)
        have HKZ : Hid (wr.heap[w.heap.size]? = some (Obj.cells #[.int .i64 0, .int .i64 0, .string ⟨#[]⟩] 26)) := kz
        have z0 := cell_blk (j := 0) kz rfl
        have z1 := cell_blk (j := 1) kz rfl
        have z2 := cell_blk (j := 2) kz rfl
        have f0 := frozen_blk kz 0
        have f1 := frozen_blk kz 1
        have f2 := frozen_blk kz 2
        clear kz
        go_wp2_with fail
        go_region
        all_goals
          go_wp2
          (try simp only [Exit.inBlock, Exit.then])
          refine bodyPost_ret (res_tc rfl _ _ w.heap.size _ _ _ rfl (put_blk _ _ _ HKZ.out)) rfl ?_
          exact ⟨h, oa, oc, u, rfl, by omega, hoc, HP.out.tiny, HU.out, (HP.out.keep (fun b cur hlt hb => three _ _ _ _ (by omega))).row (own_keep HO.out fun b hb => three _ _ _ _ (by have := (own_blk HO.out hb).1; omega)), (by first | exact below_drewN ((cw_belowc HB1.out (by omega) (Cw_trans HC2.out HCR.out)).setCell (p := ⟨_, _, none⟩) (Nat.le_refl _) _ |>.setCell (p := ⟨_, _, none⟩) (Nat.le_refl _) _ |>.setCell (p := ⟨_, _, none⟩) (Nat.le_refl _) _) 1 | exact below_drewN ((cw_belowc HB1.out (by omega) (Cw_trans HC2.out HCR.out)).setCell (p := ⟨_, _, none⟩) (Nat.le_refl _) _ |>.setCell (p := ⟨_, _, none⟩) (Nat.le_refl _) _ |>.setCell (p := ⟨_, _, none⟩) (Nat.le_refl _) _) 2 | exact below_drewN ((cw_belowc HB1.out (by omega) (Cw_trans HC2.out HCR.out)).setCell (p := ⟨_, _, none⟩) (Nat.le_refl _) _ |>.setCell (p := ⟨_, _, none⟩) (Nat.le_refl _) _ |>.setCell (p := ⟨_, _, none⟩) (Nat.le_refl _) _) 3 | (trace_state; fail))⟩
  | false =>
    have HS : Hid (Calls Tryd.prog 16 #[.slice d.a d.len d.cap, .int .i64 (15 : Nat)] w2 fun e w' => ∃ k : Nat, e = .returned (.int .i64 (k : Int)) ∧ 0 < k ∧ k ≤ 15 ∧ w' = w2) := size_pos d.a d.len d.cap 15 w2 hl (by decide) (by decide)
    go_wp2_with fail
    refine HS.out.mono ?_
    rintro e W2 ⟨k, rfl, hk0, hk, rfl⟩
    clear HS
    have HH : Hid (Calls Tryd.prog 15 #[.pointer (some ⟨w.heap.size + 1, 0, none⟩), .int .i64 (k : Int)] W2 fun e W' => HdPost W2 (w.heap.size + 1) d e W') := l6Heap_any _ d k W2 HS2.out hk0 (by omega)
    go_wp2_with fail
    refine HH.out.mono ?_
    rintro e w3 ⟨h, ah, ch, rfl, hhl, hhc, hht, hrow, -, hc3⟩
    have hs3 : W2.heap.size ≤ w3.heap.size := hc3.2.1.size
    have HR3 : Hid (RowCc w3 (w.heap.size + 1) ah h) := hrow
    have HT3 : Hid (∀ x ∈ h, x.tiny) := hht
    have HC3 : Hid (Cw W2 (w.heap.size + 1) d w3) := hc3
    have HCA : Hid (Calls Tryd.prog 17 #[.pointer (some ⟨w.heap.size + 1, 0, none⟩), .slice ah h.length ch] w3 fun e W' => VdPost w3 (w.heap.size + 1) d e W') := l6AnyVal_any _ d ah ch h _ (Cw_self hc3.1 (by omega)) (by omega) hrow.kinds
    clear HH hrow hht hc3
    go_wp2_with fail
    refine HCA.out.mono ?_
    rintro e w4 ⟨v, rfl, hv, hc4⟩
    have HC4 : Hid (Cw W2 (w.heap.size + 1) d w4) := Cw_trans HC3.out hc4
    have HR4 : Hid (RowCc w4 (w.heap.size + 1) ah h) := HR3.out.keep hc4
    have HV : Hid v.tiny := hv
    have k4 : w4.heap[w.heap.size]? = some (Obj.cells #[.int .i64 0, .int .i64 0, .string ⟨#[]⟩] 26) := Cw_blk HC4.out HK2.out (by omega)
    have HK4 : Hid (w4.heap[w.heap.size]? = some (Obj.cells #[.int .i64 0, .int .i64 0, .string ⟨#[]⟩] 26)) := k4
    have z0 := cell_blk (j := 0) k4 rfl
    have z1 := cell_blk (j := 1) k4 rfl
    have z2 := cell_blk (j := 2) k4 rfl
    have f0 := frozen_blk k4 0
    have f1 := frozen_blk k4 1
    have f2 := frozen_blk k4 2
    clear hc4 hv k4 HCA
    go_wp2
    (try simp only [Exit.inBlock, Exit.then])
    refine bodyPost_ret (res_tc rfl _ _ w.heap.size _ _ _ rfl (put_blk _ _ _ HK4.out)) rfl ?_
    exact ⟨h, ah, ch, v, rfl, by omega, hhc, HT3.out, HV.out, (HR4.out.keepB (fun b hb => by rw [heap_setCell_other _ _ _ _ (by simp; omega), heap_setCell_other _ _ _ _ (by simp; omega), heap_setCell_other _ _ _ _ (by simp; omega)]) (by simp)).row, ((cw_belowc HB1.out (by omega) (Cw_trans HC2.out HC4.out)).setCell (p := ⟨_, _, none⟩) (Nat.le_refl _) _ |>.setCell (p := ⟨_, _, none⟩) (Nat.le_refl _) _ |>.setCell (p := ⟨_, _, none⟩) (Nat.le_refl _) _)⟩
end Go.Proofs.YtkbpnjigoipgeaaDoor
