/- A program of one's own, a node's Args or Names one longer: plain. -/
import Derived.Test.YtgjeefedcfakdaaYaz
set_option linter.unusedVariables false
namespace Go.Proofs.Ytgjeefedcfakdaa
open Go.ChangeShapes Go.WideShapes Go.ChangeAt Go.RowKit
open Cu (Cw Code1 CurS)
theorem pick_list {α : Type} (P : Nat → α → Prop) : ∀ (n : Nat), (∀ j, j < n → ∃ x, P j x) → ∃ l : List α, l.length = n ∧ ∀ j x, l[j]? = some x → P j x
 | 0, _ => ⟨[], rfl, fun j x h => by simp at h⟩
 | n + 1, h => by
  obtain ⟨l, hl, hp⟩ := pick_list P n fun j hj => h j (by omega)
  obtain ⟨x, hx⟩ := h n (by omega)
  refine ⟨l ++ [x], by simp [hl], fun j y hy => ?_⟩
  by_cases hj : j < n
  ·rw [List.getElem?_append_left (by omega)] at hy
   exact hp j y hy
  ·have hj' := (llt hy)
   have : j = n := by simp at hj'; omega
   subst this
   rw [List.getElem?_append_right (by omega), hl, Nat.sub_self] at hy
   have := Option.some.inj hy
   subst this
   exact hx
theorem rowC_blk {w : World} {p : Nat → Prop} {t : TypeId} {a : Option Addr} {n c : Nat} (h : RowC w p t a n c) (hn : 0 < n) : ∃ (g : Nat) (cur : Array Value), p g ∧ a = some ⟨g, 0, none⟩ ∧ w.heap[g]? = some (Obj.cells cur t) ∧ cur.size = c ∧ n ≤ c := by
 rcases h with h | ⟨g, cur, h1, h2, h3, h4, h5, h6⟩
 ·omega
 ·exact ⟨g, cur, h1, h2, h3, h4, h5⟩
theorem rowI_turn {W W' : World} {rb n : Nat} {q : Int} {curr cur2 : Array Value} {p p' : Nat → Prop} (hk : ∀ b, p b → b ≠ rb → W'.heap[b]? = W.heap[b]?) (hp : ∀ b, p b → p' b) (h1 : W.heap[rb]? = some (Obj.cells curr 3)) (h2 : W'.heap[rb]? = some (Obj.cells cur2 3)) (hn : cur2[n]? = some (.int .i64 q)) (ho : ∀ j, j ≠ n → cur2[j]? = curr[j]?)
  {aa : Option Addr} {l : List Int} {c : Nat} (hr : RowIP W p aa l) (hc : RowC W p 3 aa l.length c) : ∃ l' : List Int, l'.length = l.length ∧ RowIP W' p' aa l' := by
 by_cases hl : l = []
 ·subst hl
  exact ⟨[], rfl, fun i x h => by simp at h⟩
 ·have hlp : 0 < l.length := by
   cases l with
   | nil => exact absurd rfl hl
   | cons a l => simp
  obtain ⟨g, cur, g1, rfl, g3, g4, g5⟩ := rowC_blk hc hlp
  by_cases hg : g = rb
  ·subst hg
   rw [h1] at g3
   injection Option.some.inj g3 with e1 e2
   subst e1
   refine ⟨l.set n q, by simp, fun i x hx => ⟨g, 0, rfl, hp g g1, ?_⟩⟩
   rw [Nat.zero_add]
   refine cell_blk h2 ?_
   by_cases hi : i = n
   ·subst hi
    have hil := (llt hx)
    rw [List.getElem?_set_self (by simpa using hil)] at hx
    rw [← Option.some.inj hx]
    exact hn
   ·rw [List.getElem?_set_ne (fun e => hi e.symm)] at hx
    rw [ho i hi]
    obtain ⟨b, o, e1, e2, e3⟩ := hr i x hx
    have e1 := Option.some.inj e1
    injection e1 with e4 e5
    subst e4
    subst e5
    rw [Nat.zero_add] at e3
    have e6 := cell_blk' h1 i (by
     have := (llt hx)
     omega)
    obtain ⟨v, hv⟩ := e6
    simp [World.cell?, h1] at e3
    exact e3
  ·exact ⟨l, rfl, fun i x hx => by
    obtain ⟨b, o, e1, e2, e3⟩ := hr i x hx
    have e4 := Option.some.inj e1
    injection e4 with e5 e6
    subst e5
    exact ⟨g, o, e1, hp g g1, (World.cell?_of_block (w := W) (a := ⟨g, o + i, none⟩) (hk g g1 hg)).trans e3⟩⟩
theorem rowS_off {W : World} {p : Nat → Prop} {rb : Nat} {curr : Array Value} (h1 : W.heap[rb]? = some (Obj.cells curr 3)) {an : Option Addr} {l : List ByteArray} {c : Nat} (hr : RowSP W p an l) (hc : RowC W p 9 an l.length c) : RowSP W (fun b => p b ∧ b ≠ rb) an l := by
 intro i x hx
 obtain ⟨b, o, e1, e2, e3⟩ := hr i x hx
 have hi := (llt hx)
 obtain ⟨g, cur, g1, g2, g3, _⟩ := rowC_blk hc (by omega)
 rw [g2] at e1
 have e4 := Option.some.inj e1
 injection e4 with e5 e6
 subst e5
 refine ⟨g, o, by rw [g2, ← e6], ⟨e2, ?_⟩, e3⟩
 rintro rfl
 rw [h1] at g3
 injection Option.some.inj g3 with _ q
 exact absurd q (by decide)
theorem args_more {w W W1 W7 : World} {c : Nat} {d : Code1} {g5 g cap : Nat} {ns : List Nod} {root : Int} (hA : PwAt w W c d g5 (some ⟨g, 0, none⟩) cap ns root) (hne : ns ≠ []) (h5 : ∀ d ∈ ns, NSm d) {k : Nat} {x : Nod} (hx : ns[k]? = some x) {cur : Array Value} (hcur : W.heap[g]? = some (Obj.cells cur 35))
  {an aa : Option Addr} {cn ca : Nat} (hcs : Cells5 cur k an cn aa ca x) (hnx : NodX W (NP (fun g => g < w.heap.size + 1) W (.slice (some ⟨g, 0, none⟩) ns.length cap)) an cn aa ca x) (hb : Below W.heap.size W W1) {q : Int} {v' : Value} (hO : OneMore W1 3 (.slice aa x.args.length ca) x.args.length (x.args.map (Value.int .i64)) (.int .i64 q) v' W7) :
  ∃ ns' : List Nod, ns'.length = ns.length ∧ RowG (W7.setCell ⟨g, k * 5 + 4, none⟩ v') (w.heap.size + 1) (some ⟨g, 0, none⟩) ns' ∧ (∀ d ∈ ns', NSw d) ∧ (∀ b, b < W.heap.size → b < w.heap.size + 1 ∨ b = g5 → W7.heap[b]? = W.heap[b]?) ∧ W7.heap[g]? = some (Obj.cells cur 35) ∧ W.heap.size ≤ W7.heap.size ∧ Below (w.heap.size + 1) W W7 := by
 obtain ⟨g', cur', hg', h1, h2, h3, h4, h6, hnd⟩ := own_cells hA.own hne
 obtain rfl : g = g' := by
  injection hg' with e
  injection e
 obtain rfl : cur = cur' := by
  rw [hcur] at h2
  injection Option.some.inj h2
 have hgW := (alt hcur)
 have hk5 := (alt hcs.2.2.2.2)
 -- the row's block, if it turns
 have key : ∃ (rb : Nat), (∀ b, b < W.heap.size → b ≠ rb → W7.heap[b]? = W.heap[b]?) ∧ rb ≠ g ∧ rb ≠ g5 ∧ w.heap.size + 1 ≤ rb ∧ W.heap.size ≤ W7.heap.size ∧ Below (w.heap.size + 1) W W7 ∧
   (∀ (aj : Option Addr) (l : List Int) (cj : Nat), RowIP W (NP (fun g => g < w.heap.size + 1) W (.slice (some ⟨g, 0, none⟩) ns.length cap)) aj l → RowC W (NP (fun g => g < w.heap.size + 1) W (.slice (some ⟨g, 0, none⟩) ns.length cap)) 3 aj l.length cj → ∃ l' : List Int, l'.length = l.length ∧ RowIP W7 (fun b => (w.heap.size + 1 ≤ b ∧ b < W7.heap.size) ∧ b ≠ g) aj l') ∧
   (∀ (aj : Option Addr) (l : List ByteArray) (cj : Nat), RowSP W (NP (fun g => g < w.heap.size + 1) W (.slice (some ⟨g, 0, none⟩) ns.length cap)) aj l → RowC W (NP (fun g => g < w.heap.size + 1) W (.slice (some ⟨g, 0, none⟩) ns.length cap)) 9 aj l.length cj → RowSP W7 (fun b => (w.heap.size + 1 ≤ b ∧ b < W7.heap.size) ∧ b ≠ g) aj l) ∧
   ∃ (a' : Option Addr) (c' : Nat), v' = .slice a' (x.args ++ [q]).length c' ∧ (x.args ++ [q]).length ≤ c' ∧ RowIP W7 (fun b => (w.heap.size + 1 ≤ b ∧ b < W7.heap.size) ∧ b ≠ g) a' (x.args ++ [q]) := by
  have hnp : ∀ b, NP (fun g => g < w.heap.size + 1) W (.slice (some ⟨g, 0, none⟩) ns.length cap) b → w.heap.size + 1 ≤ b ∧ b < W.heap.size ∧ b ≠ g := fun b hb => ⟨Nat.le_of_not_lt hb.2.2.2, hb.1, fun e => hb.2.1 (by rw [e]; rfl)⟩
  have hW1 := hb.size
  have hg5W := (alt hA.p)
  have hg5w := hA.g
  have hlen : (x.args ++ [q]).length = x.args.length + 1 := by simp
  rcases hO with ⟨rb, cp, curr, cur2, hv, hrb, hroom, hsz, rfl, hg1, hb2, hs2, hq2, ho2⟩ | ⟨cap', rfl, hown, hg1⟩
  ·injection hv with e1 e2 e3
   subst e1
   subst e3
   rcases hnx.2.2 with ⟨_, _, h⟩ | ⟨g3, cur3, r1, r2, r3, r4, r5, r6⟩
   ·cases h
   ·have r2 := Option.some.inj r2
    injection r2 with r7 _
    subst r7
    obtain ⟨q1, q2, q3⟩ := hnp rb r1
    have hrbW : W1.heap[rb]? = W.heap[rb]? := hb.block rb q2
    have hrb0 : W.heap[rb]? = some (Obj.cells curr 3) := hrbW ▸ hrb
    have hk : ∀ b, b < W.heap.size → b ≠ rb → W7.heap[b]? = W.heap[b]? := fun b h hne => (hg1.block b (by omega) (fun e => hne (Option.some.inj e))).trans (hb.block b h)
    have hs7 : W.heap.size ≤ W7.heap.size := Nat.le_trans hW1 hg1.size
    refine ⟨rb, hk, q3, ?_, q1, hs7, ⟨hg1.os.trans hb.os, hg1.tape.trans hb.tape, hg1.output.trans hb.output, hs7, fun b h => hk b (by omega) (by omega)⟩, fun aj l cj hr hc => rowI_turn (fun b hb hne => hk b (hnp b hb).2.1 hne) (fun b hb => ⟨⟨(hnp b hb).1, by have := (hnp b hb).2.1; omega⟩, (hnp b hb).2.2⟩) hrb0 hb2 hq2 ho2 hr hc, fun aj l cj hr hc => (rowS_off hrb0 hr hc).keep fun b hb => ⟨⟨⟨(hnp b hb.1).1, by have := (hnp b hb.1).2.1; omega⟩, (hnp b hb.1).2.2⟩, hk b (hnp b hb.1).2.1 hb.2⟩, some ⟨rb, 0, none⟩, ca, by rw [hlen], by rw [hlen]; exact hroom, fun i y hy => ⟨rb, 0, rfl, ⟨⟨q1, by omega⟩, q3⟩, ?_⟩⟩
    ·rintro rfl
     have hp := hA.p
     rw [hrb0] at hp
     injection Option.some.inj hp with _ h
     exact absurd h (by decide)
    ·rw [Nat.zero_add]
     refine cell_blk hb2 ?_
     by_cases hi : i < x.args.length
     ·rw [List.getElem?_append_left hi] at hy
      obtain ⟨b, o, f1, f2, f3⟩ := hnx.1.2.1 i y hy
      have f1 := Option.some.inj f1
      injection f1 with f4 f5
      subst f4
      subst f5
      rw [ho2 i (by omega)]
      rw [Nat.zero_add] at f3
      simp [World.cell?, hrb0] at f3
      exact f3
     ·have hi' := (llt hy)
      have : i = x.args.length := by omega
      subst this
      rw [List.getElem?_append_right (Nat.le_refl _), Nat.sub_self] at hy
      have hy := Option.some.inj hy
      subst hy
      exact hq2
  ·have hk : ∀ b, b < W.heap.size → W7.heap[b]? = W.heap[b]? := fun b h => (hg1.block b (by omega) (fun e => by cases e)).trans (hb.block b h)
   have hs7 : W.heap.size ≤ W7.heap.size := Nat.le_trans hW1 hg1.size
   have hgg := hA.g
   have hpp : ∀ b, NP (fun g => g < w.heap.size + 1) W (.slice (some ⟨g, 0, none⟩) ns.length cap) b → ((w.heap.size + 1 ≤ b ∧ b < W7.heap.size) ∧ b ≠ g) ∧ W7.heap[b]? = W.heap[b]? := fun b hb => ⟨⟨⟨(hnp b hb).1, by have := (hnp b hb).2.1; omega⟩, (hnp b hb).2.2⟩, hk b (hnp b hb).2.1⟩
   have hlt : W1.heap.size < W7.heap.size := World.ownsRow.lt hown W1.heap.size rfl |>.2
   refine ⟨W7.heap.size + g + g5 + w.heap.size + 2, fun b h _ => hk b h, by omega, by omega, by omega, hs7, ⟨hg1.os.trans hb.os, hg1.tape.trans hb.tape, hg1.output.trans hb.output, hs7, fun b h => hk b (by omega)⟩, fun aj l cj hr hc => ⟨l, rfl, hr.keep hpp⟩, fun aj l cj hr hc => hr.keep hpp, some ⟨W1.heap.size, 0, none⟩, cap', by rw [hlen], ?_, fun i y hy => ⟨W1.heap.size, 0, rfl, ⟨⟨by omega, hlt⟩, by omega⟩, ?_⟩⟩
   ·rcases hown.2 with ⟨h, _⟩ | ⟨g9, c9, cur9, h, _, _, h8, _⟩
    ·cases h
    ·injection h with _ _ h
     rw [hlen, h]
     exact h8
   ·rcases hown.2 with ⟨h, _⟩ | ⟨g9, c9, cur9, h, _, h7, h8, _, _, h10⟩
    ·cases h
    ·injection h with h _ _
     have h := Option.some.inj h
     injection h with h _
     subst h
     rw [Nat.zero_add]
     refine cell_blk h7 ?_
     have hi' := (llt hy)
     have h11 : (cur9.toList.take ((x.args.length + 1) * 1))[i]? = (x.args.map (Value.int .i64) ++ [.int .i64 q])[i]? := by rw [h10]
     rw [List.getElem?_take_of_lt (by omega), Array.getElem?_toList] at h11
     rw [h11]
     have h12 : x.args.map (Value.int .i64) ++ [.int .i64 q] = (x.args ++ [q]).map (Value.int .i64) := by simp
     rw [h12, List.getElem?_map, hy]
     rfl
 obtain ⟨rb, k1, k2, k3, k4, k5, k55, k6, k7, a', c', rfl, k8, k9⟩ := key
 have hg7 : W7.heap[g]? = some (Obj.cells cur 35) := (k1 g hgW (fun e => k2 e.symm)).trans hcur
 have hoff : ∀ (b : Nat), b ≠ g → (W7.setCell ⟨g, k * 5 + 4, none⟩ (.slice a' (x.args ++ [q]).length c')).heap[b]? = W7.heap[b]? := fun b h => heap_setCell_other _ _ _ _ h
 have kI : ∀ {aj : Option Addr} {l : List Int}, RowIP W7 (fun b => (w.heap.size + 1 ≤ b ∧ b < W7.heap.size) ∧ b ≠ g) aj l → RowIP (W7.setCell ⟨g, k * 5 + 4, none⟩ (.slice a' (x.args ++ [q]).length c')) (fun b => w.heap.size + 1 ≤ b ∧ b < (W7.setCell ⟨g, k * 5 + 4, none⟩ (.slice a' (x.args ++ [q]).length c')).heap.size) aj l := fun h => h.keep fun b hb => ⟨by simpa using hb.1, hoff b hb.2⟩
 have kS : ∀ {aj : Option Addr} {l : List ByteArray}, RowSP W7 (fun b => (w.heap.size + 1 ≤ b ∧ b < W7.heap.size) ∧ b ≠ g) aj l → RowSP (W7.setCell ⟨g, k * 5 + 4, none⟩ (.slice a' (x.args ++ [q]).length c')) (fun b => w.heap.size + 1 ≤ b ∧ b < (W7.setCell ⟨g, k * 5 + 4, none⟩ (.slice a' (x.args ++ [q]).length c')).heap.size) aj l := fun h => h.keep fun b hb => ⟨by simpa using hb.1, hoff b hb.2⟩
 obtain ⟨ns', hl', hp'⟩ := pick_list (fun j d' => NSw d' ∧ ∃ an cn aa ca, Cells5 (cur.setIfInBounds (k * 5 + 4) (.slice a' (x.args ++ [q]).length c')) j an cn aa ca d' ∧ NodRows (W7.setCell ⟨g, k * 5 + 4, none⟩ (.slice a' (x.args ++ [q]).length c')) (fun b => w.heap.size + 1 ≤ b ∧ b < (W7.setCell ⟨g, k * 5 + 4, none⟩ (.slice a' (x.args ++ [q]).length c')).heap.size) an cn aa ca d') ns.length fun j hj => by
  obtain ⟨dj, hdj⟩ : ∃ dj, ns[j]? = some dj := ⟨_, List.getElem?_eq_getElem hj⟩
  obtain ⟨bn, dn, ba, da, ⟨e0, e1, e2, e3, e4⟩, hr⟩ := hnd j dj hdj
  have hs := h5 dj (List.mem_of_getElem? hdj)
  by_cases hjk : j = k
  ·subst hjk
   obtain rfl : x = dj := by rw [hx] at hdj; exact Option.some.inj hdj
   refine ⟨{ x with args := x.args ++ [q] }, ⟨hs.1, hs.2.1, hs.2.2.1, by have := hs.2.2.2.1; show x.names.length ≤ 1001; omega, by have := hs.2.2.2.2.1; simp; omega, hs.2.2.2.2.2⟩, bn, dn, a', c', ⟨set_other e0 (by omega), set_other e1 (by omega), set_other e2 (by omega), set_other e3 (by omega), set_same e4⟩, kS (k7 bn x.names dn hr.1.1 hr.2.1), kI k9, hr.1.2.2.1, k8⟩
  ·obtain ⟨l', hl, hrl⟩ := k6 ba dj.args da hr.1.2.1 hr.2.2
   refine ⟨{ dj with args := l' }, ⟨hs.1, hs.2.1, hs.2.2.1, by have := hs.2.2.2.1; show dj.names.length ≤ 1001; omega, by have := hs.2.2.2.2.1; show l'.length ≤ 1002; omega, hs.2.2.2.2.2⟩, bn, dn, ba, da, ⟨set_other e0 (by omega), set_other e1 (by omega), set_other e2 (by omega), set_other e3 (by omega), ?_⟩, kS (k7 bn dj.names dn hr.1.1 hr.2.1), kI hrl, hr.1.2.2.1, by show l'.length ≤ da; rw [hl]; exact hr.1.2.2.2⟩
   show (cur.setIfInBounds _ _)[j * 5 + 4]? = some (.slice ba l'.length da)
   rw [hl]
   exact set_other e4 (by omega)
 refine ⟨ns', hl', rown_of (heap_setCell_same _ _ _ _ _ _ hg7) (fun j d hd => (hp' j d hd).2) h1, fun d hd => ?_, fun b hb hlo => k1 b hb (by rcases hlo with h | rfl; (· omega); (· exact fun e => k3 e.symm)), hg7, k5, k55⟩
 obtain ⟨j, hj⟩ := List.mem_iff_getElem?.1 hd
 exact (hp' j d hj).1
theorem rowS_turn {W W' : World} {rb n : Nat} {q : ByteArray} {curr cur2 : Array Value} {p p' : Nat → Prop} (hk : ∀ b, p b → b ≠ rb → W'.heap[b]? = W.heap[b]?) (hp : ∀ b, p b → p' b) (h1 : W.heap[rb]? = some (Obj.cells curr 9)) (h2 : W'.heap[rb]? = some (Obj.cells cur2 9)) (hn : cur2[n]? = some (.string q)) (ho : ∀ j, j ≠ n → cur2[j]? = curr[j]?)
  {aa : Option Addr} {l : List ByteArray} {c : Nat} (hr : RowSP W p aa l) (hc : RowC W p 9 aa l.length c) : ∃ l' : List ByteArray, l'.length = l.length ∧ (∀ y ∈ l', y ∈ l ∨ y = q) ∧ RowSP W' p' aa l' := by
 by_cases hl : l = []
 ·subst hl
  exact ⟨[], rfl, (fun y h => by cases h), fun i x h => by simp at h⟩
 ·have hlp : 0 < l.length := by
   cases l with
   | nil => exact absurd rfl hl
   | cons a l => simp
  obtain ⟨g, cur, g1, rfl, g3, g4, g5⟩ := rowC_blk hc hlp
  by_cases hg : g = rb
  ·subst hg
   rw [h1] at g3
   injection Option.some.inj g3 with e1 e2
   subst e1
   refine ⟨l.set n q, by simp, fun y hy => List.mem_or_eq_of_mem_set hy, fun i x hx => ⟨g, 0, rfl, hp g g1, ?_⟩⟩
   rw [Nat.zero_add]
   refine cell_blk h2 ?_
   by_cases hi : i = n
   ·subst hi
    have hil := (llt hx)
    rw [List.getElem?_set_self (by simpa using hil)] at hx
    rw [← Option.some.inj hx]
    exact hn
   ·rw [List.getElem?_set_ne (fun e => hi e.symm)] at hx
    rw [ho i hi]
    obtain ⟨b, o, e1, e2, e3⟩ := hr i x hx
    have e1 := Option.some.inj e1
    injection e1 with e4 e5
    subst e4
    subst e5
    rw [Nat.zero_add] at e3
    have e6 := cell_blk' h1 i (by
     have := (llt hx)
     omega)
    obtain ⟨v, hv⟩ := e6
    simp [World.cell?, h1] at e3
    exact e3
  ·exact ⟨l, rfl, fun y hy => .inl hy, fun i x hx => by
    obtain ⟨b, o, e1, e2, e3⟩ := hr i x hx
    have e4 := Option.some.inj e1
    injection e4 with e5 e6
    subst e5
    exact ⟨g, o, e1, hp g g1, (World.cell?_of_block (w := W) (a := ⟨g, o + i, none⟩) (hk g g1 hg)).trans e3⟩⟩
theorem rowI_off {W : World} {p : Nat → Prop} {rb : Nat} {curr : Array Value} (h1 : W.heap[rb]? = some (Obj.cells curr 9)) {an : Option Addr} {l : List Int} {c : Nat} (hr : RowIP W p an l) (hc : RowC W p 3 an l.length c) : RowIP W (fun b => p b ∧ b ≠ rb) an l := by
 intro i x hx
 obtain ⟨b, o, e1, e2, e3⟩ := hr i x hx
 have hi := (llt hx)
 obtain ⟨g, cur, g1, g2, g3, _⟩ := rowC_blk hc (by omega)
 rw [g2] at e1
 have e4 := Option.some.inj e1
 injection e4 with e5 e6
 subst e5
 refine ⟨g, o, by rw [g2, ← e6], ⟨e2, ?_⟩, e3⟩
 rintro rfl
 rw [h1] at g3
 injection Option.some.inj g3 with _ q
 exact absurd q (by decide)
theorem names_more {w W W1 W7 : World} {c : Nat} {d : Code1} {g5 g cap : Nat} {ns : List Nod} {root : Int} (hA : PwAt w W c d g5 (some ⟨g, 0, none⟩) cap ns root) (hne : ns ≠ []) (h5 : ∀ d ∈ ns, NSm d) {k : Nat} {x : Nod} (hx : ns[k]? = some x) {cur : Array Value} (hcur : W.heap[g]? = some (Obj.cells cur 35))
  {an aa : Option Addr} {cn ca : Nat} (hcs : Cells5 cur k an cn aa ca x) (hnx : NodX W (NP (fun g => g < w.heap.size + 1) W (.slice (some ⟨g, 0, none⟩) ns.length cap)) an cn aa ca x) (hb : Below W.heap.size W W1) {q : ByteArray} (hqs : q.size ≤ 1048576) {v' : Value} (hO : OneMore W1 9 (.slice an x.names.length cn) x.names.length (x.names.map Value.string) (.string q) v' W7) :
  ∃ ns' : List Nod, ns'.length = ns.length ∧ RowG (W7.setCell ⟨g, k * 5 + 3, none⟩ v') (w.heap.size + 1) (some ⟨g, 0, none⟩) ns' ∧ (∀ d ∈ ns', NSw d) ∧ (∀ b, b < W.heap.size → b < w.heap.size + 1 ∨ b = g5 → W7.heap[b]? = W.heap[b]?) ∧ W7.heap[g]? = some (Obj.cells cur 35) ∧ W.heap.size ≤ W7.heap.size ∧ Below (w.heap.size + 1) W W7 := by
 obtain ⟨g', cur', hg', h1, h2, h3, h4, h6, hnd⟩ := own_cells hA.own hne
 obtain rfl : g = g' := by
  injection hg' with e
  injection e
 obtain rfl : cur = cur' := by
  rw [hcur] at h2
  injection Option.some.inj h2
 have hgW := (alt hcur)
 have hk5 := (alt hcs.2.2.2.1)
 -- the row's block, if it turns
 have key : ∃ (rb : Nat), (∀ b, b < W.heap.size → b ≠ rb → W7.heap[b]? = W.heap[b]?) ∧ rb ≠ g ∧ rb ≠ g5 ∧ w.heap.size + 1 ≤ rb ∧ W.heap.size ≤ W7.heap.size ∧ Below (w.heap.size + 1) W W7 ∧
   (∀ (aj : Option Addr) (l : List ByteArray) (cj : Nat), RowSP W (NP (fun g => g < w.heap.size + 1) W (.slice (some ⟨g, 0, none⟩) ns.length cap)) aj l → RowC W (NP (fun g => g < w.heap.size + 1) W (.slice (some ⟨g, 0, none⟩) ns.length cap)) 9 aj l.length cj → ∃ l' : List ByteArray, l'.length = l.length ∧ (∀ y ∈ l', y ∈ l ∨ y = q) ∧ RowSP W7 (fun b => (w.heap.size + 1 ≤ b ∧ b < W7.heap.size) ∧ b ≠ g) aj l') ∧
   (∀ (aj : Option Addr) (l : List Int) (cj : Nat), RowIP W (NP (fun g => g < w.heap.size + 1) W (.slice (some ⟨g, 0, none⟩) ns.length cap)) aj l → RowC W (NP (fun g => g < w.heap.size + 1) W (.slice (some ⟨g, 0, none⟩) ns.length cap)) 3 aj l.length cj → RowIP W7 (fun b => (w.heap.size + 1 ≤ b ∧ b < W7.heap.size) ∧ b ≠ g) aj l) ∧
   ∃ (a' : Option Addr) (c' : Nat), v' = .slice a' (x.names ++ [q]).length c' ∧ (x.names ++ [q]).length ≤ c' ∧ RowSP W7 (fun b => (w.heap.size + 1 ≤ b ∧ b < W7.heap.size) ∧ b ≠ g) a' (x.names ++ [q]) := by
  have hnp : ∀ b, NP (fun g => g < w.heap.size + 1) W (.slice (some ⟨g, 0, none⟩) ns.length cap) b → w.heap.size + 1 ≤ b ∧ b < W.heap.size ∧ b ≠ g := fun b hb => ⟨Nat.le_of_not_lt hb.2.2.2, hb.1, fun e => hb.2.1 (by rw [e]; rfl)⟩
  have hW1 := hb.size
  have hg5W := (alt hA.p)
  have hg5w := hA.g
  have hlen : (x.names ++ [q]).length = x.names.length + 1 := by simp
  rcases hO with ⟨rb, cp, curr, cur2, hv, hrb, hroom, hsz, rfl, hg1, hb2, hs2, hq2, ho2⟩ | ⟨cap', rfl, hown, hg1⟩
  ·injection hv with e1 e2 e3
   subst e1
   subst e3
   rcases hnx.2.1 with ⟨_, _, h⟩ | ⟨g3, cur3, r1, r2, r3, r4, r5, r6⟩
   ·cases h
   ·have r2 := Option.some.inj r2
    injection r2 with r7 _
    subst r7
    obtain ⟨q1, q2, q3⟩ := hnp rb r1
    have hrbW : W1.heap[rb]? = W.heap[rb]? := hb.block rb q2
    have hrb0 : W.heap[rb]? = some (Obj.cells curr 9) := hrbW ▸ hrb
    have hk : ∀ b, b < W.heap.size → b ≠ rb → W7.heap[b]? = W.heap[b]? := fun b h hne => (hg1.block b (by omega) (fun e => hne (Option.some.inj e))).trans (hb.block b h)
    have hs7 : W.heap.size ≤ W7.heap.size := Nat.le_trans hW1 hg1.size
    refine ⟨rb, hk, q3, ?_, q1, hs7, ⟨hg1.os.trans hb.os, hg1.tape.trans hb.tape, hg1.output.trans hb.output, hs7, fun b h => hk b (by omega) (by omega)⟩, fun aj l cj hr hc => rowS_turn (fun b hb hne => hk b (hnp b hb).2.1 hne) (fun b hb => ⟨⟨(hnp b hb).1, by have := (hnp b hb).2.1; omega⟩, (hnp b hb).2.2⟩) hrb0 hb2 hq2 ho2 hr hc, fun aj l cj hr hc => (rowI_off hrb0 hr hc).keep fun b hb => ⟨⟨⟨(hnp b hb.1).1, by have := (hnp b hb.1).2.1; omega⟩, (hnp b hb.1).2.2⟩, hk b (hnp b hb.1).2.1 hb.2⟩, some ⟨rb, 0, none⟩, cn, by rw [hlen], by rw [hlen]; exact hroom, fun i y hy => ⟨rb, 0, rfl, ⟨⟨q1, by omega⟩, q3⟩, ?_⟩⟩
    ·rintro rfl
     have hp := hA.p
     rw [hrb0] at hp
     injection Option.some.inj hp with _ h
     exact absurd h (by decide)
    ·rw [Nat.zero_add]
     refine cell_blk hb2 ?_
     by_cases hi : i < x.names.length
     ·rw [List.getElem?_append_left hi] at hy
      obtain ⟨b, o, f1, f2, f3⟩ := hnx.1.1 i y hy
      have f1 := Option.some.inj f1
      injection f1 with f4 f5
      subst f4
      subst f5
      rw [ho2 i (by omega)]
      rw [Nat.zero_add] at f3
      simp [World.cell?, hrb0] at f3
      exact f3
     ·have hi' := (llt hy)
      have : i = x.names.length := by omega
      subst this
      rw [List.getElem?_append_right (Nat.le_refl _), Nat.sub_self] at hy
      have hy := Option.some.inj hy
      subst hy
      exact hq2
  ·have hk : ∀ b, b < W.heap.size → W7.heap[b]? = W.heap[b]? := fun b h => (hg1.block b (by omega) (fun e => by cases e)).trans (hb.block b h)
   have hs7 : W.heap.size ≤ W7.heap.size := Nat.le_trans hW1 hg1.size
   have hgg := hA.g
   have hpp : ∀ b, NP (fun g => g < w.heap.size + 1) W (.slice (some ⟨g, 0, none⟩) ns.length cap) b → ((w.heap.size + 1 ≤ b ∧ b < W7.heap.size) ∧ b ≠ g) ∧ W7.heap[b]? = W.heap[b]? := fun b hb => ⟨⟨⟨(hnp b hb).1, by have := (hnp b hb).2.1; omega⟩, (hnp b hb).2.2⟩, hk b (hnp b hb).2.1⟩
   have hlt : W1.heap.size < W7.heap.size := World.ownsRow.lt hown W1.heap.size rfl |>.2
   refine ⟨W7.heap.size + g + g5 + w.heap.size + 2, fun b h _ => hk b h, by omega, by omega, by omega, hs7, ⟨hg1.os.trans hb.os, hg1.tape.trans hb.tape, hg1.output.trans hb.output, hs7, fun b h => hk b (by omega)⟩, fun aj l cj hr hc => ⟨l, rfl, fun y hy => .inl hy, hr.keep hpp⟩, fun aj l cj hr hc => hr.keep hpp, some ⟨W1.heap.size, 0, none⟩, cap', by rw [hlen], ?_, fun i y hy => ⟨W1.heap.size, 0, rfl, ⟨⟨by omega, hlt⟩, by omega⟩, ?_⟩⟩
   ·rcases hown.2 with ⟨h, _⟩ | ⟨g9, c9, cur9, h, _, _, h8, _⟩
    ·cases h
    ·injection h with _ _ h
     rw [hlen, h]
     exact h8
   ·rcases hown.2 with ⟨h, _⟩ | ⟨g9, c9, cur9, h, _, h7, h8, _, _, h10⟩
    ·cases h
    ·injection h with h _ _
     have h := Option.some.inj h
     injection h with h _
     subst h
     rw [Nat.zero_add]
     refine cell_blk h7 ?_
     have hi' := (llt hy)
     have h11 : (cur9.toList.take ((x.names.length + 1) * 1))[i]? = (x.names.map Value.string ++ [.string q])[i]? := by rw [h10]
     rw [List.getElem?_take_of_lt (by omega), Array.getElem?_toList] at h11
     rw [h11]
     have h12 : x.names.map Value.string ++ [.string q] = (x.names ++ [q]).map Value.string := by simp
     rw [h12, List.getElem?_map, hy]
     rfl
 obtain ⟨rb, k1, k2, k3, k4, k5, k55, k6, k7, a', c', rfl, k8, k9⟩ := key
 have hg7 : W7.heap[g]? = some (Obj.cells cur 35) := (k1 g hgW (fun e => k2 e.symm)).trans hcur
 have hoff : ∀ (b : Nat), b ≠ g → (W7.setCell ⟨g, k * 5 + 3, none⟩ (.slice a' (x.names ++ [q]).length c')).heap[b]? = W7.heap[b]? := fun b h => heap_setCell_other _ _ _ _ h
 have kI : ∀ {aj : Option Addr} {l : List Int}, RowIP W7 (fun b => (w.heap.size + 1 ≤ b ∧ b < W7.heap.size) ∧ b ≠ g) aj l → RowIP (W7.setCell ⟨g, k * 5 + 3, none⟩ (.slice a' (x.names ++ [q]).length c')) (fun b => w.heap.size + 1 ≤ b ∧ b < (W7.setCell ⟨g, k * 5 + 3, none⟩ (.slice a' (x.names ++ [q]).length c')).heap.size) aj l := fun h => h.keep fun b hb => ⟨by simpa using hb.1, hoff b hb.2⟩
 have kS : ∀ {aj : Option Addr} {l : List ByteArray}, RowSP W7 (fun b => (w.heap.size + 1 ≤ b ∧ b < W7.heap.size) ∧ b ≠ g) aj l → RowSP (W7.setCell ⟨g, k * 5 + 3, none⟩ (.slice a' (x.names ++ [q]).length c')) (fun b => w.heap.size + 1 ≤ b ∧ b < (W7.setCell ⟨g, k * 5 + 3, none⟩ (.slice a' (x.names ++ [q]).length c')).heap.size) aj l := fun h => h.keep fun b hb => ⟨by simpa using hb.1, hoff b hb.2⟩
 obtain ⟨ns', hl', hp'⟩ := pick_list (fun j d' => NSw d' ∧ ∃ an cn aa ca, Cells5 (cur.setIfInBounds (k * 5 + 3) (.slice a' (x.names ++ [q]).length c')) j an cn aa ca d' ∧ NodRows (W7.setCell ⟨g, k * 5 + 3, none⟩ (.slice a' (x.names ++ [q]).length c')) (fun b => w.heap.size + 1 ≤ b ∧ b < (W7.setCell ⟨g, k * 5 + 3, none⟩ (.slice a' (x.names ++ [q]).length c')).heap.size) an cn aa ca d') ns.length fun j hj => by
  obtain ⟨dj, hdj⟩ : ∃ dj, ns[j]? = some dj := ⟨_, List.getElem?_eq_getElem hj⟩
  obtain ⟨bn, dn, ba, da, ⟨e0, e1, e2, e3, e4⟩, hr⟩ := hnd j dj hdj
  have hs := h5 dj (List.mem_of_getElem? hdj)
  by_cases hjk : j = k
  ·subst hjk
   obtain rfl : x = dj := by rw [hx] at hdj; exact Option.some.inj hdj
   refine ⟨{ x with names := x.names ++ [q] }, ⟨hs.1, hs.2.1, hs.2.2.1, by have := hs.2.2.2.1; simp; omega, by have := hs.2.2.2.2.1; show x.args.length ≤ 1002; omega, fun y hy => by rcases List.mem_append.1 hy with hy | hy; (· exact hs.2.2.2.2.2 y hy); (· rw [List.mem_singleton.1 hy]; exact hqs)⟩, a', c', ba, da, ⟨set_other e0 (by omega), set_other e1 (by omega), set_other e2 (by omega), set_same e3, set_other e4 (by omega)⟩, kS k9, kI (k7 ba x.args da hr.1.2.1 hr.2.2), k8, hr.1.2.2.2⟩
  ·obtain ⟨l', hl, hml, hrl⟩ := k6 bn dj.names dn hr.1.1 hr.2.1
   refine ⟨{ dj with names := l' }, ⟨hs.1, hs.2.1, hs.2.2.1, by have := hs.2.2.2.1; show l'.length ≤ 1001; omega, by have := hs.2.2.2.2.1; show dj.args.length ≤ 1002; omega, fun y hy => by rcases hml y hy with hy | rfl; (· exact hs.2.2.2.2.2 y hy); (· exact hqs)⟩, bn, dn, ba, da, ⟨set_other e0 (by omega), set_other e1 (by omega), set_other e2 (by omega), ?_, set_other e4 (by omega)⟩, kS hrl, kI (k7 ba dj.args da hr.1.2.1 hr.2.2), by show l'.length ≤ dn; rw [hl]; exact hr.1.2.2.1, hr.1.2.2.2⟩
   show (cur.setIfInBounds _ _)[j * 5 + 3]? = some (.slice bn l'.length dn)
   rw [hl]
   exact set_other e3 (by omega)
 refine ⟨ns', hl', rown_of (heap_setCell_same _ _ _ _ _ _ hg7) (fun j d hd => (hp' j d hd).2) h1, fun d hd => ?_, fun b hb hlo => k1 b hb (by rcases hlo with h | rfl; (· omega); (· exact fun e => k3 e.symm)), hg7, k5, k55⟩
 obtain ⟨j, hj⟩ := List.mem_iff_getElem?.1 hd
 exact (hp' j d hj).1
theorem Cw_lo {w W W' : World} {c : Nat} {d : Code1} (h : Cw w c d W) (hb : Below (w.heap.size + 1) W W') : Cw w c d W' := by
 obtain ⟨⟨s, hs⟩, hg, hl⟩ := h
 exact ⟨⟨s, Cu.cur_blocks hs fun k hk => hb.block k (by omega)⟩, ⟨hb.os.trans hg.os, hb.tape.trans hg.tape, hb.output.trans hg.output, Nat.le_trans hg.size hb.size, fun i hi hn => (hb.block i (by omega)).trans (hg.block i hi hn)⟩, hl⟩
theorem rowI_own {W : World} {p : Nat → Prop} {lo : Nat} {aa : Option Addr} {l : List Int} {c : Nat} (hr : RowIP W p aa l) (hc : RowC W p 3 aa l.length c) (hp : ∀ b, p b → lo ≤ b) : W.ownsRow lo 3 1 (.slice aa l.length c) l.length (l.map (Value.int .i64)) := by
 refine ⟨by simp, ?_⟩
 rcases hc with ⟨h1, h2, h3⟩ | ⟨g, cur, h1, h2, h3, h4, h5, h6⟩
 ·exact .inl ⟨by rw [h1, h2, h3], h1⟩
 ·refine .inr ⟨g, c, cur, by rw [h2], hp g h1, h3, h5, h6, by omega, ?_⟩
  apply List.ext_getElem?
  intro i
  by_cases hi : i < l.length
  ·rw [List.getElem?_take_of_lt (by omega), List.getElem?_map, Array.getElem?_toList]
   obtain ⟨y, hy⟩ : ∃ y, l[i]? = some y := ⟨_, List.getElem?_eq_getElem hi⟩
   obtain ⟨b, o, e1, e2, e3⟩ := hr i y hy
   rw [h2] at e1
   have e4 := Option.some.inj e1
   injection e4 with e5 e6
   subst e5
   rw [← e6, Nat.zero_add] at e3
   simp [World.cell?, h3] at e3
   rw [e3, hy]
   rfl
  ·rw [List.getElem?_eq_none (by simp; omega), List.getElem?_eq_none (by simp; omega)]
theorem rowS_own {W : World} {p : Nat → Prop} {lo : Nat} {aa : Option Addr} {l : List ByteArray} {c : Nat} (hr : RowSP W p aa l) (hc : RowC W p 9 aa l.length c) (hp : ∀ b, p b → lo ≤ b) : W.ownsRow lo 9 1 (.slice aa l.length c) l.length (l.map Value.string) := by
 refine ⟨by simp, ?_⟩
 rcases hc with ⟨h1, h2, h3⟩ | ⟨g, cur, h1, h2, h3, h4, h5, h6⟩
 ·exact .inl ⟨by rw [h1, h2, h3], h1⟩
 ·refine .inr ⟨g, c, cur, by rw [h2], hp g h1, h3, h5, h6, by omega, ?_⟩
  apply List.ext_getElem?
  intro i
  by_cases hi : i < l.length
  ·rw [List.getElem?_take_of_lt (by omega), List.getElem?_map, Array.getElem?_toList]
   obtain ⟨y, hy⟩ : ∃ y, l[i]? = some y := ⟨_, List.getElem?_eq_getElem hi⟩
   obtain ⟨b, o, e1, e2, e3⟩ := hr i y hy
   rw [h2] at e1
   have e4 := Option.some.inj e1
   injection e4 with e5 e6
   subst e5
   rw [← e6, Nat.zero_add] at e3
   simp [World.cell?, h3] at e3
   rw [e3, hy]
   rfl
  ·rw [List.getElem?_eq_none (by simp; omega), List.getElem?_eq_none (by simp; omega)]
end Go.Proofs.Ytgjeefedcfakdaa
