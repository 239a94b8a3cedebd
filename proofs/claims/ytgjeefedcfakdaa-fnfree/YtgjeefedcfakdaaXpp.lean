/- The model's expander: where it stands in memory; l4Fail, l4Last, l4Put. Data in memory: what a datum's five cells are, rows of data and of ints. What a form means, as a plain function of the cells. -/
import Derived.Test.YtgjeefedcfakdaaBlk
import Derived.Test.YtgjeefedcfakdaaPsa
import Derived.Deep.AppendLies
import Derived.Deep.RegionLaw
import Derived.Deep.RegionWith
import Derived.Test.YtgjeefedcfakdaaKmp
set_option linter.unusedVariables false
namespace Go.Proofs.Ytgjeefedcfakdaa
variable {Gz : Nat → Prop}
open Go.ChangeShapes Go.WideShapes Go.ChangeAt Go.RowKit
def RowTy (w : World) (b : Nat) : Prop := ∃ cs t f, w.heap[b]? = some (.cells cs t f) ∧ (t = 3 ∨ t = 9)
theorem RowTy.same {w w' : World} {b : Nat} (h : RowTy w b) (hb : w'.heap[b]? = w.heap[b]?) : RowTy w' b := by
 obtain ⟨cs, t, f, h1, h2⟩ := h
 exact ⟨cs, t, f, hb.trans h1, h2⟩
theorem RowTy.ne {w : World} {b g : Nat} {cs : Array Value} {t : TypeId} {f : Nat × Nat} (h : RowTy w b) (hg : w.heap[g]? = some (.cells cs t f)) (ht : t ≠ 3 ∧ t ≠ 9) : b ≠ g := by
 rintro rfl
 obtain ⟨cs', t', f', h1, h2⟩ := h
 rw [h1] at hg
 injection hg with hg
 injection hg with _ hg
 subst hg
 rcases h2 with h | h
 ·exact ht.1 h
 ·exact ht.2 h
def NP (Gz : Nat → Prop) (w : World) (v : Value) (b : Nat) : Prop := b < w.heap.size ∧ v.ownBlock ≠ some b ∧ RowTy w b ∧ ¬ Gz b
def RowC (w : World) (p : Nat → Prop) (t : TypeId) (a : Option Addr) (n c : Nat) : Prop := (n = 0 ∧ c = 0 ∧ a = none) ∨ ∃ (g : Nat) (cur : Array Value), p g ∧ a = some ⟨g, 0, none⟩ ∧ w.heap[g]? = some (Obj.cells cur t) ∧ cur.size = c ∧ n ≤ c ∧ c ≤ maxLen
theorem RowC.keep {w w' : World} {p q : Nat → Prop} {t : TypeId} {a : Option Addr} {n c : Nat} (h : RowC w p t a n c) (hk : ∀ b, p b → q b ∧ w'.heap[b]? = w.heap[b]?) : RowC w' q t a n c := by
 rcases h with h | ⟨g, cur, h1, h2, h3, h4⟩
 ·exact .inl h
 ·exact .inr ⟨g, cur, (hk g h1).1, h2, (hk g h1).2.trans h3, h4⟩
def NodX (w : World) (p : Nat → Prop) (an : Option Addr) (cn : Nat) (aa : Option Addr) (ca : Nat) (d : Nod) : Prop := NodRows w p an cn aa ca d ∧ RowC w p 9 an d.names.length cn ∧ RowC w p 3 aa d.args.length ca
theorem NodX.keep {w w' : World} {p q : Nat → Prop} {an aa : Option Addr} {cn ca : Nat} {d : Nod} (h : NodX w p an cn aa ca d) (hk : ∀ b, p b → q b ∧ w'.heap[b]? = w.heap[b]?) : NodX w' q an cn aa ca d := ⟨h.1.keep hk, h.2.1.keep hk, h.2.2.keep hk⟩
def OwnN (Gz : Nat → Prop) (w : World) (B : Nat) (v : Value) (ns : List Nod) : Prop := ∃ xs : List Value, w.ownsRow B 35 5 v ns.length xs ∧ ∀ (j : Nat) (d : Nod), ns[j]? = some d → ∃ an cn aa ca,
 xs[j * 5]? = some (.int .i64 d.k) ∧ xs[j * 5 + 1]? = some (.int .i64 d.n) ∧ xs[j * 5 + 2]? = some (.string d.s) ∧ xs[j * 5 + 3]? = some (.slice an d.names.length cn) ∧ xs[j * 5 + 4]? = some (.slice aa d.args.length ca) ∧ NodX w (NP Gz w v) an cn aa ca d
theorem OwnN.slice {w : World} {B : Nat} {v : Value} {ns : List Nod} (h : OwnN Gz w B v ns) : ∃ (a : Option Addr) (cap : Nat), v = .slice a ns.length cap := by
 obtain ⟨xs, ⟨hl, ⟨hv, h0⟩ | ⟨g, cap', cur, hv, _⟩⟩, _⟩ := h
 ·exact ⟨none, 0, by rw [hv, h0]⟩
 ·exact ⟨_, _, hv⟩
theorem OwnN.lt {w : World} {B b : Nat} {v : Value} {ns : List Nod} (h : OwnN Gz w B v ns) (hv : v.ownBlock = some b) : B ≤ b ∧ b < w.heap.size := by
 obtain ⟨xs, h1, _⟩ := h
 exact World.ownsRow.lt h1 b hv
theorem OwnN.below {w w' : World} {B : Nat} {v : Value} {ns : List Nod} (h : OwnN Gz w B v ns) (hb : Below w.heap.size w w') : OwnN Gz w' B v ns := by
 obtain ⟨xs, ⟨hl, hx⟩, h2⟩ := h
 refine ⟨xs, ⟨hl, ?_⟩, fun j d hd => ?_⟩
 ·rcases hx with ⟨hv, h0⟩ | ⟨g, cap', cur, hv, a1, hblk, a3⟩
  ·exact .inl ⟨hv, h0⟩
  ·exact .inr ⟨g, cap', cur, hv, a1, (hb.block g (alt hblk)).trans hblk, a3⟩
 ·obtain ⟨an, cn, aa, ca, e0, e1, e2, e3, e4, hr⟩ := h2 j d hd
  exact ⟨an, cn, aa, ca, e0, e1, e2, e3, e4, hr.keep fun b hq => ⟨⟨Nat.lt_of_lt_of_le hq.1 hb.size, hq.2.1, hq.2.2.1.same (hb.block b hq.1), hq.2.2.2⟩, hb.block b hq.1⟩⟩
theorem OwnN.nil (w : World) (B : Nat) : OwnN Gz w B (.slice none 0 0) [] := ⟨[], ⟨rfl, .inl ⟨rfl, rfl⟩⟩, fun j d hd => by simp at hd⟩
def xV (sc st v : Value) (root code : Int) : Value := .agg #[sc, st, v, .int .i64 root, .int .i64 code]
theorem info35 : (Try.prog.info? 35).map (fun i => (i.zero, i.size, i.bytes)) = some (some (.agg #[.int .i64 0, .int .i64 0, .string ⟨#[]⟩, .slice none 0 0, .slice none 0 0]), 5, 80) := by kernel_rfl
theorem info104 : (Try.prog.info? 104).map (·.size) = some 5 := by kernel_rfl
theorem ret104 {fn : Func} {p : Tmp} {W : World} {g : Nat} {x0 x1 x2 x3 x4 : Value} {tmps : Array Value} (hf : fn.results = #[.cell p 104]) (hp : tmps.getD p undef = .pointer (some ⟨g, 0, none⟩)) (v0 v1 v2 v3 v4 : Value) (h : W.heap[g]? = some (.cells #[x0, x1, x2, x3, x4] 104 (0, 0))) :
  (results fn tmps).run Try.prog (((((W.setCell ⟨g, 0, none⟩ v0).setCell ⟨g, 1, none⟩ v1).setCell ⟨g, 2, none⟩ v2).setCell ⟨g, 3, none⟩ v3).setCell ⟨g, 4, none⟩ v4) = .ok (.agg #[v0, v1, v2, v3, v4]) (((((W.setCell ⟨g, 0, none⟩ v0).setCell ⟨g, 1, none⟩ v1).setCell ⟨g, 2, none⟩ v2).setCell ⟨g, 3, none⟩ v3).setCell ⟨g, 4, none⟩ v4) :=
 results_cell_row hf _ _ g 104 #[v0, v1, v2, v3, v4] (0, 0) _ hp (heap_setCell_same _ _ 4 _ _ v4 (heap_setCell_same _ _ 3 _ _ v3 (heap_setCell_same _ _ 2 _ _ v2 (heap_setCell_same _ _ 1 _ _ v1 (heap_setCell_same _ _ 0 _ _ v0 h))))) Try.underlying104 rfl info104
set_option maxRecDepth 100000 in
theorem l4Last_any (a1 a2 a3 : Option Addr) (n1 n2 n3 c1 c2 c3 : Nat) (root code : Int) (w : World) (h3 : n3 ≤ 1048576) :
  Calls Try.prog 71 #[xV (.slice a1 n1 c1) (.slice a2 n2 c2) (.slice a3 n3 c3) root code] w fun e w' => Ans w (.int .i64 ((n3 : Int) - 1)) e w' := by
 unfold xV
 have hb : Below w.heap.size w (w.alloc (Obj.cells #[.slice a1 n1 c1, .slice a2 n2 c2, .slice a3 n3 c3, .int .i64 root, .int .i64 code] 104)) := bR _ _
 go_enter Try.func71, Try.ntmps71
 go_wp2
 go_ret
 exact ⟨rfl, hb⟩
theorem fin104 {fn : Func} {p : Tmp} {W : World} {g : Nat} {v0 v1 v2 v3 v4 : Value} {tmps : Array Value} (hf : fn.results = #[.cell p 104]) (hp : tmps.getD p undef = .pointer (some ⟨g, 0, none⟩)) (h : W.heap[g]? = some (.cells #[v0, v1, v2, v3, v4] 104 (0, 0))) :
  (results fn tmps).run Try.prog W = .ok (.agg #[v0, v1, v2, v3, v4]) W :=
 results_cell_row hf _ _ g 104 #[v0, v1, v2, v3, v4] (0, 0) _ hp h Try.underlying104 rfl info104
set_option maxRecDepth 100000 in
set_option maxHeartbeats 1000000 in
theorem l4Fail_any (a1 a2 a3 : Option Addr) (n1 n2 n3 c1 c2 c3 : Nat) (root code cd : Int) (w : World) (hc : i64B code) (hcd : i64B cd) :
  Calls Try.prog 80 #[xV (.slice a1 n1 c1) (.slice a2 n2 c2) (.slice a3 n3 c3) root code, .int .i64 cd] w fun e w' => Ans w (xV (.slice a1 n1 c1) (.slice a2 n2 c2) (.slice a3 n3 c3) root (if code = 0 then cd else code)) e w' := by
 unfold xV
 by_cases h : code = 0
 ·subst h
  rw [if_pos rfl]
  go_enter Try.func80, Try.ntmps80
  go_wp2
  refine bodyPost_ret (fin104 rfl rfl (blk_at _ _ _ (by simp))) rfl ?_
  exact ⟨rfl, (bR _ _).alloc (by simp) _⟩
 ·rw [if_neg h]
  have hb : (code == 0) = false := by rw [beq_eq_false_iff_ne]; exact h
  clear h
  go_enter Try.func80, Try.ntmps80
  go_wp2
  refine bodyPost_ret (fin104 rfl rfl (blk_at _ _ _ (by simp))) rfl ?_
  exact ⟨rfl, (bR _ _).alloc (by simp) _⟩
def XPut (Gz : Nat → Prop) (B : Nat) (a1 a2 a3 : Option Addr) (n1 n2 n3 c1 c2 c3 : Nat) (root : Int) (code : Int) (ns : List Nod) (w : World) (e : Ending) (w' : World) : Prop :=
 ∃ (a : Option Addr) (c : Nat), e = .returned (xV (.slice a1 n1 c1) (.slice a2 n2 c2) (.slice a ns.length c) root code) ∧ OwnN Gz w' B (.slice a ns.length c) ns ∧ w.grownBy w' (Value.slice a3 n3 c3).ownBlock ∧ ((Value.slice a ns.length c).ownBlock = (Value.slice a3 n3 c3).ownBlock ∨ ∀ k, (Value.slice a ns.length c).ownBlock = some k → w.heap.size ≤ k)
theorem gb_below {w w' : World} (r : Option Nat) (h : Below w.heap.size w w') : w.grownBy w' r := ⟨h.os, h.tape, h.output, h.size, fun i hi _ => h.block i hi⟩
theorem gb_trans {w w1 w2 : World} {r r1 : Option Nat} (h : w.grownBy w1 r) (g : w1.grownBy w2 r1) (hn : r1 = r ∨ ∀ k, r1 = some k → w.heap.size ≤ k) : w.grownBy w2 r := by
 refine ⟨g.os.trans h.os, g.tape.trans h.tape, g.output.trans h.output, Nat.le_trans h.size g.size, fun i hi hne => ?_⟩
 refine (g.block i (Nat.lt_of_lt_of_le hi h.size) (fun e => ?_)).trans (h.block i hi hne)
 rcases hn with rfl | hn
 ·exact hne e
 ·have := hn i e.symm
  omega
set_option maxRecDepth 100000 in
set_option maxHeartbeats 1000000 in
theorem l4Put_bad (B : Nat) (a1 a2 a3 : Option Addr) (n1 n2 c1 c2 c3 : Nat) (root code : Int) (ns : List Nod) (d : Nod) (an aa : Option Addr) (cn ca : Nat) (w : World) (hc : i64B code) (h0 : code ≠ 0) (ho : OwnN Gz w B (.slice a3 ns.length c3) ns) :
  Calls Try.prog 79 #[xV (.slice a1 n1 c1) (.slice a2 n2 c2) (.slice a3 ns.length c3) root code, .agg #[.int .i64 d.k, .int .i64 d.n, .string d.s, .slice an d.names.length cn, .slice aa d.args.length ca]] w fun e w' => XPut Gz B a1 a2 a3 n1 n2 ns.length c1 c2 c3 root code ns w e w' := by
 unfold XPut xV
 have HO : Hid (OwnN Gz w B (.slice a3 ns.length c3) ns) := ho
 have hcb : (code != 0) = true := by rw [bne_iff_ne]; exact h0
 clear ho h0
 go_enter Try.func79, Try.ntmps79
 go_wp2
 refine bodyPost_ret (fin104 rfl rfl (blk_at _ _ _ (by simp))) rfl ?_
 have hb : Below w.heap.size w (((w.alloc (Obj.cells #[.slice a1 n1 c1, .slice a2 n2 c2, .slice a3 ns.length c3, .int .i64 root, .int .i64 code] 104)).alloc (Obj.cells #[.int .i64 d.k, .int .i64 d.n, .string d.s, .slice an d.names.length cn, .slice aa d.args.length ca] 35)).alloc (Obj.cells #[.slice a1 n1 c1, .slice a2 n2 c2, .slice a3 ns.length c3, .int .i64 root, .int .i64 code] 104)) := ((bR _ _).alloc (by simp) _).alloc (by simp; omega) _
 exact ⟨a3, c3, rfl, HO.out.below hb, gb_below _ hb, .inl rfl⟩
set_option maxRecDepth 100000 in
set_option maxHeartbeats 1000000 in
theorem l4Put_full (B : Nat) (a1 a2 a3 : Option Addr) (n1 n2 c1 c2 c3 : Nat) (root : Int) (ns : List Nod) (d : Nod) (an aa : Option Addr) (cn ca : Nat) (w : World) (hn : 400 ≤ ns.length) (hn2 : ns.length ≤ 1048576) (ho : OwnN Gz w B (.slice a3 ns.length c3) ns) :
  Calls Try.prog 79 #[xV (.slice a1 n1 c1) (.slice a2 n2 c2) (.slice a3 ns.length c3) root 0, .agg #[.int .i64 d.k, .int .i64 d.n, .string d.s, .slice an d.names.length cn, .slice aa d.args.length ca]] w fun e w' => XPut Gz B a1 a2 a3 n1 n2 ns.length c1 c2 c3 root 2 ns w e w' := by
 have HF : Hid (∀ W, Calls Try.prog 80 #[.agg #[.slice a1 n1 c1, .slice a2 n2 c2, .slice a3 ns.length c3, .int .i64 root, .int .i64 0], .int .i64 2] W fun e w' => Ans W (.agg #[.slice a1 n1 c1, .slice a2 n2 c2, .slice a3 ns.length c3, .int .i64 root, .int .i64 2]) e w') := fun W => l4Fail_any a1 a2 a3 n1 n2 ns.length c1 c2 c3 root 0 2 W ⟨by omega, by omega⟩ ⟨by omega, by omega⟩
 unfold XPut xV
 have HO : Hid (OwnN Gz w B (.slice a3 ns.length c3) ns) := ho
 have hcb : decide ((400 : Int) ≤ (ns.length : Int)) = true := by simp; omega
 clear ho
 go_enter Try.func79, Try.ntmps79
 go_wp2_with fail
 refine (HF.out _).mono ?_
 rintro e w1 ⟨rfl, hb1⟩
 have hb0 : Below w.heap.size w (((w.alloc (Obj.cells #[.slice a1 n1 c1, .slice a2 n2 c2, .slice a3 ns.length c3, .int .i64 root, .int .i64 0] 104)).alloc (Obj.cells #[.int .i64 d.k, .int .i64 d.n, .string d.s, .slice an d.names.length cn, .slice aa d.args.length ca] 35)).alloc (Obj.cells #[.slice none 0 0, .slice none 0 0, .slice none 0 0, .int .i64 0, .int .i64 0] 104)) := ((bR _ _).alloc (by simp) _).alloc (by simp; omega) _
 have k1 : w1.heap[w.heap.size + 1 + 1]? = some (Obj.cells #[.slice none 0 0, .slice none 0 0, .slice none 0 0, .int .i64 0, .int .i64 0] 104) := (hb1.block _ (by simp)).trans (blk_at _ _ _ (by simp))
 have HB : Hid (Below w.heap.size w w1) := bT hb0 hb1
 have K1 : Hid (w1.heap[w.heap.size + 1 + 1]? = some (Obj.cells #[.slice none 0 0, .slice none 0 0, .slice none 0 0, .int .i64 0, .int .i64 0] 104)) := k1
 obtain ⟨e0, e1, e2, e3, e4⟩ := zn5 k1 rfl rfl rfl rfl rfl
 have f0 := frozen_blk k1 0
 have f1 := frozen_blk k1 1
 have f2 := frozen_blk k1 2
 have f3 := frozen_blk k1 3
 have f4 := frozen_blk k1 4
 clear hb0 hb1 k1 HF
 go_wp2
 refine bodyPost_ret (ret104 rfl rfl _ _ _ _ _ K1.out) rfl ?_
 have hb5 : Below w.heap.size w (((((w1.setCell ⟨w.heap.size + 1 + 1, 0, none⟩ (.slice a1 n1 c1)).setCell ⟨w.heap.size + 1 + 1, 1, none⟩ (.slice a2 n2 c2)).setCell ⟨w.heap.size + 1 + 1, 2, none⟩ (.slice a3 ns.length c3)).setCell ⟨w.heap.size + 1 + 1, 3, none⟩ (.int .i64 root)).setCell ⟨w.heap.size + 1 + 1, 4, none⟩ (.int .i64 2)) := ((((HB.out.setCell (p := ⟨_, _, none⟩) (by show w.heap.size ≤ w.heap.size + 1 + 1; omega) _).setCell (p := ⟨_, _, none⟩) (by show w.heap.size ≤ w.heap.size + 1 + 1; omega) _).setCell (p := ⟨_, _, none⟩) (by show w.heap.size ≤ w.heap.size + 1 + 1; omega) _).setCell (p := ⟨_, _, none⟩) (by show w.heap.size ≤ w.heap.size + 1 + 1; omega) _).setCell (p := ⟨_, _, none⟩) (by show w.heap.size ≤ w.heap.size + 1 + 1; omega) _
 exact ⟨a3, c3, rfl, HO.out.below hb5, gb_below _ hb5, .inl rfl⟩
theorem row5 {xs : List Value} {n : Nat} (hl : xs.length = n * 5) (y0 y1 y2 y3 y4 : Value) (i : Nat) (hi : i < 5) : (xs ++ [y0, y1, y2, y3, y4])[n * 5 + i]? = [y0, y1, y2, y3, y4][i]? := by
 rw [List.getElem?_append_right (by omega), hl]
 congr 1
 omega
theorem put_done {B : Nat} {w A w5 W : World} {a3 an aa : Option Addr} {c3 cn ca gg cap' : Nat} {ns : List Nod} {d : Nod} {xs : List Value}
  (hnd : ∀ (j : Nat) (d : Nod), ns[j]? = some d → ∃ an cn aa ca, xs[j * 5]? = some (.int .i64 d.k) ∧ xs[j * 5 + 1]? = some (.int .i64 d.n) ∧ xs[j * 5 + 2]? = some (.string d.s) ∧ xs[j * 5 + 3]? = some (.slice an d.names.length cn) ∧ xs[j * 5 + 4]? = some (.slice aa d.args.length ca) ∧ NodX w (NP Gz w (Value.slice a3 ns.length c3)) an cn aa ca d)
  (hrd : NodX w (NP Gz w (Value.slice a3 ns.length c3)) an cn aa ca d)
  (hob : ∀ k, (Value.slice a3 ns.length c3).ownBlock = some k → B ≤ k ∧ k < w.heap.size) (hb0 : Below w.heap.size w A) (hA : A.heap.size = w.heap.size + 4)
  (hg : A.grownBy w5 (Value.slice a3 ns.length c3).ownBlock) (hat : (Value.slice a3 ns.length c3).ownBlock = some gg ∨ gg = w.heap.size + 4)
  (ho : w5.ownsRow B 35 5 (.slice (some ⟨gg, 0, none⟩) (ns.length + 1) cap') (ns.length + 1) (xs ++ [.int .i64 d.k, .int .i64 d.n, .string d.s, .slice an d.names.length cn, .slice aa d.args.length ca]))
  (hsz : w5.heap.size ≤ W.heap.size) (hbw : ∀ k, k ≠ w.heap.size → k ≠ w.heap.size + 1 + 1 → W.heap[k]? = w5.heap[k]?) (h1 : W.os = w5.os) (h2 : W.tape = w5.tape) (h3 : W.output = w5.output) :
  OwnN Gz W B (.slice (some ⟨gg, 0, none⟩) (ns ++ [d]).length cap') (ns ++ [d]) ∧ w.grownBy W (Value.slice a3 ns.length c3).ownBlock ∧ ((Value.slice (some ⟨gg, 0, none⟩) (ns ++ [d]).length cap').ownBlock = (Value.slice a3 ns.length c3).ownBlock ∨ ∀ k, (Value.slice (some ⟨gg, 0, none⟩) (ns ++ [d]).length cap').ownBlock = some k → w.heap.size ≤ k) := by
 have hlen : (ns ++ [d]).length = ns.length + 1 := by simp
 have hxl : xs.length = ns.length * 5 := by
  have := ho.1
  simp at this
  omega
 have hgne : gg ≠ w.heap.size ∧ gg ≠ w.heap.size + 1 + 1 := by
  rcases hat with h | h
  ·have := (hob gg h).2
   omega
  ·omega
 have hlow : ∀ b, NP Gz w (Value.slice a3 ns.length c3) b → NP Gz W (Value.slice (some ⟨gg, 0, none⟩) (ns ++ [d]).length cap') b ∧ W.heap[b]? = w.heap[b]? := by
  rintro b ⟨hb, hne, hty, hnG⟩
  have hsame : W.heap[b]? = w.heap[b]? := by
   rw [hbw b (by omega) (by omega), hg.block b (by omega) (fun e => hne e.symm)]
   exact hb0.block b hb
  refine ⟨⟨?_, fun e => ?_, hty.same hsame, hnG⟩, hsame⟩
  ·have := hg.size
   omega
  ·have e' : gg = b := Option.some.inj e
   subst e'
   rcases hat with h | h
   ·exact hne h
   ·omega
 refine ⟨⟨xs ++ [.int .i64 d.k, .int .i64 d.n, .string d.s, .slice an d.names.length cn, .slice aa d.args.length ca], ?_, ?_⟩, ⟨?_, ?_, ?_, ?_, ?_⟩, ?_⟩
 ·rw [hlen]
  obtain ⟨hl, hx⟩ := ho
  refine ⟨hl, ?_⟩
  rcases hx with ⟨hv, h0⟩ | ⟨g, cap2, cur, hv, a1, hblk, a3⟩
  ·cases hv
  ·have hgg : gg = g := by
    injection hv with e1 e2 e3
    injection e1 with e1
    injection e1
   subst hgg
   exact .inr ⟨gg, cap2, cur, hv, a1, (hbw gg hgne.1 hgne.2).trans hblk, a3⟩
 ·intro j e he
  by_cases hj : j < ns.length
  ·rw [List.getElem?_append_left hj] at he
   obtain ⟨an', cn', aa', ca', e0, e1, e2, e3, e4, hr⟩ := hnd j e he
   exact ⟨an', cn', aa', ca', by rw [List.getElem?_append_left (by omega)]; exact e0, by rw [List.getElem?_append_left (by omega)]; exact e1, by rw [List.getElem?_append_left (by omega)]; exact e2, by rw [List.getElem?_append_left (by omega)]; exact e3, by rw [List.getElem?_append_left (by omega)]; exact e4, hr.keep hlow⟩
  ·have hj' : j = ns.length := by
    have := (llt he)
    omega
   subst hj'
   rw [List.getElem?_append_right (by omega), Nat.sub_self] at he
   have he' : d = e := Option.some.inj he
   subst he'
   exact ⟨an, cn, aa, ca, row5 hxl _ _ _ _ _ 0 (by omega), row5 hxl _ _ _ _ _ 1 (by omega), row5 hxl _ _ _ _ _ 2 (by omega), row5 hxl _ _ _ _ _ 3 (by omega), row5 hxl _ _ _ _ _ 4 (by omega), hrd.keep hlow⟩
 ·rw [h1, hg.os, hb0.os]
 ·rw [h2, hg.tape, hb0.tape]
 ·rw [h3, hg.output, hb0.output]
 ·have := hg.size
  omega
 ·intro k hk hne
  rw [hbw k (by omega) (by omega), hg.block k (by omega) hne]
  exact hb0.block k hk
 ·rcases hat with h | h
  ·left; rw [h]; rfl
  ·right
   intro k hk
   have : gg = k := Option.some.inj hk
   omega
set_option maxRecDepth 100000 in
set_option maxHeartbeats 1000000 in
theorem l4Put_ok (B : Nat) (a1 a2 a3 : Option Addr) (n1 n2 c1 c2 c3 : Nat) (root : Int) (ns : List Nod) (d : Nod) (an aa : Option Addr) (cn ca : Nat) (w : World) (hB : B ≤ w.heap.size) (hn : ns.length < 400) (ho : OwnN Gz w B (.slice a3 ns.length c3) ns) (hrd : NodX w (NP Gz w (Value.slice a3 ns.length c3)) an cn aa ca d) :
  Calls Try.prog 79 #[xV (.slice a1 n1 c1) (.slice a2 n2 c2) (.slice a3 ns.length c3) root 0, .agg #[.int .i64 d.k, .int .i64 d.n, .string d.s, .slice an d.names.length cn, .slice aa d.args.length ca]] w fun e w' => XPut Gz B a1 a2 a3 n1 n2 ns.length c1 c2 c3 root 0 (ns ++ [d]) w e w' := by
 unfold XPut xV
 have hcb : decide ((400 : Int) ≤ (ns.length : Int)) = false := by simp; omega
 obtain ⟨i0, hi0, hz0, hz1, hz2⟩ := info_parts info35
 obtain ⟨xs, hown, hnd⟩ := ho
 have HND : Hid _ := hnd
 have HRD : Hid (NodX w (NP Gz w (Value.slice a3 ns.length c3)) an cn aa ca d) := hrd
 have HOB : Hid (∀ k, (Value.slice a3 ns.length c3).ownBlock = some k → B ≤ k ∧ k < w.heap.size) := fun k hk => World.ownsRow.lt hown k hk
 have hb0 : Below w.heap.size w ((((w.alloc (Obj.cells #[.slice a1 n1 c1, .slice a2 n2 c2, .slice a3 ns.length c3, .int .i64 root, .int .i64 0] 104)).alloc (Obj.cells #[.int .i64 d.k, .int .i64 d.n, .string d.s, .slice an d.names.length cn, .slice aa d.args.length ca] 35)).alloc (Obj.cells #[.slice none 0 0, .slice none 0 0, .slice none 0 0, .int .i64 0, .int .i64 0] 104)).alloc (Obj.cells #[.int .i64 d.k, .int .i64 d.n, .string d.s, .slice an d.names.length cn, .slice aa d.args.length ca] 35)) := (((bR _ _).alloc (by simp) _).alloc (by simp; omega) _).alloc (by simp; omega) _
 have HB0 : Hid (Below w.heap.size w ((((w.alloc (Obj.cells #[.slice a1 n1 c1, .slice a2 n2 c2, .slice a3 ns.length c3, .int .i64 root, .int .i64 0] 104)).alloc (Obj.cells #[.int .i64 d.k, .int .i64 d.n, .string d.s, .slice an d.names.length cn, .slice aa d.args.length ca] 35)).alloc (Obj.cells #[.slice none 0 0, .slice none 0 0, .slice none 0 0, .int .i64 0, .int .i64 0] 104)).alloc (Obj.cells #[.int .i64 d.k, .int .i64 d.n, .string d.s, .slice an d.names.length cn, .slice aa d.args.length ca] 35))) := hb0
 have HOA : Hid (((((w.alloc (Obj.cells #[.slice a1 n1 c1, .slice a2 n2 c2, .slice a3 ns.length c3, .int .i64 root, .int .i64 0] 104)).alloc (Obj.cells #[.int .i64 d.k, .int .i64 d.n, .string d.s, .slice an d.names.length cn, .slice aa d.args.length ca] 35)).alloc (Obj.cells #[.slice none 0 0, .slice none 0 0, .slice none 0 0, .int .i64 0, .int .i64 0] 104)).alloc (Obj.cells #[.int .i64 d.k, .int .i64 d.n, .string d.s, .slice an d.names.length cn, .slice aa d.args.length ca] 35)).ownsRow B 35 5 (.slice a3 ns.length c3) ns.length xs) := World.ownsRow.alloc (World.ownsRow.alloc (World.ownsRow.alloc (World.ownsRow.alloc hown _) _) _) _
 have kA : ((((w.alloc (Obj.cells #[.slice a1 n1 c1, .slice a2 n2 c2, .slice a3 ns.length c3, .int .i64 root, .int .i64 0] 104)).alloc (Obj.cells #[.int .i64 d.k, .int .i64 d.n, .string d.s, .slice an d.names.length cn, .slice aa d.args.length ca] 35)).alloc (Obj.cells #[.slice none 0 0, .slice none 0 0, .slice none 0 0, .int .i64 0, .int .i64 0] 104)).alloc (Obj.cells #[.int .i64 d.k, .int .i64 d.n, .string d.s, .slice an d.names.length cn, .slice aa d.args.length ca] 35)).heap[w.heap.size + 1 + 1 + 1]? = some (Obj.cells #[.int .i64 d.k, .int .i64 d.n, .string d.s, .slice an d.names.length cn, .slice aa d.args.length ca] 35) := blk_at _ _ _ (by simp)
 have kP : ((((w.alloc (Obj.cells #[.slice a1 n1 c1, .slice a2 n2 c2, .slice a3 ns.length c3, .int .i64 root, .int .i64 0] 104)).alloc (Obj.cells #[.int .i64 d.k, .int .i64 d.n, .string d.s, .slice an d.names.length cn, .slice aa d.args.length ca] 35)).alloc (Obj.cells #[.slice none 0 0, .slice none 0 0, .slice none 0 0, .int .i64 0, .int .i64 0] 104)).alloc (Obj.cells #[.int .i64 d.k, .int .i64 d.n, .string d.s, .slice an d.names.length cn, .slice aa d.args.length ca] 35)).heap[w.heap.size]? = some (Obj.cells #[.slice a1 n1 c1, .slice a2 n2 c2, .slice a3 ns.length c3, .int .i64 root, .int .i64 0] 104) := blk_past (blk_past (blk_past (blk_at _ _ _ rfl)))
 have kR : ((((w.alloc (Obj.cells #[.slice a1 n1 c1, .slice a2 n2 c2, .slice a3 ns.length c3, .int .i64 root, .int .i64 0] 104)).alloc (Obj.cells #[.int .i64 d.k, .int .i64 d.n, .string d.s, .slice an d.names.length cn, .slice aa d.args.length ca] 35)).alloc (Obj.cells #[.slice none 0 0, .slice none 0 0, .slice none 0 0, .int .i64 0, .int .i64 0] 104)).alloc (Obj.cells #[.int .i64 d.k, .int .i64 d.n, .string d.s, .slice an d.names.length cn, .slice aa d.args.length ca] 35)).heap[w.heap.size + 1 + 1]? = some (Obj.cells #[.slice none 0 0, .slice none 0 0, .slice none 0 0, .int .i64 0, .int .i64 0] 104) := blk_past (blk_at _ _ _ (by simp))
 have KP : Hid _ := kP
 have KR : Hid _ := kR
 have hAz : ((((w.alloc (Obj.cells #[.slice a1 n1 c1, .slice a2 n2 c2, .slice a3 ns.length c3, .int .i64 root, .int .i64 0] 104)).alloc (Obj.cells #[.int .i64 d.k, .int .i64 d.n, .string d.s, .slice an d.names.length cn, .slice aa d.args.length ca] 35)).alloc (Obj.cells #[.slice none 0 0, .slice none 0 0, .slice none 0 0, .int .i64 0, .int .i64 0] 104)).alloc (Obj.cells #[.int .i64 d.k, .int .i64 d.n, .string d.s, .slice an d.names.length cn, .slice aa d.args.length ca] 35)).heap.size = w.heap.size + 4 := by simp
 have hwA : B ≤ ((((w.alloc (Obj.cells #[.slice a1 n1 c1, .slice a2 n2 c2, .slice a3 ns.length c3, .int .i64 root, .int .i64 0] 104)).alloc (Obj.cells #[.int .i64 d.k, .int .i64 d.n, .string d.s, .slice an d.names.length cn, .slice aa d.args.length ca] 35)).alloc (Obj.cells #[.slice none 0 0, .slice none 0 0, .slice none 0 0, .int .i64 0, .int .i64 0] 104)).alloc (Obj.cells #[.int .i64 d.k, .int .i64 d.n, .string d.s, .slice an d.names.length cn, .slice aa d.args.length ca] 35)).heap.size := by rw [hAz]; omega
 clear hown hnd hrd hb0 kP kR
 go_enter Try.func79, Try.ntmps79
 go_wp2_with (at_builtin; refine wpList_append_lies _ rfl _ _ 24 rfl B 35 i0 _ 5 80 Try.underlying24 hi0 hz0 hz1 hz2 rfl (by omega) (.slice a3 ns.length c3) ns.length xs rfl HOA.out ⟨w.heap.size + 1 + 1 + 1, 0, none⟩ 1 1 [.int .i64 d.k, .int .i64 d.n, .string d.s, .slice an d.names.length cn, .slice aa d.args.length ca] rfl rfl (World.news_of_block kA) (by intro u hu; simp at hu; rcases hu with rfl | rfl | rfl | rfl | rfl <;> rfl) (by omega) (by simp [maxLen]; omega) (by omega) hwA (w.heap.size + 4) hAz ?_)
 intro gg cap' w5 hown5 hgr5 hat5 hlt5
 have hne : ∀ k, k < w.heap.size + 4 → (k < w.heap.size → (Value.slice a3 ns.length c3).ownBlock ≠ some k) → w5.heap[k]? = ((((w.alloc (Obj.cells #[.slice a1 n1 c1, .slice a2 n2 c2, .slice a3 ns.length c3, .int .i64 root, .int .i64 0] 104)).alloc (Obj.cells #[.int .i64 d.k, .int .i64 d.n, .string d.s, .slice an d.names.length cn, .slice aa d.args.length ca] 35)).alloc (Obj.cells #[.slice none 0 0, .slice none 0 0, .slice none 0 0, .int .i64 0, .int .i64 0] 104)).alloc (Obj.cells #[.int .i64 d.k, .int .i64 d.n, .string d.s, .slice an d.names.length cn, .slice aa d.args.length ca] 35)).heap[k]? := fun k hk hn => hgr5.block k (by rw [hAz]; omega) (fun e => by
  by_cases h : k < w.heap.size
  ·exact hn h e.symm
  ·have := (HOB.out k e.symm).2
   omega)
 have k5 := (hne w.heap.size (by omega) (fun h => by omega)).trans KP.out
 have r5 := (hne (w.heap.size + 1 + 1) (by omega) (fun h => by omega)).trans KR.out
 have K5 : Hid _ := k5
 have R5 : Hid _ := r5
 have HG5 : Hid _ := hgr5
 have HAT5 : Hid _ := hat5
 have HO5 : Hid _ := hown5
 obtain ⟨e0, e1, e2, e3, e4⟩ := zn5 k5 rfl rfl rfl rfl rfl
 have f2 := frozen_blk k5 2
 obtain ⟨s0, s1, s2, s3, s4⟩ := zn5 r5 rfl rfl rfl rfl rfl
 have t0 := frozen_blk r5 0
 have t1 := frozen_blk r5 1
 have t2 := frozen_blk r5 2
 have t3 := frozen_blk r5 3
 have t4 := frozen_blk r5 4
 clear k5 r5 hgr5 hat5 hown5 kA hAz hwA hne
 go_wp2
 have hr5 : (w5.setCell ⟨w.heap.size, 2, none⟩ (.slice (some ⟨gg, 0, none⟩) (ns.length + 1) cap')).heap[w.heap.size + 1 + 1]? = some (Obj.cells #[.slice none 0 0, .slice none 0 0, .slice none 0 0, .int .i64 0, .int .i64 0] 104) := by
  rw [heap_setCell_other _ _ _ _ (by show w.heap.size + 1 + 1 ≠ w.heap.size; omega)]
  exact R5.out
 refine bodyPost_ret (ret104 rfl rfl _ _ _ _ _ hr5) rfl ?_
 have hbw : ∀ k, k ≠ w.heap.size → k ≠ w.heap.size + 1 + 1 → ((((((w5.setCell ⟨w.heap.size, 2, none⟩ (.slice (some ⟨gg, 0, none⟩) (ns.length + 1) cap')).setCell ⟨w.heap.size + 1 + 1, 0, none⟩ (.slice a1 n1 c1)).setCell ⟨w.heap.size + 1 + 1, 1, none⟩ (.slice a2 n2 c2)).setCell ⟨w.heap.size + 1 + 1, 2, none⟩ (.slice (some ⟨gg, 0, none⟩) (ns.length + 1) cap')).setCell ⟨w.heap.size + 1 + 1, 3, none⟩ (.int .i64 root)).setCell ⟨w.heap.size + 1 + 1, 4, none⟩ (.int .i64 0)).heap[k]? = w5.heap[k]? := by
  intro k h1 h2
  rw [heap_setCell_other _ _ _ _ h2, heap_setCell_other _ _ _ _ h2, heap_setCell_other _ _ _ _ h2, heap_setCell_other _ _ _ _ h2, heap_setCell_other _ _ _ _ h2, heap_setCell_other _ _ _ _ h1]
 have hbl : Below w.heap.size w5 ((((((w5.setCell ⟨w.heap.size, 2, none⟩ (.slice (some ⟨gg, 0, none⟩) (ns.length + 1) cap')).setCell ⟨w.heap.size + 1 + 1, 0, none⟩ (.slice a1 n1 c1)).setCell ⟨w.heap.size + 1 + 1, 1, none⟩ (.slice a2 n2 c2)).setCell ⟨w.heap.size + 1 + 1, 2, none⟩ (.slice (some ⟨gg, 0, none⟩) (ns.length + 1) cap')).setCell ⟨w.heap.size + 1 + 1, 3, none⟩ (.int .i64 root)).setCell ⟨w.heap.size + 1 + 1, 4, none⟩ (.int .i64 0)) := ((((((Below.refl w.heap.size w5).setCell (p := ⟨_, _, none⟩) (by show w.heap.size ≤ w.heap.size; omega) _).setCell (p := ⟨_, _, none⟩) (by show w.heap.size ≤ w.heap.size + 1 + 1; omega) _).setCell (p := ⟨_, _, none⟩) (by show w.heap.size ≤ w.heap.size + 1 + 1; omega) _).setCell (p := ⟨_, _, none⟩) (by show w.heap.size ≤ w.heap.size + 1 + 1; omega) _).setCell (p := ⟨_, _, none⟩) (by show w.heap.size ≤ w.heap.size + 1 + 1; omega) _).setCell (p := ⟨_, _, none⟩) (by show w.heap.size ≤ w.heap.size + 1 + 1; omega) _
 generalize ((((((w5.setCell ⟨w.heap.size, 2, none⟩ (.slice (some ⟨gg, 0, none⟩) (ns.length + 1) cap')).setCell ⟨w.heap.size + 1 + 1, 0, none⟩ (.slice a1 n1 c1)).setCell ⟨w.heap.size + 1 + 1, 1, none⟩ (.slice a2 n2 c2)).setCell ⟨w.heap.size + 1 + 1, 2, none⟩ (.slice (some ⟨gg, 0, none⟩) (ns.length + 1) cap')).setCell ⟨w.heap.size + 1 + 1, 3, none⟩ (.int .i64 root)).setCell ⟨w.heap.size + 1 + 1, 4, none⟩ (.int .i64 0)) = W at hbw hbl ⊢
 obtain ⟨q1, q2, q3⟩ := put_done HND.out HRD.out HOB.out HB0.out (by simp) HG5.out HAT5.out HO5.out hbl.size hbw hbl.os hbl.tape hbl.output
 exact ⟨some ⟨gg, 0, none⟩, cap', by rw [List.length_append]; rfl, q1, q2, q3⟩
end Go.Proofs.Ytgjeefedcfakdaa
set_option linter.unusedVariables false
set_option maxRecDepth 100000
set_option maxHeartbeats 8000000
namespace Go.Proofs.Ytgjeefedcfakdaa
open Go.ChangeShapes Go.WideShapes Go.ChangeAt Go.RowKit
structure Dat where
 k : Int
 n : Int
 s : ByteArray
 l : Int
 r : Int
deriving Inhabited
def Dat.wf (d : Dat) : Prop := i64B d.k ∧ i64B d.n ∧ i64B d.l ∧ i64B d.r ∧ d.s.size ≤ 9223372036854775807
def DatAt (w : World) (b o : Nat) (d : Dat) : Prop :=
 w.cell? ⟨b, o, none⟩ = some (.int .i64 d.k) ∧ w.cell? ⟨b, o + 1, none⟩ = some (.int .i64 d.n) ∧ w.cell? ⟨b, o + 2, none⟩ = some (.string d.s) ∧ w.cell? ⟨b, o + 3, none⟩ = some (.int .i64 d.l) ∧ w.cell? ⟨b, o + 4, none⟩ = some (.int .i64 d.r)
def RowD (w : World) (B : Nat) (a : Option Addr) (cs : List Dat) : Prop :=
 ∀ i d, cs[i]? = some d → ∃ b o, a = some ⟨b, o, none⟩ ∧ b < B ∧ DatAt w b (o + i * 5) d
theorem DatAt.block {w w' : World} {b o : Nat} {d : Dat} (h : DatAt w b o d) (hk : w'.heap[b]? = w.heap[b]?) : DatAt w' b o d := by
 obtain ⟨h0, h1, h2, h3, h4⟩ := h
 exact ⟨(World.cell?_of_block (w := w) (a := ⟨b, _, none⟩) hk).trans h0, (World.cell?_of_block (w := w) (a := ⟨b, _, none⟩) hk).trans h1, (World.cell?_of_block (w := w) (a := ⟨b, _, none⟩) hk).trans h2, (World.cell?_of_block (w := w) (a := ⟨b, _, none⟩) hk).trans h3, (World.cell?_of_block (w := w) (a := ⟨b, _, none⟩) hk).trans h4⟩
theorem RowD.keep {w w' : World} {B : Nat} {a : Option Addr} {cs : List Dat} (h : RowD w B a cs) (hk : ∀ b, b < B → w'.heap[b]? = w.heap[b]?) : RowD w' B a cs := by
 intro i d hi
 obtain ⟨b, o, ha, hb, hd⟩ := h i d hi
 exact ⟨b, o, ha, hb, hd.block (hk b hb)⟩
theorem RowD.below {w w' : World} {B : Nat} {a : Option Addr} {cs : List Dat} (h : RowD w B a cs) (hb : Below B w w') : RowD w' B a cs := h.keep hb.block
theorem RowD.mono {w : World} {B B' : Nat} {a : Option Addr} {cs : List Dat} (h : RowD w B a cs) (hb : B ≤ B') : RowD w B' a cs := by
 intro i d hi
 obtain ⟨b, o, ha, hb, hd⟩ := h i d hi
 exact ⟨b, o, ha, by omega, hd⟩
theorem sc_other (w : World) (c j k : Nat) (v : Value) (h : j ≠ k) : (w.setCell ⟨c, j, none⟩ v).cell? ⟨c, k, none⟩ = w.cell? ⟨c, k, none⟩ := by
 apply World.cell?_setCell_other
 intro e
 injection e with _ e2
 exact h e2
def bulkD : List Dat → Nat
 | [] => 0
 | d :: cs => 1 + d.s.size + bulkD cs
theorem bulkD_append : ∀ (a b : List Dat), bulkD (a ++ b) = bulkD a + bulkD b
 | [], b => by simp [bulkD]
 | d :: a, b => by simp [bulkD, bulkD_append a b]; omega
theorem bulkD_take_succ {cs : List Dat} {i : Nat} {d : Dat} (h : cs[i]? = some d) : bulkD (cs.take (i + 1)) = bulkD (cs.take i) + (1 + d.s.size) := by
 rw [List.take_add_one, h]
 simp [bulkD_append, bulkD]
theorem bulkD_len : ∀ (cs : List Dat), cs.length ≤ bulkD cs
 | [] => by simp [bulkD]
 | d :: cs => by have := bulkD_len cs; simp [bulkD]; omega
end Go.Proofs.Ytgjeefedcfakdaa
set_option linter.unusedVariables false
set_option maxRecDepth 100000
set_option maxHeartbeats 8000000
namespace Go.Proofs.Ytgjeefedcfakdaa
open Go.ChangeShapes Go.WideShapes Go.ChangeAt Go.RowKit
def cel (cs : List Dat) (i : Int) : Dat := cs.getD i.toNat default
abbrev Sx := List Nod × Int
def lastN (s : Sx) : Int := (s.1.length : Int) - 1
def putN (s : Sx) (d : Nod) : Sx := if s.2 = 0 then (if s.1.length < 400 then (s.1 ++ [d], 0) else (s.1, 2)) else s
def failN (s : Sx) (c : Int) : Sx := if s.2 = 0 then (s.1, c) else s
def lstC (cs : List Dat) : Nat → Int → Option (List Int)
 | 0, _ => none
 | f + 1, i => if (cel cs i).k = 5 then (lstC cs f (cel cs i).r).map ((cel cs i).l :: ·) else if (cel cs i).k = 4 then some [] else none
def lstOf (cs : List Dat) (i : Int) : Option (List Int) := lstC cs (i.toNat + 1) i
def nmOf (cs : List Dat) (i : Int) : Option ByteArray := if (cel cs i).k = 3 ∧ naL (cel cs i).s.toList = true then some (cel cs i).s else none
def nmsOf (cs : List Dat) : List Int → Option (List ByteArray)
 | [] => some []
 | i :: l => (nmOf cs i).bind fun s => (nmsOf cs l).map (s :: ·)
def parsOf (cs : List Dat) (l : List Int) : Option (List ByteArray) := (nmsOf cs l).bind fun ss => if nmA ss = true ∧ ss.length ≤ 8 then some ss else none
def bndL (cs : List Dat) : List Int → Option (List Int × List Int)
 | [] => some ([], [])
 | i :: l => (lstOf cs i).bind fun b => match b with
  | [x, e] => (bndL cs l).map fun r => (x :: r.1, e :: r.2)
  | _ => none
def bndOf (cs : List Dat) (i : Int) : Option (List Int × List Int) := (lstOf cs i).bind (bndL cs)
def eS : ByteArray := ⟨#[]⟩
def numN (n : Int) : Nod := ⟨1, n, eS, [], []⟩
def boolN (n : Int) : Nod := ⟨2, n, eS, [], []⟩
def nilN : Nod := ⟨3, 0, eS, [], []⟩
def symN (s : ByteArray) : Nod := ⟨4, 0, s, [], []⟩
def varN (s : ByteArray) : Nod := ⟨5, 0, s, [], []⟩
def ifN (l : List Int) : Nod := ⟨6, 0, eS, [], l⟩
def lamN (ss : List ByteArray) (b : Int) : Nod := ⟨7, 0, eS, ss, [b]⟩
def callN (l : List Int) : Nod := ⟨8, 0, eS, [], l⟩
def primN (s : ByteArray) (l : List Int) : Nod := ⟨9, 0, s, [], l⟩
def recN (s : ByteArray) (n : Int) (t : ByteArray) (l : List Int) : Nod := ⟨9, n, s, [t], l⟩
def setN (s : ByteArray) (b : Int) : Nod := ⟨10, 0, s, [], [b]⟩
def seqN (l : List Int) : Nod := ⟨11, 0, eS, [], l⟩
def orS : ByteArray := ⟨#[37, 116]⟩
def consS : ByteArray := ⟨#[99, 111, 110, 115]⟩
def wElse : List UInt8 := [101, 108, 115, 101]
def allX (R : Int → Sx → Sx) : List Int → Sx → Sx × List Int
 | [], s => (s, [])
 | i :: l, s => ((allX R l (R i s)).1, lastN (R i s) :: (allX R l (R i s)).2)
def bodyX (R : Int → Sx → Sx) (l : List Int) (s : Sx) : Sx :=
 if l = [] then failN s 1 else if l.length = 1 then (allX R l s).1 else putN (allX R l s).1 (seqN (allX R l s).2)
def lamX (ss : List ByteArray) (s : Sx) : Sx := putN s (lamN ss (lastN s))
def letX (cs : List Dat) (R : Int → Sx → Sx) (p : Int) (b : List Int) (s : Sx) : Sx :=
 match (bndOf cs p).bind fun x => (parsOf cs x.1).map fun ss => (ss, x.2) with
 | some (ss, fs) => putN (allX R fs (lamX ss (bodyX R b s))).1 (callN (lastN (lamX ss (bodyX R b s)) :: (allX R fs (lamX ss (bodyX R b s))).2))
 | none => failN s 1
def callX (f s : Sx) : Sx := putN s (callN [lastN f, lastN s])
def starX (cs : List Dat) (R : Int → Sx → Sx) : List Int → List Int → List Int → Sx → Sx
 | x :: xs, e :: es, b, s => match nmOf cs x with
  | some nm => callX (lamX [nm] (starX cs R xs es b s)) (R e (lamX [nm] (starX cs R xs es b s)))
  | none => failN s 1
 | _, _, b, s => bodyX R b s
def ifX (a b s : Sx) : Sx := putN s (ifN [lastN a, lastN b, lastN s])
def condX (cs : List Dat) (R : Int → Sx → Sx) : List Int → Sx → Sx
 | [], s => putN s (boolN 0)
 | c :: l, s => match lstOf cs c with
  | some (h :: b :: t) => if (cel cs h).k = 3 ∧ (cel cs h).s.toList = wElse then (if l = [] then bodyX R (b :: t) s else failN s 1)
   else ifX (R h s) (bodyX R (b :: t) (R h s)) (condX cs R l (bodyX R (b :: t) (R h s)))
  | _ => failN s 1
def andX (R : Int → Sx → Sx) : List Int → Sx → Sx
 | [], s => putN s (boolN 1)
 | [i], s => R i s
 | i :: j :: l, s => ifX (R i s) (andX R (j :: l) (R i s)) (putN (andX R (j :: l) (R i s)) (boolN 0))
def orX (R : Int → Sx → Sx) : List Int → Sx → Sx
 | [], s => putN s (boolN 0)
 | [i], s => R i s
 | i :: j :: l, s =>
  callX (lamX [orS] (ifX (putN s (varN orS)) (putN (putN s (varN orS)) (varN orS)) (orX R (j :: l) (putN (putN s (varN orS)) (varN orS)))))
   (R i (lamX [orS] (ifX (putN s (varN orS)) (putN (putN s (varN orS)) (varN orS)) (orX R (j :: l) (putN (putN s (varN orS)) (varN orS))))))
def whenX (R : Int → Sx → Sx) (c : Int) (b : List Int) (s : Sx) : Sx := ifX (R c s) (bodyX R b (R c s)) (putN (bodyX R b (R c s)) (boolN 0))
def recX (R : Int → Sx → Sx) (w : ByteArray) (n : Int) (t : ByteArray) (l : List Int) (s : Sx) : Sx := putN (allX R l s).1 (recN w n t (allX R l s).2)
def quoteX (cs : List Dat) : Nat → Int → Sx → Sx
 | 0, _, s => s
 | f + 1, i, s => if (cel cs i).k = 1 then putN s (numN (cel cs i).n) else if (cel cs i).k = 2 then putN s (boolN (cel cs i).n) else if (cel cs i).k = 3 then putN s (symN (cel cs i).s) else if (cel cs i).k = 4 then putN s nilN
  else putN (quoteX cs f (cel cs i).r (quoteX cs f (cel cs i).l s)) (primN consS [lastN (quoteX cs f (cel cs i).l s), lastN (quoteX cs f (cel cs i).r (quoteX cs f (cel cs i).l s))])
end Go.Proofs.Ytgjeefedcfakdaa
