/- The model's Lint. -/
import Derived.Test.YtamjofdgikifnaaGreatLns
import Derived.Test.YtamjofdgikifnaaGreatFrs
import Derived.Test.YtamjofdgikifnaaGreatFrp
import Derived.Test.YtamjofdgikifnaaGreatScm
set_option linter.unusedVariables false
namespace Go.Proofs.YtamjofdgikifnaaGreat
open Go.ChangeShapes Go.WideShapes Go.ChangeAt Go.RowKit
structure Gw (P : Nat → Prop) (w w' : World) : Prop where
 os : w'.os = w.os
 tape : w'.tape = w.tape
 output : w'.output = w.output
 size : w.heap.size ≤ w'.heap.size
 block : ∀ k, k < w.heap.size → ¬P k → w'.heap[k]? = w.heap[k]?
theorem Gw.refl (P : Nat → Prop) (w : World) : Gw P w w := ⟨rfl, rfl, rfl, Nat.le_refl _, fun _ _ _ => rfl⟩
theorem Gw.trans {P Q : Nat → Prop} {w w1 w2 : World} (h : Gw P w w1) (g : Gw Q w1 w2) (hq : ∀ b, Q b → P b ∨ w.heap.size ≤ b) : Gw P w w2 :=
 ⟨g.os.trans h.os, g.tape.trans h.tape, g.output.trans h.output, Nat.le_trans h.size g.size, fun k hk hp => (g.block k (Nat.lt_of_lt_of_le hk h.size) (fun e => by rcases hq k e with h1 | h1; exact hp h1; omega)).trans (h.block k hk hp)⟩
theorem Gw.of {P : Nat → Prop} {w w' : World} (h : Below w.heap.size w w') : Gw P w w' := ⟨h.os, h.tape, h.output, h.size, fun k hk _ => h.block k hk⟩
theorem Gw.below {P : Nat → Prop} {w w1 w2 : World} (h : Gw P w w1) (g : Below w1.heap.size w1 w2) : Gw P w w2 := h.trans (Q := P) (Gw.of g) fun b hb => .inl hb
theorem Gw.to {P : Nat → Prop} {n : Nat} {w0 w w' : World} (h : Gw P w w') (hP : ∀ b, P b → n ≤ b) (hb : Below n w0 w) (hn : n ≤ w.heap.size) : Below n w0 w' :=
 hb.trans ⟨h.os, h.tape, h.output, h.size, fun k hk => h.block k (by omega) (fun e => by have := hP k e; omega)⟩
theorem Gw.own {P : Nat → Prop} {w w' : World} {B n s : Nat} {e : TypeId} {v : Value} {xs : List Value} (g : Gw P w w') (h : w.ownsRow B e s v n xs) (hp : ∀ b, v.ownBlock = some b → ¬P b) : w'.ownsRow B e s v n xs :=
 own_keep h fun b hb => g.block b (own_blk h hb).2.1 (hp b hb)
structure Gro (e : TypeId) (s : Nat) (W : World) (B : Nat) (u : Value) (w' : World) (v : Value) (n : Nat) (xs : List Value) : Prop where
 own : w'.ownsRow B e s v n xs
 fre : ∀ b, v.ownBlock = some b → u.ownBlock = some b ∨ W.heap.size ≤ b
 gw : Gw (fun b => u.ownBlock = some b) W w'
theorem Gro.refl {e : TypeId} {s : Nat} {W : World} {B n : Nat} {u : Value} {xs : List Value} (h : W.ownsRow B e s u n xs) : Gro e s W B u W u n xs := ⟨h, fun b hb => .inl hb, Gw.refl _ _⟩
theorem Gro.below {e : TypeId} {s : Nat} {W w' w2 : World} {B n : Nat} {u v : Value} {xs : List Value} (h : Gro e s W B u w' v n xs) (hb : Below w'.heap.size w' w2) : Gro e s W B u w2 v n xs := ⟨own_keep h.own fun b hb' => hb.block b (own_blk h.own hb').2.1, h.fre, h.gw.below hb⟩
theorem Gro.app {e : TypeId} {s : Nat} {W w' w2 : World} {B n n' : Nat} {u v v' : Value} {xs xs' : List Value} (h : Gro e s W B u w' v n xs) (ho : w2.ownsRow B e s v' n' xs') (hg : w'.grownBy w2 v.ownBlock) (hat : v'.ownBlock = v.ownBlock ∨ v'.ownBlock = some w'.heap.size) : Gro e s W B u w2 v' n' xs' :=
 ⟨ho, fun b hb => by
  rcases hat with h1 | h1
  ·exact h.fre b (h1 ▸ hb)
  ·rw [h1] at hb
   obtain rfl := Option.some.inj hb
   exact .inr h.gw.size,
 h.gw.trans (Q := fun b => v.ownBlock = some b) ⟨hg.os, hg.tape, hg.output, hg.size, fun k hk hp => hg.block k hk fun e => hp e.symm⟩ h.fre⟩
theorem Gro.keep {e e' : TypeId} {s s' : Nat} {W w' : World} {B B' n n' : Nat} {u v x : Value} {xs ys : List Value} (h : Gro e s W B u w' v n xs) (ho : W.ownsRow B' e' s' x n' ys) (ha : ∀ b, x.ownBlock = some b → u.ownBlock ≠ some b) : w'.ownsRow B' e' s' x n' ys := h.gw.own ho ha
theorem Gro.apt {e e' : TypeId} {s s' : Nat} {W w' : World} {B B' n n' : Nat} {u v x : Value} {xs ys : List Value} (h : Gro e s W B u w' v n xs) (ho : W.ownsRow B' e' s' x n' ys) (ha : ∀ b, x.ownBlock = some b → u.ownBlock ≠ some b) : ∀ b, x.ownBlock = some b → v.ownBlock ≠ some b := fun b hb hv => by
 rcases h.fre b hv with h1 | h1
 ·exact ha b hb h1
 ·have := (own_blk ho hb).2.1
  omega
theorem ownBel {w w' : World} {B n s : Nat} {e : TypeId} {v : Value} {xs : List Value} (h : w.ownsRow B e s v n xs) (hb : Below w.heap.size w w') : w'.ownsRow B e s v n xs := own_keep h fun b hb' => hb.block b (own_blk h hb').2.1
theorem Bw.alloc {w W : World} (h : Below w.heap.size w W) (o : Obj) : Below w.heap.size w (W.alloc o) := h.alloc h.size o
theorem Bw.drew {w W : World} (h : Below w.heap.size w W) : Below w.heap.size w W.drew := h.drew
def TellF (w0 : World) (l : List ByteArray) (e : Ending) (w' : World) : Prop := ∃ v, e = .returned v ∧ OwnS w' w0.heap.size v l ∧ Below w0.heap.size w0 w'
theorem l3In_q (a : Option Addr) (ts : List ByteArray) (cap : Nat) (s : ByteArray) (w : World) (hn : ts.length ≤ 1048576) (hr : RowS w w.heap.size a ts) :
  Calls Tryz.prog 27 #[.slice a ts.length cap, .string s] w fun e w' => e = .returned (.bool (hasS ts s)) ∧ ∃ m, w' = w.drewN m := by
 have HR : Hid (RowS w w.heap.size a ts) := hr
 clear hr
 go_enter Tryz.func27, Tryz.ntmps27
 go_wp2
 go_loopw [5] (fun o wr => ∃ (i m : Nat), i ≤ ts.length ∧ o = .int .i64 i ∧ hasS (ts.take i) s = false ∧ wr = w.drewN m)
  (fun o _ => ts.length - (intOf o).toNat)
 case atStart => exact ⟨0, 0, by omega, rfl, by simp [hasS], rfl⟩
 case round =>
  obtain ⟨i, m, hi, rfl, hno, rfl⟩ := hrel
  by_cases hlt : i < ts.length
  ·obtain ⟨d, hd⟩ : ∃ d, ts[i]? = some d := ⟨_, List.getElem?_eq_getElem hlt⟩
   obtain ⟨b1, o1, rfl, hbb, c0⟩ := HR.out i d hd
   have c1 : (w.drewN m).cell? ⟨b1, o1 + i, none⟩ = some (.string d) := c0
   by_cases he : (d.toList == s.toList) = true
   ·have HQ : Hid (hasS ts s = true) := hasS_of hd he
    clear hno
    go_wp2
    all_goals (try go_quiet (fail))
    all_goals (try go_wp2)
    all_goals
     go_ret
     exact ⟨by rw [HQ.out]; rfl, by first | exact ⟨_, rfl⟩ | exact ⟨_, World.drewN_drewN _ _ _⟩⟩
   ·have he : (d.toList == s.toList) = false := by simpa using he
    have HQ : Hid (hasS (ts.take (i + 1)) s = false) := by show _ = _; rw [hasS_take hd, hno, he]; rfl
    clear hno
    go_wp2
    all_goals (try go_quiet (fail))
    all_goals (try go_wp2)
    all_goals
     go_roundw
     case rel => exact ⟨i + 1, _, by omega, by go_num, HQ.out, by first | rfl | exact World.drewN_drewN _ _ _⟩
     case measure => simp [intOf]; omega
  ·have hlt' : decide ((i : Int) < (ts.length : Int)) = false := by simp; omega
   obtain rfl : i = ts.length := by omega
   rw [List.take_length] at hno
   have HQ : Hid (hasS ts s = false) := hno
   clear hno
   go_wp2
   go_ret
   exact ⟨by rw [HQ.out]; rfl, ⟨_, rfl⟩⟩
structure LnK (w wr : World) (ua ga da a2 ag : Option Addr) (U Z D X G : List ByteArray) (c2 : Nat) : Prop where
 r1 : RowS wr wr.heap.size ua U
 r2 : RowS wr wr.heap.size ga Z
 r3 : RowS wr wr.heap.size da D
 r4 : RowS wr wr.heap.size a2 X
 r5 : RowS wr wr.heap.size ag G
 c2 : wr.cell? ⟨w.heap.size, 2, none⟩ = some (.slice a2 X.length c2)
theorem ddS_snoc' {l m : List ByteArray} {k : Nat} {s : ByteArray} (h : m[k]? = some s) : ddS (l ++ m.take (k + 1)) = if hasS (ddS (l ++ m.take k)) s then ddS (l ++ m.take k) else ddS (l ++ m.take k) ++ [s] := by
 rw [take_snc h, ← List.append_assoc, ddS_snoc]
theorem filt_take {p : ByteArray → Bool} {k : Int} {l : List ByteArray} {i : Nat} {s : ByteArray} (h : l[i]? = some s) : ((l.take (i + 1)).filter p).map (Nte.mk k) = ((l.take i).filter p).map (Nte.mk k) ++ (if p s then [⟨k, s⟩] else []) := by
 rw [take_snc h, List.filter_append, List.map_append]
 cases hp : p s <;> simp [hp]
theorem filt_len (p : ByteArray → Bool) (k : Int) (l : List ByteArray) : ((l.filter p).map (Nte.mk k)).length ≤ l.length := by
 rw [List.length_map]
 exact List.length_filter_le _ _
set_option maxRecDepth 100000 in
set_option maxHeartbeats 8000000 in
theorem specLint_any (x : Srx) (a1 a2 a3 a4 a5 ag : Option Addr) (c1 c2 c3 c4 c5 cg : Nat) (gv : List ByteArray) (w : World) (hs : x.small) (hr : SrxRows w (fun b => b < w.heap.size) a1 a2 a3 a4 a5 c1 c2 c3 c4 c5 x)
  (hfd : ∀ d ∈ x.defs, (flat d.prog.nodes).length ≤ 1048576) (hfv : ∀ d ∈ x.convs, (flat d.prog.nodes).length ≤ 1048576) (hgl : gv.length ≤ 1048576) (hgr : RowS w w.heap.size ag gv) :
  Calls Tryz.prog 7 #[.agg #[.string x.name, .slice a1 x.imps.length c1, .slice a2 x.exps.length c2, .slice a3 x.types.length c3, .slice a4 x.defs.length c4, .slice a5 x.convs.length c5], .slice ag gv.length cg] w fun e w' => ∃ v, e = .returned v ∧ OwnN w' w.heap.size v (lintL x gv) ∧ Below w.heap.size w w' := by
 have S : Hid (SrxAt x a1 a2 a3 a4 a5 c1 c2 c3 c4 c5 w) := srxAt x a1 a2 a3 a4 a5 c1 c2 c3 c4 c5 w hs hr
 have HC1 : Hid (∀ w2, Below w.heap.size w w2 → Calls Tryz.prog 23 #[.agg #[.string x.name, .slice a1 x.imps.length c1, .slice a2 x.exps.length c2, .slice a3 x.types.length c3, .slice a4 x.defs.length c4, .slice a5 x.convs.length c5]] w2 fun e w' => Ans w2 (.bool x.ok) e w') := fun w2 h2 => specSrc_any x a1 a2 a3 a4 a5 c1 c2 c3 c4 c5 w2 hs (SrxRows.keep hr fun b h => ⟨Nat.lt_of_lt_of_le h h2.size, h2.block b h⟩) hfd hfv
 have HL : Hid (lintL x gv = if x.ok then lintM x gv else []) := lintL_eq x gv
 have HG : Hid (RowS w w.heap.size ag gv) := hgr
 have HR4 : Hid (rgD.Row w (fun b => b < w.heap.size) a4 x.defs) := S.out.defs w (Below.refl _ _)
 have HR5 : Hid (rgD.Row w (fun b => b < w.heap.size) a5 x.convs) := S.out.convs w (Below.refl _ _)
 have HFL : Hid (∀ d ∈ x.all, (flat d.prog.nodes).length ≤ 1048576) := fun d hd => (List.mem_append.1 hd).elim (hfd d) (hfv d)
 have HSM : Hid (∀ d ∈ x.all, Dfn.small d) := fun d hd => (List.mem_append.1 hd).elim (S.out.sdefs d) (S.out.sconvs d)
 clear hs hr hgr hfd hfv
 obtain ⟨w0, hw0⟩ : ∃ w0, w0 = (w.alloc (Obj.cells #[.string x.name, .slice a1 x.imps.length c1, .slice a2 x.exps.length c2, .slice a3 x.types.length c3, .slice a4 x.defs.length c4, .slice a5 x.convs.length c5] 34)).alloc (Obj.cells #[] 58) := ⟨_, rfl⟩
 have HW : Hid (w0 = (w.alloc (Obj.cells #[.string x.name, .slice a1 x.imps.length c1, .slice a2 x.exps.length c2, .slice a3 x.types.length c3, .slice a4 x.defs.length c4, .slice a5 x.convs.length c5] 34)).alloc (Obj.cells #[] 58)) := hw0
 have HB0 : Hid (Below w.heap.size w w0) := by show Below _ _ _; rw [hw0]; exact ((Below.refl _ _).alloc (Nat.le_refl _) _).alloc (by simp) _
 have K0 : Hid (w0.heap[w.heap.size]? = some (Obj.cells #[.string x.name, .slice a1 x.imps.length c1, .slice a2 x.exps.length c2, .slice a3 x.types.length c3, .slice a4 x.defs.length c4, .slice a5 x.convs.length c5] 34)) := by show _ = _; rw [hw0]; exact blk_past (blk_at _ _ _ rfl)
 have KO : Hid (w0.heap[w.heap.size + 1]? = some (Obj.cells #[] 58)) := by show _ = _; rw [hw0]; exact blk_at _ _ _ (by simp)
 clear hw0
 obtain ⟨i9, hi9, hz90, hz91, hz92⟩ := info_parts Tryz.inf9
 obtain ⟨i8, hi8, hz80, hz81, hz82⟩ := info_parts Tryz.inf58
 go_enter Tryz.func7, Tryz.ntmps7
 go_wp2_with fail
 rw [← HW.out]
 refine (HC1.out _ HB0.out).mono ?_
 rintro e w1 ⟨rfl, hb1⟩
 have HB1 : Hid (Below w.heap.size w w1) := HB0.out.trans (hb1.mono HB0.out.size)
 have K1 : Hid (w1.heap[w.heap.size]? = some (Obj.cells #[.string x.name, .slice a1 x.imps.length c1, .slice a2 x.exps.length c2, .slice a3 x.types.length c3, .slice a4 x.defs.length c4, .slice a5 x.convs.length c5] 34)) := blk_keep K0.out hb1 (Array.getElem?_eq_some_iff.1 K0.out).1
 have KO1 : Hid (w1.heap[w.heap.size + 1]? = some (Obj.cells #[] 58)) := blk_keep KO.out hb1 (Array.getElem?_eq_some_iff.1 KO.out).1
 clear hb1 K0 KO HB0 HW HC1
 cases hx : x.ok
 ·have HQ : Hid (lintL x gv = []) := by show _ = _; rw [HL.out, hx]; rfl
  clear HL hx
  go_wp2
  go_ret
  rw [HQ.out]
  exact ⟨_, rfl, own_empty KO1.out (Nat.le_succ _), HB1.out⟩
 ·have HQ : Hid (lintL x gv = lintM x gv) := by show _ = _; rw [HL.out, hx]; rfl
  obtain ⟨hal, had, _, hok⟩ := ok_all hx
  have HOK : Hid (∀ d ∈ x.all, OkP d.prog.nodes d.prog.root) := hok
  have HFT : Hid (∀ i, (frA (x.all.take i)).length ≤ 15200) := fun i => by
   have := frA_len (l := x.all.take i) fun d hd => hok d (List.mem_of_mem_take hd)
   rw [List.length_take] at this
   omega
  have HST : Hid (∀ i, (stA (x.all.take i)).length ≤ 15200) := fun i => by
   have := stA_len (l := x.all.take i) fun d hd => hok d (List.mem_of_mem_take hd)
   rw [List.length_take] at this
   omega
  have HFL4 : Hid (∀ d ∈ x.all, (frP d.prog).length ≤ 400 ∧ (stP d.prog).length ≤ 400) := fun d hd => ⟨frP_len (hok d hd), stP_len (hok d hd)⟩
  have hac : x.convs.length ≤ 1000 := by unfold Srx.all at hal; rw [List.length_append] at hal; omega
  have k1 := K1.out
  have e4 := cell_blk (j := 4) k1 rfl
  clear k1 HL hx hok
  have HDN : Hid (Calls Tryz.prog 24 #[.slice a4 x.defs.length c4] w1 fun e w' => NmPost x.dns w1 e w') := l11DefNames_any a4 x.defs c4 w1 S.out.l4 (S.out.defs _ HB1.out)
  go_wp2_with fail
  refine HDN.out.mono ?_
  rintro e w2 ⟨da, dc, rfl, hdc, hdo, hb2⟩
  have HB2 : Hid (Below w.heap.size w w2) := HB1.out.trans (hb2.mono HB1.out.size)
  have K2 : Hid (w2.heap[w.heap.size]? = some (Obj.cells #[.string x.name, .slice a1 x.imps.length c1, .slice a2 x.exps.length c2, .slice a3 x.types.length c3, .slice a4 x.defs.length c4, .slice a5 x.convs.length c5] 34)) := blk_keep K1.out hb2 (Array.getElem?_eq_some_iff.1 K1.out).1
  have KO2 : Hid (w2.heap[w.heap.size + 1]? = some (Obj.cells #[] 58)) := blk_keep KO1.out hb2 (Array.getElem?_eq_some_iff.1 KO1.out).1
  have HDO : Hid (w2.ownsRow (w.heap.size + 2) 9 1 (.slice da x.dns.length dc) x.dns.length (x.dns.map Value.string)) := OwnS.weak hdo (Array.getElem?_eq_some_iff.1 KO1.out).1
  have hz2 : w.heap.size + 2 ≤ w2.heap.size := (Array.getElem?_eq_some_iff.1 KO2.out).1
  have HZ2 : Hid (w.heap.size + 2 ≤ w2.heap.size) := hz2
  obtain ⟨w3, hw3⟩ : ∃ w3, w3 = (w2.alloc (Obj.cells #[] 9)).alloc (Obj.cells #[] 9) := ⟨_, rfl⟩
  have HW3 : Hid (w3 = (w2.alloc (Obj.cells #[] 9)).alloc (Obj.cells #[] 9)) := hw3
  have HB23 : Hid (Below w2.heap.size w2 w3) := by show Below _ _ _; rw [hw3]; exact ((Below.refl _ _).alloc (Nat.le_refl _) _).alloc (by simp) _
  have KU : Hid (w3.heap[w2.heap.size]? = some (Obj.cells #[] 9)) := by show _ = _; rw [hw3]; exact blk_past (blk_at _ _ _ rfl)
  have KS : Hid (w3.heap[w2.heap.size + 1]? = some (Obj.cells #[] 9)) := by show _ = _; rw [hw3]; exact blk_at _ _ _ (by simp)
  have HALL : Hid (Calls Tryz.prog 25 #[.agg #[.string x.name, .slice a1 x.imps.length c1, .slice a2 x.exps.length c2, .slice a3 x.types.length c3, .slice a4 x.defs.length c4, .slice a5 x.convs.length c5]] w3 fun e w' => PsPost w (x.all.map (·.prog)) w3 e w') := l21All_any x a1 a2 a3 a4 a5 c1 c2 c3 c4 c5 w w3 (HB2.out.trans (HB23.out.mono HB2.out.size)) S.out.l4 hac (by omega) HR4.out HR5.out
  have k3 := blk_keep K2.out HB23.out (Array.getElem?_eq_some_iff.1 K2.out).1
  have f0 := cell_blk (j := 0) k3 rfl
  have f1 := cell_blk (j := 1) k3 rfl
  have f2 := cell_blk (j := 2) k3 rfl
  have f3 := cell_blk (j := 3) k3 rfl
  have f4 := cell_blk (j := 4) k3 rfl
  have f5 := cell_blk (j := 5) k3 rfl
  rw [hw3] at f0 f1 f2 f3 f4 f5
  clear hdo hb2 HDN K1 KO1 HB1 hw3 e4 hz2 k3
  go_wp2_with fail
  rw [← HW3.out]
  refine HALL.out.mono ?_
  rintro e W0 ⟨pa, pc, rfl, hpo, hb3⟩
  have HB03 : Hid (Below w2.heap.size w2 W0) := HB23.out.trans (hb3.mono HB23.out.size)
  have HU0 : Hid (OwnS W0 w2.heap.size (.slice (some ⟨w2.heap.size, 0, none⟩) 0 0) []) := own_empty (blk_keep KU.out hb3 (Array.getElem?_eq_some_iff.1 KU.out).1) (Nat.le_refl _)
  have HS0 : Hid (OwnS W0 w2.heap.size (.slice (some ⟨w2.heap.size + 1, 0, none⟩) 0 0) []) := own_empty (blk_keep KS.out hb3 (Array.getElem?_eq_some_iff.1 KS.out).1) (Nat.le_succ _)
  have hzz : w2.heap.size + 2 ≤ w3.heap.size := (Array.getElem?_eq_some_iff.1 KS.out).1
  have HPO : Hid (OwnP w W0 (w2.heap.size + 2) (.slice pa (x.all.map (·.prog)).length pc) (x.all.map (·.prog))) := hpo.weak hzz
  have HBW0 : Hid (Below w.heap.size w W0) := HB2.out.trans (HB03.out.mono HB2.out.size)
  obtain ⟨n, hn⟩ : ∃ n, n = x.all.length := ⟨_, rfl⟩
  have hpn : (x.all.map (·.prog)).length = n := by rw [hn, List.length_map]
  rw [hpn] at HPO ⊢
  have hn2 : n ≤ 38 := by omega
  have HN : Hid (n = x.all.length) := hn
  clear hn f0 f1 f2 f3 f4 f5 HW3 HALL hpo hb3 KU KS HB23 hzz hpn hal had hac
  -- the rows of programs, kept as long as used and sets alone are written
  obtain ⟨P, hP⟩ : ∃ P : Nat → Prop, P = fun b => b = w2.heap.size ∨ b = w2.heap.size + 1 := ⟨_, rfl⟩
  have HPP : Hid (∀ b, P b ↔ b = w2.heap.size ∨ b = w2.heap.size + 1) := fun b => by rw [hP]
  have HPK : Hid (∀ wr, Gw P W0 wr → OwnP w wr (w2.heap.size + 2) (.slice pa n pc) (x.all.map (·.prog))) := fun wr g => by
   obtain ⟨u, hu, ho⟩ := HPO.out
   exact ⟨u, hu, g.own ho fun b hb hp => by have := (own_blk ho hb).1; rcases (HPP.out b).1 hp with h | h <;> omega⟩
  have HWK : Hid (∀ wr, Gw P W0 wr → Below w2.heap.size w2 wr) := fun wr g => g.to (fun b hb => by rcases (HPP.out b).1 hb with h | h <;> omega) HB03.out HB03.out.size
  have HFU : Hid (∀ b, (Value.slice (some ⟨w2.heap.size, 0, none⟩) 0 0).ownBlock = some b → P b ∨ W0.heap.size ≤ b) := fun b hb => by
   obtain rfl : w2.heap.size = b := Option.some.inj hb
   exact .inl ((HPP.out _).2 (.inl rfl))
  have HFS : Hid (∀ b, (Value.slice (some ⟨w2.heap.size + 1, 0, none⟩) 0 0).ownBlock = some b → P b ∨ W0.heap.size ≤ b) := fun b hb => by
   obtain rfl : w2.heap.size + 1 = b := Option.some.inj hb
   exact .inl ((HPP.out _).2 (.inr rfl))
  have HAP : Hid (∀ b, (Value.slice (some ⟨w2.heap.size + 1, 0, none⟩) 0 0).ownBlock = some b → (Value.slice (some ⟨w2.heap.size, 0, none⟩) 0 0).ownBlock ≠ some b) := fun b hb hu => by
   have h1 : w2.heap.size + 1 = b := Option.some.inj hb
   have h2 : w2.heap.size = b := Option.some.inj hu
   omega
  clear hP HPO
  go_wp2
  go_loopw [7, 8, 10] (fun u g o wr => ∃ i : Nat, i ≤ n ∧ o = .int .i64 i ∧ OwnS wr w2.heap.size u (ddS (frA (x.all.take i))) ∧ OwnS wr w2.heap.size g (ddS (stA (x.all.take i))) ∧ (∀ b, g.ownBlock = some b → u.ownBlock ≠ some b) ∧ (∀ b, u.ownBlock = some b → P b ∨ W0.heap.size ≤ b) ∧ (∀ b, g.ownBlock = some b → P b ∨ W0.heap.size ≤ b) ∧ Gw P W0 wr)
   (fun _ _ o _ => n - (intOf o).toNat)
  case atStart => exact ⟨0, by omega, rfl, HU0.out, HS0.out, HAP.out, HFU.out, HFS.out, Gw.refl _ _⟩
  case round =>
   obtain ⟨i, hi, rfl, huo, hgo, hap, hfu, hfg, hgw⟩ := hrel
   obtain ⟨wR, hwR⟩ : ∃ wR, wR = wr := ⟨_, rfl⟩
   subst hwR
   have HF1 := Nat.le_trans (ddS_len _) (HFT.out i)
   have HS1 := Nat.le_trans (ddS_len _) (HST.out i)
   obtain ⟨ua, uc, rfl, huc⟩ := huo.slice
   obtain ⟨ga, gc, rfl, hgc⟩ := hgo.slice
   have HGW : Hid (Gw P W0 wR) := hgw
   have HUO : Hid (OwnS wR w2.heap.size (.slice ua (ddS (frA (x.all.take i))).length uc) (ddS (frA (x.all.take i)))) := huo
   have HGO : Hid (OwnS wR w2.heap.size (.slice ga (ddS (stA (x.all.take i))).length gc) (ddS (stA (x.all.take i)))) := hgo
   have HAU : Hid (∀ b, (Value.slice ga (ddS (stA (x.all.take i))).length gc).ownBlock = some b → (Value.slice ua (ddS (frA (x.all.take i))).length uc).ownBlock ≠ some b) := hap
   have HFU1 : Hid (∀ b, (Value.slice ua (ddS (frA (x.all.take i))).length uc).ownBlock = some b → P b ∨ W0.heap.size ≤ b) := hfu
   have HFG1 : Hid (∀ b, (Value.slice ga (ddS (stA (x.all.take i))).length gc).ownBlock = some b → P b ∨ W0.heap.size ≤ b) := hfg
   clear huo hgo hap hfu hfg
   by_cases hlt : i < n
   ·obtain ⟨d, hd⟩ : ∃ d, x.all[i]? = some d := ⟨_, List.getElem?_eq_getElem (by have := HN.out; omega)⟩
    have hdp : (x.all.map (·.prog))[i]? = some d.prog := by rw [List.getElem?_map, hd]; rfl
    obtain ⟨pg, an, cn, rfl, hpg, hpl, x1, x2, hrn⟩ := (HPK.out wR hgw).at hdp
    have HPC : Hid (∀ wk, Gw P W0 wk → ∃ an cn, wk.cell? ⟨pg, i * 2, none⟩ = some (.slice an d.prog.nodes.length cn) ∧ wk.cell? ⟨pg, i * 2 + 1, none⟩ = some (.int .i64 d.prog.root) ∧ rgN.Row w (fun b => b < w.heap.size) an d.prog.nodes) := fun wk g => by
     obtain ⟨pg', an', cn', e, _, _, y1, y2, hr⟩ := (HPK.out wk g).at hdp
     simp only [Option.some.injEq, Addr.mk.injEq, and_true] at e
     obtain rfl := e
     exact ⟨an', cn', y1, y2, hr⟩
    have hdm := List.mem_of_getElem? hd
    obtain ⟨_, ⟨n1, n2⟩, _⟩ := HSM.out d hdm
    obtain ⟨hp4, hp5⟩ := HFL4.out d hdm
    have HTF : Hid (frA (x.all.take (i + 1)) = frA (x.all.take i) ++ frP d.prog) := frA_take hd
    have HTS : Hid (stA (x.all.take (i + 1)) = stA (x.all.take i) ++ stP d.prog) := stA_take hd
    have HF2 : Hid (∀ k, (ddS (frA (x.all.take i) ++ (frP d.prog).take k)).length ≤ 15600) := fun k => by
     have := Nat.le_trans (ddS_len (frA (x.all.take i) ++ (frP d.prog).take k)) (Nat.le_of_eq List.length_append)
     have h2 := HFT.out i
     rw [List.length_take] at this
     omega
    have HS2 : Hid (∀ k, (ddS (stA (x.all.take i) ++ (stP d.prog).take k)).length ≤ 15600) := fun k => by
     have := Nat.le_trans (ddS_len (stA (x.all.take i) ++ (stP d.prog).take k)) (Nat.le_of_eq List.length_append)
     have h2 := HST.out i
     rw [List.length_take] at this
     omega
    have HL5 : Hid (∀ (W : World) (g1 g2 : Nat), Below wR.heap.size wR W → W.heap[g2]? = some (.cells #[] 9 (0, 0)) → wR.heap.size ≤ g2 → Calls Tryz.prog 26 #[.agg #[.slice an d.prog.nodes.length cn, .int .i64 d.prog.root], .int .i64 d.prog.root, .slice (some ⟨g1, 0, none⟩) 0 0, .slice (some ⟨g2, 0, none⟩) 0 0] W fun e w' => TellF wR (frP d.prog) e w') := fun W g1 g2 hW h2 hg2 => by
     obtain ⟨ri, hri, hrl⟩ := okP_root (HOK.out d hdm)
     have hwr : Below w.heap.size w wR := HB2.out.trans ((HWK.out wR HGW.out).mono HB2.out.size)
     have := Fr.l5Free_any an d.prog.nodes cn d.prog.root n2 (HOK.out d hdm) wR.heap.size d.prog.nodes.length ri hrl hrl (some ⟨g1, 0, none⟩) (some ⟨g2, 0, none⟩) 0 0 [] [] W (rowN_iff.1 (hrn.keep fun b hb => ⟨Nat.lt_of_lt_of_le hb hwr.size, (hwr.trans (hW.mono hwr.size)).block b hb⟩)) hW.size (fun j x hx => by simp at hx) (Fr.own_nil h2 hg2) (by simp) (Fr.Fnd.nil _)
     rw [← hri] at this
     refine Calls.mono this fun e w' h => ?_
     obtain ⟨v, rfl, ho, hg, _⟩ := h
     exact ⟨v, rfl, ho, hW.trans ⟨hg.os, hg.tape, hg.output, hg.size, fun k hk => hg.block k (Nat.lt_of_lt_of_le hk hW.size) (fun e => by have e' : k = g2 := Option.some.inj e; omega)⟩⟩
    have HSE : Hid (∀ (W : World) (an : Option Addr) (cn : Nat), Below w.heap.size w W → rgN.Row w (fun b => b < w.heap.size) an d.prog.nodes → Calls Tryz.prog 28 #[.agg #[.slice an d.prog.nodes.length cn, .int .i64 d.prog.root]] W fun e w' => TellP (stP d.prog) W e w') := fun W an cn hW hr => Fr.specSets_yes an d.prog.nodes cn d.prog.root W n1 (HFL.out d hdm) (rowN_iff.1 (hr.keep fun b hb => ⟨Nat.lt_of_lt_of_le hb hW.size, hW.block b hb⟩)) n2 (HOK.out d hdm)
    have HBwr : Hid (Below w2.heap.size w2 wR) := HWK.out wR hgw
    clear hd hdp hrn n1 n2 hdm hgw
    generalize frA (x.all.take i) = ls at *
    generalize stA (x.all.take i) = ms at *
    generalize frP d.prog = lp at *
    generalize stP d.prog = mp at *
    go_wp2
    have HS0 : Hid (∀ W, Below wR.heap.size wR W → W.cell? ⟨pg, i * 2, none⟩ = some (.slice an d.prog.nodes.length cn) ∧ W.cell? ⟨pg, i * 2 + 1, none⟩ = some (.int .i64 d.prog.root)) := fun W h => ⟨(World.cell?_of_block (w := wR) (a := ⟨pg, _, none⟩) (h.block pg hpl)).trans x1, (World.cell?_of_block (w := wR) (a := ⟨pg, _, none⟩) (h.block pg hpl)).trans x2⟩
    go_region_held3 (fun W => W.cell? ⟨pg, i * 2, none⟩ = some (.slice an d.prog.nodes.length cn) ∧ W.cell? ⟨pg, i * 2 + 1, none⟩ = some (.int .i64 d.prog.root))
     ((refine HS0.out _ ?_; (repeat (first | exact hb5 | exact Below.refl _ _ | with_reducible refine Bw.alloc ?_ _ | with_reducible refine Bw.drew ?_))))
     ((go_at_call 26; refine Calls.mono (HL5.out _ _ _ ?_ ?_ ?_) ?_; (focus (repeat (first | exact Below.refl _ _ | with_reducible refine Bw.alloc ?_ _ | with_reducible refine Bw.drew ?_))); (focus (repeat (first | exact blk_at _ _ _ rfl | (refine blk_at _ _ _ ?_; simp; done) | with_reducible refine blk_drew ?_ | with_reducible refine blk_past ?_))); (focus (first | exact Nat.le_refl _ | exact Nat.le_succ _ | (simp; done))); rintro e w5 ⟨v, rfl, hown, hb5⟩))
    all_goals
     obtain ⟨fa, fc, rfl, hfc⟩ := hown.slice
     have HFO : Hid (OwnS w5 wR.heap.size (.slice fa lp.length fc) lp) := hown
     have HB5 : Hid (Below wR.heap.size wR w5) := hb5
     have HGO5 : Hid (w5.ownsRow w2.heap.size 9 1 (.slice ga (ddS ms).length gc) (ddS ms).length ((ddS ms).map Value.string)) := ownBel HGO.out hb5
     have HG0a : Hid (Gro 9 1 w5 w2.heap.size (.slice ua (ddS ls).length uc) w5 (.slice ua (ddS ls).length uc) (ddS ls).length ((ddS ls).map Value.string)) := Gro.refl (ownBel HUO.out hb5)
     have HFA : Hid (∀ b, (Value.slice fa lp.length fc).ownBlock = some b → (Value.slice ua (ddS ls).length uc).ownBlock ≠ some b) := fun b hb hu => by
      have h1 := (own_blk hown hb).1
      have h2 := (own_blk HUO.out hu).2.1
      omega
     have HZWa : Hid (w2.heap.size ≤ w5.heap.size) := Nat.le_trans HBwr.out.size hb5.size
     clear hown hb5 HL5 HS0 x1 x2 HUO HGO
     go_wp2
     go_loopw [7, 12] (fun v o wr => ∃ k : Nat, k ≤ lp.length ∧ o = .int .i64 k ∧ Gro 9 1 w5 w2.heap.size (.slice ua (ddS ls).length uc) wr v (ddS (ls ++ lp.take k)).length ((ddS (ls ++ lp.take k)).map Value.string))
      (fun _ o _ => lp.length - (intOf o).toNat)
     case atStart => exact ⟨0, by omega, rfl, by rw [List.take_zero, List.append_nil]; exact HG0a.out⟩
     case round =>
      obtain ⟨ka, hka, rfl, hgra⟩ := hrel
      obtain ⟨vaa, vca, rfl, hvca⟩ := own_slice hgra.own
      have HFak := HF2.out ka
      by_cases hlta : ka < lp.length
      ·obtain ⟨s, hsk⟩ : ∃ s, lp[ka]? = some s := ⟨_, List.getElem?_eq_getElem hlta⟩
       have hfk : OwnS wr wR.heap.size (.slice fa lp.length fc) lp := hgra.keep HFO.out HFA.out
       obtain ⟨b1, o1, rfl, hbb, c0⟩ := hfk.rowS ka s hsk
       have HIN : Hid (Calls Tryz.prog 27 #[.slice vaa (ddS (ls ++ lp.take ka)).length vca, .string s] wr fun e w' => Ans wr (.bool (hasS (ddS (ls ++ lp.take ka)) s)) e w') := l3In_any vaa _ vca s wr (by omega) (OwnS.rowS hgra.own)
       have HSN := ddS_snoc' (l := ls) hsk
       have HGR : Hid (Gro 9 1 w5 w2.heap.size (.slice ua (ddS ls).length uc) wr (.slice vaa (ddS (ls ++ lp.take ka)).length vca) (ddS (ls ++ lp.take ka)).length ((ddS (ls ++ lp.take ka)).map Value.string)) := hgra
       clear hgra hfk hsk
       generalize ddS (ls ++ lp.take ka) = L at *
       have hwkz := HGR.out.gw.size
       cases hin : hasS L s
       ·rw [hin] at HIN HSN
        simp only [Bool.false_eq_true, if_false] at HSN
        have HSN1 : Hid (ddS (ls ++ lp.take (ka + 1)) = L ++ [s]) := HSN
        clear hin HSN
        go_wp2_with fail
        refine HIN.out.mono ?_
        rintro e w6 ⟨rfl, hb6⟩
        have c6 : w6.cell? ⟨b1, o1 + ka, none⟩ = some (.string s) := (World.cell?_of_block (w := wr) (a := ⟨b1, _, none⟩) (hb6.block b1 hbb)).trans c0
        have HG6 : Hid (Gro 9 1 w5 w2.heap.size (.slice ua (ddS ls).length uc) (w6.alloc (Obj.cells #[.string s] 9)) (.slice vaa L.length vca) L.length (L.map Value.string)) := (HGR.out.below hb6).below (Bw.alloc (Below.refl _ _) _)
        have hz6 : w2.heap.size ≤ (w6.alloc (Obj.cells #[.string s] 9)).heap.size := by have := HG6.out.gw.size; have := HZWa.out; omega
        have hnews : ∀ j u, [Value.string s][j]? = some u → (w6.alloc (Obj.cells #[.string s] 9)).cell? ((⟨w6.heap.size, 0, none⟩ : Addr).add j) = some u := by
         intro j u hj
         rw [add_lit, Nat.zero_add]
         exact cell_blk (blk_at _ _ _ (by simp)) (by simpa using hj)
        have HZ6 : Hid _ := hz6
        have HN6 : Hid _ := hnews
        clear hb6 c0 HIN hz6 hnews
        go_wp2_with (at_builtin; go_loud (refine wpList_append_row rfl _ _ 22 rfl w2.heap.size 9 i9 _ 1 16 Tryz.underlying22 hi9 hz90 hz91 hz92 rfl (by omega) (.slice vaa L.length vca) L.length (L.map Value.string) rfl HG6.out.own (some ⟨w6.heap.size, 0, none⟩) 1 1 [.string s] rfl rfl (fun _ => ⟨_, rfl, HN6.out⟩) (by intro u hu; simp at hu; subst hu; rfl) (by unfold maxLen; omega) (by omega) HZ6.out ?_; intro v' w7 hown hgrow hat; refine stop ?_))
        have HG7 : Hid (Gro 9 1 w5 w2.heap.size (.slice ua (ddS ls).length uc) w7 v' (L.length + 1) (L.map Value.string ++ [.string s])) := HG6.out.app hown hgrow hat
        unfold Hid
        clear hown hgrow hat HN6 HZ6 c6
        go_wp2
        go_roundw
        case rel => exact ⟨ka + 1, by omega, by go_num, by rw [HSN1.out, List.length_append, List.map_append]; exact HG7.out⟩
        case measure => simp [intOf]; omega
       ·rw [hin] at HIN HSN
        simp only [if_true] at HSN
        have HSN1 : Hid (ddS (ls ++ lp.take (ka + 1)) = L) := HSN
        clear hin HSN
        go_wp2_with fail
        refine HIN.out.mono ?_
        rintro e w6 ⟨rfl, hb6⟩
        have HG6 : Hid (Gro 9 1 w5 w2.heap.size (.slice ua (ddS ls).length uc) w6 (.slice vaa L.length vca) L.length (L.map Value.string)) := HGR.out.below hb6
        clear hb6 c0 HIN
        go_wp2
        go_roundw
        case rel => exact ⟨ka + 1, by omega, by go_num, by rw [HSN1.out]; exact HG6.out⟩
        case measure => simp [intOf]; omega
      ·obtain rfl : ka = lp.length := by omega
       rw [List.take_length] at hgra ⊢
       have hlt' : decide ((lp.length : Int) < (lp.length : Int)) = false := by simp
       have HGWk : Hid (Gw P W0 wr) := (HGW.out.below HB5.out).trans hgra.gw HFU1.out
       have HUk : Hid (OwnS wr w2.heap.size (.slice vaa (ddS (ls ++ lp)).length vca) (ddS (ls ++ lp))) := hgra.own
       have HFUk : Hid (∀ b, (Value.slice vaa (ddS (ls ++ lp)).length vca).ownBlock = some b → P b ∨ W0.heap.size ≤ b) := fun b hb => by
        rcases hgra.fre b hb with h | h
        ·exact HFU1.out b h
        ·have h1 := HGW.out.size
         have h2 := HB5.out.size
         exact .inr (by omega)
       have HGk : Hid (wr.ownsRow w2.heap.size 9 1 (.slice ga (ddS ms).length gc) (ddS ms).length ((ddS ms).map Value.string)) := hgra.keep HGO5.out HAU.out
       have HAk : Hid (∀ b, (Value.slice ga (ddS ms).length gc).ownBlock = some b → (Value.slice vaa (ddS (ls ++ lp)).length vca).ownBlock ≠ some b) := hgra.apt HGO5.out HAU.out
       have HSl : Hid (wR.heap.size ≤ wr.heap.size) := Nat.le_trans HB5.out.size hgra.gw.size
       obtain ⟨an2, cn2, y1, y2, hr2⟩ := HPC.out wr HGWk.out
       have HSC : Hid (Calls Tryz.prog 28 #[.agg #[.slice an2 d.prog.nodes.length cn2, .int .i64 d.prog.root]] wr fun e w' => TellP mp wr e w') := HSE.out wr an2 cn2 (HB2.out.trans ((HWK.out wr HGWk.out).mono HB2.out.size)) hr2
       have HBWk : Hid (Below w2.heap.size w2 wr) := HWK.out wr HGWk.out
       clear hgra hvca hlta hka HFO HFA HGO5 HB5 HG0a HZWa HFak hr2 HSE HF2
       go_wp2_with fail
       obtain ⟨wK, hwK⟩ : ∃ wK, wK = wr := ⟨_, rfl⟩
       subst hwK
       refine HSC.out.mono ?_
       rintro e w8 ⟨v8, rfl, hown8, hb8⟩
       obtain ⟨ha, hc, rfl, hhc⟩ := hown8.slice
       have HFO8 : Hid (OwnS w8 wK.heap.size (.slice ha mp.length hc) mp) := hown8
       have HB8 : Hid (Below wK.heap.size wK w8) := hb8
       have HU8 : Hid (w8.ownsRow w2.heap.size 9 1 (.slice vaa (ddS (ls ++ lp)).length vca) (ddS (ls ++ lp)).length ((ddS (ls ++ lp)).map Value.string)) := ownBel HUk.out hb8
       have HG0b : Hid (Gro 9 1 w8 w2.heap.size (.slice ga (ddS ms).length gc) w8 (.slice ga (ddS ms).length gc) (ddS ms).length ((ddS ms).map Value.string)) := Gro.refl (ownBel HGk.out hb8)
       have HFA8 : Hid (∀ b, (Value.slice ha mp.length hc).ownBlock = some b → (Value.slice ga (ddS ms).length gc).ownBlock ≠ some b) := fun b hb hu => by
        have h1 := (own_blk hown8 hb).1
        have h2 := (own_blk HGk.out hu).2.1
        omega
       have HZWb : Hid (w2.heap.size ≤ w8.heap.size) := Nat.le_trans HBWk.out.size hb8.size
       clear hown8 hb8 HSC y1 y2 HGk HUk
       go_wp2
       go_loopw [8, 14] (fun v o wr => ∃ k : Nat, k ≤ mp.length ∧ o = .int .i64 k ∧ Gro 9 1 w8 w2.heap.size (.slice ga (ddS ms).length gc) wr v (ddS (ms ++ mp.take k)).length ((ddS (ms ++ mp.take k)).map Value.string))
        (fun _ o _ => mp.length - (intOf o).toNat)
       case atStart => exact ⟨0, by omega, rfl, by rw [List.take_zero, List.append_nil]; exact HG0b.out⟩
       case round =>
        obtain ⟨kb, hkb, rfl, hgrb⟩ := hrel
        obtain ⟨vab, vcb, rfl, hvcb⟩ := own_slice hgrb.own
        have HFbk := HS2.out kb
        by_cases hltb : kb < mp.length
        ·obtain ⟨s, hsk⟩ : ∃ s, mp[kb]? = some s := ⟨_, List.getElem?_eq_getElem hltb⟩
         have hfk : OwnS wr wK.heap.size (.slice ha mp.length hc) mp := hgrb.keep HFO8.out HFA8.out
         obtain ⟨b1, o1, rfl, hbb, c0⟩ := hfk.rowS kb s hsk
         have HIN : Hid (Calls Tryz.prog 27 #[.slice vab (ddS (ms ++ mp.take kb)).length vcb, .string s] wr fun e w' => Ans wr (.bool (hasS (ddS (ms ++ mp.take kb)) s)) e w') := l3In_any vab _ vcb s wr (by omega) (OwnS.rowS hgrb.own)
         have HSN := ddS_snoc' (l := ms) hsk
         have HGR : Hid (Gro 9 1 w8 w2.heap.size (.slice ga (ddS ms).length gc) wr (.slice vab (ddS (ms ++ mp.take kb)).length vcb) (ddS (ms ++ mp.take kb)).length ((ddS (ms ++ mp.take kb)).map Value.string)) := hgrb
         clear hgrb hfk hsk
         generalize ddS (ms ++ mp.take kb) = L at *
         have hwkz := HGR.out.gw.size
         cases hin : hasS L s
         ·rw [hin] at HIN HSN
          simp only [Bool.false_eq_true, if_false] at HSN
          have HSN1 : Hid (ddS (ms ++ mp.take (kb + 1)) = L ++ [s]) := HSN
          clear hin HSN
          go_wp2_with fail
          refine HIN.out.mono ?_
          rintro e w6 ⟨rfl, hb6⟩
          have c6 : w6.cell? ⟨b1, o1 + kb, none⟩ = some (.string s) := (World.cell?_of_block (w := wr) (a := ⟨b1, _, none⟩) (hb6.block b1 hbb)).trans c0
          have HG6 : Hid (Gro 9 1 w8 w2.heap.size (.slice ga (ddS ms).length gc) (w6.alloc (Obj.cells #[.string s] 9)) (.slice vab L.length vcb) L.length (L.map Value.string)) := (HGR.out.below hb6).below (Bw.alloc (Below.refl _ _) _)
          have hz6 : w2.heap.size ≤ (w6.alloc (Obj.cells #[.string s] 9)).heap.size := by have := HG6.out.gw.size; have := HZWb.out; omega
          have hnews : ∀ j u, [Value.string s][j]? = some u → (w6.alloc (Obj.cells #[.string s] 9)).cell? ((⟨w6.heap.size, 0, none⟩ : Addr).add j) = some u := by
           intro j u hj
           rw [add_lit, Nat.zero_add]
           exact cell_blk (blk_at _ _ _ (by simp)) (by simpa using hj)
          have HZ6 : Hid _ := hz6
          have HN6 : Hid _ := hnews
          clear hb6 c0 HIN hz6 hnews
          go_wp2_with (at_builtin; go_loud (refine wpList_append_row rfl _ _ 22 rfl w2.heap.size 9 i9 _ 1 16 Tryz.underlying22 hi9 hz90 hz91 hz92 rfl (by omega) (.slice vab L.length vcb) L.length (L.map Value.string) rfl HG6.out.own (some ⟨w6.heap.size, 0, none⟩) 1 1 [.string s] rfl rfl (fun _ => ⟨_, rfl, HN6.out⟩) (by intro u hu; simp at hu; subst hu; rfl) (by unfold maxLen; omega) (by omega) HZ6.out ?_; intro v' w7 hown hgrow hat; refine stop ?_))
          have HG7 : Hid (Gro 9 1 w8 w2.heap.size (.slice ga (ddS ms).length gc) w7 v' (L.length + 1) (L.map Value.string ++ [.string s])) := HG6.out.app hown hgrow hat
          unfold Hid
          clear hown hgrow hat HN6 HZ6 c6
          go_wp2
          go_roundw
          case rel => exact ⟨kb + 1, by omega, by go_num, by rw [HSN1.out, List.length_append, List.map_append]; exact HG7.out⟩
          case measure => simp [intOf]; omega
         ·rw [hin] at HIN HSN
          simp only [if_true] at HSN
          have HSN1 : Hid (ddS (ms ++ mp.take (kb + 1)) = L) := HSN
          clear hin HSN
          go_wp2_with fail
          refine HIN.out.mono ?_
          rintro e w6 ⟨rfl, hb6⟩
          have HG6 : Hid (Gro 9 1 w8 w2.heap.size (.slice ga (ddS ms).length gc) w6 (.slice vab L.length vcb) L.length (L.map Value.string)) := HGR.out.below hb6
          clear hb6 c0 HIN
          go_wp2
          go_roundw
          case rel => exact ⟨kb + 1, by omega, by go_num, by rw [HSN1.out]; exact HG6.out⟩
          case measure => simp [intOf]; omega
        ·obtain rfl : kb = mp.length := by omega
         rw [List.take_length] at hgrb ⊢
         have hlt' : decide ((mp.length : Int) < (mp.length : Int)) = false := by simp
         have HUf : Hid (wr.ownsRow w2.heap.size 9 1 (.slice vaa (ddS (ls ++ lp)).length vca) (ddS (ls ++ lp)).length ((ddS (ls ++ lp)).map Value.string)) := hgrb.keep HU8.out fun b hb hg => HAk.out b hg hb
         have HGf : Hid (wr.ownsRow w2.heap.size 9 1 (.slice vab (ddS (ms ++ mp)).length vcb) (ddS (ms ++ mp)).length ((ddS (ms ++ mp)).map Value.string)) := hgrb.own
         have HAf : Hid (∀ b, (Value.slice vab (ddS (ms ++ mp)).length vcb).ownBlock = some b → (Value.slice vaa (ddS (ls ++ lp)).length vca).ownBlock ≠ some b) := fun b hb hu => hgrb.apt HU8.out (fun b hb hg => HAk.out b hg hb) b hu hb
         have HFGf : Hid (∀ b, (Value.slice vab (ddS (ms ++ mp)).length vcb).ownBlock = some b → P b ∨ W0.heap.size ≤ b) := fun b hb => by
          rcases hgrb.fre b hb with h | h
          ·exact HFG1.out b h
          ·have h1 := HGWk.out.size
           have h2 := HB8.out.size
           exact .inr (by omega)
         have HGWf : Hid (Gw P W0 wr) := (HGWk.out.below HB8.out).trans hgrb.gw HFG1.out
         clear hgrb hvcb hltb hkb HFO8 HFA8 HU8 HB8 HG0b HZWb HFbk HS2 HAk HPC HGW HGWk
         go_wp2
         go_roundw
         case rel => exact ⟨i + 1, by omega, by go_num, by rw [HTF.out]; exact HUf.out, by rw [HTS.out]; exact HGf.out, HAf.out, HFUk.out, HFGf.out, HGWf.out⟩
         case measure => simp [intOf]; omega
   ·obtain rfl : i = n := by omega
    have hlt' : decide ((i : Int) < (i : Int)) = false := by simp
    have et : x.all.take i = x.all := List.take_of_length_le (by have := HN.out; omega)
    have hlu := HFT.out i
    have hlz := HST.out i
    rw [et] at HUO HGO hlu hlz ⊢
    have HBwR : Hid (Below w2.heap.size w2 wR) := HWK.out wR HGW.out
    have HBR : Hid (Below w.heap.size w wR) := HB2.out.trans (HBwR.out.mono HB2.out.size)
    have HZR : Hid (w.heap.size + 1 ≤ wR.heap.size) := by have := HBwR.out.size; have := HZ2.out; show _ ≤ _; omega
    have KOR : Hid (wR.heap[w.heap.size + 1]? = some (Obj.cells #[] 58)) := blk_keep KO2.out HBwR.out (Array.getElem?_eq_some_iff.1 KO2.out).1
    have KR : Hid (wR.heap[w.heap.size]? = some (Obj.cells #[.string x.name, .slice a1 x.imps.length c1, .slice a2 x.exps.length c2, .slice a3 x.types.length c3, .slice a4 x.defs.length c4, .slice a5 x.convs.length c5] 34)) := blk_keep K2.out HBwR.out (Array.getElem?_eq_some_iff.1 K2.out).1
    have HDR : Hid (wR.ownsRow (w.heap.size + 2) 9 1 (.slice da x.dns.length dc) x.dns.length (x.dns.map Value.string)) := ownBel HDO.out HBwR.out
    have LU : Hid ((ddS (frA x.all)).length ≤ 1048576) := by have := Nat.le_trans (ddS_len (frA x.all)) hlu; show _ ≤ _; omega
    have LZ : Hid ((ddS (stA x.all)).length ≤ 1048576) := by have := Nat.le_trans (ddS_len (stA x.all)) hlz; show _ ≤ _; omega
    have LD : Hid (x.dns.length ≤ 1048576) := by show (List.map _ _).length ≤ _; rw [List.length_map]; exact S.out.l4
    have LX : Hid (x.exps.length ≤ 1048576) := S.out.l2
    unfold lintM at HQ
    clear et HF1 HS1 hi hlt hlu hlz HPK HWK HFT HST HFL4 HOK HFL HSM HR4 HR5 HAU HFU1 HFG1 HAP HFU HFS HU0 HS0 HB03 HGW KO2 K2 HDO HPP HBW0 HN hn2
    generalize ddS (frA x.all) = U at *
    generalize ddS (stA x.all) = Z at *
    have HK : Hid (∀ wr, Gw (fun b => (Value.slice (some ⟨w.heap.size + 1, 0, none⟩) 0 0).ownBlock = some b) wR wr → LnK w wr ua ga da a2 ag U Z x.dns x.exps gv c2) := fun wr g => by
     have hP : ∀ b, (Value.slice (some ⟨w.heap.size + 1, 0, none⟩) 0 0).ownBlock = some b → b = w.heap.size + 1 := fun b hb => (Option.some.inj hb).symm
     have hb : Below w.heap.size w wr := g.to (fun b hb => by have := hP b hb; omega) HBR.out HBR.out.size
     have hz2 := HZ2.out
     refine ⟨OwnS.rowS (g.own HUO.out fun b hb hp => by have := (own_blk HUO.out hb).1; have := hP b hp; omega), OwnS.rowS (g.own HGO.out fun b hb hp => by have := (own_blk HGO.out hb).1; have := hP b hp; omega), OwnS.rowS (g.own HDR.out fun b hb hp => by have := (own_blk HDR.out hb).1; have := hP b hp; omega), (S.out.exps wr hb).2.2, (HG.out.below hb).mono hb.size, ?_⟩
     exact cell_blk (j := 2) ((g.block _ (by have := HZR.out; omega) (fun e => by have := hP _ e; omega)).trans KR.out) rfl
    have HGA : Hid (Gro 58 2 wR (w.heap.size + 1) (.slice (some ⟨w.heap.size + 1, 0, none⟩) 0 0) wR (.slice (some ⟨w.heap.size + 1, 0, none⟩) 0 0) ([] : List Nte).length (([] : List Nte).flatMap ntC)) := Gro.refl (own_empty KOR.out (Nat.le_refl _))
    have hplA0 : ([] : List Nte).length = 0 := rfl
    clear HUO HGO HDR KOR KR S HG
    have hLU := LU.out
    have hLZ := LZ.out
    have hLD := LD.out
    go_wp2
    go_loopw [5, 15] (fun v o wr => ∃ i : Nat, i ≤ U.length ∧ o = .int .i64 i ∧ Gro 58 2 wR (w.heap.size + 1) (.slice (some ⟨w.heap.size + 1, 0, none⟩) 0 0)  wr v (([] : List Nte) ++ ((U.take i).filter (lf1 x.dns gv)).map (Nte.mk 1)).length ((([] : List Nte) ++ ((U.take i).filter (lf1 x.dns gv)).map (Nte.mk 1)).flatMap ntC))
     (fun _ o _ => U.length - (intOf o).toNat)
    case atStart => exact ⟨0, by omega, rfl, by rw [List.take_zero, List.filter_nil, List.map_nil, List.append_nil]; exact HGA.out⟩
    case round =>
     obtain ⟨iA, hiA, rfl, hgrA⟩ := hrel
     obtain ⟨vA, cA, rfl, hvcA⟩ := own_slice hgrA.own
     have hplA : (([] : List Nte) ++ ((U.take iA).filter (lf1 x.dns gv)).map (Nte.mk 1)).length ≤ ([] : List Nte).length + U.length := by
      rw [List.length_append]
      have h1 := filt_len (lf1 x.dns gv) 1 (U.take iA)
      have h2 : (U.take iA).length ≤ U.length := by rw [List.length_take]; omega
      omega
     by_cases hltA : iA < U.length
     ·obtain ⟨s, hsk⟩ : ∃ s, U[iA]? = some s := ⟨_, List.getElem?_eq_getElem hltA⟩
      obtain ⟨b1, o1, hla, hbb, c0⟩ := (HK.out wr hgrA.gw).r1 iA s hsk
      have HX : Hid (∀ w1, Below wr.heap.size wr w1 → w1.cell? ⟨b1, o1 + iA, none⟩ = some (.string s)) := fun w1 h1 => (World.cell?_of_block (w := wr) (a := ⟨b1, _, none⟩) (h1.block b1 hbb)).trans c0
      have HI0 : Hid (∀ w1, Below wr.heap.size wr w1 → Calls Tryz.prog 27 #[.slice da x.dns.length dc, .string s] w1 fun e w' => Ans w1 (.bool (hasS x.dns s)) e w') := fun w1 h1 => l3In_any da x.dns dc s w1 LD.out (((HK.out wr hgrA.gw).r3.below h1).mono h1.size)
      have HI1 : Hid (∀ w1, Below wr.heap.size wr w1 → Calls Tryz.prog 27 #[.slice ag gv.length cg, .string s] w1 fun e w' => Ans w1 (.bool (hasS gv s)) e w') := fun w1 h1 => l3In_any ag gv cg s w1 hgl (((HK.out wr hgrA.gw).r5.below h1).mono h1.size)
      have HTK := filt_take (p := lf1 x.dns gv) (k := 1) hsk
      have HGR : Hid (Gro 58 2 wR (w.heap.size + 1) (.slice (some ⟨w.heap.size + 1, 0, none⟩) 0 0)  wr (.slice vA (([] : List Nte) ++ ((U.take iA).filter (lf1 x.dns gv)).map (Nte.mk 1)).length cA) (([] : List Nte) ++ ((U.take iA).filter (lf1 x.dns gv)).map (Nte.mk 1)).length ((([] : List Nte) ++ ((U.take iA).filter (lf1 x.dns gv)).map (Nte.mk 1)).flatMap ntC)) := hgrA
      have HT0 : ∀ M : List Nte, ([] : List Nte) ++ (((U.take iA).filter (lf1 x.dns gv)).map (Nte.mk 1) ++ M) = (([] : List Nte) ++ ((U.take iA).filter (lf1 x.dns gv)).map (Nte.mk 1)) ++ M := fun M => (List.append_assoc _ _ _).symm
      have HTA : Hid (([] : List Nte) ++ ((U.take (iA + 1)).filter (lf1 x.dns gv)).map (Nte.mk 1) = (([] : List Nte) ++ ((U.take iA).filter (lf1 x.dns gv)).map (Nte.mk 1)) ++ (if (lf1 x.dns gv) s then [⟨1, s⟩] else [])) := by
       show _ = _
       rw [HTK, HT0]
      obtain rfl := hla
      clear hgrA hsk HTK HT0 hiA
      generalize (([] : List Nte) ++ ((U.take iA).filter (lf1 x.dns gv)).map (Nte.mk 1)) = L at *
      have hwz := HGR.out.gw.size
      cases h0 : hasS x.dns s
      ·rw [h0] at HI0
       cases h1 : hasS gv s
       ·rw [h1] at HI1
        have HTA1 : Hid (([] : List Nte) ++ ((U.take (iA + 1)).filter (lf1 x.dns gv)).map (Nte.mk 1) = L ++ [⟨1, s⟩]) := by
         show _ = _
         rw [HTA.out]
         simp [lf1, h0, h1]
        clear HTA h0 h1
        go_wp2_with fail
        refine (HI0.out _ (Below.refl _ _)).mono ?_
        rintro e y0 ⟨rfl, hb⟩
        have HB0 : Hid (Below wr.heap.size wr y0) := hb
        have d0 := HX.out y0 HB0.out
        clear hb c0
        go_wp2_with fail
        refine (HI1.out _ HB0.out).mono ?_
        rintro e y1 ⟨rfl, hb⟩
        have HB1 : Hid (Below wr.heap.size wr y1) := HB0.out.trans (hb.mono HB0.out.size)
        have d1 := HX.out y1 HB1.out
        clear hb d0
        have HG6 : Hid (Gro 58 2 wR (w.heap.size + 1) (.slice (some ⟨w.heap.size + 1, 0, none⟩) 0 0)  (y1.alloc (Obj.cells #[.int .i64 1, .string s] 58)) (.slice vA L.length cA) L.length (L.flatMap ntC)) := (HGR.out.below HB1.out).below (Bw.alloc (Below.refl _ _) _)
        have hz6 : w.heap.size + 1 ≤ (y1.alloc (Obj.cells #[.int .i64 1, .string s] 58)).heap.size := by have := HG6.out.gw.size; have := HZR.out; omega
        have hnews : ∀ j u, [Value.int .i64 1, Value.string s][j]? = some u → (y1.alloc (Obj.cells #[.int .i64 1, .string s] 58)).cell? ((⟨y1.heap.size, 0, none⟩ : Addr).add j) = some u := by
         intro j u hj
         rw [add_lit, Nat.zero_add]
         exact cell_blk (blk_at _ _ _ (by simp)) (by simpa using hj)
        have HZ6 : Hid _ := hz6
        have HN6 : Hid _ := hnews
        clear hz6 hnews
        go_wp2_with (at_builtin; go_loud (refine wpList_append_row rfl _ _ 29 rfl (w.heap.size + 1) 58 i8 _ 2 24 Tryz.underlying29 hi8 hz80 hz81 hz82 rfl (by omega) (.slice vA L.length cA) L.length (L.flatMap ntC) rfl HG6.out.own (some ⟨y1.heap.size, 0, none⟩) 1 1 [.int .i64 1, .string s] rfl rfl (fun _ => ⟨_, rfl, HN6.out⟩) (by intro u hu; simp at hu; rcases hu with rfl | rfl <;> rfl) (by unfold maxLen; omega) (by omega) HZ6.out ?_; intro v' w7 hown hgrow hat; refine stop ?_))
        have HG7 : Hid (Gro 58 2 wR (w.heap.size + 1) (.slice (some ⟨w.heap.size + 1, 0, none⟩) 0 0)  w7 v' (L.length + 1) (L.flatMap ntC ++ [.int .i64 1, .string s])) := HG6.out.app hown hgrow hat
        unfold Hid
        clear hown hgrow hat HN6 HZ6
        go_wp2
        go_roundw
        case rel => exact ⟨iA + 1, by omega, by go_num, by rw [HTA1.out, List.length_append, List.flatMap_append]; exact HG7.out⟩
        case measure => simp [intOf]; omega
       ·rw [h1] at HI1
        have HTA1 : Hid (([] : List Nte) ++ ((U.take (iA + 1)).filter (lf1 x.dns gv)).map (Nte.mk 1) = L) := by
         show _ = _
         rw [HTA.out]
         simp [lf1, h0, h1]
        clear HTA h0 h1
        go_wp2_with fail
        refine (HI0.out _ (Below.refl _ _)).mono ?_
        rintro e y0 ⟨rfl, hb⟩
        have HB0 : Hid (Below wr.heap.size wr y0) := hb
        have d0 := HX.out y0 HB0.out
        clear hb c0
        go_wp2_with fail
        refine (HI1.out _ HB0.out).mono ?_
        rintro e y1 ⟨rfl, hb⟩
        have HB1 : Hid (Below wr.heap.size wr y1) := HB0.out.trans (hb.mono HB0.out.size)
        have d1 := HX.out y1 HB1.out
        clear hb d0
        have HG6 : Hid (Gro 58 2 wR (w.heap.size + 1) (.slice (some ⟨w.heap.size + 1, 0, none⟩) 0 0)  y1 (.slice vA L.length cA) L.length (L.flatMap ntC)) := HGR.out.below HB1.out
        go_wp2
        go_roundw
        case rel => exact ⟨iA + 1, by omega, by go_num, by rw [HTA1.out]; exact HG6.out⟩
        case measure => simp [intOf]; omega
      ·rw [h0] at HI0
       have HTA1 : Hid (([] : List Nte) ++ ((U.take (iA + 1)).filter (lf1 x.dns gv)).map (Nte.mk 1) = L) := by
        show _ = _
        rw [HTA.out]
        simp [lf1, h0]
       clear HTA h0
       go_wp2_with fail
       refine (HI0.out _ (Below.refl _ _)).mono ?_
       rintro e y0 ⟨rfl, hb⟩
       have HB0 : Hid (Below wr.heap.size wr y0) := hb
       have d0 := HX.out y0 HB0.out
       clear hb c0
       have HG6 : Hid (Gro 58 2 wR (w.heap.size + 1) (.slice (some ⟨w.heap.size + 1, 0, none⟩) 0 0)  y0 (.slice vA L.length cA) L.length (L.flatMap ntC)) := HGR.out.below HB0.out
       go_wp2
       go_roundw
       case rel => exact ⟨iA + 1, by omega, by go_num, by rw [HTA1.out]; exact HG6.out⟩
       case measure => simp [intOf]; omega
     ·obtain rfl : iA = U.length := by omega
      rw [List.take_length] at hgrA ⊢
      have hlt' : decide ((U.length : Int) < (U.length : Int)) = false := by simp
      have HGB0 : Hid (Gro 58 2 wR (w.heap.size + 1) (.slice (some ⟨w.heap.size + 1, 0, none⟩) 0 0)  wr (.slice vA (([] : List Nte) ++ (U.filter (lf1 x.dns gv)).map (Nte.mk 1)).length cA) (([] : List Nte) ++ (U.filter (lf1 x.dns gv)).map (Nte.mk 1)).length ((([] : List Nte) ++ (U.filter (lf1 x.dns gv)).map (Nte.mk 1)).flatMap ntC)) := hgrA
      have hplB0 : (([] : List Nte) ++ (U.filter (lf1 x.dns gv)).map (Nte.mk 1)).length ≤ ([] : List Nte).length + U.length := by
       rw [List.length_append]
       have h1 := filt_len (lf1 x.dns gv) 1 U
       omega
      obtain ⟨N1, hN1⟩ : ∃ N, N = ([] : List Nte) ++ (U.filter (lf1 x.dns gv)).map (Nte.mk 1) := ⟨_, rfl⟩
      rw [← hN1] at HGB0 hplB0 ⊢
      have HGB : Hid _ := HGB0.out
      have HN1 : Hid _ := hN1
      clear HGB0 hgrA hplA hvcA hltA hlt' hiA hN1 HGA
      go_wp2
      go_loopw [5, 16] (fun v o wr => ∃ i : Nat, i ≤ x.dns.length ∧ o = .int .i64 i ∧ Gro 58 2 wR (w.heap.size + 1) (.slice (some ⟨w.heap.size + 1, 0, none⟩) 0 0)  wr v (N1 ++ ((x.dns.take i).filter (lf1 x.exps U)).map (Nte.mk 2)).length ((N1 ++ ((x.dns.take i).filter (lf1 x.exps U)).map (Nte.mk 2)).flatMap ntC))
       (fun _ o _ => x.dns.length - (intOf o).toNat)
      case atStart => exact ⟨0, by omega, rfl, by rw [List.take_zero, List.filter_nil, List.map_nil, List.append_nil]; exact HGB.out⟩
      case round =>
       obtain ⟨iB, hiB, rfl, hgrB⟩ := hrel
       obtain ⟨vB, cB, rfl, hvcB⟩ := own_slice hgrB.own
       have hplB : (N1 ++ ((x.dns.take iB).filter (lf1 x.exps U)).map (Nte.mk 2)).length ≤ N1.length + x.dns.length := by
        rw [List.length_append]
        have h1 := filt_len (lf1 x.exps U) 2 (x.dns.take iB)
        have h2 : (x.dns.take iB).length ≤ x.dns.length := by rw [List.length_take]; omega
        omega
       by_cases hltB : iB < x.dns.length
       ·obtain ⟨s, hsk⟩ : ∃ s, x.dns[iB]? = some s := ⟨_, List.getElem?_eq_getElem hltB⟩
        obtain ⟨b1, o1, hla, hbb, c0⟩ := (HK.out wr hgrB.gw).r3 iB s hsk
        have HX : Hid (∀ w1, Below wr.heap.size wr w1 → w1.cell? ⟨b1, o1 + iB, none⟩ = some (.string s)) := fun w1 h1 => (World.cell?_of_block (w := wr) (a := ⟨b1, _, none⟩) (h1.block b1 hbb)).trans c0
        have HI0 : Hid (∀ w1, Below wr.heap.size wr w1 → Calls Tryz.prog 27 #[.slice a2 x.exps.length c2, .string s] w1 fun e w' => Ans w1 (.bool (hasS x.exps s)) e w') := fun w1 h1 => l3In_any a2 x.exps c2 s w1 LX.out (((HK.out wr hgrB.gw).r4.below h1).mono h1.size)
        have HI1 : Hid (∀ w1, Below wr.heap.size wr w1 → Calls Tryz.prog 27 #[.slice ua U.length uc, .string s] w1 fun e w' => Ans w1 (.bool (hasS U s)) e w') := fun w1 h1 => l3In_any ua U uc s w1 LU.out (((HK.out wr hgrB.gw).r1.below h1).mono h1.size)
        have z2 := (HK.out wr hgrB.gw).c2
        have HTK := filt_take (p := lf1 x.exps U) (k := 2) hsk
        have HGR : Hid (Gro 58 2 wR (w.heap.size + 1) (.slice (some ⟨w.heap.size + 1, 0, none⟩) 0 0)  wr (.slice vB (N1 ++ ((x.dns.take iB).filter (lf1 x.exps U)).map (Nte.mk 2)).length cB) (N1 ++ ((x.dns.take iB).filter (lf1 x.exps U)).map (Nte.mk 2)).length ((N1 ++ ((x.dns.take iB).filter (lf1 x.exps U)).map (Nte.mk 2)).flatMap ntC)) := hgrB
        have HT0 : ∀ M : List Nte, N1 ++ (((x.dns.take iB).filter (lf1 x.exps U)).map (Nte.mk 2) ++ M) = (N1 ++ ((x.dns.take iB).filter (lf1 x.exps U)).map (Nte.mk 2)) ++ M := fun M => (List.append_assoc _ _ _).symm
        have HTA : Hid (N1 ++ ((x.dns.take (iB + 1)).filter (lf1 x.exps U)).map (Nte.mk 2) = (N1 ++ ((x.dns.take iB).filter (lf1 x.exps U)).map (Nte.mk 2)) ++ (if (lf1 x.exps U) s then [⟨2, s⟩] else [])) := by
         show _ = _
         rw [HTK, HT0]
        obtain rfl := hla
        clear hgrB hsk HTK HT0 hiB
        generalize (N1 ++ ((x.dns.take iB).filter (lf1 x.exps U)).map (Nte.mk 2)) = L at *
        have hwz := HGR.out.gw.size
        cases h0 : hasS x.exps s
        ·rw [h0] at HI0
         cases h1 : hasS U s
         ·rw [h1] at HI1
          have HTA1 : Hid (N1 ++ ((x.dns.take (iB + 1)).filter (lf1 x.exps U)).map (Nte.mk 2) = L ++ [⟨2, s⟩]) := by
           show _ = _
           rw [HTA.out]
           simp [lf1, h0, h1]
          clear HTA
          have HQ0 : Hid (∀ k, Calls Tryz.prog 27 #[.slice a2 x.exps.length c2, .string s] (wr.drewN k) fun e w' => e = .returned (.bool false) ∧ ∃ m, w' = (wr.drewN k).drewN m) := fun k => by
           have h := l3In_q a2 x.exps c2 s (wr.drewN k) LX.out ((HK.out wr HGR.out.gw).r4)
           rw [h0] at h
           exact h
          have HQ1 : Hid (∀ k, Calls Tryz.prog 27 #[.slice ua U.length uc, .string s] (wr.drewN k) fun e w' => e = .returned (.bool false) ∧ ∃ m, w' = (wr.drewN k).drewN m) := fun k => by
           have h := l3In_q ua U uc s (wr.drewN k) LU.out ((HK.out wr HGR.out.gw).r1)
           rw [h1] at h
           exact h
          clear HI0 HI1 h0 h1
          go_wp2
          go_quiet (first | (go_at_call_of 27 (Value.slice a2 x.exps.length c2); exact Calls.quiet_of (HQ0.out _)) | (go_at_call_of 27 (Value.slice ua U.length uc); exact Calls.quiet_of (HQ1.out _)))
          obtain ⟨y1, hy⟩ : ∃ y, y = wr.drewN nq := ⟨_, rfl⟩
          rw [← hy]
          have HB1 : Hid (Below wr.heap.size wr y1) := by show Below _ _ _; rw [hy]; exact below_drewN (Below.refl _ _) _
          have d1 := HX.out y1 HB1.out
          clear hy z2 c0 HQ0 HQ1
          have HG6 : Hid (Gro 58 2 wR (w.heap.size + 1) (.slice (some ⟨w.heap.size + 1, 0, none⟩) 0 0)  (y1.alloc (Obj.cells #[.int .i64 2, .string s] 58)) (.slice vB L.length cB) L.length (L.flatMap ntC)) := (HGR.out.below HB1.out).below (Bw.alloc (Below.refl _ _) _)
          have hz6 : w.heap.size + 1 ≤ (y1.alloc (Obj.cells #[.int .i64 2, .string s] 58)).heap.size := by have := HG6.out.gw.size; have := HZR.out; omega
          have hnews : ∀ j u, [Value.int .i64 2, Value.string s][j]? = some u → (y1.alloc (Obj.cells #[.int .i64 2, .string s] 58)).cell? ((⟨y1.heap.size, 0, none⟩ : Addr).add j) = some u := by
           intro j u hj
           rw [add_lit, Nat.zero_add]
           exact cell_blk (blk_at _ _ _ (by simp)) (by simpa using hj)
          have HZ6 : Hid _ := hz6
          have HN6 : Hid _ := hnews
          clear hz6 hnews
          go_wp2_with (at_builtin; go_loud (refine wpList_append_row rfl _ _ 29 rfl (w.heap.size + 1) 58 i8 _ 2 24 Tryz.underlying29 hi8 hz80 hz81 hz82 rfl (by omega) (.slice vB L.length cB) L.length (L.flatMap ntC) rfl HG6.out.own (some ⟨y1.heap.size, 0, none⟩) 1 1 [.int .i64 2, .string s] rfl rfl (fun _ => ⟨_, rfl, HN6.out⟩) (by intro u hu; simp at hu; rcases hu with rfl | rfl <;> rfl) (by unfold maxLen; omega) (by omega) HZ6.out ?_; intro v' w7 hown hgrow hat; refine stop ?_))
          have HG7 : Hid (Gro 58 2 wR (w.heap.size + 1) (.slice (some ⟨w.heap.size + 1, 0, none⟩) 0 0)  w7 v' (L.length + 1) (L.flatMap ntC ++ [.int .i64 2, .string s])) := HG6.out.app hown hgrow hat
          unfold Hid
          clear hown hgrow hat HN6 HZ6
          go_wp2
          go_roundw
          case rel => exact ⟨iB + 1, by omega, by go_num, by rw [HTA1.out, List.length_append, List.flatMap_append]; exact HG7.out⟩
          case measure => simp [intOf]; omega
         ·rw [h1] at HI1
          have HTA1 : Hid (N1 ++ ((x.dns.take (iB + 1)).filter (lf1 x.exps U)).map (Nte.mk 2) = L) := by
           show _ = _
           rw [HTA.out]
           simp [lf1, h0, h1]
          clear HTA
          have HQ0 : Hid (∀ k, Calls Tryz.prog 27 #[.slice a2 x.exps.length c2, .string s] (wr.drewN k) fun e w' => e = .returned (.bool false) ∧ ∃ m, w' = (wr.drewN k).drewN m) := fun k => by
           have h := l3In_q a2 x.exps c2 s (wr.drewN k) LX.out ((HK.out wr HGR.out.gw).r4)
           rw [h0] at h
           exact h
          have HQ1 : Hid (∀ k, Calls Tryz.prog 27 #[.slice ua U.length uc, .string s] (wr.drewN k) fun e w' => e = .returned (.bool true) ∧ ∃ m, w' = (wr.drewN k).drewN m) := fun k => by
           have h := l3In_q ua U uc s (wr.drewN k) LU.out ((HK.out wr HGR.out.gw).r1)
           rw [h1] at h
           exact h
          clear HI0 HI1 h0 h1
          go_wp2
          go_quiet (first | (go_at_call_of 27 (Value.slice a2 x.exps.length c2); exact Calls.quiet_of (HQ0.out _)) | (go_at_call_of 27 (Value.slice ua U.length uc); exact Calls.quiet_of (HQ1.out _)))
          obtain ⟨y1, hy⟩ : ∃ y, y = wr.drewN nq := ⟨_, rfl⟩
          rw [← hy]
          have HB1 : Hid (Below wr.heap.size wr y1) := by show Below _ _ _; rw [hy]; exact below_drewN (Below.refl _ _) _
          have d1 := HX.out y1 HB1.out
          clear hy z2 c0 HQ0 HQ1
          have HG6 : Hid (Gro 58 2 wR (w.heap.size + 1) (.slice (some ⟨w.heap.size + 1, 0, none⟩) 0 0)  y1 (.slice vB L.length cB) L.length (L.flatMap ntC)) := HGR.out.below HB1.out
          go_wp2
          go_roundw
          case rel => exact ⟨iB + 1, by omega, by go_num, by rw [HTA1.out]; exact HG6.out⟩
          case measure => simp [intOf]; omega
        ·rw [h0] at HI0
         have HTA1 : Hid (N1 ++ ((x.dns.take (iB + 1)).filter (lf1 x.exps U)).map (Nte.mk 2) = L) := by
          show _ = _
          rw [HTA.out]
          simp [lf1, h0]
         clear HTA
         have HQ0 : Hid (∀ k, Calls Tryz.prog 27 #[.slice a2 x.exps.length c2, .string s] (wr.drewN k) fun e w' => e = .returned (.bool true) ∧ ∃ m, w' = (wr.drewN k).drewN m) := fun k => by
          have h := l3In_q a2 x.exps c2 s (wr.drewN k) LX.out ((HK.out wr HGR.out.gw).r4)
          rw [h0] at h
          exact h
         clear HI0 HI1 h0
         go_wp2
         go_quiet (first | (go_at_call_of 27 (Value.slice a2 x.exps.length c2); exact Calls.quiet_of (HQ0.out _)))
         obtain ⟨y0, hy⟩ : ∃ y, y = wr.drewN nq := ⟨_, rfl⟩
         rw [← hy]
         have HB0 : Hid (Below wr.heap.size wr y0) := by show Below _ _ _; rw [hy]; exact below_drewN (Below.refl _ _) _
         have d0 := HX.out y0 HB0.out
         clear hy z2 c0 HQ0
         have HG6 : Hid (Gro 58 2 wR (w.heap.size + 1) (.slice (some ⟨w.heap.size + 1, 0, none⟩) 0 0)  y0 (.slice vB L.length cB) L.length (L.flatMap ntC)) := HGR.out.below HB0.out
         go_wp2
         go_roundw
         case rel => exact ⟨iB + 1, by omega, by go_num, by rw [HTA1.out]; exact HG6.out⟩
         case measure => simp [intOf]; omega
       ·obtain rfl : iB = x.dns.length := by omega
        rw [List.take_length] at hgrB ⊢
        have hlt' : decide ((x.dns.length : Int) < (x.dns.length : Int)) = false := by simp
        have HGC0 : Hid (Gro 58 2 wR (w.heap.size + 1) (.slice (some ⟨w.heap.size + 1, 0, none⟩) 0 0)  wr (.slice vB (N1 ++ (x.dns.filter (lf1 x.exps U)).map (Nte.mk 2)).length cB) (N1 ++ (x.dns.filter (lf1 x.exps U)).map (Nte.mk 2)).length ((N1 ++ (x.dns.filter (lf1 x.exps U)).map (Nte.mk 2)).flatMap ntC)) := hgrB
        have hplC0 : (N1 ++ (x.dns.filter (lf1 x.exps U)).map (Nte.mk 2)).length ≤ N1.length + x.dns.length := by
         rw [List.length_append]
         have h1 := filt_len (lf1 x.exps U) 2 x.dns
         omega
        obtain ⟨N2, hN2⟩ : ∃ N, N = N1 ++ (x.dns.filter (lf1 x.exps U)).map (Nte.mk 2) := ⟨_, rfl⟩
        rw [← hN2] at HGC0 hplC0 ⊢
        have HGC : Hid _ := HGC0.out
        have HN2 : Hid _ := hN2
        clear HGC0 hgrB hplB hvcB hltB hlt' hiB hN2 HGB
        go_wp2
        go_loopw [5, 17] (fun v o wr => ∃ i : Nat, i ≤ Z.length ∧ o = .int .i64 i ∧ Gro 58 2 wR (w.heap.size + 1) (.slice (some ⟨w.heap.size + 1, 0, none⟩) 0 0)  wr v (N2 ++ ((Z.take i).filter (lf3 x.dns)).map (Nte.mk 3)).length ((N2 ++ ((Z.take i).filter (lf3 x.dns)).map (Nte.mk 3)).flatMap ntC))
         (fun _ o _ => Z.length - (intOf o).toNat)
        case atStart => exact ⟨0, by omega, rfl, by rw [List.take_zero, List.filter_nil, List.map_nil, List.append_nil]; exact HGC.out⟩
        case round =>
         obtain ⟨iC, hiC, rfl, hgrC⟩ := hrel
         obtain ⟨vC, cC, rfl, hvcC⟩ := own_slice hgrC.own
         have hplC : (N2 ++ ((Z.take iC).filter (lf3 x.dns)).map (Nte.mk 3)).length ≤ N2.length + Z.length := by
          rw [List.length_append]
          have h1 := filt_len (lf3 x.dns) 3 (Z.take iC)
          have h2 : (Z.take iC).length ≤ Z.length := by rw [List.length_take]; omega
          omega
         by_cases hltC : iC < Z.length
         ·obtain ⟨s, hsk⟩ : ∃ s, Z[iC]? = some s := ⟨_, List.getElem?_eq_getElem hltC⟩
          obtain ⟨b1, o1, hla, hbb, c0⟩ := (HK.out wr hgrC.gw).r2 iC s hsk
          have HX : Hid (∀ w1, Below wr.heap.size wr w1 → w1.cell? ⟨b1, o1 + iC, none⟩ = some (.string s)) := fun w1 h1 => (World.cell?_of_block (w := wr) (a := ⟨b1, _, none⟩) (h1.block b1 hbb)).trans c0
          have HI0 : Hid (∀ w1, Below wr.heap.size wr w1 → Calls Tryz.prog 27 #[.slice da x.dns.length dc, .string s] w1 fun e w' => Ans w1 (.bool (hasS x.dns s)) e w') := fun w1 h1 => l3In_any da x.dns dc s w1 LD.out (((HK.out wr hgrC.gw).r3.below h1).mono h1.size)
          have HTK := filt_take (p := lf3 x.dns) (k := 3) hsk
          have HGR : Hid (Gro 58 2 wR (w.heap.size + 1) (.slice (some ⟨w.heap.size + 1, 0, none⟩) 0 0)  wr (.slice vC (N2 ++ ((Z.take iC).filter (lf3 x.dns)).map (Nte.mk 3)).length cC) (N2 ++ ((Z.take iC).filter (lf3 x.dns)).map (Nte.mk 3)).length ((N2 ++ ((Z.take iC).filter (lf3 x.dns)).map (Nte.mk 3)).flatMap ntC)) := hgrC
          have HT0 : ∀ M : List Nte, N2 ++ (((Z.take iC).filter (lf3 x.dns)).map (Nte.mk 3) ++ M) = (N2 ++ ((Z.take iC).filter (lf3 x.dns)).map (Nte.mk 3)) ++ M := fun M => (List.append_assoc _ _ _).symm
          have HTA : Hid (N2 ++ ((Z.take (iC + 1)).filter (lf3 x.dns)).map (Nte.mk 3) = (N2 ++ ((Z.take iC).filter (lf3 x.dns)).map (Nte.mk 3)) ++ (if (lf3 x.dns) s then [⟨3, s⟩] else [])) := by
           show _ = _
           rw [HTK, HT0]
          obtain rfl := hla
          clear hgrC hsk HTK HT0 hiC
          generalize (N2 ++ ((Z.take iC).filter (lf3 x.dns)).map (Nte.mk 3)) = L at *
          have hwz := HGR.out.gw.size
          cases h0 : hasS x.dns s
          ·rw [h0] at HI0
           have HTA1 : Hid (N2 ++ ((Z.take (iC + 1)).filter (lf3 x.dns)).map (Nte.mk 3) = L ++ [⟨3, s⟩]) := by
            show _ = _
            rw [HTA.out]
            simp [lf3, h0]
           clear HTA h0
           go_wp2_with fail
           refine (HI0.out _ (Below.refl _ _)).mono ?_
           rintro e y0 ⟨rfl, hb⟩
           have HB0 : Hid (Below wr.heap.size wr y0) := hb
           have d0 := HX.out y0 HB0.out
           clear hb c0
           have HG6 : Hid (Gro 58 2 wR (w.heap.size + 1) (.slice (some ⟨w.heap.size + 1, 0, none⟩) 0 0)  (y0.alloc (Obj.cells #[.int .i64 3, .string s] 58)) (.slice vC L.length cC) L.length (L.flatMap ntC)) := (HGR.out.below HB0.out).below (Bw.alloc (Below.refl _ _) _)
           have hz6 : w.heap.size + 1 ≤ (y0.alloc (Obj.cells #[.int .i64 3, .string s] 58)).heap.size := by have := HG6.out.gw.size; have := HZR.out; omega
           have hnews : ∀ j u, [Value.int .i64 3, Value.string s][j]? = some u → (y0.alloc (Obj.cells #[.int .i64 3, .string s] 58)).cell? ((⟨y0.heap.size, 0, none⟩ : Addr).add j) = some u := by
            intro j u hj
            rw [add_lit, Nat.zero_add]
            exact cell_blk (blk_at _ _ _ (by simp)) (by simpa using hj)
           have HZ6 : Hid _ := hz6
           have HN6 : Hid _ := hnews
           clear hz6 hnews
           go_wp2_with (at_builtin; go_loud (refine wpList_append_row rfl _ _ 29 rfl (w.heap.size + 1) 58 i8 _ 2 24 Tryz.underlying29 hi8 hz80 hz81 hz82 rfl (by omega) (.slice vC L.length cC) L.length (L.flatMap ntC) rfl HG6.out.own (some ⟨y0.heap.size, 0, none⟩) 1 1 [.int .i64 3, .string s] rfl rfl (fun _ => ⟨_, rfl, HN6.out⟩) (by intro u hu; simp at hu; rcases hu with rfl | rfl <;> rfl) (by unfold maxLen; omega) (by omega) HZ6.out ?_; intro v' w7 hown hgrow hat; refine stop ?_))
           have HG7 : Hid (Gro 58 2 wR (w.heap.size + 1) (.slice (some ⟨w.heap.size + 1, 0, none⟩) 0 0)  w7 v' (L.length + 1) (L.flatMap ntC ++ [.int .i64 3, .string s])) := HG6.out.app hown hgrow hat
           unfold Hid
           clear hown hgrow hat HN6 HZ6
           go_wp2
           go_roundw
           case rel => exact ⟨iC + 1, by omega, by go_num, by rw [HTA1.out, List.length_append, List.flatMap_append]; exact HG7.out⟩
           case measure => simp [intOf]; omega
          ·rw [h0] at HI0
           have HTA1 : Hid (N2 ++ ((Z.take (iC + 1)).filter (lf3 x.dns)).map (Nte.mk 3) = L) := by
            show _ = _
            rw [HTA.out]
            simp [lf3, h0]
           clear HTA h0
           go_wp2_with fail
           refine (HI0.out _ (Below.refl _ _)).mono ?_
           rintro e y0 ⟨rfl, hb⟩
           have HB0 : Hid (Below wr.heap.size wr y0) := hb
           have d0 := HX.out y0 HB0.out
           clear hb c0
           have HG6 : Hid (Gro 58 2 wR (w.heap.size + 1) (.slice (some ⟨w.heap.size + 1, 0, none⟩) 0 0)  y0 (.slice vC L.length cC) L.length (L.flatMap ntC)) := HGR.out.below HB0.out
           go_wp2
           go_roundw
           case rel => exact ⟨iC + 1, by omega, by go_num, by rw [HTA1.out]; exact HG6.out⟩
           case measure => simp [intOf]; omega
         ·obtain rfl : iC = Z.length := by omega
          rw [List.take_length] at hgrC ⊢
          have hlt' : decide ((Z.length : Int) < (Z.length : Int)) = false := by simp
          have HEND : Hid (OwnN wr w.heap.size (.slice vC (N2 ++ (Z.filter (lf3 x.dns)).map (Nte.mk 3)).length cC) (N2 ++ (Z.filter (lf3 x.dns)).map (Nte.mk 3))) := OwnN.weak hgrC.own (Nat.le_succ _)
          have HBE : Hid (Below w.heap.size w wr) := (hgrC.gw).to (fun b hb => by have e : w.heap.size + 1 = b := Option.some.inj hb; omega) HBR.out HBR.out.size
          clear hgrC hplC hvcC hltC hiC HGC
          have HE : Hid (lintL x gv = N2 ++ (Z.filter (lf3 x.dns)).map (Nte.mk 3)) := by
           show _ = _
           rw [HQ.out, HN2.out, HN1.out]
           simp only [List.append_assoc, List.nil_append]
          go_wp2
          go_ret
          rw [HE.out]
          exact ⟨_, rfl, HEND.out, HBE.out⟩
end Go.Proofs.YtamjofdgikifnaaGreat
