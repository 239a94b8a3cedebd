/- The program's closure that goes through a node. -/
import Derived.Test.YtamjofdgikifnaaGreatMpe
import Derived.Deep.RegionLaw
import Derived.Deep.RegionWith
import Derived.Test.YtamjofdgikifnaaGreatFrs
set_option linter.unusedVariables false
namespace Go.Proofs.YtamjofdgikifnaaGreat.Fr
open Go.ChangeShapes Go.WideShapes Go.ChangeAt Go.RowKit
def clo (S Fb V Pb : Nat) : Value := .func (.func 67) #[] #[.pointer (some ⟨S, 0, none⟩), .pointer (some ⟨Fb, 0, none⟩), .pointer (some ⟨V, 0, none⟩), .pointer (some ⟨Pb, 0, none⟩)]
structure Bx where
 S : Nat
 F : Nat
 V : Nat
 P : Nat
 m : Nat
 B : Nat
 C : Nat
structure Bx.Ok (x : Bx) : Prop where
 sf : x.S ≠ x.F
 vf : x.V ≠ x.F
 pf : x.P ≠ x.F
 sm : x.S ≠ x.m
 vm : x.V ≠ x.m
 pm : x.P ≠ x.m
 fm : x.F ≠ x.m
 sc : x.S < x.C
 fc : x.F < x.C
 vc : x.V < x.C
 pc : x.P < x.C
 mc : x.m < x.C
 bf : x.B ≤ x.F
 bm : x.B ≤ x.m
 bc : x.B ≤ x.C
structure VSt (x : Bx) (a : Option Addr) (ns : List Nod) (cap : Nat) (root : Int) (G : ByteArray → Int → Int) (out : List ByteArray) (v : Value) (w : World) : Prop where
 s : w.heap[x.S]? = some (.cells #[.map (some x.m)] 101 (0, 0))
 f : w.heap[x.F]? = some (.cells #[v] 22 (0, 0))
 vb : w.heap[x.V]? = some (.cells #[clo x.S x.F x.V x.P] 102 (0, 0))
 p : w.heap[x.P]? = some (.cells #[.slice a ns.length cap] 52 (0, 0))
 map : MapC w x.m (Lk ns) G
 own : OwnS w x.C v out
 rows : RowN w x.B a ns
 size : x.C ≤ w.heap.size
structure VGr (x : Bx) (r : Option Nat) (w w' : World) : Prop where
 os : w'.os = w.os
 tape : w'.tape = w.tape
 output : w'.output = w.output
 size : w.heap.size ≤ w'.heap.size
 block : ∀ k, k < w.heap.size → k ≠ x.m → k ≠ x.F → some k ≠ r → w'.heap[k]? = w.heap[k]?
theorem VGr.refl (x : Bx) (r : Option Nat) (w : World) : VGr x r w w := ⟨rfl, rfl, rfl, Nat.le_refl _, fun _ _ _ _ _ => rfl⟩
theorem VGr.of_below {x : Bx} {w w' : World} (r : Option Nat) (h : Below w.heap.size w w') : VGr x r w w' := ⟨h.os, h.tape, h.output, h.size, fun k hk _ _ _ => h.block k hk⟩
theorem VGr.of_gby {x : Bx} {w w' : World} {r : Option Nat} (h : w.grownBy w' r) : VGr x r w w' := ⟨h.os, h.tape, h.output, h.size, fun k hk _ _ hn => h.block k hk hn⟩
theorem VGr.of_map {x : Bx} {w w' : World} (r : Option Nat) (h : w.grownBy w' (some x.m)) : VGr x r w w' := ⟨h.os, h.tape, h.output, h.size, fun k hk hm _ _ => h.block k hk (fun e => hm (Option.some.inj e))⟩
theorem VGr.of_box {x : Bx} (r : Option Nat) (w : World) (v : Value) : VGr x r w (w.setCell ⟨x.F, 0, none⟩ v) := ⟨rfl, rfl, rfl, by simp, fun k hk _ hf _ => heap_setCell_other _ _ _ _ hf⟩
theorem VGr.trans {x : Bx} {r r1 : Option Nat} {w w1 w2 : World} (h : VGr x r w w1) (g : VGr x r1 w1 w2) (hn : r1 = r ∨ ∀ k, r1 = some k → w.heap.size ≤ k) : VGr x r w w2 := by
 refine ⟨g.os.trans h.os, g.tape.trans h.tape, g.output.trans h.output, Nat.le_trans h.size g.size, fun i hi h1 h2 hne => ?_⟩
 refine (g.block i (Nat.lt_of_lt_of_le hi h.size) h1 h2 (fun e => ?_)).trans (h.block i hi h1 h2 hne)
 rcases hn with rfl | hn
 ·exact hne e
 ·have := hn i e.symm
  omega
theorem VSt.below {x : Bx} {a : Option Addr} {ns : List Nod} {cap : Nat} {root : Int} {G : ByteArray → Int → Int} {out : List ByteArray} {v : Value} {w w' : World} (h : VSt x a ns cap root G out v w) (hx : x.Ok) (hb : Below w.heap.size w w') : VSt x a ns cap root G out v w' := by
 have hz := h.size
 exact ⟨(hb.block _ (by have := hx.sc; omega)).trans h.s, (hb.block _ (by have := hx.fc; omega)).trans h.f, (hb.block _ (by have := hx.vc; omega)).trans h.vb, (hb.block _ (by have := hx.pc; omega)).trans h.p, h.map.same (hb.block _ (by have := hx.mc; omega)), h.own.below hb, h.rows.below (hb.mono (by have := hx.bc; omega)), Nat.le_trans hz hb.size⟩
theorem VSt.put {x : Bx} {a : Option Addr} {ns : List Nod} {cap : Nat} {root : Int} {G G' : ByteArray → Int → Int} {out : List ByteArray} {v : Value} {w w' : World} (h : VSt x a ns cap root G out v w) (hx : x.Ok) (hg : w.grownBy w' (some x.m)) (hm : MapC w' x.m (Lk ns) G') : VSt x a ns cap root G' out v w' := by
 have hz := h.size
 have ne : ∀ k, k < w.heap.size → k ≠ x.m → w'.heap[k]? = w.heap[k]? := fun k hk hn => hg.block k hk (fun e => hn (Option.some.inj e))
 have hown : ∀ k, v.ownBlock = some k → k ≠ x.m := fun k hk e => by have := (h.own.lt hk).1; have := hx.mc; omega
 refine ⟨(ne _ (by have := hx.sc; omega) hx.sm).trans h.s, (ne _ (by have := hx.fc; omega) hx.fm).trans h.f, (ne _ (by have := hx.vc; omega) hx.vm).trans h.vb, (ne _ (by have := hx.pc; omega) hx.pm).trans h.p, hm, ?_, h.rows.below ⟨hg.os, hg.tape, hg.output, hg.size, fun k hk => ne k (by have := hx.bc; omega) (by have := hx.bm; omega)⟩, Nat.le_trans hz hg.size⟩
 obtain ⟨hl, ⟨hv, h0⟩ | ⟨g, cap', cur, hv, a1, hblk, a3⟩⟩ := h.own
 ·exact ⟨hl, .inl ⟨hv, h0⟩⟩
 ·exact ⟨hl, .inr ⟨g, cap', cur, hv, a1, (ne g (Array.getElem?_eq_some_iff.1 hblk).1 (hown g (by rw [hv]; rfl))).trans hblk, a3⟩⟩
theorem VSt.tell {x : Bx} {a : Option Addr} {ns : List Nod} {cap : Nat} {root : Int} {G : ByteArray → Int → Int} {out out' : List ByteArray} {v v' : Value} {w w' : World} (h : VSt x a ns cap root G out v w) (hx : x.Ok) (hg : w.grownBy w' v.ownBlock) (ho : OwnS w' x.C v' out') : VSt x a ns cap root G out' v' (w'.setCell ⟨x.F, 0, none⟩ v') := by
 have hz := h.size
 have hnb : ∀ k, k < x.C → some k ≠ v.ownBlock := fun k hk e => by have := (h.own.lt e.symm).1; omega
 have ne : ∀ k, k < x.C → k ≠ x.F → (w'.setCell ⟨x.F, 0, none⟩ v').heap[k]? = w.heap[k]? := fun k hk hf => (heap_setCell_other _ _ _ _ hf).trans (hg.block k (by omega) (hnb k hk))
 have hf' : w'.heap[x.F]? = some (.cells #[v] 22 (0, 0)) := (hg.block _ (by have := hx.fc; omega) (hnb _ hx.fc)).trans h.f
 refine ⟨(ne _ hx.sc hx.sf).trans h.s, heap_setCell_same _ _ _ _ _ _ hf', (ne _ hx.vc hx.vf).trans h.vb, (ne _ hx.pc hx.pf).trans h.p, h.map.same (ne _ hx.mc (Ne.symm hx.fm)), ?_, h.rows.below ⟨hg.os, hg.tape, hg.output, by simpa using hg.size, fun k hk => ne k (by have := hx.bc; omega) (by have := hx.bf; omega)⟩, by have := hg.size; simp; omega⟩
 obtain ⟨hl, ⟨hv, h0⟩ | ⟨g, cap', cur, hv, a1, hblk, a3⟩⟩ := ho
 ·exact ⟨hl, .inl ⟨hv, h0⟩⟩
 ·exact ⟨hl, .inr ⟨g, cap', cur, hv, a1, (heap_setCell_other _ _ _ _ (by show g ≠ x.F; have := hx.fc; omega)).trans hblk, a3⟩⟩
def VP (x : Bx) (a : Option Addr) (ns : List Nod) (cap : Nat) (root : Int) (b out' : List ByteArray) (v : Value) (w : World) (e : Ending) (w' : World) : Prop :=
 ∃ v', e = .returned (.tuple #[]) ∧ VSt x a ns cap root (FB b out') out' v' w' ∧ VGr x v.ownBlock w w' ∧ (v'.ownBlock = v.ownBlock ∨ ∀ k, v'.ownBlock = some k → w.heap.size ≤ k)
theorem VSt.bump {x : Bx} {a : Option Addr} {ns : List Nod} {cap : Nat} {root : Int} {G G' : ByteArray → Int → Int} {out : List ByteArray} {v : Value} {W : World} (h : VSt x a ns cap root G out v W) (hx : x.Ok) (hn : (Lk ns).length ≤ 8388608) {s : ByteArray} {k : Int} (hs : s.size ≤ 1048576) (hh : i64B k) (hL : Ks s k ∈ Lk ns) (val : Int) (he : ∀ s' k', updC G s k val s' k' = G' s' k') :
  ∃ (st : Nat) (w1 w3 : World), (Instr.lookup 101 (.map (some x.m)) (.agg #[.string s, .int .i64 k]) false).run Tryz.prog W.drew = .ok (.int .i64 (G s k)) W.drew ∧
   (Instr.mapEntry 101 (.map (some x.m)) (.agg #[.string s, .int .i64 k])).run Tryz.prog W.drew = .ok (.tuple #[.int .i64 (G s k), .int .i64 (st : Int)]) w1 ∧
   (Instr.lookup 101 (.map (some x.m)) (.agg #[.string s, .int .i64 k]) false).run Tryz.prog w1 = .ok (.int .i64 (G s k)) w1 ∧
   (Instr.entryStore 101 (.map (some x.m)) (.int .i64 (st : Int)) (.int .i64 val)).run Tryz.prog w1 = .ok () w3 ∧
   MapC w3 x.m (Lk ns) G' ∧ W.grownBy w3 (some x.m) := by
 have hmd : MapC W.drew x.m (Lk ns) G := h.map.same rfl
 obtain ⟨st, w1, r1, m1, g1, r2⟩ := hmd.entry (by simp [maxLen]; omega) hs hh hL
 obtain ⟨w3, r3, m3, g3⟩ := r2 w1 val rfl
 refine ⟨st, w1, w3, hmd.look hs hh, r1, m1.look hs hh, r3, m3.eq he, ?_⟩
 exact ⟨g3.os.trans g1.os, g3.tape.trans g1.tape, g3.output.trans g1.output, Nat.le_trans g1.size g3.size, fun i hi hne => (g3.block i (Nat.lt_of_lt_of_le hi g1.size) hne).trans (g1.block i hi hne)⟩
theorem bel_undr {W w' : World} (h : Below W.drew.heap.size W.drew w') : Below W.heap.size W w' := ⟨h.os, h.tape, h.output, h.size, h.block⟩
theorem rowS_one (W : World) (s : ByteArray) : RowS (W.alloc (Obj.cells #[.string s] 9)) (W.alloc (Obj.cells #[.string s] 9)).heap.size (some ⟨W.heap.size, 0, none⟩) [s] := by
 intro i y hy
 have hi : i = 0 := by
  have := (List.getElem?_eq_some_iff.1 hy).1
  simp at this
  exact this
 subst hi
 simp at hy
 subst hy
 exact ⟨W.heap.size, 0, rfl, by simp, cell_blk (blk_at W (Obj.cells #[.string s] 9) _ rfl) rfl⟩
set_option maxRecDepth 100000 in
set_option maxHeartbeats 2000000 in
theorem visit_var (x : Bx) (hx : x.Ok) (a : Option Addr) (ns : List Nod) (cap : Nat) (root : Int) (i : Nat) (d : Nod) (an aa : Option Addr) (cn ca : Nat) (b out : List ByteArray) (v : Value) (w : World) (hd : ns[i]? = some d) (hk : d.k = 5) (hds : d.s.size ≤ 1048576) (hargs : d.args = []) (hL : (Lk ns).length ≤ 8388608) (hst : VSt x a ns cap root (FB b out) out v w) (hol : out.length ≤ 400) (hbl : b.length ≤ 4000) :
  Calls Tryz.prog 67 #[.agg #[.int .i64 d.k, .int .i64 d.n, .string d.s, .slice an d.names.length cn, .slice aa d.args.length ca], .pointer (some ⟨x.S, 0, none⟩), .pointer (some ⟨x.F, 0, none⟩), .pointer (some ⟨x.V, 0, none⟩), .pointer (some ⟨x.P, 0, none⟩)] w fun e w' => VP x a ns cap root b (tellF b out d.s) v w e w' := by
 have hkb : (d.k == 5) = true := by rw [hk]; rfl
 obtain ⟨W, hW⟩ : ∃ W, W = w.alloc (Obj.cells #[.int .i64 d.k, .int .i64 d.n, .string d.s, .slice an d.names.length cn, .slice aa d.args.length ca] 96) := ⟨_, rfl⟩
 have hbW : Below w.heap.size w W := by rw [hW]; exact (Below.refl _ _).alloc (Nat.le_refl _) _
 have hs1 := hst.below hx hbW
 have m0 := cell_blk (j := 0) hs1.s rfl
 have k0 := hs1.map.look hds (⟨by omega, by omega⟩ : i64B 0)
 have k1 := hs1.map.look hds (⟨by omega, by omega⟩ : i64B 1)
 rw [FB_0] at k0
 rw [FB_1] at k1
 unfold Ks at k0 k1
 have HARG : Hid (d.args = []) := hargs
 have HW : Hid (W = w.alloc (Obj.cells #[.int .i64 d.k, .int .i64 d.n, .string d.s, .slice an d.names.length cn, .slice aa d.args.length ca] 96)) := hW
 have HS1 : Hid (VSt x a ns cap root (FB b out) out v W) := hs1
 have HBW : Hid (Below w.heap.size w W) := hbW
 rw [hW] at m0 k0 k1
 have HSZ : Hid (x.C ≤ w.heap.size) := hst.size
 have HOB : Hid (∀ k, v.ownBlock = some k → k < w.heap.size) := fun k hk => (hst.own.lt hk).2
 have HBB : Hid (∀ W, Calls Tryz.prog 69 #[.agg #[.int .i64 d.k, .int .i64 d.n, .string d.s, .slice an d.names.length cn, .slice aa d.args.length ca]] W fun e w' => e = .returned (.slice none 0 0) ∧ Below W.heap.size W w') := fun W => by
  have := boundBy_any d an aa cn ca W ⟨by rw [hk]; omega, by rw [hk]; omega⟩
  rw [if_neg (by rw [hk]; omega)] at this
  exact this
 clear hargs hW hs1 hbW hst
 cases hhb : hasS b d.s
 ·cases hho : hasS out d.s
  ·have hc0 : cbS b d.s = 0 := cbS_zero.2 hhb
   rw [hc0] at k0
   rw [hho] at k1
   have HTE : Hid (tellF b out d.s = out ++ [d.s]) := if_pos ⟨hhb, hho⟩
   obtain ⟨st, w1, w3, q1, q2, q3, q4, q5, q6⟩ := HS1.out.bump hx hL hds (⟨by omega, by omega⟩ : i64B 1) (Lk_s hd) 1 (fun s' k' => FB_tell b out d.s s' k')
   rw [FB_1, hho] at q1 q2 q3
   simp only [Bool.false_eq_true, if_false] at q1 q2 q3
   have HQ5 : Hid _ := q5
   have HQ6 : Hid _ := q6
   have KX : Hid (W.heap[w.heap.size]? = some (Obj.cells #[.int .i64 d.k, .int .i64 d.n, .string d.s, .slice an d.names.length cn, .slice aa d.args.length ca] 96)) := by show _ = _; rw [HW.out]; exact blk_at _ _ _ rfl
   have m1 := cell_blk (j := 0) HS1.out.s rfl
   have x2 := cell_blk (j := 2) KX.out rfl
   clear hk hhb hho q5 q6
   go_enter Tryz.func67, Tryz.ntmps67
   go_wp2_with fail
   rw [← HW.out]
   clear HW m0 k0 k1
   go_region
   have HS3 : Hid (VSt x a ns cap root (FB b (out ++ [d.s])) out v w3) := HS1.out.put hx HQ6.out HQ5.out
   have hsz3 := HQ6.out.size
   have hmX : w.heap.size ≠ x.m := by have := hx.mc; have := HSZ.out; omega
   have KX3 : Hid (w3.heap[w.heap.size]? = some (Obj.cells #[.int .i64 d.k, .int .i64 d.n, .string d.s, .slice an d.names.length cn, .slice aa d.args.length ca] 96)) := (HQ6.out.block _ (Array.getElem?_eq_some_iff.1 KX.out).1 (fun e => hmX (Option.some.inj e))).trans KX.out
   have HCL : Hid (∀ W, Calls Tryz.prog 68 #[.string d.s] W fun e w' => Ans W (.string d.s) e w') := fun W => clone_any d.s W hds
   have y2 := cell_blk (j := 2) KX3.out rfl
   have f3 := cell_blk (j := 0) HS3.out.f rfl
   clear q1 q2 q3 q4 m1 x2
   go_wp2_with fail
   go_region_law (first
    | (refine step_append_S (by rfl) _ _ (by rfl) x.C v out [d.s] (by rfl) (World.ownsRow.alloc HS4.out.own _) (some ⟨w4.heap.size, 0, none⟩) 1 (by rfl) (rowS_one w4 d.s) (by simp; omega) (by have := HS4.out.size; simp; omega) ?_; intro v5 w5 hown5 hgr5 hnw5; obtain ⟨a5, c5, rfl⟩ := hown5.slice; have kF : w5.heap[x.F]? = some (.cells #[v] 22 (0, 0)) := (hgr5.block x.F (by have := HS4.out.size; have := hx.fc; simp; omega) (fun e => by have := (HS4.out.own.lt e.symm).1; have := hx.fc; omega)).trans (blk_past HS4.out.f); have g5 := cell_blk (j := 0) kF rfl; have g6 := frozen_blk kF 0)
    | (go_simp; go_at_call 68; refine (HCL.out _).mono ?_; rintro e w4 ⟨rfl, hb4'⟩; have hb4 : Below w3.heap.size w3 w4 := (by first | exact bel_undr hb4' | exact hb4'); have HS4 : Hid (VSt x a ns cap root (FB b (out ++ [d.s])) out v w4) := HS3.out.below hx hb4; have f4 := cell_blk (j := 0) HS4.out.f rfl; have fA : (w4.alloc (Obj.cells #[Value.string d.s] 9)).cell? ⟨x.F, 0, none⟩ = some v := cell_blk (j := 0) (blk_past HS4.out.f) rfl))
   all_goals
    have hbA : Below w4.heap.size w4 (w4.alloc (Obj.cells #[Value.string d.s] 9)) := (Below.refl _ _).alloc (Nat.le_refl _) _
    have HS5 : Hid (VSt x a ns cap root (FB b (out ++ [d.s])) (out ++ [d.s]) (.slice a5 (out ++ [d.s]).length c5) (w5.setCell ⟨x.F, 0, none⟩ (.slice a5 (out ++ [d.s]).length c5))) := (HS4.out.below hx hbA).tell hx hgr5 hown5
    have HV5 : Hid (VGr x v.ownBlock w (w5.setCell ⟨x.F, 0, none⟩ (.slice a5 (out ++ [d.s]).length c5))) := ((((VGr.of_below v.ownBlock HBW.out).trans (VGr.of_map v.ownBlock HQ6.out) (.inl rfl)).trans (VGr.of_below v.ownBlock (hb4.trans (hbA.mono hb4.size))) (.inl rfl)).trans (VGr.of_gby hgr5) (.inl rfl)).trans (VGr.of_box v.ownBlock _ _) (.inl rfl)
    have h34 := hb4.size
    have hln : (out ++ [d.s]).length = out.length + 1 := by simp
    have HN5 : Hid ((Value.slice a5 (out ++ [d.s]).length c5).ownBlock = v.ownBlock ∨ ∀ kk, (Value.slice a5 (out ++ [d.s]).length c5).ownBlock = some kk → w.heap.size ≤ kk) := hnw5.imp id (fun h kk hkk => by have h1 := h kk hkk; have h2 := HBW.out.size; have h3 := hbA.size; omega)
    have KX6 : Hid ((w5.setCell ⟨x.F, 0, none⟩ (.slice a5 (out ++ [d.s]).length c5)).heap[w.heap.size]? = some (Obj.cells #[.int .i64 d.k, .int .i64 d.n, .string d.s, .slice an d.names.length cn, .slice aa d.args.length ca] 96)) := (heap_setCell_other _ _ _ _ (by show w.heap.size ≠ x.F; have := hx.fc; have := HSZ.out; omega)).trans ((hgr5.block _ (by have := (Array.getElem?_eq_some_iff.1 KX3.out).1; simp; omega) (fun e => by have := HOB.out _ e.symm; omega)).trans (blk_past ((hb4.block _ (Array.getElem?_eq_some_iff.1 KX3.out).1).trans KX3.out)))
    rw [hln] at HS5 HV5 HN5 KX6
    generalize w5.setCell ⟨x.F, 0, none⟩ (.slice a5 (out.length + 1) c5) = w6 at *
    clear hown5 hgr5 hnw5 kF g5 g6 f4 fA hb4 hb4' HS4 HS3 HQ5 HQ6 KX3 KX y2 f3 hbA HBW HS1
    have z0 := cell_blk (j := 0) KX6.out rfl
    have z1 := cell_blk (j := 1) KX6.out rfl
    have z2 := cell_blk (j := 2) KX6.out rfl
    have z3 := cell_blk (j := 3) KX6.out rfl
    have z4 := cell_blk (j := 4) KX6.out rfl
    go_wp2_with fail
    refine (HBB.out _).mono ?_
    rintro e w7 ⟨rfl, hb7⟩
    have HS7 : Hid (VSt x a ns cap root (FB b (out ++ [d.s])) (out ++ [d.s]) (.slice a5 (out.length + 1) c5) w7) := HS5.out.below hx hb7
    have HV7 : Hid (VGr x v.ownBlock w w7) := HV5.out.trans (VGr.of_below v.ownBlock hb7) (.inl rfl)
    have KX7 : Hid (w7.heap[w.heap.size]? = some (Obj.cells #[.int .i64 d.k, .int .i64 d.n, .string d.s, .slice an d.names.length cn, .slice aa d.args.length ca] 96)) := (hb7.block _ (Array.getElem?_eq_some_iff.1 KX6.out).1).trans KX6.out
    have t4 := cell_blk (j := 4) KX7.out rfl
    clear hb7 HS5 HV5 KX6 z0 z1 z2 z3 z4
    have hal : d.args.length = 0 := by rw [HARG.out]; rfl
    go_wp2
    go_loopw [50] (fun o wr => o = .int .i64 0 ∧ wr = w7) (fun _ _ => 0)
    case atStart => exact ⟨rfl, rfl⟩
    case round =>
     obtain ⟨rfl, rfl⟩ := hrel
     go_wp2
     go_loopw [65] (fun o wr2 => o = .int .i64 0 ∧ wr2 = wr) (fun _ _ => 0)
     case atStart => exact ⟨rfl, rfl⟩
     case round =>
      obtain ⟨rfl, rfl⟩ := hrel
      go_wp2
      go_loopw [78] (fun o wr3 => o = .int .i64 0 ∧ wr3 = wr) (fun _ _ => 0)
      case atStart => exact ⟨rfl, rfl⟩
      case round =>
       obtain ⟨rfl, rfl⟩ := hrel
       go_wp2
       refine bodyPost_ret (results_none rfl _ _ _) rfl ?_
       exact ⟨.slice a5 (out.length + 1) c5, rfl, by rw [HTE.out]; exact HS7.out, HV7.out, HN5.out⟩
  ·have HTE : Hid (tellF b out d.s = out) := if_neg (by rw [hho]; simp)
   have hc0 : cbS b d.s = 0 := cbS_zero.2 hhb
   rw [hc0] at k0
   rw [hho] at k1
   simp only [if_true] at k1
   clear hk hhb hho
   have KX : Hid (W.heap[w.heap.size]? = some (Obj.cells #[.int .i64 d.k, .int .i64 d.n, .string d.s, .slice an d.names.length cn, .slice aa d.args.length ca] 96)) := by show _ = _; rw [HW.out]; exact blk_at _ _ _ rfl
   have HV1 : Hid (VGr x v.ownBlock w W) := VGr.of_below v.ownBlock HBW.out
   go_enter Tryz.func67, Tryz.ntmps67
   go_wp2_with fail
   rw [← HW.out]
   clear HW m0 k0 k1
   refine (HBB.out _).mono ?_
   rintro e w7 ⟨rfl, hb7⟩
   have HS7 : Hid (VSt x a ns cap root (FB b out) (out) (v) w7) := HS1.out.below hx hb7
   have HV7 : Hid (VGr x v.ownBlock w w7) := HV1.out.trans (VGr.of_below v.ownBlock hb7) (.inl rfl)
   have KX7 : Hid (w7.heap[w.heap.size]? = some (Obj.cells #[.int .i64 d.k, .int .i64 d.n, .string d.s, .slice an d.names.length cn, .slice aa d.args.length ca] 96)) := (hb7.block _ (Array.getElem?_eq_some_iff.1 KX.out).1).trans KX.out
   have t4 := cell_blk (j := 4) KX7.out rfl
   clear hb7 HS1 HV1 KX
   have hal : d.args.length = 0 := by rw [HARG.out]; rfl
   go_wp2
   go_loopw [50] (fun o wr => o = .int .i64 0 ∧ wr = w7) (fun _ _ => 0)
   case atStart => exact ⟨rfl, rfl⟩
   case round =>
    obtain ⟨rfl, rfl⟩ := hrel
    go_wp2
    go_loopw [65] (fun o wr2 => o = .int .i64 0 ∧ wr2 = wr) (fun _ _ => 0)
    case atStart => exact ⟨rfl, rfl⟩
    case round =>
     obtain ⟨rfl, rfl⟩ := hrel
     go_wp2
     go_loopw [78] (fun o wr3 => o = .int .i64 0 ∧ wr3 = wr) (fun _ _ => 0)
     case atStart => exact ⟨rfl, rfl⟩
     case round =>
      obtain ⟨rfl, rfl⟩ := hrel
      go_wp2
      refine bodyPost_ret (results_none rfl _ _ _) rfl ?_
      exact ⟨v, rfl, by rw [HTE.out]; exact HS7.out, HV7.out, .inl rfl⟩
 ·have HTE : Hid (tellF b out d.s = out) := if_neg (by rw [hhb]; simp)
  have hc0 : ¬ cbS b d.s = 0 := fun e => by rw [cbS_zero.1 e] at hhb; cases hhb
  have hcb := cbS_le b d.s
  have hcz : (((cbS b d.s : Nat) : Int) == 0) = false := by rw [beq_eq_false_iff_ne]; omega
  generalize cbS b d.s = cc at *
  clear hk hhb hc0
  have KX : Hid (W.heap[w.heap.size]? = some (Obj.cells #[.int .i64 d.k, .int .i64 d.n, .string d.s, .slice an d.names.length cn, .slice aa d.args.length ca] 96)) := by show _ = _; rw [HW.out]; exact blk_at _ _ _ rfl
  have HV1 : Hid (VGr x v.ownBlock w W) := VGr.of_below v.ownBlock HBW.out
  go_enter Tryz.func67, Tryz.ntmps67
  go_wp2_with fail
  rw [← HW.out]
  clear HW m0 k0 k1
  refine (HBB.out _).mono ?_
  rintro e w7 ⟨rfl, hb7⟩
  have HS7 : Hid (VSt x a ns cap root (FB b out) (out) (v) w7) := HS1.out.below hx hb7
  have HV7 : Hid (VGr x v.ownBlock w w7) := HV1.out.trans (VGr.of_below v.ownBlock hb7) (.inl rfl)
  have KX7 : Hid (w7.heap[w.heap.size]? = some (Obj.cells #[.int .i64 d.k, .int .i64 d.n, .string d.s, .slice an d.names.length cn, .slice aa d.args.length ca] 96)) := (hb7.block _ (Array.getElem?_eq_some_iff.1 KX.out).1).trans KX.out
  have t4 := cell_blk (j := 4) KX7.out rfl
  clear hb7 HS1 HV1 KX
  have hal : d.args.length = 0 := by rw [HARG.out]; rfl
  go_wp2
  go_loopw [50] (fun o wr => o = .int .i64 0 ∧ wr = w7) (fun _ _ => 0)
  case atStart => exact ⟨rfl, rfl⟩
  case round =>
   obtain ⟨rfl, rfl⟩ := hrel
   go_wp2
   go_loopw [65] (fun o wr2 => o = .int .i64 0 ∧ wr2 = wr) (fun _ _ => 0)
   case atStart => exact ⟨rfl, rfl⟩
   case round =>
    obtain ⟨rfl, rfl⟩ := hrel
    go_wp2
    go_loopw [78] (fun o wr3 => o = .int .i64 0 ∧ wr3 = wr) (fun _ _ => 0)
    case atStart => exact ⟨rfl, rfl⟩
    case round =>
     obtain ⟨rfl, rfl⟩ := hrel
     go_wp2
     refine bodyPost_ret (results_none rfl _ _ _) rfl ?_
     exact ⟨v, rfl, by rw [HTE.out]; exact HS7.out, HV7.out, .inl rfl⟩
end Go.Proofs.YtamjofdgikifnaaGreat.Fr
