/- The model's l5Free. -/
import Derived.Test.YtamjofdgikifnaaGreatMpe
import Derived.Deep.RegionWith
import Derived.Deep.QuietTactic
import Derived.BigQuiet
set_option linter.unusedVariables false
namespace Go.Proofs.YtamjofdgikifnaaGreat.Fr
open Go.ChangeShapes Go.WideShapes Go.ChangeAt Go.RowKit
def RowB (w : World) (r : Option Nat) (a : Option Addr) (l : List ByteArray) : Prop :=
 ∀ i x, l[i]? = some x → ∃ b o, a = some ⟨b, o, none⟩ ∧ b < w.heap.size ∧ r ≠ some b ∧ w.cell? ⟨b, o + i, none⟩ = some (.string x)
theorem RowB.row {w : World} {r : Option Nat} {a : Option Addr} {l : List ByteArray} (h : RowB w r a l) : RowS w w.heap.size a l := fun i x hx => by
 obtain ⟨b, o, h1, h2, _, h4⟩ := h i x hx
 exact ⟨b, o, h1, h2, h4⟩
theorem RowB.step {w w' : World} {r r2 : Option Nat} {a : Option Addr} {l : List ByteArray} (h : RowB w r a l) (hg : w.grownBy w' r) (hn : r2 = r ∨ ∀ k, r2 = some k → w.heap.size ≤ k) : RowB w' r2 a l := by
 intro i x hx
 obtain ⟨b, o, h1, h2, h3, h4⟩ := h i x hx
 refine ⟨b, o, h1, Nat.lt_of_lt_of_le h2 hg.size, ?_, (World.cell?_of_block (w := w) (a := ⟨b, _, none⟩) (hg.block b h2 (fun e => h3 e.symm))).trans h4⟩
 rcases hn with rfl | hn
 ·exact h3
 ·intro e
  have := hn b e
  omega
theorem RowB.below {w w' : World} {r : Option Nat} {a : Option Addr} {l : List ByteArray} (h : RowB w r a l) (hb : Below w.heap.size w w') : RowB w' r a l := by
 intro i x hx
 obtain ⟨b, o, h1, h2, h3, h4⟩ := h i x hx
 exact ⟨b, o, h1, Nat.lt_of_lt_of_le h2 hb.size, h3, (World.cell?_of_block (w := w) (a := ⟨b, _, none⟩) (hb.block b h2)).trans h4⟩
def L5P (B : Nat) (v : Value) (l : List ByteArray) (w : World) (e : Ending) (w' : World) : Prop :=
 ∃ v', e = .returned v' ∧ OwnS w' B v' l ∧ w.grownBy w' v.ownBlock ∧ (v'.ownBlock = v.ownBlock ∨ ∀ k, v'.ownBlock = some k → w.heap.size ≤ k)
theorem gby_below {w w' : World} (r : Option Nat) (h : Below w.heap.size w w') : w.grownBy w' r := ⟨h.os, h.tape, h.output, h.size, fun i hi _ => h.block i hi⟩
theorem gby_trans {w w1 w2 : World} {r r1 : Option Nat} (h : w.grownBy w1 r) (g : w1.grownBy w2 r1) (hn : r1 = r ∨ ∀ k, r1 = some k → w.heap.size ≤ k) : w.grownBy w2 r := by
 refine ⟨g.os.trans h.os, g.tape.trans h.tape, g.output.trans h.output, Nat.le_trans h.size g.size, fun i hi hne => ?_⟩
 refine (g.block i (Nat.lt_of_lt_of_le hi h.size) (fun e => ?_)).trans (h.block i hi hne)
 rcases hn with rfl | hn
 ·exact hne e
 ·have := hn i e.symm
  omega
theorem new_trans {n n1 : Nat} {r r1 r2 : Option Nat} (hle : n ≤ n1) (h : r1 = r ∨ ∀ k, r1 = some k → n ≤ k) (g : r2 = r1 ∨ ∀ k, r2 = some k → n1 ≤ k) : r2 = r ∨ ∀ k, r2 = some k → n ≤ k := by
 rcases g with rfl | g
 ·exact h
 ·exact .inr fun k hk => Nat.le_trans hle (g k hk)
theorem RowN.gby {w w' : World} {B : Nat} {a : Option Addr} {ns : List Nod} {r : Option Nat} (h : RowN w B a ns) (hB : B ≤ w.heap.size) (hg : w.grownBy w' r) (hr : ∀ k, r = some k → B ≤ k) : RowN w' B a ns :=
 h.below ⟨hg.os, hg.tape, hg.output, hg.size, fun k hk => hg.block k (by omega) (fun e => by have := hr k e.symm; omega)⟩
theorem own_nil {W : World} {B g : Nat} (h : W.heap[g]? = some (.cells #[] 9 (0, 0))) (hB : B ≤ g) : OwnS W B (.slice (some ⟨g, 0, none⟩) 0 0) [] := ⟨rfl, .inr ⟨g, 0, #[], rfl, hB, h, Nat.le_refl _, Nat.zero_le _, rfl, rfl⟩⟩
theorem rowS_alloc {W : World} {a : Option Addr} {l : List ByteArray} (h : RowS W W.heap.size a l) (o : Obj) : RowS (W.alloc o) (W.alloc o).heap.size a l := by
 have hb : Below W.heap.size W (W.alloc o) := (Below.refl _ _).alloc (Nat.le_refl _) _
 exact (h.below hb).mono hb.size
theorem bel_lit {W Wx w1 : World} {o : Obj} {n g : Nat} (hge : W.heap.size ≤ g) (h : Wx.grownBy w1 (Value.slice (some ⟨g, 0, none⟩) n n).ownBlock) (e1 : Wx.os = W.os) (e2 : Wx.tape = W.tape) (e3 : Wx.output = W.output) (e4 : Wx.heap = W.heap.push o) : Below W.heap.size W w1 := by
 have hz : Wx.heap.size = W.heap.size + 1 := by rw [e4]; simp
 refine ⟨h.os.trans e1, h.tape.trans e2, h.output.trans e3, by have := h.size; omega, fun k hk => ?_⟩
 refine (h.block k (by omega) (fun e => by have e' : k = g := Option.some.inj e; omega)).trans ?_
 rw [e4, Array.getElem?_push_lt hk, Array.getElem?_eq_getElem hk]
theorem OwnS.rowB {w : World} {B cap n : Nat} {a : Option Addr} {l : List ByteArray} {r : Option Nat} (h : OwnS w B (.slice a n cap) l) (hr : ∀ k, r = some k → k < B) : RowB w r a l := by
 obtain ⟨hl, ⟨hv, h0⟩ | ⟨g, cap', cur, hv, a1, hblk, a3, a4, a5, a6⟩⟩ := h
 ·intro i x hx
  rw [List.eq_nil_of_length_eq_zero h0] at hx
  simp at hx
 ·injection hv with h1 h2 h3
  intro i x hx
  refine ⟨g, 0, h1, (Array.getElem?_eq_some_iff.1 hblk).1, fun e => by have := hr g e; omega, ?_⟩
  rw [Nat.zero_add]
  exact cell_blk hblk (take_get a6 (by rw [List.getElem?_map, hx]; rfl))
set_option maxRecDepth 100000 in
set_option maxHeartbeats 4000000 in
theorem l5Free_any (a : Option Addr) (ns : List Nod) (cap : Nat) (root : Int) (hsm : ∀ d ∈ ns, d.small) (hok : OkP ns root) (B : Nat) : ∀ (f i : Nat), i < f → i < ns.length → ∀ (ab oa : Option Addr) (cb oc : Nat) (b out : List ByteArray) (w : World), RowN w B a ns → B ≤ w.heap.size → RowB w (Value.slice oa out.length oc).ownBlock ab b → OwnS w B (.slice oa out.length oc) out → b.length ≤ 8 * (400 - i) → Fnd ns out →
  Calls Tryz.prog 26 #[.agg #[.slice a ns.length cap, .int .i64 root], .int .i64 (i : Int), .slice ab b.length cb, .slice oa out.length oc] w fun e w' => L5P B (.slice oa out.length oc) (freeF ns f (i : Int) b out) w e w'
 | 0, i, h, _ => absurd h (by omega)
 | f + 1, i, hif, hil => by
  intro ab oa cb oc b out w hr hB hb ho hbl hfd
  have IH := l5Free_any a ns cap root hsm hok B f
  have HIH : Hid _ := IH
  obtain ⟨d, hd⟩ : ∃ d, ns[i]? = some d := ⟨_, List.getElem?_eq_getElem hil⟩
  obtain ⟨hl1, hl2, -, hoks, hin, -⟩ := id hok
  have HIN : Hid (inR ns) := hin
  have hdo := hoks d (List.mem_of_getElem? hd)
  have HDO : Hid (d.ok = true) := hdo
  have HD : Hid (ns[i]? = some d) := hd
  have hol := hfd.len
  obtain ⟨b1, o1, rfl, hbb, an, cn, aa, ca, v0, v1, v2, v3, v4, hrs, hri, hcn1, hca1⟩ := hr i d hd
  obtain ⟨s1, _, s3, s4, s5, _⟩ := hsm d (List.mem_of_getElem? hd)
  have HR : Hid (RowN w B (some ⟨b1, o1, none⟩) ns) := hr
  have HFD : Hid (Fnd ns out) := hfd
  have hbP : Below w.heap.size w (w.alloc (Obj.cells #[.slice (some ⟨b1, o1, none⟩) ns.length cap, .int .i64 root] 54)) := (Below.refl _ _).alloc (Nat.le_refl _) _
  have u0 := cell_keep v0 hbP (by omega)
  have u1 := cell_keep v1 hbP (by omega)
  have u2 := cell_keep v2 hbP (by omega)
  have u3 := cell_keep v3 hbP (by omega)
  have u4 := cell_keep v4 hbP (by omega)
  obtain ⟨W, hW⟩ : ∃ W, W = (w.alloc (Obj.cells #[.slice (some ⟨b1, o1, none⟩) ns.length cap, .int .i64 root] 54)).alloc (Obj.cells #[.int .i64 d.k, .int .i64 d.n, .string d.s, .slice an d.names.length cn, .slice aa d.args.length ca] 96) := ⟨_, rfl⟩
  have hbW : Below w.heap.size w W := by rw [hW]; exact hbP.alloc (by simp) _
  have kP : W.heap[w.heap.size]? = some (Obj.cells #[.slice (some ⟨b1, o1, none⟩) ns.length cap, .int .i64 root] 54) := by rw [hW]; exact blk_past (blk_at _ _ _ rfl)
  have kX : W.heap[w.heap.size + 1]? = some (Obj.cells #[.int .i64 d.k, .int .i64 d.n, .string d.s, .slice an d.names.length cn, .slice aa d.args.length ca] 96) := by rw [hW]; exact blk_at _ _ _ (by simp)
  have hWz : W.heap.size = w.heap.size + 2 := by rw [hW]; simp
  have HW : Hid (W = (w.alloc (Obj.cells #[.slice (some ⟨b1, o1, none⟩) ns.length cap, .int .i64 root] 54)).alloc (Obj.cells #[.int .i64 d.k, .int .i64 d.n, .string d.s, .slice an d.names.length cn, .slice aa d.args.length ca] 96)) := hW
  have KP : Hid (W.heap[w.heap.size]? = some (Obj.cells #[.slice (some ⟨b1, o1, none⟩) ns.length cap, .int .i64 root] 54)) := kP
  have KX : Hid (W.heap[w.heap.size + 1]? = some (Obj.cells #[.int .i64 d.k, .int .i64 d.n, .string d.s, .slice an d.names.length cn, .slice aa d.args.length ca] 96)) := kX
  have HBW : Hid (Below w.heap.size w W) := hbW
  have hob : ∀ k, (Value.slice oa out.length oc).ownBlock = some k → B ≤ k ∧ k < w.heap.size := fun k hk => ho.lt hk
  have HOB : Hid (∀ k, (Value.slice oa out.length oc).ownBlock = some k → B ≤ k ∧ k < w.heap.size) := hob
  have HO1 : Hid (OwnS W B (.slice oa out.length oc) out) := ho.below hbW
  have HBD : Hid (RowB W (Value.slice oa out.length oc).ownBlock ab b) := hb.below hbW
  have HRI : Hid (RowIP w (fun b => b < B) aa d.args) := hri
  have HRS : Hid (RowSP w (fun b => b < B) an d.names) := hrs
  clear hr hb ho hfd hd hdo hoks hin v0 v1 v2 v3 v4 hrs hri kP kX hW hbW hbP hob IH hsm hok
  by_cases hk5 : d.k = 5
  ·have hk5b : (d.k == 5) = true := by rw [hk5]; rfl
   have HFE : Hid (freeF ns (f + 1) (i : Int) b out = tellF b out d.s) := freeF_var HD.out hk5
   have HI1 : Hid (Calls Tryz.prog 27 #[.slice ab b.length cb, .string d.s] W fun e w' => Ans W (.bool (hasS b d.s)) e w') := l3In_any ab b cb d.s W (by omega) HBD.out.row
   have HI2 : Hid (∀ w1, Below W.heap.size W w1 → Calls Tryz.prog 27 #[.slice oa out.length oc, .string d.s] w1 fun e w' => Ans w1 (.bool (hasS out d.s)) e w') := fun w1 h1 => l3In_any oa out oc d.s w1 (by omega) (HO1.out.below h1).row.2
   have HX2 : Hid (∀ w1, Below W.heap.size W w1 → w1.cell? ⟨w.heap.size + 1, 2, none⟩ = some (.string d.s)) := fun w1 h1 => cell_blk (j := 2) (blk_keep KX.out h1 (by omega)) rfl
   have x2 := HX2.out W (Below.refl _ _)
   clear hk5
   cases hhb : hasS b d.s
   ·rw [hhb] at HI1
    cases hho : hasS out d.s
    ·rw [hho] at HI2
     have HTE : Hid (tellF b out d.s = out ++ [d.s]) := if_pos ⟨hhb, hho⟩
     rw [HTE.out] at HFE
     clear hhb hho HTE
     obtain ⟨i9, hi9, hz90, hz91, hz92⟩ := info_parts Tryz.inf9
     go_enter Tryz.func26, Tryz.ntmps26
     go_wp2_with fail
     rw [← HW.out]
     clear HW u0 u1 u2 u3 u4
     refine HI1.out.mono ?_
     rintro e w1 ⟨rfl, hb1⟩
     have y2 := HX2.out w1 hb1
     have HIA : Hid (Calls Tryz.prog 27 #[.slice oa out.length oc, .string d.s] w1 fun e w' => Ans w1 (.bool false) e w') := HI2.out w1 hb1
     have HB1 : Hid (Below W.heap.size W w1) := hb1
     clear hb1 HI1 HI2 x2
     go_wp2_with fail
     refine HIA.out.mono ?_
     rintro e w2 ⟨rfl, hb2⟩
     have hb12 : Below W.heap.size W w2 := HB1.out.trans (hb2.mono HB1.out.size)
     have z2 := HX2.out w2 hb12
     have HB2 : Hid (Below W.heap.size W w2) := hb12
     have HOA : Hid ((w2.alloc (.cells #[.string d.s] 9 (0, 0))).ownsRow B 9 1 (.slice oa out.length oc) out.length (out.map Value.string)) := World.ownsRow.alloc (HO1.out.below hb12) _
     have kA : (w2.alloc (.cells #[.string d.s] 9 (0, 0))).heap[w2.heap.size]? = some (.cells #[.string d.s] 9 (0, 0)) := blk_at _ _ _ rfl
     have hAz : (w2.alloc (.cells #[.string d.s] 9 (0, 0))).heap.size = w2.heap.size + 1 := by simp
     have hw2 : w.heap.size ≤ w2.heap.size := by have := hb12.size; omega
     have hwA : B ≤ (w2.alloc (.cells #[.string d.s] 9 (0, 0))).heap.size := by rw [hAz]; omega
     clear hb2 hb12 HIA HB1 y2
     go_wp2_with (at_builtin; refine wpList_append_lies _ rfl _ _ 22 rfl B 9 i9 _ 1 16 Tryz.underlying22 hi9 hz90 hz91 hz92 rfl (by omega) (.slice oa out.length oc) out.length (out.map Value.string) rfl HOA.out ⟨w2.heap.size, 0, none⟩ 1 1 [.string d.s] rfl rfl (World.news_of_block kA) (by intro u hu; simp at hu; subst hu; rfl) (by omega) (by simp [maxLen]; omega) (by omega) hwA (w2.heap.size + 1) hAz ?_)
     intro gg cap' w3 hown hgrow hat hlt4
     have HO3 : Hid (OwnS w3 B (.slice (some ⟨gg, 0, none⟩) (out ++ [d.s]).length cap') (out ++ [d.s])) := ownS_snoc hown
     have hln : (out ++ [d.s]).length = out.length + 1 := by simp
     rw [hln] at HO3
     have HG3 : Hid (w.grownBy w3 (Value.slice oa out.length oc).ownBlock) := gby_trans (gby_below _ ((HBW.out.trans (HB2.out.mono (by omega))).trans ((Below.refl _ _).alloc hw2 _))) hgrow (.inl rfl)
     have HN3 : Hid ((Value.slice (some ⟨gg, 0, none⟩) (out.length + 1) cap').ownBlock = (Value.slice oa out.length oc).ownBlock ∨ ∀ kk, (Value.slice (some ⟨gg, 0, none⟩) (out.length + 1) cap').ownBlock = some kk → w.heap.size ≤ kk) := by
      rcases hat with h | h
      ·left; rw [h]; rfl
      ·right
       intro kk hkk
       have hkk' : gg = kk := Option.some.inj hkk
       omega
     clear hown hgrow hat hlt4 kA hAz hwA HOA z2
     go_wp2
     go_ret
     exact ⟨.slice (some ⟨gg, 0, none⟩) (out.length + 1) cap', rfl, by rw [HFE.out]; exact HO3.out, HG3.out, HN3.out⟩
    ·rw [hho] at HI2
     have HTE : Hid (tellF b out d.s = out) := if_neg (by rw [hho]; simp)
     rw [HTE.out] at HFE
     clear hhb hho HTE
     go_enter Tryz.func26, Tryz.ntmps26
     go_wp2_with fail
     rw [← HW.out]
     clear HW u0 u1 u2 u3 u4
     refine HI1.out.mono ?_
     rintro e w1 ⟨rfl, hb1⟩
     have y2 := HX2.out w1 hb1
     have HIA : Hid (Calls Tryz.prog 27 #[.slice oa out.length oc, .string d.s] w1 fun e w' => Ans w1 (.bool true) e w') := HI2.out w1 hb1
     have HB1 : Hid (Below W.heap.size W w1) := hb1
     clear hb1 HI1 HI2 x2
     go_wp2_with fail
     refine HIA.out.mono ?_
     rintro e w2 ⟨rfl, hb2⟩
     have HB2 : Hid (Below W.heap.size W w2) := HB1.out.trans (hb2.mono HB1.out.size)
     clear hb2 HB1 HIA y2
     go_wp2
     go_ret
     exact ⟨.slice oa out.length oc, rfl, by rw [HFE.out]; exact HO1.out.below HB2.out, gby_below _ (HBW.out.trans (HB2.out.mono (by omega))), .inl rfl⟩
   ·rw [hhb] at HI1
    have HTE : Hid (tellF b out d.s = out) := if_neg (by rw [hhb]; simp)
    rw [HTE.out] at HFE
    clear hhb HTE
    go_enter Tryz.func26, Tryz.ntmps26
    go_wp2_with fail
    rw [← HW.out]
    clear HW u0 u1 u2 u3 u4
    refine HI1.out.mono ?_
    rintro e w1 ⟨rfl, hb1⟩
    have HB1 : Hid (Below W.heap.size W w1) := hb1
    clear hb1 HI1 HI2 x2
    go_wp2
    go_ret
    exact ⟨.slice oa out.length oc, rfl, by rw [HFE.out]; exact HO1.out.below HB1.out, gby_below _ (HBW.out.trans (HB1.out.mono (by omega))), .inl rfl⟩
  ·have hk5b : (d.k == 5) = false := by rw [beq_eq_false_iff_ne]; exact hk5
   have HFE : Hid (freeF ns (f + 1) (i : Int) b out = argsF ns f (bndF d b) d.args out) := freeF_else HD.out hk5
   by_cases hk7 : d.k = 7
   ·have hk7b : (d.k == 7) = true := by rw [hk7]; rfl
    have hnl := ok_lam HDO.out hk7
    have HBF : Hid (bndF d b = b ++ d.names) := if_pos hk7
    rw [HBF.out] at HFE
    have hbnl : (b ++ d.names).length ≤ 8 * (400 - i) + 8 := by rw [List.length_append]; omega
    have HX1 : Hid (∀ W1, Below W.heap.size W W1 → W1.cell? ⟨w.heap.size + 1, 3, none⟩ = some (.slice an d.names.length cn) ∧ RowS W1 W1.heap.size an d.names) := fun W1 h1 => ⟨cell_blk (j := 3) (blk_keep KX.out h1 (by omega)) rfl, fun j x hx => by
     obtain ⟨q, o, h2, h3, h4⟩ := HRS.out j x hx
     have hq : q < w.heap.size := by omega
     exact ⟨q, o, h2, by have := h1.size; omega, (World.cell?_of_block (w := w) (a := ⟨q, _, none⟩) ((h1.block q (by omega)).trans (HBW.out.block q hq))).trans h4⟩⟩
    have HBL : Hid (Below W.heap.size W (W.alloc (Obj.cells #[] 9 (0, 0)))) := (Below.refl _ _).alloc (Nat.le_refl _) _
    have y3 : (W.alloc (Obj.cells #[] 9 (0, 0))).cell? ⟨w.heap.size + 1, 3, none⟩ = some (.slice an d.names.length cn) := (HX1.out _ HBL.out).1
    have x3 : W.cell? ⟨w.heap.size + 1, 3, none⟩ = some (.slice an d.names.length cn) := (HX1.out _ (Below.refl _ _)).1
    clear HBF hk5 hk7
    go_enter Tryz.func26, Tryz.ntmps26
    go_wp2_with fail
    rw [← HW.out]
    clear HW
    go_region_law (first
     | (refine step_append_S (by rfl) _ _ (by rfl) W.heap.size v1 b d.names (by rfl) hown1 an cn (by rfl) (HX1.out w1 hbe1).2 (by rw [List.length_append] at hbnl; omega) (by have := hbe1.size; omega) ?_; intro v2 w2 hown2 hgr2 hnw2)
     | (refine step_append_S (by rfl) _ _ (by rfl) W.heap.size (.slice (some ⟨w.heap.size + 2, 0, none⟩) 0 0) [] b (by rfl) (own_nil (blk_at _ _ _ hWz.symm) (Nat.le_of_eq hWz)) ab cb (by rfl) (rowS_alloc HBD.out.row _) (by rw [List.length_append] at hbnl; simp; omega) (by simp) ?_; intro v1 w1 hown1 hgr1 hnw1; have hbe1 : Below W.heap.size W w1 := bel_lit (Nat.le_of_eq hWz) hgr1 rfl rfl rfl rfl; have q3 : w1.cell? ⟨w.heap.size + 1, 3, none⟩ = some (.slice an d.names.length cn) := (HX1.out w1 hbe1).1))
    all_goals
     have hbe2 : Below W.heap.size W w2 := hbe1.trans ⟨hgr2.os, hgr2.tape, hgr2.output, hgr2.size, fun kk hkk => hgr2.block kk (by have := hbe1.size; omega) (fun e => by have := (hown1.lt e.symm).1; omega)⟩
     obtain ⟨an2, cn2, rfl⟩ := hown2.slice
     have HBD2 : Hid (RowB w2 (Value.slice oa out.length oc).ownBlock an2 (b ++ d.names)) := hown2.rowB (fun kk hkk => by have := (HOB.out kk hkk).2; omega)
     have HO2 : Hid (OwnS w2 B (.slice oa out.length oc) out) := HO1.out.below hbe2
     have KP2 : Hid (w2.heap[w.heap.size]? = some (Obj.cells #[.slice (some ⟨b1, o1, none⟩) ns.length cap, .int .i64 root] 54)) := blk_keep KP.out hbe2 (by omega)
     have KX2 : Hid (w2.heap[w.heap.size + 1]? = some (Obj.cells #[.int .i64 d.k, .int .i64 d.n, .string d.s, .slice an d.names.length cn, .slice aa d.args.length ca] 96)) := blk_keep KX.out hbe2 (by omega)
     have HGB : Hid (Below w.heap.size w w2) := HBW.out.trans (hbe2.mono (by omega))
     clear hown1 hown2 hgr1 hgr2 hnw1 hnw2 hbe1 hbe2 q3 x3 y3 HBL HX1 HO1 KP KX HBD HBW HRS
     obtain ⟨nb, hnb⟩ : ∃ nb, nb = b ++ d.names := ⟨_, rfl⟩
     rw [← hnb] at HFE hbnl HBD2 ⊢
     clear hnb
     go_wp2
     go_loopw [3, 10] (fun v o wr => ∃ (k : Nat), k ≤ d.args.length ∧ o = .int .i64 k ∧ OwnS wr B v (argsF ns f nb (d.args.take k) out) ∧ w.grownBy wr (Value.slice oa out.length oc).ownBlock ∧ (v.ownBlock = (Value.slice oa out.length oc).ownBlock ∨ ∀ kk, v.ownBlock = some kk → w.heap.size + 2 ≤ kk) ∧ wr.heap[w.heap.size]? = some (Obj.cells #[.slice (some ⟨b1, o1, none⟩) ns.length cap, .int .i64 root] 54) ∧ wr.heap[w.heap.size + 1]? = some (Obj.cells #[.int .i64 d.k, .int .i64 d.n, .string d.s, .slice an d.names.length cn, .slice aa d.args.length ca] 96) ∧ RowB wr v.ownBlock an2 nb)
      (fun _ o _ => d.args.length - (intOf o).toNat)
     case atStart => exact ⟨0, by omega, rfl, by simpa [argsF] using HO2.out, gby_below _ HGB.out, .inl rfl, KP2.out, KX2.out, HBD2.out⟩
     case round =>
      clear KP2 KX2 HO2 HBD2
      obtain ⟨k, hk, rfl, hown, hgr, hnw, hkp, hkx, hbd⟩ := hrel
      obtain ⟨oa2, oc2, rfl⟩ := hown.slice
      have hfk := Fnd.args HIN.out HD.out (Nat.le_of_lt_succ hif) nb out HFD.out k
      have HFK : Hid (Fnd ns (argsF ns f nb (d.args.take k) out)) := hfk
      have hfl := hfk.len
      have HOW : Hid (OwnS wr B (.slice oa2 (argsF ns f nb (d.args.take k) out).length oc2) (argsF ns f nb (d.args.take k) out)) := hown
      have HGR : Hid (w.grownBy wr (Value.slice oa out.length oc).ownBlock) := hgr
      have HNW : Hid ((Value.slice oa2 (argsF ns f nb (d.args.take k) out).length oc2).ownBlock = (Value.slice oa out.length oc).ownBlock ∨ ∀ kk, (Value.slice oa2 (argsF ns f nb (d.args.take k) out).length oc2).ownBlock = some kk → w.heap.size + 2 ≤ kk) := hnw
      have HKP : Hid (wr.heap[w.heap.size]? = some (Obj.cells #[.slice (some ⟨b1, o1, none⟩) ns.length cap, .int .i64 root] 54)) := hkp
      have HKX : Hid (wr.heap[w.heap.size + 1]? = some (Obj.cells #[.int .i64 d.k, .int .i64 d.n, .string d.s, .slice an d.names.length cn, .slice aa d.args.length ca] 96)) := hkx
      have HBD2 : Hid (RowB wr (Value.slice oa2 (argsF ns f nb (d.args.take k) out).length oc2).ownBlock an2 nb) := hbd
      have p0 := cell_blk (j := 0) hkp rfl
      have p1 := cell_blk (j := 1) hkp rfl
      have x4 := cell_blk (j := 4) hkx rfl
      have hxs := (Array.getElem?_eq_some_iff.1 hkx).1
      by_cases hkl : k < d.args.length
      ·obtain ⟨x, hx⟩ : ∃ x, d.args[k]? = some x := ⟨_, List.getElem?_eq_getElem hkl⟩
       obtain ⟨b2, o2, rfl, hb2b, cx0⟩ := HRI.out k x hx
       have cx : wr.cell? ⟨b2, o2 + k, none⟩ = some (.int .i64 x) := (World.cell?_of_block (w := w) (a := ⟨b2, _, none⟩) (hgr.block b2 (by omega) (fun e => by have := (HOB.out b2 e.symm).1; omega))).trans cx0
       obtain ⟨hx0, hx1⟩ := HIN.out i d HD.out x (List.mem_of_getElem? hx)
       obtain ⟨A, rfl⟩ := Int.eq_ofNat_of_zero_le hx0
       have HTS : Hid (argsF ns f nb (d.args.take (k + 1)) out = freeF ns f (A : Int) nb (argsF ns f nb (d.args.take k) out)) := by show _ = _; rw [List.take_add_one, hx]; exact argsF_snoc _ _ _ _ _ _
       generalize argsF ns f nb (d.args.take k) out = oo at *
       have HC : Hid (∀ wd, wr.drew = wd ∨ wr = wd → Calls Tryz.prog 26 #[.agg #[.slice (some ⟨b1, o1, none⟩) ns.length cap, .int .i64 root], .int .i64 (A : Int), .slice an2 nb.length cn2, .slice oa2 oo.length oc2] wd fun e w' => L5P B (.slice oa2 oo.length oc2) (freeF ns f (A : Int) nb oo) wr e w') := by
        have hrn : RowN wr B (some ⟨b1, o1, none⟩) ns := RowN.gby HR.out hB hgr (fun k hk => (HOB.out k hk).1)
        intro wd hwd
        rcases hwd with rfl | rfl
        ·exact (HIH.out A (by omega) (by omega) an2 oa2 cn2 oc2 nb oo wr.drew hrn (Nat.le_trans hB hgr.size) HBD2.out HOW.out (by omega) HFK.out).mono (fun e w' ⟨v', h1, h2, h3, h4⟩ => ⟨v', h1, h2, ⟨h3.os, h3.tape, h3.output, h3.size, h3.block⟩, h4⟩)
        ·exact HIH.out A (by omega) (by omega) an2 oa2 cn2 oc2 nb oo wr hrn (Nat.le_trans hB hgr.size) HBD2.out HOW.out (by omega) HFK.out
       clear hx hown hgr hnw hkp hkx hbd hfk cx0
       go_wp2_with fail
       go_region_with (go_at_call 26; refine (HC.out _ (.inl rfl)).mono ?_; rintro e w5 ⟨v5, rfl, hown5, hgr5, hnw5⟩)
       all_goals
        have hne : ∀ kk, kk = w.heap.size ∨ kk = w.heap.size + 1 → some kk ≠ (Value.slice oa2 oo.length oc2).ownBlock := by
         intro kk hkk e
         rcases HNW.out with h | h
         ·rw [h] at e
          have := (HOB.out kk e.symm).2
          omega
         ·have := h kk e.symm
          omega
        have HO5 : Hid (OwnS w5 B v5 (argsF ns f nb (d.args.take (k + 1)) out)) := by rw [HTS.out]; exact hown5
        have HG5 : Hid (w.grownBy w5 (Value.slice oa out.length oc).ownBlock) := gby_trans HGR.out hgr5 (HNW.out.imp id (fun h kk hk => by have := h kk hk; omega))
        have HN5 : Hid (v5.ownBlock = (Value.slice oa out.length oc).ownBlock ∨ ∀ kk, v5.ownBlock = some kk → w.heap.size + 2 ≤ kk) := new_trans (by omega) HNW.out hnw5
        have HP5 : Hid (w5.heap[w.heap.size]? = some (Obj.cells #[.slice (some ⟨b1, o1, none⟩) ns.length cap, .int .i64 root] 54)) := (hgr5.block _ (by omega) (hne _ (.inl rfl))).trans HKP.out
        have HX5 : Hid (w5.heap[w.heap.size + 1]? = _) := (hgr5.block _ hxs (hne _ (.inr rfl))).trans HKX.out
        have HB5 : Hid (RowB w5 v5.ownBlock an2 nb) := HBD2.out.step hgr5 hnw5
        clear hown5 hgr5 hnw5 hne
        go_wp2
        go_roundw
        case rel => exact ⟨k + 1, by omega, by go_num, HO5.out, HG5.out, HN5.out, HP5.out, HX5.out, HB5.out⟩
        case measure => simp [intOf]; omega
      ·have hkl' : decide ((k : Int) < (d.args.length : Int)) = false := by simp; omega
       obtain rfl : k = d.args.length := by omega
       rw [List.take_length] at HOW HNW ⊢
       clear hkl hown hgr hnw hkp hkx hbd hfk hfl HBD2 HFK
       go_wp2
       go_ret
       exact ⟨.slice oa2 (argsF ns f nb d.args out).length oc2, rfl, by rw [HFE.out]; exact HOW.out, HGR.out, HNW.out.imp id (fun h k hk => by have := h k hk; omega)⟩
   ·have hk7b : (d.k == 7) = false := by rw [beq_eq_false_iff_ne]; exact hk7
    have HBF : Hid (bndF d b = b) := if_neg hk7
    rw [HBF.out] at HFE
    clear HBF hk5 hk7 HRS
    go_enter Tryz.func26, Tryz.ntmps26
    go_wp2_with fail
    rw [← HW.out]
    clear HW
    go_loopw [3, 10] (fun v o wr => ∃ (k : Nat), k ≤ d.args.length ∧ o = .int .i64 k ∧ OwnS wr B v (argsF ns f b (d.args.take k) out) ∧ w.grownBy wr (Value.slice oa out.length oc).ownBlock ∧ (v.ownBlock = (Value.slice oa out.length oc).ownBlock ∨ ∀ kk, v.ownBlock = some kk → w.heap.size + 2 ≤ kk) ∧ wr.heap[w.heap.size]? = some (Obj.cells #[.slice (some ⟨b1, o1, none⟩) ns.length cap, .int .i64 root] 54) ∧ wr.heap[w.heap.size + 1]? = some (Obj.cells #[.int .i64 d.k, .int .i64 d.n, .string d.s, .slice an d.names.length cn, .slice aa d.args.length ca] 96) ∧ RowB wr v.ownBlock ab b)
     (fun _ o _ => d.args.length - (intOf o).toNat)
    case atStart => exact ⟨0, by omega, rfl, by simpa [argsF] using HO1.out, gby_below _ HBW.out, .inl rfl, KP.out, KX.out, HBD.out⟩
    case round =>
     clear KP KX HO1 HBD
     obtain ⟨k, hk, rfl, hown, hgr, hnw, hkp, hkx, hbd⟩ := hrel
     obtain ⟨oa2, oc2, rfl⟩ := hown.slice
     have hfk := Fnd.args HIN.out HD.out (Nat.le_of_lt_succ hif) b out HFD.out k
     have HFK : Hid (Fnd ns (argsF ns f b (d.args.take k) out)) := hfk
     have hfl := hfk.len
     have HOW : Hid (OwnS wr B (.slice oa2 (argsF ns f b (d.args.take k) out).length oc2) (argsF ns f b (d.args.take k) out)) := hown
     have HGR : Hid (w.grownBy wr (Value.slice oa out.length oc).ownBlock) := hgr
     have HNW : Hid ((Value.slice oa2 (argsF ns f b (d.args.take k) out).length oc2).ownBlock = (Value.slice oa out.length oc).ownBlock ∨ ∀ kk, (Value.slice oa2 (argsF ns f b (d.args.take k) out).length oc2).ownBlock = some kk → w.heap.size + 2 ≤ kk) := hnw
     have HKP : Hid (wr.heap[w.heap.size]? = some (Obj.cells #[.slice (some ⟨b1, o1, none⟩) ns.length cap, .int .i64 root] 54)) := hkp
     have HKX : Hid (wr.heap[w.heap.size + 1]? = some (Obj.cells #[.int .i64 d.k, .int .i64 d.n, .string d.s, .slice an d.names.length cn, .slice aa d.args.length ca] 96)) := hkx
     have HBD2 : Hid (RowB wr (Value.slice oa2 (argsF ns f b (d.args.take k) out).length oc2).ownBlock ab b) := hbd
     have p0 := cell_blk (j := 0) hkp rfl
     have p1 := cell_blk (j := 1) hkp rfl
     have x4 := cell_blk (j := 4) hkx rfl
     have hxs := (Array.getElem?_eq_some_iff.1 hkx).1
     by_cases hkl : k < d.args.length
     ·obtain ⟨x, hx⟩ : ∃ x, d.args[k]? = some x := ⟨_, List.getElem?_eq_getElem hkl⟩
      obtain ⟨b2, o2, rfl, hb2b, cx0⟩ := HRI.out k x hx
      have cx : wr.cell? ⟨b2, o2 + k, none⟩ = some (.int .i64 x) := (World.cell?_of_block (w := w) (a := ⟨b2, _, none⟩) (hgr.block b2 (by omega) (fun e => by have := (HOB.out b2 e.symm).1; omega))).trans cx0
      obtain ⟨hx0, hx1⟩ := HIN.out i d HD.out x (List.mem_of_getElem? hx)
      obtain ⟨A, rfl⟩ := Int.eq_ofNat_of_zero_le hx0
      have HTS : Hid (argsF ns f b (d.args.take (k + 1)) out = freeF ns f (A : Int) b (argsF ns f b (d.args.take k) out)) := by show _ = _; rw [List.take_add_one, hx]; exact argsF_snoc _ _ _ _ _ _
      generalize argsF ns f b (d.args.take k) out = oo at *
      have HC : Hid (∀ wd, wr.drew = wd ∨ wr = wd → Calls Tryz.prog 26 #[.agg #[.slice (some ⟨b1, o1, none⟩) ns.length cap, .int .i64 root], .int .i64 (A : Int), .slice ab b.length cb, .slice oa2 oo.length oc2] wd fun e w' => L5P B (.slice oa2 oo.length oc2) (freeF ns f (A : Int) b oo) wr e w') := by
       have hrn : RowN wr B (some ⟨b1, o1, none⟩) ns := RowN.gby HR.out hB hgr (fun k hk => (HOB.out k hk).1)
       intro wd hwd
       rcases hwd with rfl | rfl
       ·exact (HIH.out A (by omega) (by omega) ab oa2 cb oc2 b oo wr.drew hrn (Nat.le_trans hB hgr.size) HBD2.out HOW.out (by omega) HFK.out).mono (fun e w' ⟨v', h1, h2, h3, h4⟩ => ⟨v', h1, h2, ⟨h3.os, h3.tape, h3.output, h3.size, h3.block⟩, h4⟩)
       ·exact HIH.out A (by omega) (by omega) ab oa2 cb oc2 b oo wr hrn (Nat.le_trans hB hgr.size) HBD2.out HOW.out (by omega) HFK.out
      clear hx hown hgr hnw hkp hkx hbd hfk cx0
      go_wp2_with fail
      go_region_with (go_at_call 26; refine (HC.out _ (.inl rfl)).mono ?_; rintro e w5 ⟨v5, rfl, hown5, hgr5, hnw5⟩)
      all_goals
       have hne : ∀ kk, kk = w.heap.size ∨ kk = w.heap.size + 1 → some kk ≠ (Value.slice oa2 oo.length oc2).ownBlock := by
        intro kk hkk e
        rcases HNW.out with h | h
        ·rw [h] at e
         have := (HOB.out kk e.symm).2
         omega
        ·have := h kk e.symm
         omega
       have HO5 : Hid (OwnS w5 B v5 (argsF ns f b (d.args.take (k + 1)) out)) := by rw [HTS.out]; exact hown5
       have HG5 : Hid (w.grownBy w5 (Value.slice oa out.length oc).ownBlock) := gby_trans HGR.out hgr5 (HNW.out.imp id (fun h kk hk => by have := h kk hk; omega))
       have HN5 : Hid (v5.ownBlock = (Value.slice oa out.length oc).ownBlock ∨ ∀ kk, v5.ownBlock = some kk → w.heap.size + 2 ≤ kk) := new_trans (by omega) HNW.out hnw5
       have HP5 : Hid (w5.heap[w.heap.size]? = some (Obj.cells #[.slice (some ⟨b1, o1, none⟩) ns.length cap, .int .i64 root] 54)) := (hgr5.block _ (by omega) (hne _ (.inl rfl))).trans HKP.out
       have HX5 : Hid (w5.heap[w.heap.size + 1]? = _) := (hgr5.block _ hxs (hne _ (.inr rfl))).trans HKX.out
       have HB5 : Hid (RowB w5 v5.ownBlock ab b) := HBD2.out.step hgr5 hnw5
       clear hown5 hgr5 hnw5 hne
       go_wp2
       go_roundw
       case rel => exact ⟨k + 1, by omega, by go_num, HO5.out, HG5.out, HN5.out, HP5.out, HX5.out, HB5.out⟩
       case measure => simp [intOf]; omega
     ·have hkl' : decide ((k : Int) < (d.args.length : Int)) = false := by simp; omega
      obtain rfl : k = d.args.length := by omega
      rw [List.take_length] at HOW HNW ⊢
      clear hkl hown hgr hnw hkp hkx hbd hfk hfl HBD2 HFK
      go_wp2
      go_ret
      exact ⟨.slice oa2 (argsF ns f b d.args out).length oc2, rfl, by rw [HFE.out]; exact HOW.out, HGR.out, HNW.out.imp id (fun h k hk => by have := h k hk; omega)⟩
end Go.Proofs.YtamjofdgikifnaaGreat.Fr
