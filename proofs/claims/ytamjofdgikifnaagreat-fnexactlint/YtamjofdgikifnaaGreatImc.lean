/- The program's Compare. -/
import Derived.Test.YtamjofdgikifnaaGreatRsz
import Derived.Test.YtamjofdgikifnaaGreatSlh
set_option linter.unusedVariables false
namespace Go.Proofs.YtamjofdgikifnaaGreat
open Go.ChangeShapes Go.WideShapes Go.ChangeAt Go.RowKit
structure CSt (w : World) (M : Nat) (W : World) : Prop where
 below : Below w.heap.size w W
 map : MapE W M
theorem CSt.alloc {w W : World} {M : Nat} (h : CSt w M W) (o : Obj) : CSt w M (W.alloc o) := ⟨h.below.alloc h.below.size o, h.map.same (map_alloc o h.map.lt)⟩
theorem CSt.drew {w W : World} {M : Nat} (h : CSt w M W) : CSt w M W.drew := ⟨h.below.drew, h.map.same rfl⟩
theorem CSt.call {w W W' : World} {M : Nat} (h : CSt w M W) (hb : Below W.heap.size W W') : CSt w M W' := ⟨h.below.trans (hb.mono h.below.size), h.map.same (hb.block M h.map.lt)⟩
theorem cell_lt {w : World} {g o : Nat} {v : Value} (h : w.cell? ⟨g, o, none⟩ = some v) : g < w.heap.size := by
 apply Classical.byContradiction
 intro hn
 have : w.heap[g]? = none := Array.getElem?_eq_none (by omega)
 simp [World.cell?, this] at h
theorem cell_cst {w' W : World} {M g : Nat} {v : Value} (h : W.cell? ⟨g, 0, none⟩ = some v) (hg : W.grownBy w' (some M)) (hm : MapE W M) : w'.cell? ⟨g, 0, none⟩ = some v := cell_gby hm hg (cell_lt h) h
theorem blk_drew {w : World} {b : Nat} {o : Obj} (h : w.heap[b]? = some o) : w.drew.heap[b]? = some o := h
theorem cell_drew {W : World} {a : Addr} {v : Value} (h : W.cell? a = some v) : W.drew.cell? a = some v := h
theorem cell_new (W : World) (v : Value) (t : TypeId) : (W.alloc (.cells #[v] t)).cell? ⟨W.heap.size, 0, none⟩ = some v := cell_blk (j := 0) (blk_at _ _ _ rfl) rfl
theorem cell_new1 (W : World) (o : Obj) (v : Value) (t : TypeId) : ((W.alloc o).alloc (.cells #[v] t)).cell? ⟨W.heap.size + 1, 0, none⟩ = some v := cell_blk (j := 0) (blk_at _ _ _ (by simp)) rfl
theorem cell_old (W : World) (o : Obj) (v : Value) (t : TypeId) : ((W.alloc (.cells #[v] t)).alloc o).cell? ⟨W.heap.size, 0, none⟩ = some v := cell_blk (j := 0) (blk_past (blk_at _ _ _ rfl)) rfl
def ApC (w : World) (M : Nat) (l : List ByteArray) (W : World) (e : Ending) (w' : World) : Prop := ∃ a k, e = .returned (.slice a l.length k) ∧ RowS w' w'.heap.size a l ∧ CSt w M w' ∧ W.grownBy w' (some M) ∧ Hid (∀ g v, W.cell? ⟨g, 0, none⟩ = some v → w'.cell? ⟨g, 0, none⟩ = some v)
theorem below_gby2 {w w0 w1 : World} {m : Nat} (h : Below w.heap.size w w0) (hm : w.heap.size ≤ m) (g : w0.grownBy w1 (some m)) : Below w.heap.size w w1 := below_gby h hm g
theorem ApS.to {w W w' : World} {M : Nat} {l : List ByteArray} {e : Ending} (hM : w.heap.size ≤ M) (hs : CSt w M W) (h : ApS M l W e w') : ApC w M l W e w' := by
 obtain ⟨v, rfl, ho, hm, hg⟩ := h
 obtain ⟨a, k, rfl, _⟩ := ho.slice
 exact ⟨a, k, rfl, ho.rowS, ⟨below_gby2 hs.below hM hg, hm⟩, hg, fun g v h => cell_cst h hg hs.map⟩
theorem apC_any {w : World} {M n nL : Nat} {L row : List ByteArray} {a b : Option Addr} {ca cb : Nat} (hM : w.heap.size ≤ M) (e1 : row.length = n) (e2 : L.length = nL) (hn : n ≤ 1048576) (hnL : nL ≤ 1048576) (hrs : ∀ x ∈ row, smS x) (hsl : ∀ x ∈ L, smS x) (hrow : RowS w w.heap.size a row) (hl : RowS w w.heap.size b L) :
  ∀ W g, CSt w M W → W.cell? ⟨g, 0, none⟩ = some (.slice b nL cb) → Calls Tryz.prog 38 #[.map (some M), .slice a n ca, .slice (some ⟨g, 0, none⟩) 1 1] W fun e w' => ApC w M (apR L row) W e w' := fun W g hs hc =>
 (apS_one M L row a b ca cb g W e1 e2 hs.map hnL hsl (cell_lt hc) hc ((hl.below hs.below).mono hs.below.size) hn hrs ((hrow.below hs.below).mono hs.below.size)).mono fun _ _ h => h.to hM hs
theorem rsC_any {w : World} {M : Nat} {l k : List Typ} {a b : Option Addr} {ca cb : Nat} (hM : w.heap.size ≤ M) (hn : l.length ≤ 1048576) (hk : k.length ≤ 1048576) (hsl : ∀ x ∈ l, Typ.small x) (hsk : ∀ x ∈ k, Typ.small x)
  (hl : ∀ w2, Below w.heap.size w w2 → rgT.Row w2 (fun b => b < w2.heap.size) a l) (hkr : ∀ w2, Below w.heap.size w w2 → rgT.Row w2 (fun b => b < w2.heap.size) b k) :
  ∀ W, CSt w M W → Calls Tryz.prog 48 #[.map (some M), .slice a l.length ca, .slice b k.length cb] W fun e w' => ApC w M (rszL l k) W e w' := fun W hs =>
 (resized_any M a b l k ca cb W hs.map hn hk hsl hsk (hl W hs.below) (hkr W hs.below)).mono fun _ _ h => h.to hM hs
def MkC (w : World) (M n : Nat) (l : List ByteArray) (W : World) (e : Ending) (w' : World) : Prop := ∃ a k, e = .returned (.slice a n k) ∧ l.length = n ∧ OwnS w' (M + 1) (.slice a n k) l ∧ CSt w M w' ∧ W.grownBy w' (some M) ∧ Hid (∀ g v, W.cell? ⟨g, 0, none⟩ = some v → w'.cell? ⟨g, 0, none⟩ = some v)
theorem mkC_any {w : World} {M : Nat} {l : List ByteArray} (t : ByteArray) (ht : t.size ≤ 16) (hn : l.length ≤ 1048576) (hs : ∀ x ∈ l, smS x) :
  ∀ W a k, CSt w M W → RowS W W.heap.size a l → Calls Tryz.prog 47 #[.string t, .slice a l.length k] W fun e w' => MkC w M l.length (l.map (mkd t)) W e w' := fun W a k hc hr =>
 (marked_any t ht a l k W hn hs hr).mono fun e w' h => by
  obtain ⟨a', k', rfl, _, ho, hb⟩ := h
  rw [List.length_map] at ho ⊢
  exact ⟨a', k', rfl, by rw [List.length_map], ho.weak hc.map.lt, hc.call hb, gby_of hb, fun g v h => cell_cst h (gby_of hb) hc.map⟩
theorem own_cst {w' W : World} {M : Nat} {v : Value} {l : List ByteArray} (h : OwnS W (M + 1) v l) (hg : W.grownBy w' (some M)) : OwnS w' (M + 1) v l := own_gby h hg (Nat.lt_succ_self M)
theorem own_at {W : World} {B n k : Nat} {a : Option Addr} {l : List ByteArray} (e : l.length = n) (h : OwnS W B (.slice a n k) l) : (⟨a, n, k, l.map Value.string⟩ : Rw).At 1 W := by
 subst e
 exact rwS k h.rowS
theorem OwnS.alloc' {W : World} {B : Nat} {v : Value} {l : List ByteArray} (h : OwnS W B v l) (o : Obj) : OwnS (W.alloc o) B v l := World.ownsRow.alloc h o
theorem RowS.alloc' {W : World} {a : Option Addr} {l : List ByteArray} (h : RowS W W.heap.size a l) (o : Obj) : RowS (W.alloc o) (W.alloc o).heap.size a l := (h.below ((Below.refl _ _).alloc (Nat.le_refl _) o)).mono (by simp)
theorem cat3_any {w : World} {M n1 n2 n3 : Nat} {l1 l2 l3 : List ByteArray} (h1 : n1 ≤ 1048576) (h2 : n2 ≤ 1048576) (h3 : n3 ≤ 1048576) (e1 : l1.length = n1) (e2 : l2.length = n2) (e3 : l3.length = n3) :
  ∀ W g p1 k1 p2 k2 p3 k3, CSt w M W → OwnS W (M + 1) (.slice p1 n1 k1) l1 → OwnS W (M + 1) (.slice p2 n2 k2) l2 → OwnS W (M + 1) (.slice p3 n3 k3) l3 → W.cell? ⟨g, 0, none⟩ = some (.slice p1 n1 k1) → W.cell? ⟨g, 1, none⟩ = some (.slice p2 n2 k2) → W.cell? ⟨g, 2, none⟩ = some (.slice p3 n3 k3) →
  Calls Tryz.prog 46 #[.slice (some ⟨g, 0, none⟩) 3 3] W fun e w' => ∃ v, e = .returned v ∧ OwnS w' w.heap.size v (l1 ++ (l2 ++ l3)) ∧ CSt w M w' := fun W g p1 k1 p2 k2 p3 k3 hs o1 o2 o3 q1 q2 q3 => by
 have := catCts_any [⟨p1, n1, k1, l1.map Value.string⟩, ⟨p2, n2, k2, l2.map Value.string⟩, ⟨p3, n3, k3, l3.map Value.string⟩] g W (by simp) (by simp only [sumN]; omega) (cell_lt q1) (fun i r hi => by
  match i, hi with
  | 0, hi => obtain rfl := Option.some.inj hi; exact ⟨q1, own_at e1 o1⟩
  | 1, hi => obtain rfl := Option.some.inj hi; exact ⟨q2, own_at e2 o2⟩
  | 2, hi => obtain rfl := Option.some.inj hi; exact ⟨q3, own_at e3 o3⟩
  | i + 3, hi => simp at hi)
 refine Calls.mono this fun e w' h => ?_
 obtain ⟨v, rfl, ho, hb⟩ := h
 have ho' : OwnS w' W.heap.size v (l1 ++ (l2 ++ l3)) := by
  show World.ownsRow _ _ _ _ _ _ _
  have e4 : sumN [⟨p1, n1, k1, l1.map Value.string⟩, ⟨p2, n2, k2, l2.map Value.string⟩, ⟨p3, n3, k3, l3.map Value.string⟩] = (l1 ++ (l2 ++ l3)).length := by simp [sumN, e1, e2, e3]
  have e5 : catU [⟨p1, n1, k1, l1.map Value.string⟩, ⟨p2, n2, k2, l2.map Value.string⟩, ⟨p3, n3, k3, l3.map Value.string⟩] = (l1 ++ (l2 ++ l3)).map Value.string := by simp [catU]
  rw [← e4, ← e5]
  exact ho
 exact ⟨v, rfl, ho'.weak hs.below.size, hs.call hb⟩
def TellP (l : List ByteArray) (w : World) (e : Ending) (w' : World) : Prop := ∃ v, e = .returned v ∧ OwnS w' w.heap.size v l ∧ Below w.heap.size w w'
def pls : ByteArray := ⟨#[43]⟩
def mns : ByteArray := ⟨#[45]⟩
def tld : ByteArray := ⟨#[126]⟩
noncomputable def cmpY (x y : Srx) : List ByteArray := (apR x.exps y.exps).map (mkd pls) ++ ((apR y.exps x.exps).map (mkd mns) ++ (rszL x.types y.types).map (mkd tld))
noncomputable def cmpL (x y : Srx) : List ByteArray := if x.ok && y.ok then cmpY x y else []
theorem make65 (W : World) : (Instr.makeMap 65 none).run Tryz.prog W = .ok (.map (some W.heap.size)) (W.alloc (.map #[] 0)) := by
 rfl
set_option maxRecDepth 100000 in
set_option maxHeartbeats 1000000 in
theorem implCmp_any (x y : Srx) (a1 a2 a3 a4 a5 b1 b2 b3 b4 b5 : Option Addr) (c1 c2 c3 c4 c5 d1 d2 d3 d4 d5 : Nat) (w : World) (hs : x.small) (ht : y.small) (hr : SrxRows w (fun b => b < w.heap.size) a1 a2 a3 a4 a5 c1 c2 c3 c4 c5 x) (hq : SrxRows w (fun b => b < w.heap.size) b1 b2 b3 b4 b5 d1 d2 d3 d4 d5 y) :
  Calls Tryz.prog 19 #[.agg #[.string x.name, .slice a1 x.imps.length c1, .slice a2 x.exps.length c2, .slice a3 x.types.length c3, .slice a4 x.defs.length c4, .slice a5 x.convs.length c5], .agg #[.string y.name, .slice b1 y.imps.length d1, .slice b2 y.exps.length d2, .slice b3 y.types.length d3, .slice b4 y.defs.length d4, .slice b5 y.convs.length d5]] w fun e w' => TellP (cmpL x y) w e w' := by
 have S : Hid (SrxAt x a1 a2 a3 a4 a5 c1 c2 c3 c4 c5 w) := srxAt x a1 a2 a3 a4 a5 c1 c2 c3 c4 c5 w hs hr
 have T : Hid (SrxAt y b1 b2 b3 b4 b5 d1 d2 d3 d4 d5 w) := srxAt y b1 b2 b3 b4 b5 d1 d2 d3 d4 d5 w ht hq
 have HC1 : Hid (∀ w2, Below w.heap.size w w2 → Calls Tryz.prog 31 #[.agg #[.string x.name, .slice a1 x.imps.length c1, .slice a2 x.exps.length c2, .slice a3 x.types.length c3, .slice a4 x.defs.length c4, .slice a5 x.convs.length c5]] w2 fun e w' => Ans w2 (.bool x.ok) e w') := fun w2 h2 => implSrc_any x a1 a2 a3 a4 a5 c1 c2 c3 c4 c5 w2 hs (SrxRows.keep hr fun b h => ⟨Nat.lt_of_lt_of_le h h2.size, h2.block b h⟩)
 have HC2 : Hid (∀ w2, Below w.heap.size w w2 → Calls Tryz.prog 31 #[.agg #[.string y.name, .slice b1 y.imps.length d1, .slice b2 y.exps.length d2, .slice b3 y.types.length d3, .slice b4 y.defs.length d4, .slice b5 y.convs.length d5]] w2 fun e w' => Ans w2 (.bool y.ok) e w') := fun w2 h2 => implSrc_any y b1 b2 b3 b4 b5 d1 d2 d3 d4 d5 w2 ht (SrxRows.keep hq fun b h => ⟨Nat.lt_of_lt_of_le h h2.size, h2.block b h⟩)
 clear hs ht hr hq
 have HL : Hid (cmpL x y = if x.ok && y.ok then cmpY x y else []) := rfl
 obtain ⟨w0, hw0⟩ : ∃ w0, w0 = (w.alloc (Obj.cells #[.string x.name, .slice a1 x.imps.length c1, .slice a2 x.exps.length c2, .slice a3 x.types.length c3, .slice a4 x.defs.length c4, .slice a5 x.convs.length c5] 34)).alloc (Obj.cells #[.string y.name, .slice b1 y.imps.length d1, .slice b2 y.exps.length d2, .slice b3 y.types.length d3, .slice b4 y.defs.length d4, .slice b5 y.convs.length d5] 34) := ⟨_, rfl⟩
 have HW : Hid (w0 = _) := hw0
 have hb0 : Below w.heap.size w w0 := by rw [hw0]; exact ((Below.refl _ _).alloc (Nat.le_refl _) _).alloc (by simp) _
 have k0 : w0.heap[w.heap.size]? = some (Obj.cells #[.string x.name, .slice a1 x.imps.length c1, .slice a2 x.exps.length c2, .slice a3 x.types.length c3, .slice a4 x.defs.length c4, .slice a5 x.convs.length c5] 34) := by rw [hw0]; exact blk_past (blk_at _ _ _ rfl)
 have k1 : w0.heap[w.heap.size + 1]? = some (Obj.cells #[.string y.name, .slice b1 y.imps.length d1, .slice b2 y.exps.length d2, .slice b3 y.types.length d3, .slice b4 y.defs.length d4, .slice b5 y.convs.length d5] 34) := by rw [hw0]; exact blk_at _ _ _ (by simp)
 have e0 := cell_blk (j := 0) k0 rfl
 have e1 := cell_blk (j := 1) k0 rfl
 have e2 := cell_blk (j := 2) k0 rfl
 have e3 := cell_blk (j := 3) k0 rfl
 have e4 := cell_blk (j := 4) k0 rfl
 have e5 := cell_blk (j := 5) k0 rfl
 rw [hw0] at e0 e1 e2 e3 e4 e5
 have K0 : Hid _ := k0
 have K1 : Hid _ := k1
 have HB0 : Hid (Below w.heap.size w w0) := hb0
 clear hw0 k0 k1 hb0
 go_enter Tryz.func19, Tryz.ntmps19
 go_wp2_with fail
 rw [← HW.out]
 refine (HC1.out _ HB0.out).mono ?_
 rintro e w1 ⟨rfl, hb1⟩
 have HB1 : Hid (Below w.heap.size w w1) := HB0.out.trans (hb1.mono HB0.out.size)
 have hs0 := HB0.out.size
 have K1' : Hid _ := blk_keep K1.out hb1 (Array.getElem?_eq_some_iff.1 K1.out).1
 have K0' : Hid _ := blk_keep K0.out hb1 (Array.getElem?_eq_some_iff.1 K0.out).1
 have f0 := cell_blk (j := 0) K1'.out rfl
 have f1 := cell_blk (j := 1) K1'.out rfl
 have f2 := cell_blk (j := 2) K1'.out rfl
 have f3 := cell_blk (j := 3) K1'.out rfl
 have f4 := cell_blk (j := 4) K1'.out rfl
 have f5 := cell_blk (j := 5) K1'.out rfl
 clear hb1 e0 e1 e2 e3 e4 e5 HW K0 K1
 cases hx : x.ok
 ·have HQ : Hid (cmpL x y = []) := by show _ = _; rw [HL.out, hx]; rfl
  clear HC2 HL hx
  go_wp2
  go_ret
  rw [HQ.out]
  exact ⟨.slice none 0 0, rfl, ⟨rfl, .inl ⟨rfl, rfl⟩⟩, HB1.out⟩
 ·go_wp2_with fail
  refine (HC2.out _ HB1.out).mono ?_
  rintro e w2 ⟨rfl, hb2⟩
  have HB2 : Hid (Below w.heap.size w w2) := HB1.out.trans (hb2.mono HB1.out.size)
  have k0 := blk_keep K0'.out hb2 (Array.getElem?_eq_some_iff.1 K0'.out).1
  have k1 := blk_keep K1'.out hb2 (Array.getElem?_eq_some_iff.1 K1'.out).1
  have K2 : Hid _ := k0
  have K3 : Hid _ := k1
  clear k0 k1 hb2 K0' K1' f0 f1 f2 f3 f4 f5
  cases hy : y.ok
  ·have HQ : Hid (cmpL x y = []) := by show _ = _; rw [HL.out, hx, hy]; rfl
   clear HL hx hy
   go_wp2
   go_ret
   rw [HQ.out]
   exact ⟨.slice none 0 0, rfl, ⟨rfl, .inl ⟨rfl, rfl⟩⟩, HB2.out⟩
  ·have HQ : Hid (cmpL x y = cmpY x y) := by show _ = _; rw [HL.out, hx, hy]; rfl
   clear HL hx hy HC1 HC2
   have ny := T.out.exps w2 HB2.out
   have nx := S.out.exps w2 HB2.out
   have H1 : Hid (∀ W g, CSt w2 w2.heap.size W → W.cell? ⟨g, 0, none⟩ = some (.slice a2 x.exps.length c2) → Calls Tryz.prog 38 #[.map (some w2.heap.size), .slice b2 y.exps.length d2, .slice (some ⟨g, 0, none⟩) 1 1] W fun e w' => ApC w2 w2.heap.size (apR x.exps y.exps) W e w') := apC_any (Nat.le_refl _) rfl rfl T.out.l2 S.out.l2 T.out.sexps S.out.sexps ny.2.2 nx.2.2
   have H3 : Hid (∀ W g, CSt w2 w2.heap.size W → W.cell? ⟨g, 0, none⟩ = some (.slice b2 y.exps.length d2) → Calls Tryz.prog 38 #[.map (some w2.heap.size), .slice a2 x.exps.length c2, .slice (some ⟨g, 0, none⟩) 1 1] W fun e w' => ApC w2 w2.heap.size (apR y.exps x.exps) W e w') := apC_any (Nat.le_refl _) rfl rfl S.out.l2 T.out.l2 S.out.sexps T.out.sexps nx.2.2 ny.2.2
   have n1 : (apR x.exps y.exps).length ≤ 1048576 := Nat.le_trans (apR_len _ _) T.out.l2
   have n2 : (apR y.exps x.exps).length ≤ 1048576 := Nat.le_trans (apR_len _ _) S.out.l2
   have n3 : (rszL x.types y.types).length ≤ 1048576 := by
    unfold rszL
    refine Nat.le_trans (apR_len _ _) ?_
    rw [List.length_map]
    exact Nat.le_trans (apR_len _ _) S.out.l3
   have s3 : ∀ t ∈ rszL x.types y.types, smS t := fun t ht => typ_names S.out.stypes t (by
    unfold rszL at ht
    obtain ⟨u, hu, rfl⟩ := List.mem_map.1 (apR_mem ht)
    exact List.mem_map.2 ⟨u, apR_mem hu, rfl⟩)
   have H2 := mkC_any (w := w2) (M := w2.heap.size) pls (by decide) n1 (fun t ht => T.out.sexps t (apR_mem ht))
   have H4 := mkC_any (w := w2) (M := w2.heap.size) mns (by decide) n2 (fun t ht => S.out.sexps t (apR_mem ht))
   have H6 := mkC_any (w := w2) (M := w2.heap.size) tld (by decide) n3 s3
   have H5 : Hid (∀ W, CSt w2 w2.heap.size W → Calls Tryz.prog 48 #[.map (some w2.heap.size), .slice a3 x.types.length c3, .slice b3 y.types.length d3] W fun e w' => ApC w2 w2.heap.size (rszL x.types y.types) W e w') := rsC_any (Nat.le_refl _) S.out.l3 T.out.l3 S.out.stypes T.out.stypes (fun w3 hb => S.out.types w3 (HB2.out.trans (hb.mono HB2.out.size))) (fun w3 hb => T.out.types w3 (HB2.out.trans (hb.mono HB2.out.size)))
   unfold pls at H2
   unfold mns at H4
   unfold tld at H6
   replace H2 : Hid _ := H2
   replace H4 : Hid _ := H4
   replace H6 : Hid _ := H6
   have H7 : Hid (∀ (l1 l2 l3 : List ByteArray), l1.length = (apR x.exps y.exps).length → l2.length = (apR y.exps x.exps).length → l3.length = (rszL x.types y.types).length → ∀ W g p1 k1 p2 k2 p3 k3, CSt w2 w2.heap.size W → OwnS W (w2.heap.size + 1) (.slice p1 (apR x.exps y.exps).length k1) l1 → OwnS W (w2.heap.size + 1) (.slice p2 (apR y.exps x.exps).length k2) l2 → OwnS W (w2.heap.size + 1) (.slice p3 (rszL x.types y.types).length k3) l3 → W.cell? ⟨g, 0, none⟩ = some (.slice p1 (apR x.exps y.exps).length k1) → W.cell? ⟨g, 1, none⟩ = some (.slice p2 (apR y.exps x.exps).length k2) → W.cell? ⟨g, 2, none⟩ = some (.slice p3 (rszL x.types y.types).length k3) →
    Calls Tryz.prog 46 #[.slice (some ⟨g, 0, none⟩) 3 3] W fun e w' => ∃ v, e = .returned v ∧ OwnS w' w2.heap.size v (l1 ++ (l2 ++ l3)) ∧ CSt w2 w2.heap.size w') := fun l1 l2 l3 q1 q2 q3 => cat3_any n1 n2 n3 q1 q2 q3
   have HX : Hid (∀ W, CSt w2 w2.heap.size W → W.cell? ⟨w.heap.size, 2, none⟩ = some (.slice a2 x.exps.length c2) ∧ W.cell? ⟨w.heap.size, 3, none⟩ = some (.slice a3 x.types.length c3) ∧ W.cell? ⟨w.heap.size + 1, 2, none⟩ = some (.slice b2 y.exps.length d2) ∧ W.cell? ⟨w.heap.size + 1, 3, none⟩ = some (.slice b3 y.types.length d3)) := fun W h => by
    have g1 := blk_keep K2.out h.below (Array.getElem?_eq_some_iff.1 K2.out).1
    have g2 := blk_keep K3.out h.below (Array.getElem?_eq_some_iff.1 K3.out).1
    exact ⟨cell_blk (j := 2) g1 rfl, cell_blk (j := 3) g1 rfl, cell_blk (j := 2) g2 rfl, cell_blk (j := 3) g2 rfl⟩
   obtain ⟨W0, hW0⟩ : ∃ W0, W0 = w2.alloc (Obj.map #[] 0) := ⟨_, rfl⟩
   have hst : CSt w2 w2.heap.size W0 := by rw [hW0]; exact ⟨(Below.refl _ _).alloc (Nat.le_refl _) _, MapE.made w2⟩
   clear nx ny n1 n2 n3 s3 S T K2 K3
   have HW0 : Hid (W0 = w2.alloc (Obj.map #[] 0)) := hW0
   clear hW0
   have hmk := make65
   have z2 := (HX.out _ hst).1
   go_wp2_with fail
   rw [← HW0.out]
   go_region_held3 (fun W => W.cell? ⟨w.heap.size, 2, none⟩ = some (.slice a2 x.exps.length c2) ∧ W.cell? ⟨w.heap.size, 3, none⟩ = some (.slice a3 x.types.length c3) ∧ W.cell? ⟨w.heap.size + 1, 2, none⟩ = some (.slice b2 y.exps.length d2) ∧ W.cell? ⟨w.heap.size + 1, 3, none⟩ = some (.slice b3 y.types.length d3))
    (first | exact HX.out _ (by assumption) | exact HX.out _ hst | exact HX.out _ hst.drew | exact HX.out _ (CSt.alloc (by assumption) _) | exact HX.out _ (CSt.alloc hst.drew _) | exact HX.out _ (CSt.alloc (CSt.alloc hst.drew _) _))
    (first
    | (go_at_call_of 38 (Value.slice b2 y.exps.length d2); refine Calls.mono (H1.out _ _ ?_ ?_) ?_; (focus (repeat (first | exact hst | exact hsa | exact hsb | with_reducible refine CSt.alloc ?_ _ | with_reducible refine CSt.drew ?_))); (focus (first | exact cell_new _ _ _ | exact cell_old _ _ _ _ | exact cell_new1 _ _ _ _ | exact cell_drew (cell_new _ _ _) | exact cell_drew (cell_old _ _ _ _) | exact cell_drew (cell_new1 _ _ _ _))); rintro e wa ⟨pa, ka, rfl, hra, hsa, hga, hka⟩; first | have hca := hka.out _ (Value.slice b2 y.exps.length d2) (cell_new1 _ _ _ _) | have hca := hka.out _ (Value.slice b2 y.exps.length d2) (cell_new _ _ _) | have hca := hka.out _ (Value.slice b2 y.exps.length d2) (cell_old _ _ _ _) | have hca := hka.out _ (Value.slice b2 y.exps.length d2) (cell_drew (cell_new1 _ _ _ _)) | have hca := hka.out _ (Value.slice b2 y.exps.length d2) (cell_drew (cell_new _ _ _)) | have hca := hka.out _ (Value.slice b2 y.exps.length d2) (cell_drew (cell_old _ _ _ _)) | skip)
    | (go_at_call_of 47 (Value.string ⟨#[43]⟩); refine Calls.mono (H2.out _ _ _ ?_ ?_) ?_; (focus (repeat (first | exact hst | exact hsa | exact hsb | with_reducible refine CSt.alloc ?_ _ | with_reducible refine CSt.drew ?_))); (focus (first | exact hra | exact hra.alloc' _)); rintro e wb ⟨pb, kb, rfl, heb, hob, hsb, hgb, hkb⟩; first | have hcb := hkb.out _ (Value.slice b2 y.exps.length d2) hca | have hcb := hkb.out _ (Value.slice b2 y.exps.length d2) (cell_new _ _ _) | have hcb := hkb.out _ (Value.slice b2 y.exps.length d2) (cell_drew (cell_new _ _ _)) | skip)
    | (go_at_call_of 38 (Value.slice a2 x.exps.length c2); refine Calls.mono (H3.out _ _ ?_ ?_) ?_; (focus (repeat (first | exact hst | exact hsa | exact hsb | with_reducible refine CSt.alloc ?_ _ | with_reducible refine CSt.drew ?_))); (focus (first | exact hcb | exact cell_new _ _ _ | exact cell_drew (cell_new _ _ _))); rintro e wc ⟨pc, kc, rfl, hrc, hsc, hgc, _⟩; first | have hoc := own_cst hob hgc | have hoc := own_cst (hob.alloc' _) hgc)
    | (go_at_call_of 47 (Value.string ⟨#[45]⟩); refine (H4.out _ _ _ hsc hrc).mono ?_; rintro e wd ⟨pd, kd, rfl, hed, hod, hsd, hgd, _⟩; have hod1 := own_cst hoc hgd)
    | (go_at_call 48; refine (H5.out _ hsd).mono ?_; rintro e we ⟨pe, ke, rfl, hre, hse, hge, _⟩; have hoe1 := own_cst hod1 hge; have hoe2 := own_cst hod hge)
    | (go_at_call_of 47 (Value.string ⟨#[126]⟩); refine (H6.out _ _ _ hse hre).mono ?_; rintro e wf ⟨pf, kf, rfl, hef, hof, hsf, hgf, _⟩; have hof1 := own_cst hoe1 hgf; have hof2 := own_cst hoe2 hgf)
    | (go_at_call 46; refine (H7.out _ _ _ heb hed hef _ _ _ _ _ _ _ _ (hsf.alloc _) (hof1.alloc' _) (hof2.alloc' _) (hof.alloc' _) (cell_blk (j := 0) (blk_at _ _ _ rfl) rfl) (cell_blk (j := 1) (blk_at _ _ _ rfl) rfl) (cell_blk (j := 2) (blk_at _ _ _ rfl) rfl)).mono ?_; rintro e wg ⟨vg, rfl, hog, hbg⟩))
   all_goals
    have HO : Hid (OwnS wg w.heap.size vg (cmpY x y)) := hog.weak HB2.out.size
    have HBG : Hid (Below w.heap.size w wg) := HB2.out.trans (hbg.below.mono HB2.out.size)
    clear H1 H2 H3 H4 H5 H6 H7 HX hra hsa hga hka hob hsb hgb hkb hrc hsc hgc hod hsd hgd hre hse hge hof hsf hgf hog hbg hoc hod1 hoe1 hoe2 hof1 hof2 z2 hst hmk heb hed hef
    go_wp2
    go_ret
    rw [HQ.out]
    exact ⟨_, rfl, HO.out, HBG.out⟩
end Go.Proofs.YtamjofdgikifnaaGreat
