/- The model's text of a value, pairs too. -/
import Derived.Test.YtkbpnjigoipgeaaDoorTxb
set_option linter.unusedVariables false
namespace Go.Proofs.YtkbpnjigoipgeaaDoor
open Go.ChangeShapes Go.WideShapes Go.ChangeAt Go.RowKit
def Dn (n : Nat) : Nat := 2197152 + 8 * n
theorem PutPost.mono {B : Nat} {ov : Value} {l t : List UInt8} {D D' : Nat} {w : World} {e : Ending} {w' : World} (h : PutPost B ov l t D w e w') (hD : D ≤ D') : PutPost B ov l t D' w e w' := by
  obtain ⟨ov', l', h1, h2, h3, h4, h5, h6⟩ := h
  exact ⟨ov', l', h1, h2, h3, h4, h5, Nat.le_trans h6 (by omega)⟩
/-- How far a rest may still go. -/
def rm (wr : World) (R : Nat) : Nat := match wr.cell? ⟨R, 0, none⟩, wr.cell? ⟨R, 1, none⟩ with
  | some (.int _ k), some (.int _ n) => if k = 5 then n.toNat + 1 else 0
  | _, _ => 0
/-- The two values of a pair's cell, in memory. -/
theorem pair_cells {w : World} {B : Nat} {a : Option Addr} {h : List Cel} (hr : RowC w B a h) {m : Nat} {c : Cel} {x y : Val} (hc : h[m]? = some c) (hcv : c.vals = [x, y]) :
    ∃ b o b2 o2 cv, a = some ⟨b, o, none⟩ ∧ b < B ∧ b2 < B ∧ w.cell? ⟨b, o + m * 6 + 5, none⟩ = some (.slice (some ⟨b2, o2, none⟩) 2 cv) ∧ 2 ≤ cv ∧ ValAt w b2 o2 x ∧ ValAt w b2 (o2 + 3) y := by
  obtain ⟨b, o, rfl, hb, an, cn, av, cv, c0, c1, c2, c3, c4, c5, hrs, hrv, l1, l2⟩ := hr m c hc
  have e0 : c.vals[0]? = some x := by rw [hcv]; rfl
  have e1 : c.vals[1]? = some y := by rw [hcv]; rfl
  obtain ⟨b2, o2, rfl, hb2, hx⟩ := hrv 0 x e0
  obtain ⟨b3, o3, he, hb3, hy⟩ := hrv 1 y e1
  injection he with he
  injection he with h1 h2
  subst h1 h2
  have hl : c.vals.length = 2 := by rw [hcv]; rfl
  rw [hl] at c5 l2
  exact ⟨b, o, b2, o2, cv, rfl, hb, hb2, c5, l2, by simpa using hx, by simpa using hy⟩
theorem Tel.more_inv {h : List Cel} {v : Val} {t : List UInt8} {c : Cel} {x y : Val} (ht : Tel h true v t) (hk : v.k = 5) (hc : h[v.n.toNat]? = some c) (hcv : c.vals = [x, y]) : ∃ tx ty, t = 32 :: (tx ++ ty) ∧ Tel h false x tx ∧ Tel h true y ty := by
  cases ht with
  | more _ c' x' y' tx' ty' _ hc' hx' hy' h3 h4 =>
    obtain rfl := Option.some.inj (hc.symm.trans hc')
    rw [hcv] at hx' hy'
    obtain rfl : x = x' := by simpa using hx'
    obtain rfl : y = y' := by simpa using hy'
    exact ⟨_, _, rfl, h3, h4⟩
  | last _ hk' => rw [hk] at hk'; exact absurd hk' (by decide)
  | dot _ hk' => exact absurd hk hk'
theorem ok_mono {h : List Cel} {m n : Nat} {v : Val} (hv : v.ok (h.take m) = true) (hmn : m ≤ n) : v.ok (h.take n) = true := by
  rw [Val.ok_take, Bool.and_eq_true] at *
  refine ⟨hv.1, ?_⟩
  have := hv.2
  simp only [Bool.not_eq_true', Bool.and_eq_false_iff, decide_eq_false_iff_not] at *
  rcases this with h1 | h1
  · exact .inl h1
  · exact .inr (by omega)
theorem OwnB.set {W : World} {B : Nat} {v : Value} {l : List UInt8} (h : OwnB W B v l) {R : Nat} (hne : some R ≠ v.ownBlock) (j : Nat) (x : Value) : OwnB (W.setCell ⟨R, j, none⟩ x) B v l := by
  unfold OwnB at *
  refine ⟨h.1, h.2.imp id ?_⟩
  rintro ⟨g, cap, cur, rfl, hbg, hg, rest⟩
  refine ⟨g, cap, cur, rfl, hbg, (heap_setCell_other _ _ _ _ ?_).trans hg, rest⟩
  intro e
  have e' : g = R := e
  exact hne (by rw [← e']; rfl)
theorem gbt_set {w W : World} {r : Option Nat} (h : w.grownBy W r) {R : Nat} (hR : w.heap.size ≤ R) (j : Nat) (x : Value) : w.grownBy (W.setCell ⟨R, j, none⟩ x) r := by
  refine gbt_trans h (r1 := some R) ⟨rfl, rfl, rfl, by simp, fun i hi hne => heap_setCell_other _ _ _ _ (fun e => hne (by have e' : i = R := e; rw [e']))⟩ (.inr fun k hk => by have := Option.some.inj hk; omega)
theorem rm_at {W : World} {R : Nat} {y : Val} (h : W.heap[R]? = some (Obj.cells #[.int .i64 y.k, .int .i64 y.n, .string y.s] 26)) : rm W R = if y.k = 5 then y.n.toNat + 1 else 0 := by
  unfold rm
  rw [cell_blk (j := 0) h rfl, cell_blk (j := 1) h rfl]
  rfl
set_option maxRecDepth 100000 in
set_option maxHeartbeats 4000000 in
theorem l6Put_pair (a : Option Addr) (h : List Cel) (ca : Nat) (B : Nat) (hh : h.length ≤ 1048576) (hp : HeapP h) (hsm : ∀ c ∈ h, c.small) (n : Nat)
    (ih : ∀ (v : Val) (t : List UInt8) (ov : Value) (l : List UInt8) (w : World), v.ok (h.take n) = true → v.small → Tel h false v t → RowC w B a h → B ≤ w.heap.size → OwnB w B ov l → l.length ≤ 4000000 →
      Calls Tryd.prog 35 #[.slice a h.length ca, .agg #[.int .i64 v.k, .int .i64 v.n, .string v.s], ov] w fun e w' => PutPost B ov l t (Dn n) w e w')
    (s : ByteArray) (c : Cel) (x y : Val) (tx ty : List UInt8) (hc : h[n]? = some c) (hcv : c.vals = [x, y]) (hx : x.ok (h.take n) = true) (hy : y.ok (h.take n) = true) (htx : Tel h false x tx) (hty : Tel h true y ty)
    (ov : Value) (l : List UInt8) (w : World) (hr : RowC w B a h) (hB : B ≤ w.heap.size) (ho : OwnB w B ov l) (hl : l.length < 100000) :
    Calls Tryd.prog 35 #[.slice a h.length ca, .agg #[.int .i64 5, .int .i64 n, .string s], ov] w fun e w' => PutPost B ov l (40 :: (tx ++ (ty ++ [41]))) (Dn (n + 1)) w e w' := by
  have hn : n < h.length := (List.getElem?_eq_some_iff.1 hc).1
  have hn3 : n < 300 := by have := hp.1; omega
  have hcs := hsm c (List.mem_of_getElem? hc)
  have hxs : x.small := hcs.2.2.2.2.2.2.2 x (by rw [hcv]; simp)
  have hys : y.small := hcs.2.2.2.2.2.2.2 y (by rw [hcv]; simp)
  obtain ⟨ao, co, rfl, hco⟩ := ho.slice
  obtain ⟨b, o, b2, o2, cv, rfl, hb, hb2, z5, hcv2, hvx, hvy⟩ := pair_cells hr hc hcv
  have IH : Hid (∀ (v : Val) (t : List UInt8) (ov : Value) (l : List UInt8) (w : World), v.ok (h.take n) = true → v.small → Tel h false v t → RowC w B (some ⟨b, o, none⟩) h → B ≤ w.heap.size → OwnB w B ov l → l.length ≤ 4000000 →
      Calls Tryd.prog 35 #[.slice (some ⟨b, o, none⟩) h.length ca, .agg #[.int .i64 v.k, .int .i64 v.n, .string v.s], ov] w fun e w' => PutPost B ov l t (Dn n) w e w') := ih
  have HR : Hid (RowC w B (some ⟨b, o, none⟩) h) := hr
  have HO : Hid (OwnB w B (.slice ao l.length co) l) := ho
  have HP : Hid (HeapP h) := hp
  have HSM : Hid (∀ c ∈ h, c.small) := hsm
  have HVX : Hid (ValAt w b2 o2 x) := hvx
  have HVY : Hid (ValAt w b2 (o2 + 3) y) := hvy
  have HZ5 : Hid (w.cell? ⟨b, o + n * 6 + 5, none⟩ = some (.slice (some ⟨b2, o2, none⟩) 2 cv)) := z5
  have HTX : Hid (Tel h false x tx) := htx
  have HTY : Hid (Tel h true y ty) := hty
  have HX : Hid (x.ok (h.take n) = true) := hx
  have HY : Hid (y.ok (h.take n) = true) := hy
  have HXS : Hid x.small := hxs
  have HYS : Hid y.small := hys
  have g0 : decide ((100000 : Int) ≤ (l.length : Int)) = false := by simp; omega
  have i0 : (0 : Int) ≤ (n : Int) := by omega
  have i1 : (n : Int) < (h.length : Int) := by omega
  have hbA : Below w.heap.size w (w.alloc (Obj.cells #[.int .i64 5, .int .i64 (n : Int), .string s] 26)) := (Below.refl _ _).alloc (Nat.le_refl _) _
  have hbC : Below w.heap.size w ((w.alloc (Obj.cells #[.int .i64 5, .int .i64 (n : Int), .string s] 26)).alloc (Obj.cells #[.int .u8 40] 5)) := hbA.alloc hbA.size _
  have HB1 : Hid (OwnB ((w.alloc (Obj.cells #[.int .i64 5, .int .i64 (n : Int), .string s] 26)).alloc (Obj.cells #[.int .u8 40] 5)) B (.slice ao l.length co) l) := ho.keep hbC
  have HSB : Hid (Src Tryd.prog 1 22 (.slice (some ⟨w.heap.size + 1, 0, none⟩) 1 1) [(40 : UInt8)].length (bts [40]) ((w.alloc (Obj.cells #[.int .i64 5, .int .i64 (n : Int), .string s] 26)).alloc (Obj.cells #[.int .u8 40] 5))) := src_byte _ _ 40 40 5 rfl (blk_at _ _ _ (by simp))
  have k0 : ((w.alloc (Obj.cells #[.int .i64 5, .int .i64 (n : Int), .string s] 26)).alloc (Obj.cells #[.int .u8 40] 5)).heap[w.heap.size]? = some (Obj.cells #[.int .i64 5, .int .i64 (n : Int), .string s] 26) := blk_past (blk_at _ _ _ rfl)
  have hne0 : some w.heap.size ≠ (Value.slice ao l.length co).ownBlock := fun e => by have := (ho.at e.symm).2; omega
  have hBC : B ≤ ((w.alloc (Obj.cells #[.int .i64 5, .int .i64 (n : Int), .string s] 26)).alloc (Obj.cells #[.int .u8 40] 5)).heap.size := Nat.le_trans hB hbC.size
  have HK0 : Hid _ := k0
  clear k0 ih hr ho hp hsm hvx hvy z5 htx hty hx hy hxs hys hc hcv hcs
  go_enter Tryd.func35, Tryd.ntmps35
  go_wp2_with (at_builtin; refine wpList_append_b rfl _ _ 22 rfl B (.slice ao l.length co) l rfl HB1.out _ [40] rfl HSB.out (by simp; omega) hBC ?_; intro v1 w1 ho1 hg1 hn1; obtain ⟨k1, hne1⟩ := fr_step HK0.out hne0 hg1 hn1; have x1 := cell_blk (j := 1) k1 rfl; have hlow1 := low_step HB1.out hBC hg1; have hlow : Below B w w1 := (hbC.mono hB).trans hlow1; have y5 := cell_keep HZ5.out hlow hb; have u0 := cell_keep HVX.out.1 hlow hb2; have u1 := cell_keep HVX.out.2.1 hlow hb2; have u2 := cell_keep HVX.out.2.2 hlow hb2; have HO1 : Hid (OwnB w1 B v1 (l ++ [40])) := ho1; have K1 : Hid _ := k1; clear ho1 k1)
  have hB1 : B ≤ w1.heap.size := Nat.le_trans hBC hg1.size
  refine (IH.out x tx v1 (l ++ [40]) w1 HX.out HXS.out HTX.out ((HR.out.below hlow)) hB1 HO1.out (by simp; omega)).mono ?_
  rintro e w2 ⟨v2, l2, rfl, ho2, hg2, hn2, hcut2, hlen2⟩
  obtain ⟨k2, hne2⟩ := fr_step K1.out hne1 hg2 hn2
  have xx1 := cell_blk (j := 1) k2 rfl
  have hlow2 : Below B w w2 := hlow.trans (low_step HO1.out hB1 hg2)
  have yy5 := cell_keep HZ5.out hlow2 hb
  have uu0 := cell_keep HVY.out.1 hlow2 hb2
  have uu1 := cell_keep HVY.out.2.1 hlow2 hb2
  have uu2 := cell_keep HVY.out.2.2 hlow2 hb2
  have hn1' : v1.ownBlock = (Value.slice ao l.length co).ownBlock ∨ ∀ k, v1.ownBlock = some k → w.heap.size ≤ k := hn1.imp id fun h k hk => Nat.le_trans hbC.size (h k hk)
  have hgw1 : w.grownBy w1 (Value.slice ao l.length co).ownBlock := gbt_trans (gbt_below _ hbC) hg1 (.inl rfl)
  have hgw2 : w.grownBy w2 (Value.slice ao l.length co).ownBlock := gbt_trans hgw1 hg2 hn1'
  have hn2' : v2.ownBlock = (Value.slice ao l.length co).ownBlock ∨ ∀ k, v2.ownBlock = some k → w.heap.size ≤ k := by
    rcases hn2 with e | hq
    · rw [e]; exact hn1'
    · exact .inr fun k hk => Nat.le_trans hgw1.size (hq k hk)
  have HO2 : Hid (OwnB w2 B v2 l2) := ho2
  have hl2 : l2.length ≤ Dn n := Nat.le_trans hlen2 (by unfold Dn; simp; omega)
  have HC2 : Hid (Cut (l2 ++ (ty ++ [41])) (l ++ (40 :: (tx ++ (ty ++ [41]))))) := by
    show Cut _ _
    have := hcut2.append (ty ++ [41])
    simpa using this
  have hbR : Below w2.heap.size w2 (w2.alloc (Obj.cells #[.int .i64 y.k, .int .i64 y.n, .string y.s] 26)) := (Below.refl _ _).alloc (Nat.le_refl _) _
  have hB2 : B ≤ w2.heap.size := Nat.le_trans hB1 hg2.size
  have HOR : Hid (OwnB (w2.alloc (Obj.cells #[.int .i64 y.k, .int .i64 y.n, .string y.s] 26)) B v2 l2) := ho2.keep hbR
  have HGR : Hid (w.grownBy (w2.alloc (Obj.cells #[.int .i64 y.k, .int .i64 y.n, .string y.s] 26)) (Value.slice ao l.length co).ownBlock) := gbt_trans hgw2 (gbt_below (Value.slice ao l.length co).ownBlock hbR) (.inl rfl)
  have HNR : Hid (some w2.heap.size ≠ v2.ownBlock) := fun e => by have := (ho2.at e.symm).2; omega
  have HKR : Hid ((w2.alloc (Obj.cells #[.int .i64 y.k, .int .i64 y.n, .string y.s] 26)).heap[w2.heap.size]? = some (Obj.cells #[.int .i64 y.k, .int .i64 y.n, .string y.s] 26)) := blk_at _ _ _ rfl
  have HLR : Hid (Below B w (w2.alloc (Obj.cells #[.int .i64 y.k, .int .i64 y.n, .string y.s] 26))) := hlow2.trans (hbR.mono hB2)
  have hwR : w.heap.size ≤ w2.heap.size := hgw2.size
  have hRl : w2.heap.size < (w2.alloc (Obj.cells #[.int .i64 y.k, .int .i64 y.n, .string y.s] 26)).heap.size := by simp
  clear k2 hcut2 hlen2 hn2 hg2 hne2 hne1 hne0 HK0 K1 HSB HB1 hlow hlow1 x1 y5 u0 u1 u2 HZ5 HVX HVY HTX HX HXS hg1 hn1 hbC hbA hBC ho2 hlow2 hn1' hgw1 HO1 hB1
  go_wp2
  clear xx1 yy5 uu0 uu1 uu2
  generalize hR : w2.heap.size = R at *
  generalize w2.alloc (Obj.cells #[.int .i64 y.k, .int .i64 y.n, .string y.s] 26) = w3 at *
  go_loopw [2] (fun o2 wr => ∃ (vv : Value) (lx : List UInt8) (yy : Val) (tyy : List UInt8), o2 = vv ∧ OwnB wr B vv lx ∧ w.grownBy wr (Value.slice ao l.length co).ownBlock ∧ (vv.ownBlock = (Value.slice ao l.length co).ownBlock ∨ ∀ k, vv.ownBlock = some k → w.heap.size ≤ k) ∧ some R ≠ vv.ownBlock ∧ wr.heap[R]? = some (Obj.cells #[.int .i64 yy.k, .int .i64 yy.n, .string yy.s] 26) ∧ Below B w wr ∧ yy.ok (h.take n) = true ∧ yy.small ∧ Tel h true yy tyy ∧ Cut (lx ++ (tyy ++ [41])) (l ++ (40 :: (tx ++ (ty ++ [41])))) ∧ lx.length ≤ Dn n)
    (fun _ wr => rm wr R)
  case atStart => exact ⟨v2, l2, y, ty, rfl, HOR.out, HGR.out, hn2', HNR.out, HKR.out, HLR.out, HY.out, HYS.out, HTY.out, HC2.out, hl2⟩
  case round =>
    clear HOR HGR HNR HKR HLR HC2 hl2 hn2'
    obtain ⟨vv, lx, yy, tyy, rfl, hov, hgr, hnv, hneR, hkR, hlow, hyok, hysm, hty', hcut, hlx⟩ := hrel
    obtain ⟨av, cvv, rfl, hcvv⟩ := hov.slice
    have x0 := cell_blk (j := 0) hkR rfl
    have x1 := cell_blk (j := 1) hkR rfl
    have x2 := cell_blk (j := 2) hkR rfl
    have hBr : B ≤ wr.heap.size := Nat.le_trans hB hgr.size
    have HOV : Hid (OwnB wr B (.slice av lx.length cvv) lx) := hov
    have HKV : Hid (wr.heap[R]? = some (Obj.cells #[.int .i64 yy.k, .int .i64 yy.n, .string yy.s] 26)) := hkR
    have HLW : Hid (Below B w wr) := hlow
    have HYO : Hid (yy.ok (h.take n) = true) := hyok
    have HYM : Hid yy.small := hysm
    have HCU : Hid (Cut (lx ++ (tyy ++ [41])) (l ++ (40 :: (tx ++ (ty ++ [41]))))) := hcut
    have HTT : Hid (Tel h true yy tyy) := hty'
    clear hov hkR hlow hysm hcut hty'
    by_cases h5 : yy.k = 5
    · obtain ⟨m, c', x', y', hm, hc', hck, hcv', hx', hy'⟩ := pair_parts HP.out (ok_of_take hyok) h5
      have hmn : m < n := by have := below_of_take hyok h5; omega
      by_cases hM : lx.length < 100000
      · have e5 : (yy.k == 5) = true := by simp [h5]
        have eM : decide ((lx.length : Int) < 100000) = true := by simp; omega
        obtain ⟨b', o', b3, o3, cv3, heq, _, hb3, z5, hcv3, hvx, hvy⟩ := pair_cells (HR.out.below HLW.out) hc' hcv'
        injection heq with heq
        injection heq with hq1 hq2
        subst hq1 hq2
        have hcn : h[yy.n.toNat]? = some c' := by rw [hm, Int.toNat_natCast]; exact hc'
        obtain ⟨tx', ty', htt, htx', hty''⟩ := HTT.out.more_inv h5 hcn hcv'
        have hcs' := HSM.out c' (List.mem_of_getElem? hc')
        have HXS' : Hid x'.small := hcs'.2.2.2.2.2.2.2 x' (by rw [hcv']; simp)
        have HYS' : Hid y'.small := hcs'.2.2.2.2.2.2.2 y' (by rw [hcv']; simp)
        have HX' : Hid (x'.ok (h.take n) = true) := ok_mono hx' (by omega)
        have HY' : Hid (y'.ok (h.take n) = true) := ok_mono hy' (by omega)
        have HYM' : Hid (y'.k = 5 → 0 ≤ y'.n ∧ y'.n < m) := fun hq => by obtain ⟨q, _, _, _, hq1, _⟩ := pair_parts HP.out (ok_of_take hy') hq; have := below_of_take hy' hq; omega
        have HTX' : Hid (Tel h false x' tx') := htx'
        have HTY' : Hid (Tel h true y' ty') := hty''
        have HTT' : Hid (tyy = 32 :: (tx' ++ ty')) := htt
        have HVX' : Hid (ValAt wr b3 o3 x') := hvx
        have HVY' : Hid (ValAt wr b3 (o3 + 3) y') := hvy
        have HZ5' : Hid (wr.cell? ⟨b, o + m * 6 + 5, none⟩ = some (.slice (some ⟨b3, o3, none⟩) 2 cv3)) := z5
        have HRM : Hid (rm wr R = m + 1) := by show _ = _; rw [rm_at HKV.out, if_pos h5, hm, Int.toNat_natCast]
        have hml : m < h.length := by omega
        rw [hm] at x1
        have j0 : (0 : Int) ≤ (m : Int) := by omega
        have j1 : (m : Int) < (h.length : Int) := by omega
        have hbS : Below wr.heap.size wr (wr.alloc (Obj.cells #[.int .u8 32] 5)) := (Below.refl _ _).alloc (Nat.le_refl _) _
        have HOS : Hid (OwnB (wr.alloc (Obj.cells #[.int .u8 32] 5)) B (.slice av lx.length cvv) lx) := HOV.out.keep hbS
        have HSS : Hid (Src Tryd.prog 1 22 (.slice (some ⟨wr.heap.size, 0, none⟩) 1 1) [(32 : UInt8)].length (bts [32]) (wr.alloc (Obj.cells #[.int .u8 32] 5))) := src_byte _ _ 32 32 5 rfl (blk_at _ _ _ rfl)
        have hBS : B ≤ (wr.alloc (Obj.cells #[.int .u8 32] 5)).heap.size := Nat.le_trans hBr hbS.size
        have HKS : Hid ((wr.alloc (Obj.cells #[.int .u8 32] 5)).heap[R]? = some (Obj.cells #[.int .i64 yy.k, .int .i64 yy.n, .string yy.s] 26)) := blk_past HKV.out
        have HLS : Hid (Below B wr (wr.alloc (Obj.cells #[.int .u8 32] 5))) := hbS.mono hBr
        have HM : Hid (yy.n = m) := hm
        clear hyok h5 hx' hy' hc' hck hcv' hm hvx hvy z5 htx' hty'' htt hcs' hcn
        go_wp2_with (at_builtin; refine wpList_append_b rfl _ _ 22 rfl B (.slice av lx.length cvv) lx rfl HOS.out _ [32] rfl HSS.out (by simp; omega) hBS ?_; intro v4 w4 ho4 hg4 hn4; obtain ⟨k4, hne4⟩ := fr_step HKS.out hneR hg4 hn4; rw [HM.out] at k4; have z0 := cell_blk (j := 0) k4 rfl; have z1 := cell_blk (j := 1) k4 rfl; have z2 := cell_blk (j := 2) k4 rfl; have hlow4 := HLS.out.trans (low_step HOS.out hBS hg4); have y5 := cell_keep HZ5'.out hlow4 hb; have u0 := cell_keep HVX'.out.1 hlow4 hb3; have u1 := cell_keep HVX'.out.2.1 hlow4 hb3; have u2 := cell_keep HVX'.out.2.2 hlow4 hb3; have HO4 : Hid (OwnB w4 B v4 (lx ++ [32])) := ho4; have K4 : Hid _ := k4; clear ho4 k4)
        have hB4 : B ≤ w4.heap.size := Nat.le_trans hBS hg4.size
        have hgw4 : w.grownBy w4 (Value.slice ao l.length co).ownBlock := gbt_trans hgr (gbt_trans (gbt_below _ hbS) hg4 (.inl rfl)) hnv
        have hn4' : v4.ownBlock = (Value.slice ao l.length co).ownBlock ∨ ∀ k, v4.ownBlock = some k → w.heap.size ≤ k := by
          rcases hn4 with e | hq
          · rw [e]; exact hnv
          · exact .inr fun k hk => Nat.le_trans (Nat.le_trans hgr.size hbS.size) (hq k hk)
        refine (IH.out x' tx' v4 (lx ++ [32]) w4 HX'.out HXS'.out HTX'.out (HR.out.below (HLW.out.trans hlow4)) hB4 HO4.out (by simp; omega)).mono ?_
        rintro e w5 ⟨v5, l5, rfl, ho5, hg5, hn5, hcut5, hlen5⟩
        obtain ⟨k5, hne5⟩ := fr_step K4.out hne4 hg5 hn5
        have hlow5 : Below B wr w5 := hlow4.trans (low_step HO4.out hB4 hg5)
        have zz0 := cell_blk (j := 0) k5 rfl
        have zz1 := cell_blk (j := 1) k5 rfl
        have zz2 := cell_blk (j := 2) k5 rfl
        have f0 := frozen_blk k5 0
        have f1 := frozen_blk k5 1
        have f2 := frozen_blk k5 2
        have yy5 := cell_keep HZ5'.out hlow5 hb
        have uu0 := cell_keep HVY'.out.1 hlow5 hb3
        have uu1 := cell_keep HVY'.out.2.1 hlow5 hb3
        have uu2 := cell_keep HVY'.out.2.2 hlow5 hb3
        have hgw5 : w.grownBy w5 (Value.slice ao l.length co).ownBlock := gbt_trans hgw4 hg5 hn4'
        have hn5' : v5.ownBlock = (Value.slice ao l.length co).ownBlock ∨ ∀ k, v5.ownBlock = some k → w.heap.size ≤ k := by
          rcases hn5 with e | hq
          · rw [e]; exact hn4'
          · exact .inr fun k hk => Nat.le_trans hgw4.size (hq k hk)
        have hl5 : l5.length ≤ Dn n := by
          have h5' := hlen5
          rw [List.length_append] at h5'
          simp at h5'
          unfold Dn at *
          omega
        have HC5 : Hid (Cut (l5 ++ (ty' ++ [41])) (l ++ (40 :: (tx ++ (ty ++ [41]))))) := by
          show Cut _ _
          have h1 := hcut5.append (ty' ++ [41])
          have h2 := HCU.out
          rw [HTT'.out] at h2
          exact h1.trans (by simpa using h2)
        have HO5 : Hid (OwnB w5 B v5 l5) := ho5
        have K5 : Hid _ := k5
        have HL5 : Hid (Below B w w5) := HLW.out.trans hlow5
        clear z0 z1 z2 y5 u0 u1 u2 hcut5 hlen5 ho5 k5 hg5 hn5 HO4 hg4 hn4 hne4 hlow4 hlow5 K4 x0 x1 x2
        go_wp2
        go_roundw
        case rel =>
          refine ⟨v5, l5, y', ty', rfl, ((HO5.out.set hne5 _ _).set hne5 _ _).set hne5 _ _, gbt_set (gbt_set (gbt_set hgw5 (by omega) _ _) (by omega) _ _) (by omega) _ _, hn5', hne5, ?_, ?_, HY'.out, HYS'.out, HTY'.out, HC5.out, hl5⟩
          · exact heap_setCell_same _ _ _ _ _ _ (heap_setCell_same _ _ _ _ _ _ (heap_setCell_same _ _ _ _ _ _ K5.out))
          · exact ((HL5.out.setCell (p := ⟨R, _, none⟩) (by simp; omega) _).setCell (p := ⟨R, _, none⟩) (by simp; omega) _).setCell (p := ⟨R, _, none⟩) (by simp; omega) _
        case measure =>
          rw [HRM.out, rm_at (y := y') (heap_setCell_same _ _ _ _ _ _ (heap_setCell_same _ _ _ _ _ _ (heap_setCell_same _ _ _ _ _ _ K5.out)))]
          split
          · next hq => have := HYM'.out hq; omega
          · omega
      · have e5 : (yy.k == 5) = true := by simp [h5]
        have e3 : (yy.k != 3) = true := by simp [h5]
        have eM : decide ((lx.length : Int) < 100000) = false := by simp; omega
        obtain ⟨tf, htf⟩ := Tel.exists HP.out n false yy (ok_of_take hyok) fun _ => by omega
        have HTF : Hid (Tel h false yy tf) := htf
        clear hyok htf h5 hx' hy' hc' hck hcv' hm
        have hMM : 100000 ≤ lx.length := by omega
        go_wp2_with (at_builtin; refine wpList_append_b rfl _ _ 9 rfl B (.slice av lx.length cvv) lx rfl HOV.out (.string ⟨#[32, 46, 32]⟩) [32, 46, 32] rfl (src_str _ _) (by unfold Dn at *; simp; omega) hBr ?_; intro v4 w4 ho4 hg4 hn4; obtain ⟨k4, hne4⟩ := fr_step HKV.out hneR hg4 hn4; have z0 := cell_blk (j := 0) k4 rfl; have z1 := cell_blk (j := 1) k4 rfl; have z2 := cell_blk (j := 2) k4 rfl; have hlow4 := HLW.out.trans (low_step HOV.out hBr hg4); have HO4 : Hid (OwnB w4 B v4 (lx ++ [32, 46, 32])) := ho4; clear ho4 k4)
        have hB4 : B ≤ w4.heap.size := Nat.le_trans hBr hg4.size
        have hgw4 : w.grownBy w4 (Value.slice ao l.length co).ownBlock := gbt_trans hgr hg4 hnv
        have hn4' : v4.ownBlock = (Value.slice ao l.length co).ownBlock ∨ ∀ k, v4.ownBlock = some k → w.heap.size ≤ k := by
          rcases hn4 with e | hq
          · rw [e]; exact hnv
          · exact .inr fun k hk => Nat.le_trans hgr.size (hq k hk)
        refine (IH.out yy tf v4 (lx ++ [32, 46, 32]) w4 HYO.out HYM.out HTF.out (HR.out.below hlow4) hB4 HO4.out (by unfold Dn at *; simp; omega)).mono ?_
        rintro e w5 ⟨v5, l5, rfl, ho5, hg5, hn5, hcut5, hlen5⟩
        have hB5 : B ≤ w5.heap.size := Nat.le_trans hB4 hg5.size
        have hgw5 : w.grownBy w5 (Value.slice ao l.length co).ownBlock := gbt_trans hgw4 hg5 hn4'
        have hn5' : v5.ownBlock = (Value.slice ao l.length co).ownBlock ∨ ∀ k, v5.ownBlock = some k → w.heap.size ≤ k := by
          rcases hn5 with e | hq
          · rw [e]; exact hn4'
          · exact .inr fun k hk => Nat.le_trans hgw4.size (hq k hk)
        have hl5 : l5.length ≤ Dn n + 3 := by
          have h5' := hlen5
          rw [List.length_append] at h5'
          simp at h5'
          omega
        have HC5 : Hid (Cut (l5 ++ [41]) (l ++ (40 :: (tx ++ (ty ++ [41]))))) := by show Cut _ _; exact ((hcut5.append [41]).trans (by rw [List.append_assoc, List.append_assoc]; exact Cut.over (Cut.refl lx) hMM _ (tyy ++ [41]))).trans HCU.out
        have HO5 : Hid (OwnB w5 B v5 l5) := ho5
        clear z0 z1 z2 hcut5 hlen5 ho5 hg5 hn5 HO4 hg4 hn4 hne4 hlow4
        have hbZ : Below w5.heap.size w5 (w5.alloc (Obj.cells #[.int .u8 41] 5)) := (Below.refl _ _).alloc (Nat.le_refl _) _
        have HOZ : Hid (OwnB (w5.alloc (Obj.cells #[.int .u8 41] 5)) B v5 l5) := HO5.out.keep hbZ
        have HSZ : Hid (Src Tryd.prog 1 22 (.slice (some ⟨w5.heap.size, 0, none⟩) 1 1) [(41 : UInt8)].length (bts [41]) (w5.alloc (Obj.cells #[.int .u8 41] 5))) := src_byte _ _ 41 41 5 rfl (blk_at _ _ _ rfl)
        have hBZ : B ≤ (w5.alloc (Obj.cells #[.int .u8 41] 5)).heap.size := Nat.le_trans hB5 hbZ.size
        have hlZ : l5.length + 1 ≤ 16777216 := by have := hl5; unfold Dn at *; omega
        go_wp2_with (at_builtin; refine wpList_append_b rfl _ _ 22 rfl B v5 l5 rfl HOZ.out _ [41] rfl HSZ.out (by simpa using hlZ) hBZ ?_; intro v9 w9 ho9 hg9 hn9)
        go_ret
        refine ⟨v9, _, rfl, ho9, gbt_trans hgw5 (gbt_trans (gbt_below _ hbZ) hg9 (.inl rfl)) hn5', ?_, HC5.out, ?_⟩
        · rcases hn9 with e | hq
          · rw [e]; exact hn5'
          · exact .inr fun k hk => Nat.le_trans (Nat.le_trans hgw5.size hbZ.size) (hq k hk)
        · rw [List.length_append]
          have := hl5
          unfold Dn at *
          simp
          omega
    · have e5 : (yy.k == 5) = false := by simp [h5]
      by_cases h3 : yy.k = 3
      · have e3 : (yy.k != 3) = false := by simp [h3]
        have HTE : Hid (tyy = []) := HTT.out.unique (.last yy h3)
        clear h3 h5 hyok
        have hbZ : Below wr.heap.size wr (wr.alloc (Obj.cells #[.int .u8 41] 5)) := (Below.refl _ _).alloc (Nat.le_refl _) _
        have HOZ : Hid (OwnB (wr.alloc (Obj.cells #[.int .u8 41] 5)) B (.slice av lx.length cvv) lx) := HOV.out.keep hbZ
        have HSZ : Hid (Src Tryd.prog 1 22 (.slice (some ⟨wr.heap.size, 0, none⟩) 1 1) [(41 : UInt8)].length (bts [41]) (wr.alloc (Obj.cells #[.int .u8 41] 5))) := src_byte _ _ 41 41 5 rfl (blk_at _ _ _ rfl)
        have hBZ : B ≤ (wr.alloc (Obj.cells #[.int .u8 41] 5)).heap.size := Nat.le_trans hBr hbZ.size
        have hlZ : lx.length + 1 ≤ 16777216 := by have := hlx; unfold Dn at *; omega
        go_wp2_with (at_builtin; refine wpList_append_b rfl _ _ 22 rfl B (.slice av lx.length cvv) lx rfl HOZ.out _ [41] rfl HSZ.out (by simpa using hlZ) hBZ ?_; intro v9 w9 ho9 hg9 hn9)
        go_ret
        refine ⟨v9, _, rfl, ho9, gbt_trans hgr (gbt_trans (gbt_below _ hbZ) hg9 (.inl rfl)) hnv, ?_, (by have := HCU.out; rw [HTE.out] at this; simpa using this), ?_⟩
        · rcases hn9 with e | hq
          · rw [e]; exact hnv
          · exact .inr fun k hk => Nat.le_trans (Nat.le_trans hgr.size hbZ.size) (hq k hk)
        · rw [List.length_append]
          have := hlx
          unfold Dn at *
          simp
          omega
      · have e3 : (yy.k != 3) = true := by simp [h3]
        have HTE : Hid (tyy = 32 :: 46 :: 32 :: flatT h yy) := HTT.out.unique (.dot yy h5 h3)
        have HTF : Hid (Tel h false yy (flatT h yy)) := .flat yy h5
        clear h3 h5 hyok
        go_wp2_with (at_builtin; refine wpList_append_b rfl _ _ 9 rfl B (.slice av lx.length cvv) lx rfl HOV.out (.string ⟨#[32, 46, 32]⟩) [32, 46, 32] rfl (src_str _ _) (by unfold Dn at *; simp; omega) hBr ?_; intro v4 w4 ho4 hg4 hn4; obtain ⟨k4, hne4⟩ := fr_step HKV.out hneR hg4 hn4; have z0 := cell_blk (j := 0) k4 rfl; have z1 := cell_blk (j := 1) k4 rfl; have z2 := cell_blk (j := 2) k4 rfl; have hlow4 := HLW.out.trans (low_step HOV.out hBr hg4); have HO4 : Hid (OwnB w4 B v4 (lx ++ [32, 46, 32])) := ho4; clear ho4 k4)
        have hB4 : B ≤ w4.heap.size := Nat.le_trans hBr hg4.size
        have hgw4 : w.grownBy w4 (Value.slice ao l.length co).ownBlock := gbt_trans hgr hg4 hnv
        have hn4' : v4.ownBlock = (Value.slice ao l.length co).ownBlock ∨ ∀ k, v4.ownBlock = some k → w.heap.size ≤ k := by
          rcases hn4 with e | hq
          · rw [e]; exact hnv
          · exact .inr fun k hk => Nat.le_trans hgr.size (hq k hk)
        refine (IH.out yy (flatT h yy) v4 (lx ++ [32, 46, 32]) w4 HYO.out HYM.out HTF.out (HR.out.below hlow4) hB4 HO4.out (by unfold Dn at *; simp; omega)).mono ?_
        rintro e w5 ⟨v5, l5, rfl, ho5, hg5, hn5, hcut5, hlen5⟩
        have hB5 : B ≤ w5.heap.size := Nat.le_trans hB4 hg5.size
        have hgw5 : w.grownBy w5 (Value.slice ao l.length co).ownBlock := gbt_trans hgw4 hg5 hn4'
        have hn5' : v5.ownBlock = (Value.slice ao l.length co).ownBlock ∨ ∀ k, v5.ownBlock = some k → w.heap.size ≤ k := by
          rcases hn5 with e | hq
          · rw [e]; exact hn4'
          · exact .inr fun k hk => Nat.le_trans hgw4.size (hq k hk)
        have hl5 : l5.length ≤ Dn n + 3 := by
          have h5' := hlen5
          rw [List.length_append] at h5'
          simp at h5'
          omega
        have HC5 : Hid (Cut (l5 ++ [41]) (l ++ (40 :: (tx ++ (ty ++ [41]))))) := by show Cut _ _; have h1 := hcut5.append [41]; have h2 := HCU.out; rw [HTE.out] at h2; exact h1.trans (by simpa using h2)
        have HO5 : Hid (OwnB w5 B v5 l5) := ho5
        clear z0 z1 z2 hcut5 hlen5 ho5 hg5 hn5 HO4 hg4 hn4 hne4 hlow4
        have hbZ : Below w5.heap.size w5 (w5.alloc (Obj.cells #[.int .u8 41] 5)) := (Below.refl _ _).alloc (Nat.le_refl _) _
        have HOZ : Hid (OwnB (w5.alloc (Obj.cells #[.int .u8 41] 5)) B v5 l5) := HO5.out.keep hbZ
        have HSZ : Hid (Src Tryd.prog 1 22 (.slice (some ⟨w5.heap.size, 0, none⟩) 1 1) [(41 : UInt8)].length (bts [41]) (w5.alloc (Obj.cells #[.int .u8 41] 5))) := src_byte _ _ 41 41 5 rfl (blk_at _ _ _ rfl)
        have hBZ : B ≤ (w5.alloc (Obj.cells #[.int .u8 41] 5)).heap.size := Nat.le_trans hB5 hbZ.size
        have hlZ : l5.length + 1 ≤ 16777216 := by have := hl5; unfold Dn at *; omega
        go_wp2_with (at_builtin; refine wpList_append_b rfl _ _ 22 rfl B v5 l5 rfl HOZ.out _ [41] rfl HSZ.out (by simpa using hlZ) hBZ ?_; intro v9 w9 ho9 hg9 hn9)
        go_ret
        refine ⟨v9, _, rfl, ho9, gbt_trans hgw5 (gbt_trans (gbt_below _ hbZ) hg9 (.inl rfl)) hn5', ?_, HC5.out, ?_⟩
        · rcases hn9 with e | hq
          · rw [e]; exact hn5'
          · exact .inr fun k hk => Nat.le_trans (Nat.le_trans hgw5.size hbZ.size) (hq k hk)
        · rw [List.length_append]
          have := hl5
          unfold Dn at *
          simp
          omega
/-- l6Put, whole. -/
theorem l6Put_any (a : Option Addr) (h : List Cel) (ca : Nat) (B : Nat) (hh : h.length ≤ 1048576) (hp : HeapP h) (hsm : ∀ c ∈ h, c.small) : ∀ (n : Nat) (v : Val) (t : List UInt8) (ov : Value) (l : List UInt8) (w : World), v.ok (h.take n) = true → v.small → Tel h false v t → RowC w B a h → B ≤ w.heap.size → OwnB w B ov l → l.length ≤ 4000000 →
      Calls Tryd.prog 35 #[.slice a h.length ca, .agg #[.int .i64 v.k, .int .i64 v.n, .string v.s], ov] w fun e w' => PutPost B ov l t (Dn n) w e w' := by
  intro n
  induction n using Nat.strongRecOn with
  | ind n ih =>
  intro v t ov l w hv hvs ht hr hB ho hl
  by_cases hM : 100000 ≤ l.length
  · exact l6Put_full _ v B ov l t (Dn n) w ho hM (by omega)
  · by_cases hk : v.k = 5
    · obtain ⟨m, c, x, y, hm, hc, hck, hcv, hx, hy⟩ := pair_parts hp (ok_of_take hv) hk
      have hmn : m < n := by have := below_of_take hv hk; omega
      have hc' : h[v.n.toNat]? = some c := by rw [hm, Int.toNat_natCast]; exact hc
      cases ht with
      | flat _ hk' => exact absurd hk hk'
      | pair _ c' x' y' tx ty _ hc2 hx2 hy2 h3 h4 =>
        obtain rfl := Option.some.inj (hc'.symm.trans hc2)
        rw [hcv] at hx2 hy2
        obtain rfl : x = x' := by simpa using hx2
        obtain rfl : y = y' := by simpa using hy2
        obtain ⟨k, vn, s⟩ := v
        simp only at *
        subst hk hm
        refine (l6Put_pair a h ca B hh hp hsm m (ih m hmn) s c x y tx ty hc hcv hx hy h3 h4 ov l w hr hB ho (by omega)).mono fun e w' hq => hq.mono ?_
        unfold Dn
        omega
    · cases ht with
      | flat =>
        refine (l6Put_flat a h ca v B ov l w hh hsm hvs (ok_of_take hv) hk hr hB ho (by omega)).mono fun e w' hq => hq.mono ?_
        unfold Dn
        omega
      | pair _ c' x' y' tx ty hk' => exact absurd hk' hk
end Go.Proofs.YtkbpnjigoipgeaaDoor
