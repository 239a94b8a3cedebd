/- The program's teller: lists. -/
import Derived.Test.YtkbpnjigoipgeaaDoorTxf
set_option linter.unusedVariables false
namespace Go.Proofs.YtkbpnjigoipgeaaDoor
open Go.ChangeShapes Go.WideShapes Go.ChangeAt Go.RowKit
theorem TG.undrew {w w' : World} {T n : Nat} {tv : Value} (h : TG (w.drewN n) w' T tv) : TG w w' T tv := ⟨h.os, h.tape, h.output, h.size, h.block⟩
theorem TSt.set {w : World} {B T : Nat} {hv tv : Value} {l : List UInt8} (h : TSt w B T hv tv l) {R : Nat} (hRT : R ≠ T) (hne : some R ≠ tv.ownBlock) (j : Nat) (x : Value) : TSt (w.setCell ⟨R, j, none⟩ x) B T hv tv l :=
  ⟨(heap_setCell_other _ _ _ _ (fun e => hRT (by have e' : T = R := e; omega))).trans h.blk, h.own.set hne j x, h.ne, h.le, h.low⟩
theorem TG.set {w W : World} {T : Nat} {tv : Value} (h : TG w W T tv) {R : Nat} (hR : w.heap.size ≤ R) (j : Nat) (x : Value) : TG w (W.setCell ⟨R, j, none⟩ x) T tv :=
  ⟨h.os, h.tape, h.output, by simpa using h.size, fun b hb h1 h2 => (heap_setCell_other _ _ _ _ (fun e => by have e' : b = R := e; omega)).trans (h.block b hb h1 h2)⟩
theorem TG.drewN {w W : World} {T : Nat} {tv : Value} (h : TG w W T tv) (n : Nat) : TG w (W.drewN n) T tv := ⟨h.os, h.tape, h.output, h.size, h.block⟩
set_option maxRecDepth 100000 in
theorem value_full (B T : Nat) (hv : Value) (d : Val) (tv : Value) (l t : List UInt8) (w : World) (hst : TSt w B T hv tv l) (hl : 100000 ≤ l.length) :
    Calls Tryd.prog 34 #[.pointer (some ⟨T, 0, none⟩), .agg #[.int .i64 d.k, .int .i64 d.n, .string d.s]] w fun e w' => TPost B T hv tv l t w e w' := by
  have hbA : Below w.heap.size w (w.alloc (Obj.cells #[.int .i64 d.k, .int .i64 d.n, .string d.s] 26)) := (Below.refl _ _).alloc (Nat.le_refl _) _
  have HRM : Hid (Calls Tryd.prog 45 #[.pointer (some ⟨T, 0, none⟩)] (w.alloc (Obj.cells #[.int .i64 d.k, .int .i64 d.n, .string d.s] 26)) fun e w' => e = .returned (.int .i64 (100000 - (l.length : Int))) ∧ w' = (w.alloc (Obj.cells #[.int .i64 d.k, .int .i64 d.n, .string d.s] 26))) := room_any B T _ tv l _ (hst.keep hbA)
  have hl2 := hst.le
  have g0 : ((100000 : Int) - (l.length : Int) == 0) = true := by rw [beq_iff_eq]; omega
  have HQ : Hid (TPost B T hv tv l t w (.returned (.tuple #[])) (w.alloc (Obj.cells #[.int .i64 d.k, .int .i64 d.n, .string d.s] 26))) := by
    refine ⟨tv, l, rfl, hst.keep hbA, ?_, TG.below T tv hbA, Fr.refl _ _⟩
    have := Cut.over (Cut.refl l) hl [] t
    rwa [List.append_nil] at this
  clear hst
  go_enter Tryd.func34, Tryd.ntmps34
  go_wp2_with (go_at_call 45; refine HRM.out.mono ?_; rintro e w1 ⟨rfl, rfl⟩)
  first | go_end0 | (refine bodyPost_ret (results_none rfl _ _) rfl ?_) | go_ret
  exact HQ.out
set_option maxRecDepth 100000 in
set_option maxHeartbeats 4000000 in
theorem list_any (D : World → Prop) (B T : Nat) (hdc : DecC D B) (a : Option Addr) (h : List Cel) (ca : Nat) (hh : h.length ≤ 1048576) (hp : HeapP h) (hsm : ∀ c ∈ h, c.small) (n : Nat)
    (ih : ∀ (v : Val) (t : List UInt8) (tv : Value) (l : List UInt8) (w : World), v.ok (h.take n) = true → v.small → Tel h false v t → TSt w B T (.slice a h.length ca) tv l → CX D B a h w →
      Calls Tryd.prog 34 #[.pointer (some ⟨T, 0, none⟩), .agg #[.int .i64 v.k, .int .i64 v.n, .string v.s]] w fun e w' => TPost B T (.slice a h.length ca) tv l t w e w')
    (c : Cel) (x y : Val) (tx ty : List UInt8) (hc : h[n]? = some c) (hcv : c.vals = [x, y]) (hx : x.ok (h.take n) = true) (hy : y.ok (h.take n) = true) (htx : Tel h false x tx) (hty : Tel h true y ty)
    (nv : Value) (b2 o2 cv : Nat) (tv : Value) (l : List UInt8) (w : World) (hnv : ∃ q r s, nv = .slice q r s) (hb2 : b2 < B) (hcv2 : 2 ≤ cv) (hvx : ValAt w b2 o2 x) (hvy : ValAt w b2 (o2 + 3) y) (hst : TSt w B T (.slice a h.length ca) tv l) (hcx : CX D B a h w) :
    Calls Tryd.prog 48 #[.pointer (some ⟨T, 0, none⟩), .agg #[.int .i64 c.k, .string c.s, .int .i64 c.a, .int .i64 c.b, nv, .slice (some ⟨b2, o2, none⟩) 2 cv]] w fun e w' => TPost B T (.slice a h.length ca) tv l (40 :: (tx ++ (ty ++ [41]))) w e w' := by
  have hn : n < h.length := (List.getElem?_eq_some_iff.1 hc).1
  have hcs := hsm c (List.mem_of_getElem? hc)
  have HXS : Hid x.small := hcs.2.2.2.2.2.2.2 x (by rw [hcv]; simp)
  have HYS : Hid y.small := hcs.2.2.2.2.2.2.2 y (by rw [hcv]; simp)
  obtain ⟨q1, q2, q3, rfl⟩ := hnv
  have hTl : T < w.heap.size := (Array.getElem?_eq_some_iff.1 hst.blk).1
  have hbA : Below w.heap.size w (w.alloc (Obj.cells #[.int .i64 c.k, .string c.s, .int .i64 c.a, .int .i64 c.b, .slice q1 q2 q3, .slice (some ⟨b2, o2, none⟩) 2 cv] 40)) := (Below.refl _ _).alloc (Nat.le_refl _) _
  have HKA : Hid ((w.alloc (Obj.cells #[.int .i64 c.k, .string c.s, .int .i64 c.a, .int .i64 c.b, .slice q1 q2 q3, .slice (some ⟨b2, o2, none⟩) 2 cv] 40)).heap[w.heap.size]? = some (Obj.cells #[.int .i64 c.k, .string c.s, .int .i64 c.a, .int .i64 c.b, .slice q1 q2 q3, .slice (some ⟨b2, o2, none⟩) 2 cv] 40)) := blk_alloc _ _
  have HSA : Hid (TSt (w.alloc (Obj.cells #[.int .i64 c.k, .string c.s, .int .i64 c.a, .int .i64 c.b, .slice q1 q2 q3, .slice (some ⟨b2, o2, none⟩) 2 cv] 40)) B T (.slice a h.length ca) tv l) := hst.keep hbA
  have hneA : some w.heap.size ≠ tv.ownBlock := fun e => by have := (hst.own.at e.symm).2; omega
  have hBA : B ≤ (w.alloc (Obj.cells #[.int .i64 c.k, .string c.s, .int .i64 c.a, .int .i64 c.b, .slice q1 q2 q3, .slice (some ⟨b2, o2, none⟩) 2 cv] 40)).heap.size := Nat.le_trans hcx.le hbA.size
  have IH : Hid _ := ih
  have HST : Hid (TSt w B T (.slice a h.length ca) tv l) := hst
  have HCX : Hid (CX D B a h w) := hcx
  have HP : Hid (HeapP h) := hp
  have HSM : Hid (∀ c ∈ h, c.small) := hsm
  have HVX : Hid (ValAt w b2 o2 x) := hvx
  have HVY : Hid (ValAt w b2 (o2 + 3) y) := hvy
  have HTX : Hid (Tel h false x tx) := htx
  have HTY : Hid (Tel h true y ty) := hty
  have HX : Hid (x.ok (h.take n) = true) := hx
  have HY : Hid (y.ok (h.take n) = true) := hy
  have HDC : Hid (DecC D B) := hdc
  clear ih hst hcx hp hsm hvx hvy htx hty hx hy hc hcv hcs hdc
  go_enter Tryd.func48, Tryd.ntmps48
  go_wp2_with fail
  refine (put_any B T _ tv l ⟨#[40]⟩ _ HSA.out (by decide) hBA).mono ?_
  rintro e w1 ⟨tv1, l1, rfl, hs1, hc1, hg1, hf1⟩
  obtain ⟨k1, hne1⟩ := tfr HKA.out (by omega) hneA hg1 hf1
  have hlow1 : Below B w w1 := (hbA.mono HCX.out.le).trans (TG.low HSA.out hg1 hBA)
  have x5 := cell_blk (j := 5) k1 rfl
  have u0 := cell_keep HVX.out.1 hlow1 hb2
  have u1 := cell_keep HVX.out.2.1 hlow1 hb2
  have u2 := cell_keep HVX.out.2.2 hlow1 hb2
  have HS1 : Hid (TSt w1 B T (.slice a h.length ca) tv1 l1) := hs1
  have HC1 : Hid (Cut l1 (l ++ [40])) := hc1
  have HG1 : Hid (TG w w1 T tv) := (TG.below T tv hbA).trans (Fr.refl _ _) hg1
  have HF1 : Hid (Fr w tv tv1) := (Fr.refl w tv).trans hbA.size hf1
  have K1 : Hid _ := k1
  have HL1 : Hid (Below B w w1) := hlow1
  clear hs1 hc1 hg1 hf1 k1 hlow1
  go_wp2_with fail
  refine (IH.out x tx tv1 l1 w1 HX.out HXS.out HTX.out HS1.out (HCX.out.step HDC.out HL1.out)).mono ?_
  rintro e w2 ⟨tv2, l2, rfl, hs2, hc2, hg2, hf2⟩
  obtain ⟨k2, hne2⟩ := tfr K1.out (by omega) hne1 hg2 hf2
  have hlow2 : Below B w w2 := HL1.out.trans (TG.low HS1.out hg2 (Nat.le_trans HCX.out.le HG1.out.size))
  have xx5 := cell_blk (j := 5) k2 rfl
  have uu0 := cell_keep HVY.out.1 hlow2 hb2
  have uu1 := cell_keep HVY.out.2.1 hlow2 hb2
  have uu2 := cell_keep HVY.out.2.2 hlow2 hb2
  have hbR : Below w2.heap.size w2 (w2.alloc (Obj.cells #[.int .i64 y.k, .int .i64 y.n, .string y.s] 26)) := (Below.refl _ _).alloc (Nat.le_refl _) _
  have HG2 : Hid (TG w w2 T tv) := HG1.out.trans HF1.out hg2
  have HF2 : Hid (Fr w tv tv2) := HF1.out.trans HG1.out.size hf2
  have HSR : Hid (TSt (w2.alloc (Obj.cells #[.int .i64 y.k, .int .i64 y.n, .string y.s] 26)) B T (.slice a h.length ca) tv2 l2) := hs2.keep hbR
  have HGR : Hid (TG w (w2.alloc (Obj.cells #[.int .i64 y.k, .int .i64 y.n, .string y.s] 26)) T tv) := HG2.out.trans HF2.out (TG.below T tv2 hbR)
  have HNR : Hid (some w2.heap.size ≠ tv2.ownBlock) := fun e => by have := (hs2.own.at e.symm).2; omega
  have HKR : Hid ((w2.alloc (Obj.cells #[.int .i64 y.k, .int .i64 y.n, .string y.s] 26)).heap[w2.heap.size]? = some (Obj.cells #[.int .i64 y.k, .int .i64 y.n, .string y.s] 26)) := blk_at _ _ _ rfl
  have HLR : Hid (Below B w (w2.alloc (Obj.cells #[.int .i64 y.k, .int .i64 y.n, .string y.s] 26))) := hlow2.trans (hbR.mono (Nat.le_trans HCX.out.le HG2.out.size))
  have HC2 : Hid (Cut (l2 ++ (ty ++ [41])) (l ++ 40 :: (tx ++ (ty ++ [41])))) := by
    show Cut _ _
    have h1 := (hc2.trans (HC1.out.append tx)).append (ty ++ [41])
    simpa using h1
  have hwR : w.heap.size ≤ w2.heap.size := HG2.out.size
  clear hs2 hc2 hg2 hf2 k2 hlow2 hne1 hne2 hneA HKA HSA hbA hBA K1 HL1 HS1 HC1 HG1 HF1 u0 u1 u2 x5 HVX HVY HTX HX HXS HG2
  go_wp2
  clear xx5 uu0 uu1 uu2
  generalize hR : w2.heap.size = R at *
  generalize w2.alloc (Obj.cells #[.int .i64 y.k, .int .i64 y.n, .string y.s] 26) = w3 at *
  go_loopw [18] (fun _ wr => ∃ (tvv : Value) (lx : List UInt8) (yy : Val) (tyy : List UInt8), TSt wr B T (.slice a h.length ca) tvv lx ∧ TG w wr T tv ∧ Fr w tv tvv ∧ some R ≠ tvv.ownBlock ∧ wr.heap[R]? = some (Obj.cells #[.int .i64 yy.k, .int .i64 yy.n, .string yy.s] 26) ∧ Below B w wr ∧ yy.ok (h.take n) = true ∧ yy.small ∧ Tel h true yy tyy ∧ Cut (lx ++ (tyy ++ [41])) (l ++ (40 :: (tx ++ (ty ++ [41])))))
    (fun _ wr => rm wr R)
  case atStart => exact ⟨tv2, l2, y, ty, HSR.out, HGR.out, HF2.out, HNR.out, HKR.out, HLR.out, HY.out, HYS.out, HTY.out, HC2.out⟩
  case round =>
    clear HSR HGR HF2 HNR HKR HLR HC2
    obtain ⟨tvv, lx, yy, tyy, hsv, hgv, hfv, hneR, hkR, hlow, hyok, hysm, hty', hcut⟩ := hrel
    have x0 := cell_blk (j := 0) hkR rfl
    have x1 := cell_blk (j := 1) hkR rfl
    have x2 := cell_blk (j := 2) hkR rfl
    have hRT : R ≠ T := by omega
    have HSV : Hid (TSt wr B T (.slice a h.length ca) tvv lx) := hsv
    have HGV : Hid (TG w wr T tv) := hgv
    have HFV : Hid (Fr w tv tvv) := hfv
    have HKV : Hid (wr.heap[R]? = some (Obj.cells #[.int .i64 yy.k, .int .i64 yy.n, .string yy.s] 26)) := hkR
    have HLW : Hid (Below B w wr) := hlow
    have HYO : Hid (yy.ok (h.take n) = true) := hyok
    have HYM : Hid yy.small := hysm
    have HCU : Hid (Cut (lx ++ (tyy ++ [41])) (l ++ (40 :: (tx ++ (ty ++ [41]))))) := hcut
    have HTT : Hid (Tel h true yy tyy) := hty'
    clear hsv hgv hfv hkR hlow hysm hcut hty'
    by_cases h5 : yy.k = 5
    · obtain ⟨m, c', x', y', hm, hc', hck, hcv', hx', hy'⟩ := pair_parts HP.out (ok_of_take hyok) h5
      have hmn : m < n := by have := below_of_take hyok h5; omega
      have e5 : (yy.k == 5) = true := by simp [h5]
      obtain ⟨b, o, b3, o3, cv3, heq, hb, hb3, z5, hcv3, hvx, hvy⟩ := pair_cells (HCX.out.row.below HLW.out) hc' hcv'
      subst heq
      have hcn : h[yy.n.toNat]? = some c' := by rw [hm, Int.toNat_natCast]; exact hc'
      obtain ⟨tx', ty', htt, htx', hty''⟩ := HTT.out.more_inv h5 hcn hcv'
      have hcs' := HSM.out c' (List.mem_of_getElem? hc')
      have HXS' : Hid x'.small := hcs'.2.2.2.2.2.2.2 x' (by rw [hcv']; simp)
      have HYS' : Hid y'.small := hcs'.2.2.2.2.2.2.2 y' (by rw [hcv']; simp)
      have HX' : Hid (x'.ok (h.take n) = true) := ok_mono hx' (by omega)
      have HY' : Hid (y'.ok (h.take n) = true) := ok_mono hy' (by omega)
      have HYM' : Hid (y'.k = 5 → 0 ≤ y'.n ∧ y'.n < m) := fun hq => by obtain ⟨q, _, _, _, hq1, _⟩ := pair_parts HP.out (ok_of_take hy') hq; have := below_of_take hy' hq; omega
      have HTX' : Hid (Tel h false x' tx') := htx'
      have HTY' : Hid (Tel h true y' ty') := hty''
      have HTT' : Hid (tyy = 32 :: (tx' ++ ty')) := htt
      have HVX' : Hid (ValAt wr b3 o3 x') := hvx
      have HVY' : Hid (ValAt wr b3 (o3 + 3) y') := hvy
      have HZ5' : Hid (wr.cell? ⟨b, o + m * 6 + 5, none⟩ = some (.slice (some ⟨b3, o3, none⟩) 2 cv3)) := z5
      have HRM : Hid (rm wr R = m + 1) := by show _ = _; rw [rm_at HKV.out, if_pos h5, hm, Int.toNat_natCast]
      have j0 : (0 : Int) ≤ (m : Int) := by omega
      have j1 : (m : Int) < (h.length : Int) := by omega
      have HM : Hid (yy.n = m) := hm
      clear hyok h5 hx' hy' hc' hck hcv' hm hvx hvy z5 htx' hty'' htt hcs' hcn
      go_wp2_with fail
      refine (put_any B T _ tvv lx ⟨#[32]⟩ wr HSV.out (by decide) (Nat.le_trans HCX.out.le HGV.out.size)).mono ?_
      rintro e w4 ⟨tv4, l4, rfl, hs4, hc4, hg4, hf4⟩
      obtain ⟨k4, hne4⟩ := tfr HKV.out hRT hneR hg4 hf4
      rw [HM.out] at k4
      have z0 := cell_blk (j := 0) k4 rfl
      have z1 := cell_blk (j := 1) k4 rfl
      have z2 := cell_blk (j := 2) k4 rfl
      have t0 := cell_blk (j := 0) hs4.blk rfl
      have hlow4 : Below B wr w4 := TG.low HSV.out hg4 (Nat.le_trans HCX.out.le HGV.out.size)
      have y5 := cell_keep HZ5'.out hlow4 hb
      have u0 := cell_keep HVX'.out.1 hlow4 hb3
      have u1 := cell_keep HVX'.out.2.1 hlow4 hb3
      have u2 := cell_keep HVX'.out.2.2 hlow4 hb3
      have HG4 : Hid (TG w w4 T tv) := HGV.out.trans HFV.out hg4
      have HF4 : Hid (Fr w tv tv4) := HFV.out.trans HGV.out.size hf4
      have HL4 : Hid (Below B wr w4) := hlow4
      have HS4 : Hid (TSt w4 B T (.slice (some ⟨b, o, none⟩) h.length ca) tv4 l4) := hs4
      have HC4 : Hid (Cut l4 (lx ++ [32])) := hc4
      have K4 : Hid _ := k4
      clear hs4 hc4 hg4 hf4 k4 hlow4 x0 x1 x2
      go_wp2_with fail
      go_region_with (go_at_call 34; refine (IH.out x' tx' tv4 l4 _ HX'.out HXS'.out HTX'.out (HS4.out.drewN 1) ((HCX.out.step HDC.out (HLW.out.trans HL4.out)).step HDC.out (below_drewN (Below.refl _ _) 1))).mono ?_; rintro e w5 ⟨tv5, l5, rfl, hs5, hc5, hg5', hf5'⟩; have hg5 := TG.undrew hg5'; have hf5 : Fr w4 tv4 tv5 := hf5'; clear hg5' hf5'; obtain ⟨k5, hne5⟩ := tfr K4.out hRT hne4 hg5 hf5; have zz0 := cell_blk (j := 0) k5 rfl; have zz1 := cell_blk (j := 1) k5 rfl; have zz2 := cell_blk (j := 2) k5 rfl; have tt0 := cell_blk (j := 0) hs5.blk rfl)
      all_goals
        have hlow5 : Below B wr w5 := HL4.out.trans (TG.low HS4.out hg5 (Nat.le_trans HCX.out.le HG4.out.size))
        have f0 := frozen_blk k5 0
        have f1 := frozen_blk k5 1
        have f2 := frozen_blk k5 2
        have yy5 := cell_keep HZ5'.out hlow5 hb
        have uu0 := cell_keep HVY'.out.1 hlow5 hb3
        have uu1 := cell_keep HVY'.out.2.1 hlow5 hb3
        have uu2 := cell_keep HVY'.out.2.2 hlow5 hb3
        have HG5 : Hid (TG w w5 T tv) := HG4.out.trans HF4.out hg5
        have HF5 : Hid (Fr w tv tv5) := HF4.out.trans HG4.out.size hf5
        have HS5 : Hid (TSt w5 B T (.slice (some ⟨b, o, none⟩) h.length ca) tv5 l5) := hs5
        have K5 : Hid _ := k5
        have HL5 : Hid (Below B w w5) := HLW.out.trans hlow5
        have HC5 : Hid (Cut (l5 ++ (ty' ++ [41])) (l ++ (40 :: (tx ++ (ty ++ [41]))))) := by
          show Cut _ _
          have h1 := (hc5.trans (HC4.out.append tx')).append (ty' ++ [41])
          have h2 := HCU.out
          rw [HTT'.out] at h2
          exact h1.trans (by simpa using h2)
        clear hs5 hc5 hg5 hf5 k5 hlow5 z0 z1 z2 t0 y5 u0 u1 u2 K4 HC4 HS4
        go_wp2_with fail
        go_region
        all_goals
          go_wp2
          go_roundw
          case rel =>
            refine ⟨tv5, l5, y', ty', (((HS5.out.drewN 1).set hRT hne5 _ _).set hRT hne5 _ _).set hRT hne5 _ _, (((HG5.out.drewN 1).set hwR _ _).set hwR _ _).set hwR _ _, HF5.out, hne5, ?_, ?_, HY'.out, HYS'.out, HTY'.out, HC5.out⟩
            · exact heap_setCell_same _ _ _ _ _ _ (heap_setCell_same _ _ _ _ _ _ (heap_setCell_same _ _ _ _ _ _ K5.out))
            · exact (((below_drewN HL5.out 1).setCell (p := ⟨R, _, none⟩) (by have := HCX.out.le; simp; omega) _).setCell (p := ⟨R, _, none⟩) (by have := HCX.out.le; simp; omega) _).setCell (p := ⟨R, _, none⟩) (by have := HCX.out.le; simp; omega) _
          case measure =>
            rw [HRM.out]
            refine Nat.lt_of_le_of_lt (Nat.le_of_eq (rm_at (y := y') (heap_setCell_same _ _ _ _ _ _ (heap_setCell_same _ _ _ _ _ _ (heap_setCell_same _ _ _ _ _ _ K5.out))))) ?_
            split
            · next hq => have := HYM'.out hq; omega
            · omega
    · have e5 : (yy.k == 5) = false := by simp [h5]
      by_cases h3 : yy.k = 3
      · have e3 : (yy.k != 3) = false := by simp [h3]
        have HTE : Hid (tyy = []) := HTT.out.unique (.last yy h3)
        clear h3 h5 hyok
        go_wp2_with fail
        refine (put_any B T _ tvv lx ⟨#[41]⟩ wr HSV.out (by decide) (Nat.le_trans HCX.out.le HGV.out.size)).mono ?_
        rintro e w9 ⟨tv9, l9, rfl, hs9, hc9, hg9, hf9⟩
        have HQ9 : Hid (TSt w9 B T (.slice a h.length ca) tv9 l9 ∧ Cut l9 (l ++ (40 :: (tx ++ (ty ++ [41])))) ∧ TG w w9 T tv ∧ Fr w tv tv9) := ⟨hs9, hc9.trans (by have := HCU.out; rw [HTE.out] at this; simpa using this), HGV.out.trans HFV.out hg9, HFV.out.trans HGV.out.size hf9⟩
        clear hs9 hc9 hg9 hf9
        go_wp2
        go_end0
        exact ⟨tv9, l9, rfl, HQ9.out⟩
      · have e3 : (yy.k != 3) = true := by simp [h3]
        have HTE : Hid (tyy = 32 :: 46 :: 32 :: flatT h yy) := HTT.out.unique (.dot yy h5 h3)
        have HTF : Hid (Tel h false yy (flatT h yy)) := .flat yy h5
        clear h3 h5 hyok
        go_wp2_with fail
        refine (put_any B T _ tvv lx ⟨#[32, 46, 32]⟩ wr HSV.out (by decide) (Nat.le_trans HCX.out.le HGV.out.size)).mono ?_
        rintro e w4 ⟨tv4, l4, rfl, hs4, hc4, hg4, hf4⟩
        obtain ⟨k4, hne4⟩ := tfr HKV.out hRT hneR hg4 hf4
        have z0 := cell_blk (j := 0) k4 rfl
        have z1 := cell_blk (j := 1) k4 rfl
        have z2 := cell_blk (j := 2) k4 rfl
        have HG4 : Hid (TG w w4 T tv) := HGV.out.trans HFV.out hg4
        have HF4 : Hid (Fr w tv tv4) := HFV.out.trans HGV.out.size hf4
        have HL4 : Hid (Below B w w4) := HLW.out.trans (TG.low HSV.out hg4 (Nat.le_trans HCX.out.le HGV.out.size))
        have HS4 : Hid (TSt w4 B T (.slice a h.length ca) tv4 l4) := hs4
        have HC4 : Hid (Cut l4 (lx ++ [32, 46, 32])) := hc4
        clear hs4 hc4 hg4 hf4 k4 hne4 x0 x1 x2
        go_wp2_with fail
        refine (IH.out yy (flatT h yy) tv4 l4 w4 HYO.out HYM.out HTF.out HS4.out (HCX.out.step HDC.out HL4.out)).mono ?_
        rintro e w5 ⟨tv5, l5, rfl, hs5, hc5, hg5, hf5⟩
        have HG5 : Hid (TG w w5 T tv) := HG4.out.trans HF4.out hg5
        have HF5 : Hid (Fr w tv tv5) := HF4.out.trans HG4.out.size hf5
        have HS5 : Hid (TSt w5 B T (.slice a h.length ca) tv5 l5) := hs5
        have HC5 : Hid (Cut (l5 ++ [41]) (l ++ (40 :: (tx ++ (ty ++ [41]))))) := by show Cut _ _; have h1 := (hc5.trans (HC4.out.append (flatT h yy))).append [41]; have h2 := HCU.out; rw [HTE.out] at h2; exact h1.trans (by simpa using h2)
        clear hs5 hc5 hg5 hf5 z0 z1 z2
        go_wp2_with fail
        refine (put_any B T _ tv5 l5 ⟨#[41]⟩ w5 HS5.out (by decide) (Nat.le_trans HCX.out.le HG5.out.size)).mono ?_
        rintro e w9 ⟨tv9, l9, rfl, hs9, hc9, hg9, hf9⟩
        have HQ9 : Hid (TSt w9 B T (.slice a h.length ca) tv9 l9 ∧ Cut l9 (l ++ (40 :: (tx ++ (ty ++ [41])))) ∧ TG w w9 T tv ∧ Fr w tv tv9) := ⟨hs9, hc9.trans HC5.out, HG5.out.trans HF5.out hg9, HF5.out.trans HG5.out.size hf9⟩
        clear hs9 hc9 hg9 hf9
        go_wp2
        go_end0
        exact ⟨tv9, l9, rfl, HQ9.out⟩
end Go.Proofs.YtkbpnjigoipgeaaDoor
