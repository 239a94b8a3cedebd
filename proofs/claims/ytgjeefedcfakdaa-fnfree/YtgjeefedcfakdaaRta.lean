/- The model: l2Tree. -/
import Derived.Test.YtgjeefedcfakdaaRtp
import Derived.Deep.RegionWith
set_option linter.unusedVariables false
namespace Go.Proofs.Ytgjeefedcfakdaa.R2
theorem Try.info3 : (Try.prog.info? 3).map (fun i => (i.zero, i.size, i.bytes)) = some (some (.int .i64 0), 1, 8) := by kernel_rfl
open Go.ChangeShapes Go.WideShapes Go.ChangeAt Go.RowKit
set_option maxRecDepth 100000 in
set_option maxHeartbeats 4000000 in
theorem l2Tree_any (a b : Option Addr) (ca cb : Nat) (cs : List Dat) (ts : List Int) (w : World) (hn : cs.length ≤ 1048576) (hn' : ts.length ≤ 1048576) (hr : RowD w w.heap.size a cs) (hi : RowI w w.heap.size b ts) :
  Calls Try.prog 76 #[.agg #[.slice a cs.length ca, .slice b ts.length cb]] w fun e w' => Ans w (.bool (treeB cs ts)) e w' := by
 obtain ⟨i0, hi0, hz0, hz1, hz2⟩ := info_parts Try.info3
 have HR : Hid (RowD w w.heap.size a cs) := hr
 have HI : Hid (RowI w w.heap.size b ts) := hi
 clear hr hi
 go_enter Try.func76, Try.ntmps76
 go_wp2_with (at_make; refine wpList_make_full _ rfl _ _ 33 rfl (w.heap.size + 1) 3 i0 _ 1 Try.underlying33 hi0 hz0 hz1 .i64 .i64 _ _ cs.length rfl rfl rfl rfl ?c1 ?c2 ?c3 ?_)
 case c1 => rw [hz2]; omega
 case c2 => simp [maxLen]; omega
 case c3 => simp
 intro w1 hown1 hgr1
 have hb0 : Below w.heap.size w (w.alloc (Obj.cells #[Value.slice a cs.length ca, Value.slice b ts.length cb] 66)) := bR _ _
 have hb1' : Below (w.heap.size + 1) (w.alloc (Obj.cells #[Value.slice a cs.length ca, Value.slice b ts.length cb] 66)) w1 := (Below.refl _ _).grown hgr1 (by simp) (fun _ h => by cases h)
 have hb1 : Below w.heap.size w w1 := hb0.trans (hb1'.mono (by omega))
 have hkd : w1.heap[w.heap.size]? = some (Obj.cells #[Value.slice a cs.length ca, Value.slice b ts.length cb] 66) := blk_keep (blk_alloc w _) hb1' (by omega)
 obtain ⟨hlen, ⟨h0, _⟩ | ⟨g, cp, cur, hv, _, hblk, _, _, hcs, htk⟩⟩ := hown1
 ·cases h0
 simp only [Value.slice.injEq, Option.some.injEq, Addr.mk.injEq] at hv
 obtain ⟨⟨hg, _⟩, _, rfl⟩ := hv
 obtain rfl : g = w.heap.size + 1 := by simpa using hg.symm
 have hcur : cur = cntA cs.length [] := cntA_zero _ _ (by omega) (by simpa using htk)
 subst hcur
 have HKD : Hid _ := hkd
 have HBLK : Hid (w1.heap[w.heap.size + 1]? = some (Obj.cells (cntA cs.length []) 3 (0, 0))) := hblk
 clear hlen hcs htk hgr1 hb1' hb0 hkd hblk
 go_wp2
 go_loopw [4] (fun o wr => ∃ (i : Nat), i ≤ cs.length ∧ o = .int .i64 i ∧ PairsTo cs i ∧ wr.heap[w.heap.size]? = some (Obj.cells #[Value.slice a cs.length ca, Value.slice b ts.length cb] 66) ∧ wr.heap[w.heap.size + 1]? = some (Obj.cells (cntA cs.length (usesC cs i)) 3 (0, 0)) ∧ Below w.heap.size w wr)
  (fun o _ => cs.length - (intOf o).toNat)
 case atStart => exact ⟨0, by omega, rfl, fun j d h => absurd h (by omega), HKD.out, by simpa [usesC] using HBLK.out, hb1⟩
 case round =>
  clear HKD HBLK hb1
  obtain ⟨i, hi, rfl, hpt, hkd, hblk, hb⟩ := hrel
  obtain ⟨e0, e1⟩ := zn2 hkd rfl rfl
  have HKD : Hid (wr.heap[w.heap.size]? = some (Obj.cells #[Value.slice a cs.length ca, Value.slice b ts.length cb] 66)) := hkd
  have HBLK : Hid (wr.heap[w.heap.size + 1]? = some (Obj.cells (cntA cs.length (usesC cs i)) 3 (0, 0))) := hblk
  have HPT : Hid (PairsTo cs i) := hpt
  have hsz : w.heap.size + 1 < wr.heap.size := (alt hblk)
  clear hkd hblk hpt
  by_cases hlt : i < cs.length
  ·obtain ⟨d, hd⟩ : ∃ d, cs[i]? = some d := ⟨_, List.getElem?_eq_getElem hlt⟩
   obtain ⟨b1, o1, rfl, hbb, c0, c1, c2, c3, c4⟩ := (HR.out.below hb) i d hd
   have hbw : Below w.heap.size w (wr.alloc (Obj.cells #[Value.int .i64 d.k, Value.int .i64 d.n, Value.string d.s, Value.int .i64 d.l, Value.int .i64 d.r] 98)) := hb.alloc (by omega) _
   have k1 := blk_past (o := Obj.cells #[Value.int .i64 d.k, Value.int .i64 d.n, Value.string d.s, Value.int .i64 d.l, Value.int .i64 d.r] 98) HKD.out
   have k2 := blk_past (o := Obj.cells #[Value.int .i64 d.k, Value.int .i64 d.n, Value.string d.s, Value.int .i64 d.l, Value.int .i64 d.r] 98) HBLK.out
   have HK1 : Hid _ := k1
   have HK2 : Hid _ := k2
   have HBW : Hid _ := hbw
   have HU := usesC_succ hd
   have HU' : Hid (usesC cs (i + 1) = usesC cs i ++ partsOf d) := HU
   have i1 : decide ((i : Int) < (cs.length : Int)) = true := by simp; omega
   clear k1 k2 hbw HU
   obtain ⟨k, n, s, l, r⟩ := d
   simp only at *
   by_cases h5 : k = 5
   ·subst h5
    by_cases hin : 0 ≤ l ∧ l < i ∧ 0 ≤ r ∧ r < i
    ·obtain ⟨q1, q2, q3, q4⟩ := hin
     obtain ⟨L, rfl⟩ := Int.eq_ofNat_of_zero_le q1
     obtain ⟨R, rfl⟩ := Int.eq_ofNat_of_zero_le q3
     have d1 : decide ((L : Int) < 0) = false := by simp
     have d2 : decide ((i : Int) ≤ (L : Int)) = false := by simp; omega
     have d3 : decide ((R : Int) < 0) = false := by simp
     have d4 : decide ((i : Int) ≤ (R : Int)) = false := by simp; omega
     have f1 := frozen_blk HK2.out L
     have g1 := cell_blk (j := L) HK2.out (cntA_get _ (by omega))
     have hcl : (usesC cs i).count (L : Int) ≤ 2097152 := by
      have := List.count_le_length (a := (L : Int)) (l := usesC cs i)
      have := usesC_len cs i
      omega
     generalize hcL : (usesC cs i).count (L : Int) = cL at *
     go_wp2
     go_region
     have m0 : ((wr.setCell ⟨w.heap.size + 1, L, none⟩ (.int .i64 ((cL : Int) + 1))).alloc (Obj.cells #[Value.int .i64 5, Value.int .i64 n, Value.string s, Value.int .i64 (L : Int), Value.int .i64 (R : Int)] 98)).drew.heap[w.heap.size]? = some (Obj.cells #[Value.slice (some ⟨b1, o1, none⟩) cs.length ca, Value.slice b ts.length cb] 66) := blk_past ((heap_setCell_other _ _ _ _ (by simp)).trans HKD.out)
     have m1 : ((wr.setCell ⟨w.heap.size + 1, L, none⟩ (.int .i64 ((cL : Int) + 1))).alloc (Obj.cells #[Value.int .i64 5, Value.int .i64 n, Value.string s, Value.int .i64 (L : Int), Value.int .i64 (R : Int)] 98)).drew.heap[w.heap.size + 1]? = some (Obj.cells (cntA cs.length (usesC cs i ++ [(L : Int)])) 3 (0, 0)) := by
      refine blk_past ((heap_setCell_same _ _ _ _ _ _ HBLK.out).trans ?_)
      rw [← cntA_set _ (show L < cs.length by omega), hcL]
     have m2 : ((wr.setCell ⟨w.heap.size + 1, L, none⟩ (.int .i64 ((cL : Int) + 1))).alloc (Obj.cells #[Value.int .i64 5, Value.int .i64 n, Value.string s, Value.int .i64 (L : Int), Value.int .i64 (R : Int)] 98)).drew.heap[wr.heap.size]? = some (Obj.cells #[Value.int .i64 5, Value.int .i64 n, Value.string s, Value.int .i64 (L : Int), Value.int .i64 (R : Int)] 98) := blk_at _ _ _ (by simp)
     have m3 : Below w.heap.size w ((wr.setCell ⟨w.heap.size + 1, L, none⟩ (.int .i64 ((cL : Int) + 1))).alloc (Obj.cells #[Value.int .i64 5, Value.int .i64 n, Value.string s, Value.int .i64 (L : Int), Value.int .i64 (R : Int)] 98)).drew := below_drewN (((hb.setCell (p := ⟨_, _, none⟩) (by simp) _).alloc (by simp; omega) _)) 1
     generalize ((wr.setCell ⟨w.heap.size + 1, L, none⟩ (.int .i64 ((cL : Int) + 1))).alloc (Obj.cells #[Value.int .i64 5, Value.int .i64 n, Value.string s, Value.int .i64 (L : Int), Value.int .i64 (R : Int)] 98)).drew = w2 at *
     have v4 := zB 4 m2 rfl
     have f2 := frozen_blk m1 R
     have g2 := cell_blk (j := R) m1 (cntA_get _ (by omega))
     have hcr : (usesC cs i ++ [(L : Int)]).count (R : Int) ≤ 2097153 := by
      have h1 := List.count_le_length (a := (R : Int)) (l := usesC cs i ++ [(L : Int)])
      rw [List.length_append] at h1
      have h2 := usesC_len cs i
      simp only [List.length_cons, List.length_nil] at h1
      omega
     have HM1 : Hid (w2.heap[w.heap.size + 1]? = some (Obj.cells (cntA cs.length (usesC cs i ++ [(L : Int)])) 3 (0, 0))) := m1
     have HM0 : Hid (w2.heap[w.heap.size]? = some (Obj.cells #[Value.slice (some ⟨b1, o1, none⟩) cs.length ca, Value.slice b ts.length cb] 66)) := m0
     generalize hcR : (usesC cs i ++ [(L : Int)]).count (R : Int) = cR at *
     clear m0 m1 m2 HK1 HK2 HBW
     go_wp2
     go_region
     go_wp2
     go_roundw
     case rel =>
      refine ⟨i + 1, by omega, by go_num, ?_, (heap_setCell_other _ _ _ _ (by simp)).trans HM0.out, ?_, below_drewN (m3.setCell (p := ⟨_, _, none⟩) (by simp) _) 1⟩
      ·intro j d hj hdj h5
       by_cases hji : j = i
       ·subst hji
        obtain rfl := Option.some.inj (hd.symm.trans hdj)
        exact ⟨q1, q2, q3, q4⟩
       ·exact HPT.out j d (by omega) hdj h5
      ·refine (heap_setCell_same _ _ _ _ _ _ HM1.out).trans ?_
       rw [HU'.out]
       have : partsOf (⟨5, n, s, (L : Int), (R : Int)⟩ : Dat) = [(L : Int)] ++ [(R : Int)] := rfl
       rw [this, ← List.append_assoc, ← cntA_set _ (show R < cs.length by omega), hcR]
     case measure => simp [intOf]; omega
    ·have HF : Hid (treeB cs ts = false) := treeB_false (TreeP.not_of_pair hd rfl hin)
     clear HU'
     by_cases d1 : l < 0
     ·have d1' : decide (l < 0) = true := by simp [d1]
      go_wp2
      go_ret
      exact ⟨by rw [HF.out]; rfl, HBW.out⟩
     ·have d1' : decide (l < 0) = false := by simp; omega
      by_cases d2 : (i : Int) ≤ l
      ·have d2' : decide ((i : Int) ≤ l) = true := by simp [d2]
       go_wp2
       go_ret
       exact ⟨by rw [HF.out]; rfl, HBW.out⟩
      ·have d2' : decide ((i : Int) ≤ l) = false := by simp; omega
       by_cases d3 : r < 0
       ·have d3' : decide (r < 0) = true := by simp [d3]
        go_wp2
        go_ret
        exact ⟨by rw [HF.out]; rfl, HBW.out⟩
       ·have d3' : decide (r < 0) = false := by simp; omega
        have d4' : decide ((i : Int) ≤ r) = true := by simp; omega
        go_wp2
        go_ret
        exact ⟨by rw [HF.out]; rfl, HBW.out⟩
   ·have h5' : (k != 5) = true := by simp [h5]
    have hpo : partsOf (⟨k, n, s, l, r⟩ : Dat) = [] := if_neg h5
    rw [hpo, List.append_nil] at HU'
    go_wp2
    go_roundw
    case rel =>
     refine ⟨i + 1, by omega, by go_num, ?_, HK1.out, by rw [HU'.out]; exact HK2.out, HBW.out⟩
     intro j d hj hdj h5j
     by_cases hji : j = i
     ·subst hji
      obtain rfl := Option.some.inj (hd.symm.trans hdj)
      exact absurd h5j h5
     ·exact HPT.out j d (by omega) hdj h5j
    case measure => simp [intOf]; omega
  ·have i1 : decide ((i : Int) < (cs.length : Int)) = false := by simp; omega
   obtain rfl : i = cs.length := by omega
   rw [usesC_all] at HBLK
   have hpok : PairOk cs := fun j d hj h5 => HPT.out j d (llt hj) hj h5
   have HP : Hid (PairOk cs) := hpok
   have hul : Hid ((cs.flatMap partsOf).length ≤ 2097152) := by
    have h1 := usesC_len cs cs.length
    rw [usesC_all] at h1
    show _ ≤ _; omega
   clear HPT hpok
   go_wp2
   go_loopw [6] (fun o wr => ∃ (i : Nat), i ≤ ts.length ∧ o = .int .i64 i ∧ (∀ t ∈ ts.take i, 0 ≤ t ∧ t < cs.length) ∧ wr.heap[w.heap.size]? = some (Obj.cells #[Value.slice a cs.length ca, Value.slice b ts.length cb] 66) ∧ wr.heap[w.heap.size + 1]? = some (Obj.cells (cntA cs.length (cs.flatMap partsOf ++ ts.take i)) 3 (0, 0)) ∧ Below w.heap.size w wr)
    (fun o _ => ts.length - (intOf o).toNat)
   case atStart => exact ⟨0, by omega, rfl, by simp, HKD.out, by simpa using HBLK.out, hb⟩
   case round =>
    clear HKD HBLK hb e0 e1 hsz
    obtain ⟨i, hi, rfl, htt, hkd, hblk, hb⟩ := hrel
    obtain ⟨e0, e1⟩ := zn2 hkd rfl rfl
    have HKD : Hid (wr.heap[w.heap.size]? = some (Obj.cells #[Value.slice a cs.length ca, Value.slice b ts.length cb] 66)) := hkd
    have HBLK : Hid (wr.heap[w.heap.size + 1]? = some (Obj.cells (cntA cs.length (cs.flatMap partsOf ++ ts.take i)) 3 (0, 0))) := hblk
    have HTT : Hid (∀ t ∈ ts.take i, 0 ≤ t ∧ t < cs.length) := htt
    have hsz : w.heap.size + 1 < wr.heap.size := (alt hblk)
    clear hkd hblk htt
    by_cases hlt : i < ts.length
    ·obtain ⟨t, ht⟩ : ∃ t, ts[i]? = some t := ⟨_, List.getElem?_eq_getElem hlt⟩
     obtain ⟨b1, o1, rfl, hbb, c0⟩ := (HI.out.below hb) i t ht
     have i1 : decide ((i : Int) < (ts.length : Int)) = true := by simp; omega
     by_cases hin : 0 ≤ t ∧ t < cs.length
     ·obtain ⟨q1, q2⟩ := hin
      obtain ⟨T, rfl⟩ := Int.eq_ofNat_of_zero_le q1
      have d1 : decide ((T : Int) < 0) = false := by simp
      have d2 : decide ((cs.length : Int) ≤ (T : Int)) = false := by simp; omega
      have f1 := frozen_blk HBLK.out T
      have g1 := cell_blk (j := T) HBLK.out (cntA_get _ (by omega))
      have hcl : (cs.flatMap partsOf ++ ts.take i).count (T : Int) ≤ 3145728 := by
       have h1 := List.count_le_length (a := (T : Int)) (l := cs.flatMap partsOf ++ ts.take i)
       rw [List.length_append, List.length_take] at h1
       have h2 := hul.out
       omega
      generalize hcT : (cs.flatMap partsOf ++ ts.take i).count (T : Int) = cT at *
      go_wp2
      go_region
      go_wp2
      go_roundw
      case rel =>
       refine ⟨i + 1, by omega, by go_num, ?_, (heap_setCell_other _ _ _ _ (by simp)).trans HKD.out, ?_, below_drewN (hb.setCell (p := ⟨_, _, none⟩) (by simp) _) 1⟩
       ·intro u hu
        rw [List.take_add_one, ht] at hu
        rcases List.mem_append.1 hu with hu | hu
        ·exact HTT.out u hu
        ·simp at hu
         subst hu
         exact ⟨q1, q2⟩
       ·refine (heap_setCell_same _ _ _ _ _ _ HBLK.out).trans ?_
        rw [List.take_add_one, ht, Option.toList_some, ← List.append_assoc, ← cntA_set _ (show T < cs.length by omega), hcT]
      case measure => simp [intOf]; omega
     ·have HF : Hid (treeB cs ts = false) := treeB_false (TreeP.not_of_top ht hin)
      by_cases d1 : t < 0
      ·have d1' : decide (t < 0) = true := by simp [d1]
       go_wp2
       go_ret
       exact ⟨by rw [HF.out]; rfl, hb⟩
      ·have d1' : decide (t < 0) = false := by simp; omega
       have d2' : decide ((cs.length : Int) ≤ t) = true := by simp; omega
       go_wp2
       go_ret
       exact ⟨by rw [HF.out]; rfl, hb⟩
    ·have i1 : decide ((i : Int) < (ts.length : Int)) = false := by simp; omega
     obtain rfl : i = ts.length := by omega
     rw [List.take_length] at HBLK HTT
     go_wp2
     go_loopw [7] (fun o wr => ∃ (i : Nat), i ≤ cs.length ∧ o = .int .i64 i ∧ (∀ j : Nat, j < i → (usesOf cs ts).count (j : Int) = 1) ∧ wr.heap[w.heap.size + 1]? = some (Obj.cells (cntA cs.length (usesOf cs ts)) 3 (0, 0)) ∧ Below w.heap.size w wr)
      (fun o _ => cs.length - (intOf o).toNat)
     case atStart => exact ⟨0, by omega, rfl, fun j h => absurd h (by omega), HBLK.out, hb⟩
     case round =>
      clear HKD HBLK hb e0 e1 hsz
      obtain ⟨i, hi, rfl, hc, hblk, hb⟩ := hrel
      have HC : Hid (∀ j : Nat, j < i → (usesOf cs ts).count (j : Int) = 1) := hc
      have HBLK : Hid (wr.heap[w.heap.size + 1]? = some (Obj.cells (cntA cs.length (usesOf cs ts)) 3 (0, 0))) := hblk
      clear hc
      by_cases hlt : i < cs.length
      ·have i1 : decide ((i : Int) < (cs.length : Int)) = true := by simp; omega
       have g1 := cell_blk (j := i) hblk (cntA_get _ hlt)
       clear hblk
       by_cases h1 : (usesOf cs ts).count (i : Int) = 1
       ·have HC1 : Hid ((usesOf cs ts).count (i : Int) = 1) := h1
        rw [h1] at g1
        clear h1
        go_wp2
        go_roundw
        case rel =>
         refine ⟨i + 1, by omega, by go_num, fun j hj => ?_, HBLK.out, hb⟩
         by_cases hji : j = i
         ·subst hji; exact HC1.out
         ·exact HC.out j (by omega)
        case measure => simp [intOf]; omega
       ·have HF : Hid (treeB cs ts = false) := treeB_false fun ht => h1 (ht.2.2 i hlt)
        generalize hcc : (usesOf cs ts).count (i : Int) = c at *
        have h1' : ((c : Int) != 1) = true := by rw [bne_iff_ne]; omega
        go_wp2
        go_ret
        exact ⟨by rw [HF.out]; rfl, hb⟩
      ·have i1 : decide ((i : Int) < (cs.length : Int)) = false := by simp; omega
       obtain rfl : i = cs.length := by omega
       have HF : Hid (treeB cs ts = true) := treeB_true ⟨HP.out, HTT.out, HC.out⟩
       clear hblk
       go_wp2
       go_ret
       exact ⟨by rw [HF.out]; rfl, hb⟩
end Go.Proofs.Ytgjeefedcfakdaa.R2
