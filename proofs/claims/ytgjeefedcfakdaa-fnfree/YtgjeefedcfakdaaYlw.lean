/- The law FnFree walked: for whatever code it answers true. -/
import Derived.Test.YtgjeefedcfakdaaMpe
import Derived.Test.YtgjeefedcfakdaaYlp
import Derived.Deep.RegionHeld3
set_option linter.unusedVariables false
namespace Go.Proofs.Ytgjeefedcfakdaa
open Go.ChangeShapes Go.WideShapes Go.ChangeAt Go.RowKit
open Cu (Code1 CodeAt)
set_option maxRecDepth 100000 in
set_option maxHeartbeats 4000000 in
theorem lawF (d : Code1) (w : World) (hc : CodeAt w w.heap.size d) : Calls Try.prog 3 #[.slice d.a d.len d.cap] w fun e w' => Ans w (.bool true) e w' := by
 have H4 : Hid (Calls Try.prog 4 #[.slice d.a d.len d.cap] w fun e w' => Ans w (.bool false) e w') := by
  have h := big_any d.a d.len d.cap w
  rwa [show decide ((1048576 : Int) < (d.len : Int)) = false by have := hc.1; simp; omega] at h
 have HC : Hid (CodeAt w w.heap.size d) := hc
 clear hc
 go_enter Try.func3, Try.ntmps3
 go_wp2_with fail
 refine H4.out.mono ?_
 rintro e w0 ⟨rfl, hb0⟩
 have HB0 : Hid (Below w.heap.size w w0) := hb0
 have HD : Hid (Calls Try.prog 5 #[.slice d.a d.len d.cap] w0 fun e W => DfPost w0 e W) := drawFree_any d w0 (codeAt_up HC.out hb0.size hb0.block)
 clear hb0 H4 HC
 go_wp2_with fail
 refine HD.out.mono ?_
 rintro e w1 ⟨a, cap, ns, root, idx, rfl, hrow, hl, hsm, hroot, hidx, hb1⟩
 obtain ⟨l, hll, h8, h6, hcase⟩ := frees2 ns root idx hidx hl hsm
 have HB1 : Hid (Below w.heap.size w (w1.alloc (Obj.cells #[.slice a ns.length cap, .int .i64 root] 26))) := bstep (bstep HB0.out hb1) (bR _ _)
 have HR1 : Hid (RowN (w1.alloc (Obj.cells #[.slice a ns.length cap, .int .i64 root] 26)) (w1.alloc (Obj.cells #[.slice a ns.length cap, .int .i64 root] 26)).heap.size a ns) := hrow.up (bR _ _)
 have KZ1 : Hid ((w1.alloc (Obj.cells #[.slice a ns.length cap, .int .i64 root] 26)).heap[w1.heap.size]? = some (Obj.cells #[.slice a ns.length cap, .int .i64 root] 26)) := blk_at _ _ _ rfl
 have H6 : Hid (∀ (w : World), RowN w w.heap.size a ns → Calls Try.prog 6 #[.agg #[.slice a ns.length cap, .int .i64 root], .int .i64 idx] w fun e w' => TellP l w e w') := h6 a cap
 have H8 : Hid (∀ (w : World), RowN w w.heap.size a ns → Calls Try.prog 8 #[.agg #[.slice a ns.length cap, .int .i64 root], .int .i64 idx] w fun e w' => TellP l w e w') := h8 a cap
 have HFL : Hid (FreeL ns root idx l) := hcase
 have HLL : Hid (l.length ≤ 400) := hll
 have HNL : Hid (ns.length ≤ 401) := hl
 have HSM : Hid (∀ d ∈ ns, NSw d) := hsm
 have HIX : Hid (i64B idx) := hidx
 clear hb1 h8 h6 hcase hll hl hsm hroot hidx hrow HB0 HD
 go_wp2_with fail
 refine (H6.out _ HR1.out).mono ?_
 generalize hG : w1.heap.size = G at *
 generalize hW : w1.alloc (Obj.cells #[.slice a ns.length cap, .int .i64 root] 26) = W1 at *
 clear hG hW
 intro e w2 ht
 obtain ⟨al, cl, rfl, hr2, hlc, hb2⟩ := ht.row
 have k2 := blk_keep KZ1.out hb2 (alt KZ1.out)
 have HB2 : Hid (Below w.heap.size w w2) := bstep HB1.out hb2
 have HN2 : Hid (RowN w2 w2.heap.size a ns) := HR1.out.up hb2
 have KZ2 : Hid (w2.heap[G]? = some (Obj.cells #[.slice a ns.length cap, .int .i64 root] 26)) := k2
 have HL2 : Hid (RowS w2 w2.heap.size al l) := hr2
 obtain ⟨z0, z1⟩ := zn2 k2 rfl rfl
 clear ht hb2 hr2 k2 KZ1 HR1 H6 HB1
 go_wp2_with fail
 refine (H8.out _ HN2.out).mono ?_
 intro e w3 ht
 obtain ⟨am, cm, rfl, hr3, _, hb3⟩ := ht.row
 have hlt := (alt KZ2.out)
 have k3 := blk_keep KZ2.out hb3 hlt
 have HB3 : Hid (Below w.heap.size w w3) := bstep HB2.out hb3
 have HN3 : Hid (RowN w3 w3.heap.size a ns) := HN2.out.up hb3
 have KZ3 : Hid (w3.heap[G]? = some (Obj.cells #[.slice a ns.length cap, .int .i64 root] 26)) := k3
 have HL3 : Hid (RowS w3 w3.heap.size al l) := HL2.out.up hb3
 have H7 : Hid (Calls Try.prog 7 #[.slice al l.length cl, .slice am l.length cm] w3 fun e w' => Ans w3 (.bool true) e w') := same_any al am l cl cm w3 (by have := HLL.out; omega) HL3.out hr3
 clear ht hb3 hr3 k3 hlt z0 z1 KZ2 HN2 HB2 H8 HL2
 go_wp2_with fail
 refine H7.out.mono ?_
 rintro e w4 ⟨rfl, hb4⟩
 have hlt := (alt KZ3.out)
 have k4 := blk_keep KZ3.out hb4 hlt
 have HB4 : Hid (Below w.heap.size w w4) := bstep HB3.out hb4
 have HN4 : Hid (RowN w4 w4.heap.size a ns) := HN3.out.up hb4
 have KZ4 : Hid (w4.heap[G]? = some (Obj.cells #[.slice a ns.length cap, .int .i64 root] 26)) := k4
 have HL4 : Hid (RowS w4 w4.heap.size al l) := HL3.out.up hb4
 have HOK : Hid (Calls Try.prog 9 #[.agg #[.slice a ns.length cap, .int .i64 root]] w4 fun e w' => OkPost ns root w4 e w') := specOk_any a ns cap root w4 (by have := HNL.out; omega) (by have := flat_bound ns HSM.out; have := HNL.out; omega) HN4.out fun d hd => (HSM.out d hd).small
 obtain ⟨z0, z1⟩ := zn2 k4 rfl rfl
 clear hb4 k4 hlt KZ3 HN3 HB3 H7 HL3
 go_wp2_with fail
 refine HOK.out.mono ?_
 rintro e w5 ⟨b, rfl, hq, hb5⟩
 have hlt := (alt KZ4.out)
 have k5 := blk_keep KZ4.out hb5 hlt
 have HB5 : Hid (Below w.heap.size w w5) := bstep HB4.out hb5
 have HN5 : Hid (RowN w5 w5.heap.size a ns) := HN4.out.up hb5
 have KZ5 : Hid (w5.heap[G]? = some (Obj.cells #[.slice a ns.length cap, .int .i64 root] 26)) := k5
 have HL5 : Hid (RowS w5 w5.heap.size al l) := HL4.out.up hb5
 obtain ⟨y0, y1⟩ := zn2 k5 rfl rfl
 clear hb5 k5 hlt KZ4 HN4 HB4 HOK HL4 z0 z1
 rcases HFL.out with ⟨hno, rfl⟩ | ⟨hok, i, rfl, hi, hnd, hvar, hlam⟩
 ·cases b
  ·clear hq hno HFL
   go_wp2_with fail
   go_ret
   exact ⟨rfl, HB5.out⟩
  ·have hok := hq.1 rfl
   by_cases h0 : idx < 0
   ·have h0' : decide (idx < 0) = true := by simpa using h0
    clear hq hno HFL h0
    go_wp2_with fail
    go_ret
    exact ⟨rfl, HB5.out⟩
   ·have h0' : decide (idx < 0) = false := by simpa using h0
    have h1' : decide ((ns.length : Int) ≤ idx) = true := by
     have : ¬ (idx < (ns.length : Int)) := fun h => hno ⟨hok, by omega, h⟩
     simp
     omega
    clear hq hno HFL h0 hok
    go_wp2_with fail
    go_ret
    exact ⟨rfl, HB5.out⟩
 ·obtain rfl : b = true := hq.2 hok
  have h0' : decide ((i : Int) < 0) = false := decide_eq_false (by omega)
  have h1' : decide ((ns.length : Int) ≤ (i : Int)) = false := decide_eq_false (by omega)
  have h2' : decide (ns.length ≤ i) = false := decide_eq_false (by omega)
  have HOKP : Hid (OkP ns root) := hok
  have HND : Hid l.Nodup := hnd
  have HVA : Hid (∀ s ∈ l, VarTo ns i s) := hvar
  have HLA : Hid (∀ d, ns[i]? = some d → d.k = 7 → ∀ s ∈ l, s ∉ d.names) := hlam
  clear hok hnd hvar hlam hq HFL
  go_wp2_with fail
  clear y0 y1 h0' h1' h2'
  have hnl := HNL.out
  have hll := HLL.out
  obtain ⟨ab, ao, rfl⟩ : ∃ b o, a = some ⟨b, o, none⟩ := by
   obtain ⟨b, o, e, _⟩ := HN5.out i _ (List.getElem?_eq_getElem hi)
   exact ⟨b, o, e⟩
  go_loopw [6] (fun o wr => ∃ (k : Nat), k ≤ l.length ∧ o = .int .i64 k ∧ Below w5.heap.size w5 wr)
   (fun o _ => l.length - (intOf o).toNat)
  case atStart => exact ⟨0, by omega, rfl, Below.refl _ _⟩
  case round =>
   obtain ⟨k, hk, rfl, hb⟩ := hrel
   have HB : Hid (Below w5.heap.size w5 wr) := hb
   have hlg := (alt KZ5.out)
   have kz := (hb.block _ hlg).trans KZ5.out
   by_cases hlt : k < l.length
   ·obtain ⟨s, hs⟩ : ∃ s, l[k]? = some s := ⟨_, List.getElem?_eq_getElem hlt⟩
    have HLS : Hid (l[k]? = some s) := hs
    have hkc : (k : Int) ≤ (cl : Int) := by omega
    have hkc' : k ≤ cl := by omega
    have HIS : Hid (isV ns s (i + 1) = true) := isV_yes (HVA.out s (List.mem_of_getElem? hs))
    clear hs
    obtain ⟨z0, z1⟩ := zn2 kz rfl rfl
    obtain ⟨lb, lo, rfl, hlb, hlv⟩ := HL5.out k s HLS.out
    have HLV : Hid (w5.cell? ⟨lb, lo + k, none⟩ = some (.string s)) := hlv
    clear hb kz hlv
    go_wp2_with fail
    go_loopw [7, 8] (fun v o w6 => ∃ (j : Nat), j ≤ i + 1 ∧ v = .bool (isV ns s j) ∧ o = .int .i64 j ∧ Below w5.heap.size w5 w6)
     (fun _ o _ => i + 1 - (intOf o).toNat)
    case atStart => exact ⟨0, by omega, rfl, rfl, HB.out⟩
    case round =>
     clear z0 z1
     obtain ⟨j, hj, rfl, rfl, hb6⟩ := hrel
     have k6 := (hb6.block _ hlg).trans KZ5.out
     obtain ⟨x0, x1⟩ := zn2 k6 rfl rfl
     by_cases hlj : j ≤ i
     ·have hlj' : decide ((j : Int) ≤ (i : Int)) = true := decide_eq_true (by omega)
      obtain ⟨nd, hd⟩ : ∃ d, ns[j]? = some d := ⟨_, List.getElem?_eq_getElem (by omega)⟩
      have HST : Hid (isV ns s (j + 1) = (isV ns s j || (nd.k == 5 && nd.s.toList == s.toList))) := isV_step hd
      obtain ⟨b1, o1, e1, hbb, an, cn, aa, ca, v0, v1, v2, v3, v4, hrs, hri, hcn1, hca1⟩ := HN5.out j nd hd
      injection e1 with e1
      injection e1 with e1 e2
      subst e1 e2
      have c0 := cell_keep v0 hb6 hbb
      have c2 := cell_keep v2 hb6 hbb
      have cl := cell_keep HLV.out hb6 hlb
      clear v0 v1 v2 v3 v4 hrs hri hcn1 hca1 hd k6
      cases hv : isV ns s j
      ·rw [hv] at HST
       by_cases hk5 : nd.k = 5
       ·have hk5b : (nd.k == 5) = true := by rw [hk5]; rfl
        cases hse : nd.s.toList == s.toList
        ·rw [hk5b, hse] at HST
         clear hk5 hv
         go_wp2_with fail
         go_region
         all_goals (try go_wp2)
         all_goals
          go_roundw
          case rel => exact ⟨j + 1, by omega, by rw [HST.out]; rfl, by go_num, below_drewN hb6 _⟩
          case measure => simp [intOf]; omega
        ·rw [hk5b, hse] at HST
         clear hk5 hv
         go_wp2_with fail
         go_region
         all_goals (try go_wp2)
         all_goals
          go_roundw
          case rel => exact ⟨j + 1, by omega, by rw [HST.out]; rfl, by go_num, below_drewN hb6 _⟩
          case measure => simp [intOf]; omega
       ·have hk5b : (nd.k == 5) = false := by rw [beq_eq_false_iff_ne]; exact hk5
        rw [hk5b] at HST
        clear hk5 hv
        go_wp2_with fail
        go_region
        all_goals (try go_wp2)
        all_goals
         go_roundw
         case rel => exact ⟨j + 1, by omega, by rw [HST.out]; rfl, by go_num, below_drewN hb6 _⟩
         case measure => simp [intOf]; omega
      ·rw [hv] at HST
       clear hv c0 c2 cl
       go_wp2_with fail
       go_region
       all_goals (try go_wp2)
       all_goals
        go_roundw
        case rel => exact ⟨j + 1, by omega, by rw [HST.out]; rfl, by go_num, below_drewN hb6 _⟩
        case measure => simp [intOf]; omega
     ·have hlj' : decide ((j : Int) ≤ (i : Int)) = false := decide_eq_false (by omega)
      obtain rfl : j = i + 1 := by omega
      rw [HIS.out]
      obtain ⟨nd, hd⟩ : ∃ d, ns[i]? = some d := ⟨_, List.getElem?_eq_getElem hi⟩
      obtain ⟨b1, o1, e1, hbb, an, cn, aa, ca, v0, v1, v2, v3, v4, hrs, hri, hcn1, hca1⟩ := HN5.out i nd hd
      injection e1 with e1
      injection e1 with e1 e2
      subst e1 e2
      have HH1 : Hid (∀ W, Below w5.heap.size w5 W → Calls Try.prog 10 #[.slice (some ⟨lb, lo, none⟩) k cl, .string s] W fun e W' => e = .returned (.bool false) ∧ ∃ m, W' = W.drewN m) := fun W h => by
       have := has_any (some ⟨lb, lo, none⟩) (l.take k) cl s W (by rw [List.length_take]; omega) (((HL5.out.below h).mono h.size).take k)
       rwa [List.length_take, Nat.min_eq_left (by omega), nodup_has HND.out HLS.out] at this
      have HX : Hid (∀ W, Below w5.heap.size w5 W → W.cell? ⟨G, 0, none⟩ = some (.slice (some ⟨ab, ao, none⟩) ns.length cap) ∧ W.cell? ⟨ab, ao + i * 5, none⟩ = some (.int .i64 nd.k) ∧ W.cell? ⟨ab, ao + i * 5 + 3, none⟩ = some (.slice an nd.names.length cn) ∧ W.cell? ⟨lb, lo + k, none⟩ = some (.string s)) := fun W h => ⟨cell_blk (j := 0) ((h.block _ hlg).trans KZ5.out) rfl, cell_keep v0 h hbb, cell_keep v3 h hbb, cell_keep HLV.out h hlb⟩
      obtain ⟨t0, t1, t2, t3⟩ := HX.out _ hb6
      by_cases hk7 : nd.k = 7
      ·have hk7b : (nd.k == 7) = true := by rw [hk7]; rfl
       have HH2 : Hid (∀ W, Below w5.heap.size w5 W → Calls Try.prog 10 #[.slice an nd.names.length cn, .string s] W fun e W' => e = .returned (.bool false) ∧ ∃ m, W' = W.drewN m) := fun W h => by
        have hr : RowS W W.heap.size an nd.names := fun q x hx => by
         obtain ⟨b, o, h1, h2, h3⟩ := hrs q x hx
         exact ⟨b, o, h1, by have := h.size; omega, (World.cell?_of_block (w := w5) (a := ⟨b, _, none⟩) (h.block b h2)).trans h3⟩
        have := has_any an nd.names cn s W (by have := (HSM.out nd (List.mem_of_getElem? hd)).2.2.2.1; omega) hr
        rwa [hasS_not.2 (HLA.out nd hd hk7 s (List.mem_of_getElem? HLS.out))] at this
       clear hj hlj v0 v1 v2 v3 v4 hrs hri hcn1 hca1 hd hk7 k6 x0 x1
       have HB6 : Hid _ := hb6
       clear hb6
       go_wp2_with fail
       go_quiet (first | (go_at_call_of 10 (Value.slice an nd.names.length cn); exact Calls.quiet_of (HH2.out _ (below_drewN HB6.out _))) | (go_at_call_of 10 (Value.slice (some ⟨lb, lo, none⟩) k cl); exact Calls.quiet_of (HH1.out _ (below_drewN HB6.out _))))
       go_wp2
       go_roundw
       case rel => exact ⟨k + 1, by omega, by go_num, below_drewN HB6.out _⟩
       case measure => simp [intOf]; omega
      ·have hk7b : (nd.k == 7) = false := by rw [beq_eq_false_iff_ne]; exact hk7
       clear hj hlj v0 v1 v2 v3 v4 hrs hri hcn1 hca1 hd hk7 k6 x0 x1
       have HB6 : Hid _ := hb6
       clear hb6
       go_wp2_with fail
       go_quiet (exact Calls.quiet_of (HH1.out _ (below_drewN HB6.out _)))
       go_wp2
       go_roundw
       case rel => exact ⟨k + 1, by omega, by go_num, below_drewN HB6.out _⟩
       case measure => simp [intOf]; omega
   ·have hlt' : decide ((k : Int) < (l.length : Int)) = false := decide_eq_false (by omega)
    clear kz
    have HKZ : Hid (∀ W, Below w5.heap.size w5 W → RowN W W.heap.size (some ⟨ab, ao, none⟩) ns ∧ W.heap[G]? = some (Obj.cells #[.slice (some ⟨ab, ao, none⟩) ns.length cap, .int .i64 root] 26)) := fun W h => ⟨HN5.out.up h, (h.block _ hlg).trans KZ5.out⟩
    have z0 := cell_blk (j := 0) (HKZ.out _ hb).2 rfl
    have z1 := cell_blk (j := 1) (HKZ.out _ hb).2 rfl
    have hsm : ∀ d ∈ ns, d.small := fun d hd => (HSM.out d hd).small
    have hfl : (flat ns).length ≤ 1048576 := by have := flat_bound ns HSM.out; omega
    have HSI : Hid (Calls Try.prog 11 #[.agg #[.slice (some ⟨ab, ao, none⟩) ns.length cap, .int .i64 root]] wr fun e w' => TellP (setsL ns) wr e w') := implSets_yes (some ⟨ab, ao, none⟩) ns cap root wr (by omega) (HKZ.out _ hb).1 hsm HOKP.out
    have HDI : Hid (∀ W, Below w5.heap.size w5 W → Calls Try.prog 12 #[.agg #[.slice (some ⟨ab, ao, none⟩) ns.length cap, .int .i64 root]] W fun e w' => Ans W (.int .i64 (depN ns : Nat)) e w') := fun W h => implDepth_yes _ ns cap root W (by omega) hfl (HKZ.out _ h).1 hsm HOKP.out
    have HDS : Hid (∀ W, Below w5.heap.size w5 W → Calls Try.prog 14 #[.agg #[.slice (some ⟨ab, ao, none⟩) ns.length cap, .int .i64 root]] W fun e w' => Ans W (.int .i64 (depN ns : Nat)) e w') := fun W h => specDepth_yes _ ns cap root W (by omega) hfl (HKZ.out _ h).1 hsm HOKP.out
    have HSS : Hid (∀ W, Below w5.heap.size w5 W → Calls Try.prog 13 #[.agg #[.slice (some ⟨ab, ao, none⟩) ns.length cap, .int .i64 root]] W fun e w' => TellP (setsL ns) W e w') := fun W h => specSets_yes _ ns cap root W (by omega) hfl (HKZ.out _ h).1 hsm HOKP.out
    obtain ⟨D, hD⟩ : ∃ D : Int, D = (depN ns : Nat) := ⟨_, rfl⟩
    have hd1 : decide ((1 : Int) ≤ D) = true := decide_eq_true (by have := depN_pos HOKP.out.1; omega)
    have hd2 : decide (D ≤ (ns.length : Int)) = true := decide_eq_true (by have := depN_le ns; omega)
    have hsl : (setsL ns).length ≤ 401 := Nat.le_trans (setsL_len _ ns rfl) hnl
    rw [← hD] at HDI HDS
    generalize setsL ns = sl at *
    clear hD hsm hfl
    go_wp2_with fail
    refine HSI.out.mono ?_
    intro e w6 ht
    obtain ⟨aw, cs, rfl, hr6, _, hb6⟩ := ht.row
    have HB6 : Hid (Below w5.heap.size w5 w6) := bT hb hb6
    have HR6 : Hid (∀ W, Below w6.heap.size w6 W → RowS W W.heap.size aw sl) := fun W h => hr6.up h
    have HX : Hid (∀ W, Below w6.heap.size w6 W → W.cell? ⟨G, 0, none⟩ = some (.slice (some ⟨ab, ao, none⟩) ns.length cap) ∧ W.cell? ⟨G, 1, none⟩ = some (.int .i64 root)) := fun W h => by
     have k := (HKZ.out W (bT HB6.out h)).2
     exact ⟨cell_blk (j := 0) k rfl, cell_blk (j := 1) k rfl⟩
    have HDI6 : Hid (∀ W, Below w6.heap.size w6 W → Calls Try.prog 12 #[.agg #[.slice (some ⟨ab, ao, none⟩) ns.length cap, .int .i64 root]] W fun e w' => e = .returned (.int .i64 D) ∧ Below w6.heap.size w6 w') := fun W h => (HDI.out W (bT HB6.out h)).mono fun e w' hp => ⟨hp.1, bstep h hp.2⟩
    have HDS6 : Hid (∀ W, Below w6.heap.size w6 W → Calls Try.prog 14 #[.agg #[.slice (some ⟨ab, ao, none⟩) ns.length cap, .int .i64 root]] W fun e w' => e = .returned (.int .i64 D) ∧ Below w6.heap.size w6 w') := fun W h => (HDS.out W (bT HB6.out h)).mono fun e w' hp => ⟨hp.1, bstep h hp.2⟩
    have HSS6 : Hid (∀ W, Below w6.heap.size w6 W → Calls Try.prog 13 #[.agg #[.slice (some ⟨ab, ao, none⟩) ns.length cap, .int .i64 root]] W fun e w' => ∃ am cm, e = .returned (.slice am sl.length cm) ∧ RowS w' w'.heap.size am sl ∧ Below w6.heap.size w6 w') := fun W h => (HSS.out W (bT HB6.out h)).mono fun e w' hp => by
     obtain ⟨am, cm, he, hr, _, hb⟩ := hp.row
     exact ⟨am, cm, he, hr, bstep h hb⟩
    have HBW : Hid (∀ W, Below w6.heap.size w6 W → Below w.heap.size w W) := fun W h => by
     have h5 : Below w5.heap.size w5 W := bT HB6.out h
     exact bT HB5.out h5
    have HB7 : Hid (∀ W am cm, Below w6.heap.size w6 W → RowS W W.heap.size am sl → Calls Try.prog 7 #[.slice aw sl.length cs, .slice am sl.length cm] W fun e w' => e = .returned (.bool true) ∧ Below w6.heap.size w6 w') := fun W am cm h hr => (same_any aw am sl cs cm W (by omega) (HR6.out W h) hr).mono fun e w' hp => ⟨hp.1, bstep h hp.2⟩
    clear z0 z1 hb6 ht hr6 HSI HDI HDS HSS HKZ hb hlg
    go_wp2_with fail
    go_region_held3 (fun w' => w'.cell? ⟨G, 0, none⟩ = some (.slice (some ⟨ab, ao, none⟩) ns.length cap) ∧ w'.cell? ⟨G, 1, none⟩ = some (.int .i64 root))
     (first | exact HX.out _ (by assumption) | exact HX.out _ (below_drewN (Below.refl _ _) 1))
     (first
     | (go_at_call 12; refine (HDI6.out _ (by first | assumption | exact below_drewN (Below.refl _ _) 1)).mono ?_; rintro e wd ⟨rfl, hbd⟩)
     | (go_at_call 14; refine (HDS6.out _ (by assumption)).mono ?_; rintro e wd ⟨rfl, hbd⟩)
     | (go_at_call 13; refine (HSS6.out _ (by assumption)).mono ?_; rintro e wd ⟨aq, cq, rfl, hrq, hbd⟩)
     | (go_at_call 7; refine (HB7.out _ aq cq (by assumption) hrq).mono ?_; rintro e wd ⟨rfl, hbd⟩))
    all_goals
     go_wp2
     go_ret
     exact ⟨rfl, HBW.out _ (by assumption)⟩
end Go.Proofs.Ytgjeefedcfakdaa
