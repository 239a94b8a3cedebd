/- Is a system right? The model's way. -/
import Derived.Test.YtlacidojljilaaaGreatDoorSsb
import Derived.Test.YtlacidojljilaaaGreatDoorSie
set_option linter.unusedVariables false
set_option maxRecDepth 100000
set_option maxHeartbeats 8000000
namespace Go.Proofs.YtlacidojljilaaaGreatDoor
open Go.ChangeShapes Go.WideShapes Go.ChangeAt Go.RowKit
theorem Sy.ok_eq (y : Sy) : y.ok = ((holds (HeapP y.heap) && (decide ((1 : Int) ≤ (y.insts.length : Int)) && decide ((y.insts.length : Int) ≤ 12)) && decide (y.units.length ≤ 60) && decide (y.out.length ≤ 40)) && allI (fun i x => x.ok y.heap y.insts.length i) y.insts y.insts.length && y.units.all (Unt.ok y.insts.length) && y.heap.all (fnB y.units)) := by
 unfold Sy.ok instsB unitsB fnsB
 rw [show decide ((1 : Int) ≤ (y.insts.length : Int)) = decide (1 ≤ y.insts.length) from decide_eq_decide.2 (by omega), show decide ((y.insts.length : Int) ≤ 12) = decide (y.insts.length ≤ 12) from decide_eq_decide.2 (by omega)]
 rw [Bool.eq_iff_iff]
 simp only [Bool.and_eq_true]
 constructor
 ·rintro ⟨⟨⟨⟨h1, h2, h3⟩, h4, h5⟩, h6⟩, h7⟩
  exact ⟨⟨⟨⟨⟨⟨h1, h2⟩, h4⟩, h7⟩, h3⟩, h5⟩, h6⟩
 ·rintro ⟨⟨⟨⟨⟨⟨h1, h2⟩, h4⟩, h7⟩, h3⟩, h5⟩, h6⟩
  exact ⟨⟨⟨⟨h1, h2, h3⟩, h4, h5⟩, h6⟩, h7⟩
theorem specSys_any (y : Sy) (y1 y2 y3 y4 : Option Addr) (d1 d2 d3 d4 : Nat) (w : World) (hs : y.small) (hr : SyRows w (fun b => b < w.heap.size) y1 y2 y3 y4 d1 d2 d3 d4 y) (hfl : ∀ u ∈ y.units, (flat u.prog.nodes).length ≤ 1048576) :
  Calls Tryz.prog 43 #[.agg #[.slice y1 y.heap.length d1, .slice y2 y.insts.length d2, .slice y3 y.units.length d3, .slice y4 y.out.length d4]] w fun e w' => Ans w (.bool y.ok) e w' := by
 have HS : Hid y.small := hs
 have HR : Hid (SyRows w (fun b => b < w.heap.size) y1 y2 y3 y4 d1 d2 d3 d4 y) := hr
 have now : ∀ w2, Below w.heap.size w w2 → SyRows w2 (fun b => b < w2.heap.size) y1 y2 y3 y4 d1 d2 d3 d4 y := fun w2 h2 => HR.out.keep fun b hb => ⟨Nat.lt_of_lt_of_le hb h2.size, h2.block b hb⟩
 obtain ⟨⟨s1, s1'⟩, ⟨s2, s2'⟩, ⟨s3, s3'⟩, ⟨s4, s4'⟩⟩ := hs
 have HC0 : Hid (∀ w2, Below w.heap.size w w2 → Calls Tryz.prog 70 #[.slice y1 y.heap.length d1] w2 fun e w' => HpPost y.heap w2 e w') := fun w2 h2 => specHeap_any y1 y.heap d1 w2 s1 s1' (rowC_iff.1 (now w2 h2).1.1)
 have HC1 : Hid (∀ (k : Nat) (x : Ins) (w2 : World), y.insts[k]? = some x → Below w.heap.size w w2 → Calls Tryz.prog 71 #[.agg #[.slice y1 y.heap.length d1, .slice y2 y.insts.length d2, .slice y3 y.units.length d3, .slice y4 y.out.length d4], .int .i64 k] w2 fun e w' => Ans w2 (.bool (x.ok y.heap y.insts.length k)) e w') := fun k x w2 hx h2 => specInst_any y y1 y2 y3 y4 d1 d2 d3 d4 k x w2 hx HS.out (now w2 h2)
 have RU : Hid (rgU.Row w (fun b => b < w.heap.size) y3 y.units) := hr.2.2.1.1
 have RC : Hid (rgC.Row w (fun b => b < w.heap.size) y1 y.heap) := hr.1.1
 have SU : Hid (∀ d ∈ y.units, Unt.small d) := s3'
 have FL : Hid (∀ u ∈ y.units, (flat u.prog.nodes).length ≤ 1048576) := hfl
 have H21 : Hid (∀ w1, Calls Tryz.prog 44 #[.int .i64 y.insts.length, .int .i64 1, .int .i64 12] w1 fun e w' => e = .returned (.bool (decide ((1 : Int) ≤ (y.insts.length : Int)) && decide ((y.insts.length : Int) ≤ 12))) ∧ w' = w1) := fun w1 => l1In_any _ _ _ w1
 have HI : Hid (y.ok = ((holds (HeapP y.heap) && (decide ((1 : Int) ≤ (y.insts.length : Int)) && decide ((y.insts.length : Int) ≤ 12)) && decide (y.units.length ≤ 60) && decide (y.out.length ≤ 40)) && allI (fun i x => x.ok y.heap y.insts.length i) y.insts y.insts.length && y.units.all (Unt.ok y.insts.length) && y.heap.all (fnB y.units))) := Sy.ok_eq y
 have hb0 : Below w.heap.size w (w.alloc (Obj.cells #[.slice y1 y.heap.length d1, .slice y2 y.insts.length d2, .slice y3 y.units.length d3, .slice y4 y.out.length d4] 41)) := bR _ _
 have k0 : (w.alloc (Obj.cells #[.slice y1 y.heap.length d1, .slice y2 y.insts.length d2, .slice y3 y.units.length d3, .slice y4 y.out.length d4] 41)).heap[w.heap.size]? = some (Obj.cells #[.slice y1 y.heap.length d1, .slice y2 y.insts.length d2, .slice y3 y.units.length d3, .slice y4 y.out.length d4] 41) := blk_at _ _ _ rfl
 clear hr now s1' s2' s3' s4' hfl HR HS
 go_enter Tryz.func43, Tryz.ntmps43
 go_wp2_with fail
 refine (HC0.out _ hb0).mono ?_
 rintro e v0 ⟨b, rfl, hq, hv⟩
 have hb1 : Below w.heap.size w v0 := bT hb0 hv
 have kY := bK k0 hv
 clear hv hb0 k0 HC0
 have hp := holds_of hq
 cases b
 ·have HQ : Hid (y.ok = false) := by show _ = _; rw [HI.out, ← hp]; rfl
  clear hp hq
  go_wp2
  go_ret
  exact ⟨by rw [HQ.out]; rfl, hb1⟩
 have HP : Hid (holds (HeapP y.heap) = true) := hp.symm
 have HFN : Hid (∀ c ∈ y.heap, c.k = 2 → 0 ≤ c.a ∧ 0 ≤ c.b) := heap_fn (hq.1 rfl)
 clear hp hq
 obtain ⟨p1, p2, p3⟩ := zj3 1 2 3 kY rfl rfl rfl
 go_wp2_with fail
 refine (H21.out _).mono ?_
 rintro e v1 ⟨rfl, rfl⟩
 cases h1 : (decide ((1 : Int) ≤ (y.insts.length : Int)) && decide ((y.insts.length : Int) ≤ 12))
 ·have HQ : Hid (y.ok = false) := by show _ = _; rw [HI.out, h1, Bool.and_false]; rfl
  clear h1
  go_wp2
  go_ret
  exact ⟨by rw [HQ.out]; rfl, hb1⟩
 have HL1 : Hid ((decide ((1 : Int) ≤ (y.insts.length : Int)) && decide ((y.insts.length : Int) ≤ 12)) = true) := h1
 clear h1
 by_cases h2 : y.units.length ≤ 60
 ·have g2 : decide ((60 : Int) < (y.units.length : Int)) = false := by simp; omega
  by_cases h3 : y.out.length ≤ 40
  ·have g3 : decide ((40 : Int) < (y.out.length : Int)) = false := by simp; omega
   have HH4 : Hid ((holds (HeapP y.heap) && (decide ((1 : Int) ≤ (y.insts.length : Int)) && decide ((y.insts.length : Int) ≤ 12)) && decide (y.units.length ≤ 60) && decide (y.out.length ≤ 40)) = true) := by show _ = _; rw [HP.out, HL1.out, decide_eq_true h2, decide_eq_true h3]; rfl
   have HB1 : Hid (Below w.heap.size w v1) := hb1
   have KY1 : Hid (v1.heap[w.heap.size]? = some (Obj.cells #[.slice y1 y.heap.length d1, .slice y2 y.insts.length d2, .slice y3 y.units.length d3, .slice y4 y.out.length d4] 41)) := kY
   have hYl : w.heap.size < v1.heap.size := (Array.getElem?_eq_some_iff.1 kY).1
   clear HP HL1 H21 hb1 kY
   go_wp2
   clear p1 p2 p3
   go_loopw [3] (fun o wr => ∃ k : Nat, k ≤ y.insts.length ∧ o = .int .i64 k ∧ allI (fun i x => x.ok y.heap y.insts.length i) y.insts k = true ∧ Below v1.heap.size v1 wr)
    (fun o _ => y.insts.length - (intOf o).toNat)
   case atStart => exact ⟨0, by omega, rfl, rfl, Below.refl _ _⟩
   case round =>
    obtain ⟨k, hk, rfl, hall, hbW⟩ := hrel
    have hbw : Below w.heap.size w wr := bT HB1.out hbW
    have kY := blk_keep KY1.out hbW hYl
    obtain ⟨p0, p1, p2, p3⟩ := zn4 kY rfl rfl rfl rfl
    by_cases hltk : k < y.insts.length
    ·obtain ⟨x, hx⟩ : ∃ x, y.insts[k]? = some x := ⟨_, List.getElem?_eq_getElem hltk⟩
     have HC : Hid (Calls Tryz.prog 71 #[.agg #[.slice y1 y.heap.length d1, .slice y2 y.insts.length d2, .slice y3 y.units.length d3, .slice y4 y.out.length d4], .int .i64 k] wr fun e w' => Ans wr (.bool (x.ok y.heap y.insts.length k)) e w') := HC1.out k x wr hx hbw
     have good : x.ok y.heap y.insts.length k = true → Hid (allI (fun i x => x.ok y.heap y.insts.length i) y.insts (k + 1) = true) := fun q => by show _ = _; rw [allI_step hx, hall, q]; rfl
     have bad : x.ok y.heap y.insts.length k = false → Hid (y.ok = false) := fun q => by show _ = _; rw [HI.out, allI_bad hx q, Bool.and_false]; rfl
     clear hx hall kY
     go_wp2_with fail
     refine HC.out.mono ?_
     rintro e w2 ⟨rfl, hb2⟩
     cases hok : x.ok y.heap y.insts.length k
     ·have HQ := bad hok
      clear good bad hok HC
      go_wp2
      go_ret
      exact ⟨by rw [HQ.out]; rfl, bT hbw hb2⟩
     ·have HQ := good hok
      clear good bad hok HC
      go_wp2
      go_roundw
      case rel => exact ⟨k + 1, by omega, by go_num, HQ.out, bT hbW hb2⟩
      case measure => simp [intOf]; omega
    ·obtain rfl : k = y.insts.length := by omega
     have HAI : Hid (allI (fun i x => x.ok y.heap y.insts.length i) y.insts y.insts.length = true) := hall
     have hlt' : decide ((y.insts.length : Int) < (y.insts.length : Int)) = false := by simp
     have KY2 : Hid (wr.heap[w.heap.size]? = some (Obj.cells #[.slice y1 y.heap.length d1, .slice y2 y.insts.length d2, .slice y3 y.units.length d3, .slice y4 y.out.length d4] 41)) := kY
     have hYl2 : w.heap.size < wr.heap.size := (Array.getElem?_eq_some_iff.1 kY).1
     have HB2 : Hid (Below w.heap.size w wr) := hbw
     obtain ⟨wR, rfl⟩ : ∃ wR, wR = wr := ⟨_, rfl⟩
     clear hall hbW hbw kY HC1 KY1 hYl HB1 hk hltk
     go_wp2
     clear p0 p1 p2 p3
     go_loopw [4] (fun o wr => ∃ k : Nat, k ≤ y.units.length ∧ o = .int .i64 k ∧ (y.units.take k).all (Unt.ok y.insts.length) = true ∧ Below wR.heap.size wR wr)
      (fun o _ => y.units.length - (intOf o).toNat)
     case atStart => exact ⟨0, by omega, rfl, by simp, Below.refl _ _⟩
     case round =>
      obtain ⟨k, hk, rfl, hall, hbW⟩ := hrel
      have hbw : Below w.heap.size w wr := bT HB2.out hbW
      have kY := blk_keep KY2.out hbW hYl2
      obtain ⟨p1, p2⟩ := zj2 1 2 kY rfl rfl
      by_cases hltk : k < y.units.length
      ·obtain ⟨u, hu⟩ : ∃ u, y.units[k]? = some u := ⟨_, List.getElem?_eq_getElem hltk⟩
       obtain ⟨b1, o1, cs, rfl, hbb, ⟨an, cn, rfl, hrn, hcn⟩, hl⟩ := (RU.out.below hbw) k u hu
       have e0 : wr.cell? ⟨b1, o1 + k * 3, none⟩ = some (.int .i64 u.home) := hl 0 _ rfl
       have e1 : wr.cell? ⟨b1, o1 + k * 3 + 1, none⟩ = some (.slice an u.prog.nodes.length cn) := hl 1 _ rfl
       have e2 : wr.cell? ⟨b1, o1 + k * 3 + 2, none⟩ = some (.int .i64 u.prog.root) := hl 2 _ rfl
       obtain ⟨_, ⟨n1, n2⟩, _⟩ := SU.out u (List.mem_of_getElem? hu)
       have hfl := FL.out u (List.mem_of_getElem? hu)
       have HPK : Hid (∀ w1, Below w.heap.size wr w1 → Calls Tryz.prog 72 #[.agg #[.slice an u.prog.nodes.length cn, .int .i64 u.prog.root]] w1 fun e w' => OkPost u.prog.nodes u.prog.root w1 e w') := fun w1 h1 => specOk_any an u.prog.nodes cn u.prog.root w1 n1 hfl (rowN_iff.1 (hrn.keep fun b hb' => ⟨by have := h1.size; have := hbw.size; omega, h1.block b hb'⟩)) n2
       have good : u.ok y.insts.length = true → Hid ((y.units.take (k + 1)).all (Unt.ok y.insts.length) = true) := fun q => by show _ = _; rw [all_take_succ _ hu, hall, q]; rfl
       have bad : u.ok y.insts.length = false → Hid (y.ok = false) := fun q => by show _ = _; rw [HI.out, all_of_bad _ hu q, Bool.and_false]; rfl
       have hlk : (k : Int) < (y.units.length : Int) := by omega
       clear hl hu hrn hall kY n1 n2 hfl
       go_upto_region 11 with fail
       go_cut [76] (fun c wx => c = .bool (!u.ok y.insts.length) ∧ Below wr.heap.size wr wx)
       case first =>
        by_cases h1 : u.home < 0
        ·have g1 : decide (u.home < 0) = true := decide_eq_true h1
         have HZ : Hid (u.ok y.insts.length = false) := by show _ = _; unfold Unt.ok; simp; omega
         clear good bad
         go_quiet (fail)
         go_wp2
         go_meet
         exact ⟨by rw [HZ.out]; rfl, below_drewN (Below.refl _ _) _⟩
        have g1 : decide (u.home < 0) = false := decide_eq_false h1
        by_cases h2 : (y.insts.length : Int) ≤ u.home
        ·have g2 : decide ((y.insts.length : Int) ≤ u.home) = true := decide_eq_true h2
         have HZ : Hid (u.ok y.insts.length = false) := by show _ = _; unfold Unt.ok; simp; omega
         clear good bad
         go_quiet (fail)
         go_wp2
         go_meet
         exact ⟨by rw [HZ.out]; rfl, below_drewN (Below.refl _ _) _⟩
        have g2 : decide ((y.insts.length : Int) ≤ u.home) = false := decide_eq_false h2
        have HZ : Hid (u.ok y.insts.length = holds (OkP u.prog.nodes u.prog.root)) := by show _ = _; unfold Unt.ok; rw [decide_eq_true (by omega), decide_eq_true (by omega)]; rfl
        clear good bad
        have hbe : Below w.heap.size wr wr.drew := below_drewN (Below.refl _ _) 1
        go_region_with (go_at_call 72; refine (HPK.out _ hbe).mono ?_; rintro e w2 ⟨bq, rfl, hq, hb2⟩)
        all_goals
         go_wp2_with fail
         go_meet
         exact ⟨by rw [HZ.out, ← holds_of hq], (below_drewN (Below.refl _ _) _).trans hb2⟩
       case rest =>
        obtain ⟨rfl, hbx⟩ := hcut
        have hby : Below w.heap.size w wc := bT hbw hbx
        have hbz : Below wR.heap.size wR wc := bT hbW hbx
        cases hz : u.ok y.insts.length
        ·have HQ := bad hz
         clear good bad hz
         go_wp2
         go_ret
         exact ⟨by rw [HQ.out]; rfl, hby⟩
        ·have HQ := good hz
         clear good bad hz
         go_wp2
         go_roundw
         case rel => exact ⟨k + 1, by omega, by go_num, HQ.out, hbz⟩
         case measure => simp [intOf]; omega
      ·obtain rfl : k = y.units.length := by omega
       rw [List.take_length] at hall
       have HUA : Hid (y.units.all (Unt.ok y.insts.length) = true) := hall
       have hlt' : decide ((y.units.length : Int) < (y.units.length : Int)) = false := by simp
       have KY3 : Hid (wr.heap[w.heap.size]? = some (Obj.cells #[.slice y1 y.heap.length d1, .slice y2 y.insts.length d2, .slice y3 y.units.length d3, .slice y4 y.out.length d4] 41)) := kY
       have hYl3 : w.heap.size < wr.heap.size := (Array.getElem?_eq_some_iff.1 kY).1
       have HB3 : Hid (Below w.heap.size w wr) := hbw
       obtain ⟨wS, rfl⟩ : ∃ wS, wS = wr := ⟨_, rfl⟩
       clear hall hbW hbw kY KY2 hYl2 HB2 hk hltk
       go_wp2
       clear p1 p2
       go_loopw [5] (fun o wr => ∃ k : Nat, k ≤ y.heap.length ∧ o = .int .i64 k ∧ (y.heap.take k).all (fnB y.units) = true ∧ Below wS.heap.size wS wr)
        (fun o _ => y.heap.length - (intOf o).toNat)
       case atStart => exact ⟨0, by omega, rfl, by simp, Below.refl _ _⟩
       case round =>
        obtain ⟨k, hk, rfl, hall, hbW⟩ := hrel
        have hbw : Below w.heap.size w wr := bT HB3.out hbW
        have kY := blk_keep KY3.out hbW hYl3
        have p0 := zB 0 kY rfl
        by_cases hltk : k < y.heap.length
        ·obtain ⟨c, hc⟩ : ∃ c, y.heap[k]? = some c := ⟨_, List.getElem?_eq_getElem hltk⟩
         obtain ⟨b1, o1, cs, rfl, hbb, ⟨an, cn, av, cv, rfl, _⟩, hl⟩ := (RC.out.below hbw) k c hc
         have hfn := HFN.out c (List.mem_of_getElem? hc)
         have good : fnB y.units c = true → Hid ((y.heap.take (k + 1)).all (fnB y.units) = true) := fun q => by show _ = _; rw [all_take_succ _ hc, hall, q]; rfl
         have bad : fnB y.units c = false → Hid (y.ok = false) := fun q => by show _ = _; rw [HI.out, all_of_bad _ hc q, Bool.and_false]
         obtain ⟨ck, cS, ca, cb, cnm, cvl⟩ := c
         simp only at hl hfn
         have e0 : wr.cell? ⟨b1, o1 + k * 6, none⟩ = some (.int .i64 ck) := hl 0 _ rfl
         have e1 : wr.cell? ⟨b1, o1 + k * 6 + 1, none⟩ = some (.string cS) := hl 1 _ rfl
         have e2 : wr.cell? ⟨b1, o1 + k * 6 + 2, none⟩ = some (.int .i64 ca) := hl 2 _ rfl
         have e3 : wr.cell? ⟨b1, o1 + k * 6 + 3, none⟩ = some (.int .i64 cb) := hl 3 _ rfl
         have e4 : wr.cell? ⟨b1, o1 + k * 6 + 4, none⟩ = some (.slice an cnm.length cn) := hl 4 _ rfl
         have e5 : wr.cell? ⟨b1, o1 + k * 6 + 5, none⟩ = some (.slice av cvl.length cv) := hl 5 _ rfl
         have hbA : Below w.heap.size w (wr.alloc (Obj.cells #[.int .i64 ck, .string cS, .int .i64 ca, .int .i64 cb, .slice an cnm.length cn, .slice av cvl.length cv] 107)) := hbw.alloc hbw.size _
         have hbB : Below wS.heap.size wS (wr.alloc (Obj.cells #[.int .i64 ck, .string cS, .int .i64 ca, .int .i64 cb, .slice an cnm.length cn, .slice av cvl.length cv] 107)) := hbW.alloc hbW.size _
         have kA : (wr.alloc (Obj.cells #[.int .i64 ck, .string cS, .int .i64 ca, .int .i64 cb, .slice an cnm.length cn, .slice av cvl.length cv] 107)).heap[wr.heap.size]? = some (Obj.cells #[.int .i64 ck, .string cS, .int .i64 ca, .int .i64 cb, .slice an cnm.length cn, .slice av cvl.length cv] 107) := blk_at _ _ _ rfl
         have kB : (wr.alloc (Obj.cells #[.int .i64 ck, .string cS, .int .i64 ca, .int .i64 cb, .slice an cnm.length cn, .slice av cvl.length cv] 107)).heap[w.heap.size]? = some (Obj.cells #[.slice (some ⟨b1, o1, none⟩) y.heap.length d1, .slice y2 y.insts.length d2, .slice y3 y.units.length d3, .slice y4 y.out.length d4] 41) := blk_past kY
         clear hl hc hall kY
         go_upto_region 17 with fail
         go_cut [129] (fun c wx => c = .bool (!fnB y.units (⟨ck, cS, ca, cb, cnm, cvl⟩ : Cel)) ∧ ∃ nd, wx = (wr.alloc (Obj.cells #[.int .i64 ck, .string cS, .int .i64 ca, .int .i64 cb, .slice an cnm.length cn, .slice av cvl.length cv] 107)).drewN nd)
         case first =>
          generalize wr.alloc (Obj.cells #[.int .i64 ck, .string cS, .int .i64 ca, .int .i64 cb, .slice an cnm.length cn, .slice av cvl.length cv] 107) = wA at *
          obtain ⟨x0, x2, x3⟩ := zj3 0 2 3 kA rfl rfl rfl
          have q2 := zB 2 kB rfl
          clear good bad p0 e0 e1 e2 e3 e4 e5 hbB
          by_cases hk2 : ck = 2
          ·obtain ⟨ha, hb⟩ := hfn hk2
           obtain ⟨ai, rfl⟩ : ∃ ai : Nat, ca = (ai : Int) := ⟨ca.toNat, by omega⟩
           obtain ⟨bi, rfl⟩ : ∃ bi : Nat, cb = (bi : Int) := ⟨cb.toNat, by omega⟩
           subst hk2
           have HF : Hid (fnB y.units ⟨2, cS, ai, bi, cnm, cvl⟩ = isFnB y.units ai bi) := if_pos rfl
           clear hfn kA kB
           by_cases h1 : (y.units.length : Int) ≤ (ai : Int)
           ·have g1 : decide ((y.units.length : Int) ≤ (ai : Int)) = true := decide_eq_true h1
            have HZ : Hid (isFnB y.units ai bi = false) := by
             show _ = _
             unfold isFnB
             rw [Int.toNat_natCast, List.getElem?_eq_none (by omega)]
            go_quiet (fail)
            go_wp2
            go_meet
            exact ⟨by rw [HF.out, HZ.out]; rfl, _, rfl⟩
           have g1 : decide ((y.units.length : Int) ≤ (ai : Int)) = false := decide_eq_false h1
           obtain ⟨u, hu⟩ : ∃ u, y.units[ai]? = some u := ⟨_, List.getElem?_eq_getElem (by omega)⟩
           obtain ⟨b2, o2, cs2, rfl, hbb2, ⟨an2, cn2, rfl, hrn2, hcn2⟩, hl2⟩ := (RU.out.below hbA) ai u hu
           have f1 : wA.cell? ⟨b2, o2 + ai * 3 + 1, none⟩ = some (.slice an2 u.prog.nodes.length cn2) := hl2 1 _ rfl
           have hai : (ai : Int) < (y.units.length : Int) := by omega
           have HE : Hid (isFnB y.units ai bi = (match u.prog.nodes[bi]? with | none => false | some d => decide (d.k = 7))) := by
            show _ = _
            unfold isFnB
            rw [Int.toNat_natCast, hu, Int.toNat_natCast]
            rfl
           clear hl2 hu
           by_cases h2 : (u.prog.nodes.length : Int) ≤ (bi : Int)
           ·have g2 : decide ((u.prog.nodes.length : Int) ≤ (bi : Int)) = true := decide_eq_true h2
            have HZ : Hid (isFnB y.units ai bi = false) := by
             show _ = _
             rw [HE.out, List.getElem?_eq_none (by omega)]
            clear hrn2
            go_quiet (fail)
            go_wp2
            go_meet
            exact ⟨by rw [HF.out, HZ.out]; rfl, _, rfl⟩
           have g2 : decide ((u.prog.nodes.length : Int) ≤ (bi : Int)) = false := decide_eq_false h2
           obtain ⟨d, hd⟩ : ∃ d, u.prog.nodes[bi]? = some d := ⟨_, List.getElem?_eq_getElem (by omega)⟩
           obtain ⟨b3, o3, cs3, rfl, hbb3, ⟨a4, a5, a6, a7, rfl, _⟩, hl3⟩ := hrn2 bi d hd
           have f2 : wA.cell? ⟨b3, o3 + bi * 5, none⟩ = some (.int .i64 d.k) := hl3 0 _ rfl
           have hbi : (bi : Int) < (u.prog.nodes.length : Int) := by omega
           have HZ : Hid (isFnB y.units ai bi = decide (d.k = 7)) := by
            show _ = _
            rw [HE.out, hd]
           clear hl3 hrn2 hd HE
           by_cases h3 : d.k = 7
           ·have g3 : (d.k == 7) = true := beq_iff_eq.2 h3
            have g3' : (d.k != 7) = false := by simp [bne, g3]
            rw [decide_eq_true h3] at HZ
            clear h3
            go_quiet (fail)
            go_wp2
            go_meet
            exact ⟨by rw [HF.out, HZ.out]; rfl, _, rfl⟩
           ·have g3 : (d.k == 7) = false := beq_eq_false_iff_ne.2 h3
            have g3' : (d.k != 7) = true := by simp [bne, g3]
            rw [decide_eq_false h3] at HZ
            go_quiet (fail)
            go_wp2
            go_meet
            exact ⟨by rw [HF.out, HZ.out]; rfl, _, rfl⟩
          ·have g0 : (ck == 2) = false := beq_eq_false_iff_ne.2 hk2
           have HF : Hid (fnB y.units (⟨ck, cS, ca, cb, cnm, cvl⟩ : Cel) = true) := if_neg hk2
           clear hfn kA kB
           go_quiet (fail)
           go_wp2
           go_meet
           exact ⟨by rw [HF.out]; rfl, _, rfl⟩
         case rest =>
          obtain ⟨rfl, nd, rfl⟩ := hcut
          have hby : Below w.heap.size w ((wr.alloc (Obj.cells #[.int .i64 ck, .string cS, .int .i64 ca, .int .i64 cb, .slice an cnm.length cn, .slice av cvl.length cv] 107)).drewN nd) := below_drewN hbA nd
          have hbz : Below wS.heap.size wS ((wr.alloc (Obj.cells #[.int .i64 ck, .string cS, .int .i64 ca, .int .i64 cb, .slice an cnm.length cn, .slice av cvl.length cv] 107)).drewN nd) := below_drewN hbB nd
          cases hz : fnB y.units (⟨ck, cS, ca, cb, cnm, cvl⟩ : Cel)
          ·have HQ := bad hz
           clear good bad hz
           go_wp2
           go_ret
           exact ⟨by rw [HQ.out]; rfl, hby⟩
          ·have HQ := good hz
           clear good bad hz
           go_wp2
           go_roundw
           case rel => exact ⟨k + 1, by omega, by go_num, HQ.out, hbz⟩
           case measure => simp [intOf]; omega
        ·obtain rfl : k = y.heap.length := by omega
         rw [List.take_length] at hall
         have hlt' : decide ((y.heap.length : Int) < (y.heap.length : Int)) = false := by simp
         have HQ : Hid (y.ok = true) := by show _ = _; rw [HI.out, HH4.out, HAI.out, HUA.out, hall]; rfl
         clear hall kY
         go_wp2
         go_ret
         exact ⟨by rw [HQ.out]; rfl, hbw⟩
  ·have g3 : decide ((40 : Int) < (y.out.length : Int)) = true := by simp; omega
   have HQ : Hid (y.ok = false) := by show _ = _; rw [HI.out, decide_eq_false h3, Bool.and_false]; rfl
   go_wp2
   go_ret
   exact ⟨by rw [HQ.out]; rfl, hb1⟩
 ·have g2 : decide ((60 : Int) < (y.units.length : Int)) = true := by simp; omega
  have HQ : Hid (y.ok = false) := by show _ = _; rw [HI.out, decide_eq_false h2, Bool.and_false]; rfl
  go_wp2
  go_ret
  exact ⟨by rw [HQ.out]; rfl, hb1⟩
end Go.Proofs.YtlacidojljilaaaGreatDoor
