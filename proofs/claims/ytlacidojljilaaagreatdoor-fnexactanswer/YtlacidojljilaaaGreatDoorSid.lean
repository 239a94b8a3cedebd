/- Is a system right? The program's way. -/
import Derived.Test.YtlacidojljilaaaGreatDoorNda
import Derived.Test.YtlacidojljilaaaGreatDoorSic
import Derived.Test.YtlacidojljilaaaGreatDoorHvx
set_option linter.unusedVariables false
set_option maxRecDepth 100000
set_option maxHeartbeats 8000000
namespace Go.Proofs.YtlacidojljilaaaGreatDoor
open Go.ChangeShapes Go.WideShapes Go.ChangeAt Go.RowKit
theorem functions_any (y : Sy) (y1 y2 y3 y4 : Option Addr) (d1 d2 d3 d4 : Nat) (w : World) (hs : y.small) (hr : SyRows w (fun b => b < w.heap.size) y1 y2 y3 y4 d1 d2 d3 d4 y) (hp : ∀ c ∈ y.heap, c.k = 2 → 0 ≤ c.a ∧ 0 ≤ c.b) :
  Calls Tryz.prog 84 #[.agg #[.slice y1 y.heap.length d1, .slice y2 y.insts.length d2, .slice y3 y.units.length d3, .slice y4 y.out.length d4]] w fun e w' => Ans w (.bool (fnsB y.heap y.units)) e w' := by
 obtain ⟨⟨s1, s1'⟩, _, ⟨s3, s3'⟩, _⟩ := hs
 obtain ⟨⟨r1, t1⟩, _, ⟨r3, t3⟩, _⟩ := hr
 have HR : Hid (rgC.Row w (fun b => b < w.heap.size) y1 y.heap) := r1
 have HF : Hid (∀ (c : Cel) (w1 : World), c ∈ y.heap → c.k = 2 → Below w.heap.size w w1 → Calls Tryz.prog 120 #[.slice y3 y.units.length d3, .int .i64 c.a, .int .i64 c.b] w1 fun e w' => Ans w1 (.bool (isFnB y.units c.a c.b)) e w') := fun c w1 hc hk hb => isFn_any y3 y.units d3 c.a c.b w1 s3 s3' (hp c hc hk).1 (hp c hc hk).2 (r3.now (B := 0) hb)
 have hb0 : Below w.heap.size w (w.alloc (Obj.cells #[.slice y1 y.heap.length d1, .slice y2 y.insts.length d2, .slice y3 y.units.length d3, .slice y4 y.out.length d4] 41)) := bR _ _
 have k0 : (w.alloc (Obj.cells #[.slice y1 y.heap.length d1, .slice y2 y.insts.length d2, .slice y3 y.units.length d3, .slice y4 y.out.length d4] 41)).heap[w.heap.size]? = some (Obj.cells #[.slice y1 y.heap.length d1, .slice y2 y.insts.length d2, .slice y3 y.units.length d3, .slice y4 y.out.length d4] 41) := blk_at _ _ _ rfl
 have HQ0 : Hid (fnsB y.heap y.units = y.heap.all (fnB y.units)) := rfl
 rw [HQ0.out]
 clear r1 r3 hp s3' s1'
 have z0 : (w.alloc (Obj.cells #[.slice y1 y.heap.length d1, .slice y2 y.insts.length d2, .slice y3 y.units.length d3, .slice y4 y.out.length d4] 41)).heap.size = w.heap.size + 1 := by simp
 go_enter Tryz.func84, Tryz.ntmps84
 go_wp2
 generalize w.alloc (Obj.cells #[.slice y1 y.heap.length d1, .slice y2 y.insts.length d2, .slice y3 y.units.length d3, .slice y4 y.out.length d4] 41) = W0 at *
 have HZ : Hid (W0.heap.size = w.heap.size + 1) := z0
 clear z0
 go_loopw [8] (fun o wr => ∃ i : Nat, i ≤ y.heap.length ∧ o = .int .i64 i ∧ (y.heap.take i).all (fnB y.units) = true ∧ Below W0.heap.size W0 wr)
  (fun o _ => y.heap.length - (intOf o).toNat)
 case atStart => exact ⟨0, by omega, rfl, by simp, Below.refl _ _⟩
 case round =>
  obtain ⟨i, hi, rfl, hall, hbW⟩ := hrel
  have hb : Below w.heap.size w wr := bT hb0 hbW
  have hk := blk_keep k0 hbW (by have := HZ.out; omega)
  have e2 := zB 2 hk rfl
  have hkl := (Array.getElem?_eq_some_iff.1 hk).1
  have K : Hid (wr.heap[w.heap.size]? = some (Obj.cells #[.slice y1 y.heap.length d1, .slice y2 y.insts.length d2, .slice y3 y.units.length d3, .slice y4 y.out.length d4] 41)) := hk
  clear hk
  by_cases hlt : i < y.heap.length
  ·obtain ⟨c, hc⟩ : ∃ c, y.heap[i]? = some c := ⟨_, List.getElem?_eq_getElem hlt⟩
   obtain ⟨b1, o1, cs, rfl, hbb, ⟨an, cn, av, cv, rfl, _⟩, hl⟩ := (HR.out.below hb) i c hc
   have x0 : wr.cell? ⟨b1, o1 + i * 6, none⟩ = some (.int .i64 c.k) := hl 0 _ rfl
   have x1 : wr.cell? ⟨b1, o1 + i * 6 + 1, none⟩ = some (.string c.s) := hl 1 _ rfl
   have x2 : wr.cell? ⟨b1, o1 + i * 6 + 2, none⟩ = some (.int .i64 c.a) := hl 2 _ rfl
   have x3 : wr.cell? ⟨b1, o1 + i * 6 + 3, none⟩ = some (.int .i64 c.b) := hl 3 _ rfl
   have x4 : wr.cell? ⟨b1, o1 + i * 6 + 4, none⟩ = some (.slice an c.names.length cn) := hl 4 _ rfl
   have x5 : wr.cell? ⟨b1, o1 + i * 6 + 5, none⟩ = some (.slice av c.vals.length cv) := hl 5 _ rfl
   have hbA : Below w.heap.size w (wr.alloc (Obj.cells #[.int .i64 c.k, .string c.s, .int .i64 c.a, .int .i64 c.b, .slice an c.names.length cn, .slice av c.vals.length cv] 107)) := hb.alloc hb.size _
   have hbB : Below W0.heap.size W0 (wr.alloc (Obj.cells #[.int .i64 c.k, .string c.s, .int .i64 c.a, .int .i64 c.b, .slice an c.names.length cn, .slice av c.vals.length cv] 107)) := hbW.alloc hbW.size _
   have HF2 : Hid (c.k = 2 → ∀ w1, Below w.heap.size w w1 → Calls Tryz.prog 120 #[.slice y3 y.units.length d3, .int .i64 c.a, .int .i64 c.b] w1 fun e w' => Ans w1 (.bool (isFnB y.units c.a c.b)) e w') := fun hk w1 h1 => HF.out c w1 (List.mem_of_getElem? hc) hk h1
   have good : fnB y.units c = true → Hid ((y.heap.take (i + 1)).all (fnB y.units) = true) := fun q => by show _ = _; rw [all_take_succ _ hc, hall, q]; rfl
   have bad : fnB y.units c = false → Hid (y.heap.all (fnB y.units) = false) := fun q => all_of_bad _ hc q
   clear hl hc HF
   by_cases hk : c.k = 2
   ·have g1 : (c.k == 2) = true := beq_iff_eq.2 hk
    have HF3 := HF2.out hk
    have HF4 : Hid (∀ w1, Below w.heap.size w w1 → Calls Tryz.prog 120 #[.slice y3 y.units.length d3, .int .i64 c.a, .int .i64 c.b] w1 fun e w' => Ans w1 (.bool (isFnB y.units c.a c.b)) e w') := HF3
    have HE : Hid (fnB y.units c = isFnB y.units c.a c.b) := if_pos hk
    clear HF2 HF3 hk
    cases hf : isFnB y.units c.a c.b
    ·rw [hf] at HF4
     have HQ := bad (by rw [HE.out, hf])
     clear bad good hall HE
     go_wp2_with (go_at_call 120; refine (HF4.out _ hbA).mono ?_; rintro e w2 ⟨rfl, hb2⟩)
     go_ret
     exact ⟨by rw [HQ.out]; rfl, bT hbA hb2⟩
    ·rw [hf] at HF4
     have HQ := good (by rw [HE.out, hf])
     clear bad good hall HE
     go_wp2_with (go_at_call 120; refine (HF4.out _ hbA).mono ?_; rintro e w2 ⟨rfl, hb2⟩)
     go_roundw
     case rel => exact ⟨i + 1, by omega, by go_num, HQ.out, bT hbB hb2⟩
     case measure => simp [intOf]; omega
   ·have g1 : (c.k == 2) = false := beq_eq_false_iff_ne.2 hk
    have HQ := good (if_neg hk)
    clear bad good hall HF2
    go_wp2
    go_roundw
    case rel => exact ⟨i + 1, by omega, by go_num, HQ.out, hbB⟩
    case measure => simp [intOf]; omega
  ·obtain rfl : i = y.heap.length := by omega
   rw [List.take_length] at hall
   have HQ : Hid (y.heap.all (fnB y.units) = true) := hall
   have hlt' : decide ((y.heap.length : Int) < (y.heap.length : Int)) = false := by simp
   clear hall HF
   go_wp2
   go_ret
   exact ⟨by rw [HQ.out]; rfl, hb⟩
theorem units_any (y : Sy) (y1 y2 y3 y4 : Option Addr) (d1 d2 d3 d4 : Nat) (w : World) (hs : y.small) (hr : SyRows w (fun b => b < w.heap.size) y1 y2 y3 y4 d1 d2 d3 d4 y) :
  Calls Tryz.prog 83 #[.agg #[.slice y1 y.heap.length d1, .slice y2 y.insts.length d2, .slice y3 y.units.length d3, .slice y4 y.out.length d4]] w fun e w' => Ans w (.bool (unitsB y.insts.length y.units)) e w' := by
 obtain ⟨_, ⟨s2, _⟩, ⟨s3, s3'⟩, _⟩ := hs
 obtain ⟨_, _, ⟨r3, t3⟩, _⟩ := hr
 have HR : Hid (rgU.Row w (fun b => b < w.heap.size) y3 y.units) := r3
 have HS : Hid (∀ d ∈ y.units, Unt.small d) := s3'
 have hb0 : Below w.heap.size w (w.alloc (Obj.cells #[.slice y1 y.heap.length d1, .slice y2 y.insts.length d2, .slice y3 y.units.length d3, .slice y4 y.out.length d4] 41)) := bR _ _
 have k0 : (w.alloc (Obj.cells #[.slice y1 y.heap.length d1, .slice y2 y.insts.length d2, .slice y3 y.units.length d3, .slice y4 y.out.length d4] 41)).heap[w.heap.size]? = some (Obj.cells #[.slice y1 y.heap.length d1, .slice y2 y.insts.length d2, .slice y3 y.units.length d3, .slice y4 y.out.length d4] 41) := blk_at _ _ _ rfl
 have HQ0 : Hid (unitsB y.insts.length y.units = (decide (y.units.length ≤ 60) && y.units.all (Unt.ok y.insts.length))) := rfl
 rw [HQ0.out]
 clear r3 s3'
 have z0 : (w.alloc (Obj.cells #[.slice y1 y.heap.length d1, .slice y2 y.insts.length d2, .slice y3 y.units.length d3, .slice y4 y.out.length d4] 41)).heap.size = w.heap.size + 1 := by simp
 by_cases h60 : y.units.length ≤ 60
 ·have g0 : decide ((60 : Int) < (y.units.length : Int)) = false := by simp; omega
  rw [decide_eq_true h60, Bool.true_and]
  go_enter Tryz.func83, Tryz.ntmps83
  go_wp2_with fail
  refine (shapes_any _).mono ?_
  rintro e W9 ⟨m, rfl, hM, hml, hb3⟩
  have hb9 : Below w.heap.size w W9 := bT hb0 hb3
  have k9 := blk_keep k0 hb3 (by rw [z0]; omega)
  have HML : Hid (m < W9.heap.size) := hM.lt
  have HM : Hid (MapIs W9 m 39 (F2 9)) := hM
  have z9 : w.heap.size + 1 ≤ W9.heap.size := by have := hb3.size; omega
  have e2 := zB 2 k9 rfl
  clear hM hml hb3 hb0 k0 z0
  have HZ : Hid (w.heap.size + 1 ≤ W9.heap.size) := z9
  clear z9
  go_wp2
  go_loopw [14] (fun o wr => ∃ i : Nat, i ≤ y.units.length ∧ o = .int .i64 i ∧ (y.units.take i).all (Unt.ok y.insts.length) = true ∧ Below W9.heap.size W9 wr)
   (fun o _ => y.units.length - (intOf o).toNat)
  case atStart => exact ⟨0, by omega, rfl, by simp, Below.refl _ _⟩
  case round =>
   obtain ⟨i, hi, rfl, hall, hbW⟩ := hrel
   have hb : Below w.heap.size w wr := bT hb9 hbW
   have hk := blk_keep k9 hbW (by have := HZ.out; omega)
   have e1 := zB 1 hk rfl
   have hkl := (Array.getElem?_eq_some_iff.1 hk).1
   have K : Hid (wr.heap[w.heap.size]? = some (Obj.cells #[.slice y1 y.heap.length d1, .slice y2 y.insts.length d2, .slice y3 y.units.length d3, .slice y4 y.out.length d4] 41)) := hk
   clear hk
   by_cases hlt : i < y.units.length
   ·obtain ⟨u, hu⟩ : ∃ u, y.units[i]? = some u := ⟨_, List.getElem?_eq_getElem hlt⟩
    obtain ⟨b1, o1, cs, rfl, hbb, ⟨an, cn, rfl, hrn, hcn⟩, hl⟩ := (HR.out.below hb) i u hu
    have x0 : wr.cell? ⟨b1, o1 + i * 3, none⟩ = some (.int .i64 u.home) := hl 0 _ rfl
    have x1 : wr.cell? ⟨b1, o1 + i * 3 + 1, none⟩ = some (.slice an u.prog.nodes.length cn) := hl 1 _ rfl
    have x2 : wr.cell? ⟨b1, o1 + i * 3 + 2, none⟩ = some (.int .i64 u.prog.root) := hl 2 _ rfl
    have hbA : Below w.heap.size w (wr.alloc (Obj.cells #[.int .i64 u.home, .slice an u.prog.nodes.length cn, .int .i64 u.prog.root] 118)) := hb.alloc hb.size _
    have hbB : Below W9.heap.size W9 (wr.alloc (Obj.cells #[.int .i64 u.home, .slice an u.prog.nodes.length cn, .int .i64 u.prog.root] 118)) := hbW.alloc hbW.size _
    obtain ⟨_, ⟨n1, n2⟩, _⟩ := HS.out u (List.mem_of_getElem? hu)
    have HP : Hid (∀ w1, Below wr.heap.size wr w1 → Calls Tryz.prog 119 #[.agg #[.slice an u.prog.nodes.length cn, .int .i64 u.prog.root], .map (some m)] w1 fun e w' => OkPost u.prog.nodes u.prog.root w1 e w') := fun w1 h1 => fits_any an u.prog.nodes cn u.prog.root m w1 n1 (rowN_iff.1 (hrn.keep fun b hb' => ⟨by have := h1.size; have := hb.size; omega, h1.block b (Nat.lt_of_lt_of_le hb' hb.size)⟩)) n2 ((HM.out.keep hbW HML.out).keep h1 (Nat.lt_of_lt_of_le HML.out hbW.size))
    have good : u.ok y.insts.length = true → Hid ((y.units.take (i + 1)).all (Unt.ok y.insts.length) = true) := fun q => by show _ = _; rw [all_take_succ _ hu, hall, q]; rfl
    have bad : u.ok y.insts.length = false → Hid (y.units.all (Unt.ok y.insts.length) = false) := fun q => all_of_bad _ hu q
    have hbA' : Below wr.heap.size wr (wr.alloc (Obj.cells #[.int .i64 u.home, .slice an u.prog.nodes.length cn, .int .i64 u.prog.root] 118)) := bR _ _
    clear hl hu hrn n1 n2
    by_cases h1 : u.home < 0
    ·have g1 : decide (u.home < 0) = true := decide_eq_true h1
     have HQ := bad (by unfold Unt.ok; simp; omega)
     clear bad good hall
     go_wp2
     go_ret
     exact ⟨by rw [HQ.out]; rfl, hbA⟩
    ·have g1 : decide (u.home < 0) = false := decide_eq_false h1
     by_cases h2 : (y.insts.length : Int) ≤ u.home
     ·have g2 : decide ((y.insts.length : Int) ≤ u.home) = true := decide_eq_true h2
      have HQ := bad (by unfold Unt.ok; simp; omega)
      clear bad good hall
      go_wp2
      go_ret
      exact ⟨by rw [HQ.out]; rfl, hbA⟩
     ·have g2 : decide ((y.insts.length : Int) ≤ u.home) = false := decide_eq_false h2
      have HE : Hid (u.ok y.insts.length = holds (OkP u.prog.nodes u.prog.root)) := by show _ = _; unfold Unt.ok; rw [decide_eq_true (by omega), decide_eq_true (by omega)]; rfl
      go_wp2_with fail
      refine (HP.out _ hbA').mono ?_
      rintro e w2 ⟨b, rfl, hq, hb2⟩
      have hq2 := holds_of hq
      cases b
      ·have HQ := bad (by rw [HE.out, ← hq2])
       clear bad good hall hq hq2
       go_wp2
       go_ret
       exact ⟨by rw [HQ.out]; rfl, bT hbA hb2⟩
      ·have HQ := good (by rw [HE.out, ← hq2])
       clear bad good hall hq hq2
       go_wp2
       go_roundw
       case rel => exact ⟨i + 1, by omega, by go_num, HQ.out, bT hbB hb2⟩
       case measure => simp [intOf]; omega
   ·obtain rfl : i = y.units.length := by omega
    rw [List.take_length] at hall
    have HQ : Hid (y.units.all (Unt.ok y.insts.length) = true) := hall
    have hlt' : decide ((y.units.length : Int) < (y.units.length : Int)) = false := by simp
    clear hall
    go_wp2
    go_ret
    exact ⟨by rw [HQ.out]; rfl, hb⟩
 ·have g0 : decide ((60 : Int) < (y.units.length : Int)) = true := by simp; omega
  rw [decide_eq_false h60, Bool.false_and]
  go_enter Tryz.func83, Tryz.ntmps83
  go_wp2
  go_ret
  exact ⟨rfl, hb0⟩
end Go.Proofs.YtlacidojljilaaaGreatDoor
