/- Is a system right? The program's way: the libraries, the whole. -/
import Derived.Test.YtlacidojljilaaaGreatDoorSid
set_option linter.unusedVariables false
set_option maxRecDepth 100000
set_option maxHeartbeats 8000000
namespace Go.Proofs.YtlacidojljilaaaGreatDoor
open Go.ChangeShapes Go.WideShapes Go.ChangeAt Go.RowKit
theorem insts_any (y : Sy) (y1 y2 y3 y4 : Option Addr) (d1 d2 d3 d4 : Nat) (w : World) (hs : y.small) (hr : SyRows w (fun b => b < w.heap.size) y1 y2 y3 y4 d1 d2 d3 d4 y) :
  Calls Tryz.prog 82 #[.agg #[.slice y1 y.heap.length d1, .slice y2 y.insts.length d2, .slice y3 y.units.length d3, .slice y4 y.out.length d4]] w fun e w' => Ans w (.bool (instsB y.heap y.insts)) e w' := by
 obtain ⟨⟨s1, _⟩, ⟨s2, s2'⟩, _⟩ := hs
 obtain ⟨⟨r1, t1⟩, ⟨r2, t2⟩, _⟩ := hr
 have HR : Hid (rgX.Row w (fun b => b < w.heap.size) y2 y.insts) := r2
 have HRC : Hid (RowC w w.heap.size y1 y.heap) := rowC_iff.1 r1
 have HS : Hid (∀ d ∈ y.insts, Ins.small d) := s2'
 have hb0 : Below w.heap.size w (w.alloc (Obj.cells #[.slice y1 y.heap.length d1, .slice y2 y.insts.length d2, .slice y3 y.units.length d3, .slice y4 y.out.length d4] 41)) := bR _ _
 have k0 : (w.alloc (Obj.cells #[.slice y1 y.heap.length d1, .slice y2 y.insts.length d2, .slice y3 y.units.length d3, .slice y4 y.out.length d4] 41)).heap[w.heap.size]? = some (Obj.cells #[.slice y1 y.heap.length d1, .slice y2 y.insts.length d2, .slice y3 y.units.length d3, .slice y4 y.out.length d4] 41) := blk_at _ _ _ rfl
 have HQ0 : Hid (instsB y.heap y.insts = (decide (1 ≤ y.insts.length) && decide (y.insts.length ≤ 12) && allI (fun i x => x.ok y.heap y.insts.length i) y.insts y.insts.length)) := rfl
 rw [HQ0.out]
 clear r1 r2 s2'
 have z0 : (w.alloc (Obj.cells #[.slice y1 y.heap.length d1, .slice y2 y.insts.length d2, .slice y3 y.units.length d3, .slice y4 y.out.length d4] 41)).heap.size = w.heap.size + 1 := by simp
 by_cases h1 : y.insts.length = 0
 ·have g1 : ((y.insts.length : Int) == 0) = true := beq_iff_eq.2 (by omega)
  rw [show decide (1 ≤ y.insts.length) = false from decide_eq_false (by omega), Bool.false_and, Bool.false_and]
  clear h1
  go_enter Tryz.func82, Tryz.ntmps82
  go_wp2
  go_ret
  exact ⟨rfl, hb0⟩
 ·have g1 : ((y.insts.length : Int) == 0) = false := beq_eq_false_iff_ne.2 (by omega)
  rw [show decide (1 ≤ y.insts.length) = true from decide_eq_true (by omega), Bool.true_and]
  by_cases h2 : y.insts.length ≤ 12
  ·have g2 : decide ((12 : Int) < (y.insts.length : Int)) = false := by simp; omega
   rw [decide_eq_true h2, Bool.true_and]
   obtain ⟨x, hx⟩ : ∃ x, y.insts[0]? = some x := ⟨_, List.getElem?_eq_getElem (by omega)⟩
   obtain ⟨b1, o1, cs, hy2, hbb, ⟨a1, a2, a3, a4, c1, c2, c3, c4, rfl, _⟩, hl⟩ := HR.out 0 x hx
   subst hy2
   have x0 : w.cell? ⟨b1, o1, none⟩ = some (.string x.lib) := by have := hl 0 _ rfl; simpa using this
   have x1 : w.cell? ⟨b1, o1 + 1, none⟩ = some (.int .i64 x.ver) := by have := hl 1 _ rfl; simpa using this
   have x2 : w.cell? ⟨b1, o1 + 2, none⟩ = some (.slice a1 x.names.length c1) := by have := hl 2 _ rfl; simpa using this
   have x3 : w.cell? ⟨b1, o1 + 3, none⟩ = some (.slice a2 x.vals.length c2) := by have := hl 3 _ rfl; simpa using this
   have x4 : w.cell? ⟨b1, o1 + 4, none⟩ = some (.slice a3 x.links.length c3) := by have := hl 4 _ rfl; simpa using this
   have x5 : w.cell? ⟨b1, o1 + 5, none⟩ = some (.slice a4 x.types.length c4) := by have := hl 5 _ rfl; simpa using this
   have HI : Hid (∀ w1, Calls Tryz.prog 115 #[.agg #[.string x.lib, .int .i64 x.ver, .slice a1 x.names.length c1, .slice a2 x.vals.length c2, .slice a3 x.links.length c3, .slice a4 x.types.length c4]] w1 fun e w' => Ans w1 (.bool (x.hd 0)) e w') := fun w1 => isSession_any x a1 a2 a3 a4 c1 c2 c3 c4 w1
   clear hl
   cases hhd : x.hd 0
   ·rw [hhd] at HI
    have HQ : Hid (allI (fun i x => x.ok y.heap y.insts.length i) y.insts y.insts.length = false) := allI_bad hx (by unfold Ins.ok; rw [hhd]; rfl)
    rw [HQ.out]
    clear hx
    go_enter Tryz.func82, Tryz.ntmps82
    go_wp2_with (go_at_call 115; refine (HI.out _).mono ?_; rintro e w2 ⟨rfl, hb2⟩)
    go_ret
    exact ⟨rfl, bT hb0 hb2⟩
   ·rw [hhd] at HI
    have HH : Hid (∀ z, y.insts[0]? = some z → z.hd 0 = true) := fun z hz => by
     obtain rfl : x = z := Option.some.inj (hx.symm.trans hz)
     exact hhd
    clear hx
    go_enter Tryz.func82, Tryz.ntmps82
    go_wp2_with (go_at_call 115; refine (HI.out _).mono ?_; rintro e w2 ⟨rfl, hb2⟩; have k9 := blk_keep k0 hb2 (by simp); have e9 := cell_blk (j := 1) k9 rfl)
    have HB2 : Hid (Below w.heap.size w w2) := bT hb0 hb2
    have K9 : Hid (w2.heap[w.heap.size]? = some (Obj.cells #[.slice y1 y.heap.length d1, .slice (some ⟨b1, o1, none⟩) y.insts.length d2, .slice y3 y.units.length d3, .slice y4 y.out.length d4] 41)) := k9
    have hkl9 := (Array.getElem?_eq_some_iff.1 k9).1
    clear hb0 hb2 k0 k9 e9 x0 x1 x2 x3 x4 x5 z0 HI hhd
    go_loopw [26] (fun o wr => ∃ i : Nat, i ≤ y.insts.length ∧ o = .int .i64 i ∧ allI (fun i x => x.ok y.heap y.insts.length i) y.insts i = true ∧ Below w2.heap.size w2 wr)
     (fun o _ => y.insts.length - (intOf o).toNat)
    case atStart => exact ⟨0, by omega, rfl, rfl, Below.refl _ _⟩
    case round =>
     obtain ⟨i, hi, rfl, hall, hbW⟩ := hrel
     have hb : Below w.heap.size w wr := bT HB2.out hbW
     have hk := blk_keep K9.out hbW hkl9
     obtain ⟨e0, e1, e2, e3⟩ := zn4 hk rfl rfl rfl rfl
     have hkl := (Array.getElem?_eq_some_iff.1 hk).1
     have K : Hid (wr.heap[w.heap.size]? = some (Obj.cells #[.slice y1 y.heap.length d1, .slice (some ⟨b1, o1, none⟩) y.insts.length d2, .slice y3 y.units.length d3, .slice y4 y.out.length d4] 41)) := hk
     clear hk
     by_cases hlt : i < y.insts.length
     ·obtain ⟨x, hx⟩ : ∃ x, y.insts[i]? = some x := ⟨_, List.getElem?_eq_getElem hlt⟩
      obtain ⟨b2, o2, cs, hq2, hbb2, ⟨a1, a2, a3, a4, c1, c2, c3, c4, rfl, hrows⟩, hl⟩ := (HR.out.below hb) i x hx
      simp only [Option.some.injEq, Addr.mk.injEq, and_true] at hq2
      obtain ⟨rfl, rfl⟩ := hq2
      have x0 : wr.cell? ⟨b1, o1 + i * 6, none⟩ = some (.string x.lib) := hl 0 _ rfl
      have x1 : wr.cell? ⟨b1, o1 + i * 6 + 1, none⟩ = some (.int .i64 x.ver) := hl 1 _ rfl
      have x2 : wr.cell? ⟨b1, o1 + i * 6 + 2, none⟩ = some (.slice a1 x.names.length c1) := hl 2 _ rfl
      have x3 : wr.cell? ⟨b1, o1 + i * 6 + 3, none⟩ = some (.slice a2 x.vals.length c2) := hl 3 _ rfl
      have x4 : wr.cell? ⟨b1, o1 + i * 6 + 4, none⟩ = some (.slice a3 x.links.length c3) := hl 4 _ rfl
      have x5 : wr.cell? ⟨b1, o1 + i * 6 + 5, none⟩ = some (.slice a4 x.types.length c4) := hl 5 _ rfl
      have hsx := HS.out x (List.mem_of_getElem? hx)
      have hslib : x.lib.size ≤ 1048576 := hsx.1
      have HC : Hid (∀ w1, Below w.heap.size wr w1 → Calls Tryz.prog 117 #[.agg #[.slice y1 y.heap.length d1, .slice (some ⟨b1, o1, none⟩) y.insts.length d2, .slice y3 y.units.length d3, .slice y4 y.out.length d4], .agg #[.string x.lib, .int .i64 x.ver, .slice a1 x.names.length c1, .slice a2 x.vals.length c2, .slice a3 x.links.length c3, .slice a4 x.types.length c4]] w1 fun e w' => Ans w1 (.bool (x.cont y.heap y.insts.length)) e w') := fun w1 h1 => contents_any y x y1 (some ⟨b1, o1, none⟩) y3 y4 d1 d2 d3 d4 a1 a2 a3 a4 c1 c2 c3 c4 w1 s1 s2 (((HRC.out.below hb).below h1).mono (Nat.le_trans hb.size h1.size)) hsx (hrows.keep fun b hb' => ⟨by have := h1.size; have := hb.size; omega, h1.block b hb'⟩)
      have hbA : Below w.heap.size w (wr.alloc (Obj.cells #[.string x.lib, .int .i64 x.ver, .slice a1 x.names.length c1, .slice a2 x.vals.length c2, .slice a3 x.links.length c3, .slice a4 x.types.length c4] 112)) := hb.alloc hb.size _
      have hbA' : Below w.heap.size wr (wr.alloc (Obj.cells #[.string x.lib, .int .i64 x.ver, .slice a1 x.names.length c1, .slice a2 x.vals.length c2, .slice a3 x.links.length c3, .slice a4 x.types.length c4] 112)) := (Below.refl _ _).alloc hb.size _
      have hbB : Below w2.heap.size w2 (wr.alloc (Obj.cells #[.string x.lib, .int .i64 x.ver, .slice a1 x.names.length c1, .slice a2 x.vals.length c2, .slice a3 x.links.length c3, .slice a4 x.types.length c4] 112)) := hbW.alloc hbW.size _
      have kA : (wr.alloc (Obj.cells #[.string x.lib, .int .i64 x.ver, .slice a1 x.names.length c1, .slice a2 x.vals.length c2, .slice a3 x.links.length c3, .slice a4 x.types.length c4] 112)).heap[wr.heap.size]? = some (Obj.cells #[.string x.lib, .int .i64 x.ver, .slice a1 x.names.length c1, .slice a2 x.vals.length c2, .slice a3 x.links.length c3, .slice a4 x.types.length c4] 112) := blk_at _ _ _ rfl
      have kY : (wr.alloc (Obj.cells #[.string x.lib, .int .i64 x.ver, .slice a1 x.names.length c1, .slice a2 x.vals.length c2, .slice a3 x.links.length c3, .slice a4 x.types.length c4] 112)).heap[w.heap.size]? = some (Obj.cells #[.slice y1 y.heap.length d1, .slice (some ⟨b1, o1, none⟩) y.insts.length d2, .slice y3 y.units.length d3, .slice y4 y.out.length d4] 41) := blk_past K.out
      have good : x.hd i = true → x.cont y.heap y.insts.length = true → Hid (allI (fun i x => x.ok y.heap y.insts.length i) y.insts (i + 1) = true) := fun q1 q2 => by show _ = _; rw [allI_step hx, hall]; unfold Ins.ok; rw [q1, q2]; rfl
      have bad : x.hd i = false ∨ x.cont y.heap y.insts.length = false → Hid (allI (fun i x => x.ok y.heap y.insts.length i) y.insts y.insts.length = false) := fun q => allI_bad hx (by unfold Ins.ok; rcases q with q | q <;> rw [q] <;> simp)
      have HX : Hid (y.insts[i]? = some x) := hx
      clear hl hx hall hrows
      by_cases hi0 : i = 0
      ·subst hi0
       simp only [Nat.zero_mul, Nat.add_zero] at x0 x1 x2 x3 x4 x5
       have hd0 : x.hd 0 = true := HH.out x HX.out
       cases hct : x.cont y.heap y.insts.length
       ·rw [hct] at HC
        have HQ := bad (.inr hct)
        clear bad good hct hd0
        go_wp2_with (go_at_call 117; refine (HC.out _ hbA').mono ?_; rintro e w3 ⟨rfl, hb3⟩)
        go_ret
        exact ⟨by rw [HQ.out]; rfl, bT hbA hb3⟩
       ·rw [hct] at HC
        have HQ := good hd0 hct
        clear bad good hct hd0
        go_wp2_with (go_at_call 117; refine (HC.out _ hbA').mono ?_; rintro e w3 ⟨rfl, hb3⟩)
        go_roundw
        case rel => exact ⟨1, by omega, by go_num, HQ.out, bT hbB hb3⟩
        case measure => simp [intOf]; omega
      ·have gi : decide ((0 : Int) < (i : Int)) = true := by simp; omega
       have HL : Hid (∀ w1, Calls Tryz.prog 116 #[.agg #[.string x.lib, .int .i64 x.ver, .slice a1 x.names.length c1, .slice a2 x.vals.length c2, .slice a3 x.links.length c3, .slice a4 x.types.length c4]] w1 fun e w' => Ans w1 (.bool (x.hd i)) e w') := fun w1 => isLibrary_any x i (by omega) hslib a1 a2 a3 a4 c1 c2 c3 c4 w1
       cases hhd : x.hd i
       ·rw [hhd] at HL
        have HQ := bad (.inl hhd)
        clear bad good hhd
        go_wp2_with (go_at_call 116; refine (HL.out _).mono ?_; rintro e w3 ⟨rfl, hb3⟩)
        go_ret
        exact ⟨by rw [HQ.out]; rfl, bT hbA hb3⟩
       ·rw [hhd] at HL
        have ARM : ∀ w3, Below (wr.alloc (Obj.cells #[.string x.lib, .int .i64 x.ver, .slice a1 x.names.length c1, .slice a2 x.vals.length c2, .slice a3 x.links.length c3, .slice a4 x.types.length c4] 112)).heap.size (wr.alloc (Obj.cells #[.string x.lib, .int .i64 x.ver, .slice a1 x.names.length c1, .slice a2 x.vals.length c2, .slice a3 x.links.length c3, .slice a4 x.types.length c4] 112)) w3 → Below w.heap.size wr w3 := fun w3 h3 => hbA'.trans (h3.mono hbA.size)
        cases hct : x.cont y.heap y.insts.length
        ·rw [hct] at HC
         have HQ := bad (.inr hct)
         clear bad good hct hhd
         go_wp2_with (first | (go_at_call 116; refine (HL.out _).mono ?_; rintro e w3 ⟨rfl, hb3⟩; have kA3 := bK kA hb3; have kY3 := bK kY hb3; have u0 := cell_blk (j := 0) kA3 rfl; have u1 := cell_blk (j := 1) kA3 rfl; have u2 := cell_blk (j := 2) kA3 rfl; have u3 := cell_blk (j := 3) kA3 rfl; have u4 := cell_blk (j := 4) kA3 rfl; have u5 := cell_blk (j := 5) kA3 rfl; have t0 := cell_blk (j := 0) kY3 rfl; have t1 := cell_blk (j := 1) kY3 rfl; have t2 := cell_blk (j := 2) kY3 rfl; have t3 := cell_blk (j := 3) kY3 rfl; have hb4 := bT hbA hb3; have hb5 := ARM _ hb3) | (go_at_call 117; refine (HC.out _ hb5).mono ?_; rintro e w4 ⟨rfl, hb6⟩))
         go_ret
         exact ⟨by rw [HQ.out]; rfl, bT hb4 hb6⟩
        ·rw [hct] at HC
         have HQ := good hhd hct
         clear bad good hct hhd
         go_wp2_with (first | (go_at_call 116; refine (HL.out _).mono ?_; rintro e w3 ⟨rfl, hb3⟩; have kA3 := bK kA hb3; have kY3 := bK kY hb3; have u0 := cell_blk (j := 0) kA3 rfl; have u1 := cell_blk (j := 1) kA3 rfl; have u2 := cell_blk (j := 2) kA3 rfl; have u3 := cell_blk (j := 3) kA3 rfl; have u4 := cell_blk (j := 4) kA3 rfl; have u5 := cell_blk (j := 5) kA3 rfl; have t0 := cell_blk (j := 0) kY3 rfl; have t1 := cell_blk (j := 1) kY3 rfl; have t2 := cell_blk (j := 2) kY3 rfl; have t3 := cell_blk (j := 3) kY3 rfl; have hb4 := bT hbB hb3; have hb5 := ARM _ hb3) | (go_at_call 117; refine (HC.out _ hb5).mono ?_; rintro e w4 ⟨rfl, hb6⟩))
         go_roundw
         case rel => exact ⟨i + 1, by omega, by go_num, HQ.out, bT hb4 hb6⟩
         case measure => simp [intOf]; omega
     ·obtain rfl : i = y.insts.length := by omega
      have HQ : Hid (allI (fun i x => x.ok y.heap y.insts.length i) y.insts y.insts.length = true) := hall
      have hlt' : decide ((y.insts.length : Int) < (y.insts.length : Int)) = false := by simp
      clear hall
      go_wp2
      go_ret
      exact ⟨by rw [HQ.out]; rfl, hb⟩
  ·have g2 : decide ((12 : Int) < (y.insts.length : Int)) = true := by simp; omega
   rw [decide_eq_false h2, Bool.false_and]
   go_enter Tryz.func82, Tryz.ntmps82
   go_wp2
   go_ret
   exact ⟨rfl, hb0⟩
theorem heap_fn {h : List Cel} (hp : HeapP h) : ∀ c ∈ h, c.k = 2 → 0 ≤ c.a ∧ 0 ≤ c.b := by
 intro c hc hk
 obtain ⟨i, hi⟩ := List.getElem?_of_mem hc
 have := hp.2 i c hi
 unfold Cel.ok Cel.shape at this
 rw [if_neg (by omega), if_pos hk] at this
 simp at this
 exact ⟨this.1.1.1.1.2, this.1.1.1.2⟩
theorem implSys_any (y : Sy) (y1 y2 y3 y4 : Option Addr) (d1 d2 d3 d4 : Nat) (w : World) (hs : y.small) (hr : SyRows w (fun b => b < w.heap.size) y1 y2 y3 y4 d1 d2 d3 d4 y) :
  Calls Tryz.prog 56 #[.agg #[.slice y1 y.heap.length d1, .slice y2 y.insts.length d2, .slice y3 y.units.length d3, .slice y4 y.out.length d4]] w fun e w' => Ans w (.bool y.ok) e w' := by
 have HS : Hid y.small := hs
 have HR : Hid (SyRows w (fun b => b < w.heap.size) y1 y2 y3 y4 d1 d2 d3 d4 y) := hr
 have now : ∀ w2, Below w.heap.size w w2 → SyRows w2 (fun b => b < w2.heap.size) y1 y2 y3 y4 d1 d2 d3 d4 y := fun w2 h2 => HR.out.keep fun b hb => ⟨Nat.lt_of_lt_of_le hb h2.size, h2.block b hb⟩
 have HC0 : Hid (∀ w2, Below w.heap.size w w2 → Calls Tryz.prog 81 #[.slice y1 y.heap.length d1] w2 fun e w' => HpPost y.heap w2 e w') := fun w2 h2 => implHeap_any y1 y.heap d1 w2 hs.1.1 hr.1.2 hs.1.2 (rowC_iff.1 (now w2 h2).1.1)
 have HC1 : Hid (∀ w2, Below w.heap.size w w2 → Calls Tryz.prog 82 #[.agg #[.slice y1 y.heap.length d1, .slice y2 y.insts.length d2, .slice y3 y.units.length d3, .slice y4 y.out.length d4]] w2 fun e w' => Ans w2 (.bool (instsB y.heap y.insts)) e w') := fun w2 h2 => insts_any y y1 y2 y3 y4 d1 d2 d3 d4 w2 HS.out (now w2 h2)
 have HC2 : Hid (∀ w2, Below w.heap.size w w2 → Calls Tryz.prog 83 #[.agg #[.slice y1 y.heap.length d1, .slice y2 y.insts.length d2, .slice y3 y.units.length d3, .slice y4 y.out.length d4]] w2 fun e w' => Ans w2 (.bool (unitsB y.insts.length y.units)) e w') := fun w2 h2 => units_any y y1 y2 y3 y4 d1 d2 d3 d4 w2 HS.out (now w2 h2)
 have HC3 : Hid (HeapP y.heap → ∀ w2, Below w.heap.size w w2 → Calls Tryz.prog 84 #[.agg #[.slice y1 y.heap.length d1, .slice y2 y.insts.length d2, .slice y3 y.units.length d3, .slice y4 y.out.length d4]] w2 fun e w' => Ans w2 (.bool (fnsB y.heap y.units)) e w') := fun hp w2 h2 => functions_any y y1 y2 y3 y4 d1 d2 d3 d4 w2 HS.out (now w2 h2) (heap_fn hp)
 have hb0 : Below w.heap.size w (w.alloc (Obj.cells #[.slice y1 y.heap.length d1, .slice y2 y.insts.length d2, .slice y3 y.units.length d3, .slice y4 y.out.length d4] 41)) := bR _ _
 have k0 : (w.alloc (Obj.cells #[.slice y1 y.heap.length d1, .slice y2 y.insts.length d2, .slice y3 y.units.length d3, .slice y4 y.out.length d4] 41)).heap[w.heap.size]? = some (Obj.cells #[.slice y1 y.heap.length d1, .slice y2 y.insts.length d2, .slice y3 y.units.length d3, .slice y4 y.out.length d4] 41) := blk_at _ _ _ rfl
 have HQ0 : Hid (y.ok = (holds (HeapP y.heap) && instsB y.heap y.insts && unitsB y.insts.length y.units && fnsB y.heap y.units && decide (y.out.length ≤ 40))) := rfl
 rw [HQ0.out]
 clear hs hr now HR HS
 go_enter Tryz.func56, Tryz.ntmps56
 go_wp2_with fail
 refine (HC0.out _ hb0).mono ?_
 rintro e v0 ⟨b, rfl, hq, hv⟩
 have hb1 : Below w.heap.size w v0 := bT hb0 hv
 have k0 := bK k0 hv
 clear hv
 have hp := holds_of hq
 cases b
 ·have HP : Hid (holds (HeapP y.heap) = false) := hp.symm
  clear hp hq
  go_wp2
  go_ret
  exact ⟨by rw [HP.out]; rfl, hb1⟩
 have HP : Hid (holds (HeapP y.heap) = true) := hp.symm
 have HC3' : Hid (∀ w2, Below w.heap.size w w2 → Calls Tryz.prog 84 #[.agg #[.slice y1 y.heap.length d1, .slice y2 y.insts.length d2, .slice y3 y.units.length d3, .slice y4 y.out.length d4]] w2 fun e w' => Ans w2 (.bool (fnsB y.heap y.units)) e w') := HC3.out (hq.1 rfl)
 clear hp hq HC3
 obtain ⟨p0, p1, p2, p3⟩ := zn4 k0 rfl rfl rfl rfl
 go_wp2_with fail
 refine (HC1.out _ hb1).mono ?_
 rintro e v1 ⟨rfl, hv⟩
 have hb2 : Below w.heap.size w v1 := bT hb1 hv
 have k0 := bK k0 hv
 clear hv p0 p1 p2 p3
 cases h1 : instsB y.heap y.insts
 ·have H1 : Hid (instsB y.heap y.insts = false) := h1
  clear h1
  go_wp2
  go_ret
  exact ⟨by rw [HP.out, H1.out]; rfl, hb2⟩
 have H1 : Hid (instsB y.heap y.insts = true) := h1
 clear h1
 obtain ⟨p0, p1, p2, p3⟩ := zn4 k0 rfl rfl rfl rfl
 go_wp2_with fail
 refine (HC2.out _ hb2).mono ?_
 rintro e v2 ⟨rfl, hv⟩
 have hb3 : Below w.heap.size w v2 := bT hb2 hv
 have k0 := bK k0 hv
 clear hv p0 p1 p2 p3
 cases h2 : unitsB y.insts.length y.units
 ·have H2 : Hid (unitsB y.insts.length y.units = false) := h2
  clear h2
  go_wp2
  go_ret
  exact ⟨by rw [HP.out, H1.out, H2.out]; rfl, hb3⟩
 have H2 : Hid (unitsB y.insts.length y.units = true) := h2
 clear h2
 obtain ⟨p0, p1, p2, p3⟩ := zn4 k0 rfl rfl rfl rfl
 go_wp2_with fail
 refine (HC3'.out _ hb3).mono ?_
 rintro e v3 ⟨rfl, hv⟩
 have hb4 : Below w.heap.size w v3 := bT hb3 hv
 have k0 := bK k0 hv
 clear hv p0 p1 p2 p3
 cases h3 : fnsB y.heap y.units
 ·have H3 : Hid (fnsB y.heap y.units = false) := h3
  clear h3
  go_wp2
  go_ret
  exact ⟨by rw [HP.out, H1.out, H2.out, H3.out]; rfl, hb4⟩
 have H3 : Hid (fnsB y.heap y.units = true) := h3
 clear h3
 have p3 := zB 3 k0 rfl
 by_cases h4 : y.out.length ≤ 40
 ·have g4 : decide ((y.out.length : Int) ≤ 40) = true := by simp; omega
  go_wp2
  go_ret
  exact ⟨by rw [HP.out, H1.out, H2.out, H3.out, decide_eq_true h4]; rfl, hb4⟩
 ·have g4 : decide ((y.out.length : Int) ≤ 40) = false := by simp; omega
  go_wp2
  go_ret
  exact ⟨by rw [HP.out, H1.out, H2.out, H3.out, decide_eq_false h4]; rfl, hb4⟩
end Go.Proofs.YtlacidojljilaaaGreatDoor
