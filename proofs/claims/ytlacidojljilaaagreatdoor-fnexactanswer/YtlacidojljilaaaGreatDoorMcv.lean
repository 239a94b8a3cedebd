/- The program: what a frame waits for; is there a value just where the mode asks for one; are these right bindings. The program: are all frames right. The program: is a machine right. -/
import Derived.Test.YtlacidojljilaaaGreatDoorMcy
set_option linter.unusedVariables false
set_option maxRecDepth 100000
set_option maxHeartbeats 8000000
namespace Go.Proofs.YtlacidojljilaaaGreatDoor
open Go.ChangeShapes Go.WideShapes Go.ChangeAt Go.RowKit
theorem fullFrame_any (d : Nod) (an aa : Option Addr) (cn ca : Nat) (w : World) (hs : d.args.length ≤ 1048576) :
  Calls Tryz.prog 87 #[.agg #[.int .i64 d.k, .int .i64 d.n, .string d.s, .slice an d.names.length cn, .slice aa d.args.length ca]] w fun e w' => Ans w (.int .i64 (fullF d : Int)) e w' := by
 have hb0 : Below w.heap.size w (w.alloc (Obj.cells #[.int .i64 d.k, .int .i64 d.n, .string d.s, .slice an d.names.length cn, .slice aa d.args.length ca] 126)) := bR _ _
 by_cases e6 : d.k = 6 ∨ d.k = 10
 ·have HF : Hid (fullF d = 1) := if_pos e6
  rcases e6 with e6 | e6
  ·have g1 : (d.k == 6) = true := beq_iff_eq.2 e6
   clear e6
   go_enter Tryz.func87, Tryz.ntmps87
   go_wp2
   go_ret
   exact ⟨by rw [HF.out]; rfl, hb0⟩
  ·have g1 : (d.k == 6) = false := beq_eq_false_iff_ne.2 (by omega)
   have g2 : (d.k == 10) = true := beq_iff_eq.2 e6
   clear e6
   go_enter Tryz.func87, Tryz.ntmps87
   go_wp2
   go_ret
   exact ⟨by rw [HF.out]; rfl, hb0⟩
 ·have g1 : (d.k == 6) = false := beq_eq_false_iff_ne.2 (by omega)
  have g2 : (d.k == 10) = false := beq_eq_false_iff_ne.2 (by omega)
  by_cases e8 : d.k = 8 ∨ d.k = 9 ∨ d.k = 11
  ·have HF : Hid (fullF d = d.args.length) := by show _ = _; unfold fullF; rw [if_neg e6, if_pos e8]
   clear e6
   rcases e8 with e8 | e8 | e8
   ·have g3 : (d.k == 8) = true := beq_iff_eq.2 e8
    clear e8
    go_enter Tryz.func87, Tryz.ntmps87
    go_wp2
    go_ret
    exact ⟨by rw [HF.out]; rfl, hb0⟩
   ·have g3 : (d.k == 8) = false := beq_eq_false_iff_ne.2 (by omega)
    have g4 : (d.k == 9) = true := beq_iff_eq.2 e8
    clear e8
    go_enter Tryz.func87, Tryz.ntmps87
    go_wp2
    go_ret
    exact ⟨by rw [HF.out]; rfl, hb0⟩
   ·have g3 : (d.k == 8) = false := beq_eq_false_iff_ne.2 (by omega)
    have g4 : (d.k == 9) = false := beq_eq_false_iff_ne.2 (by omega)
    have g5 : (d.k == 11) = true := beq_iff_eq.2 e8
    clear e8
    go_enter Tryz.func87, Tryz.ntmps87
    go_wp2
    go_ret
    exact ⟨by rw [HF.out]; rfl, hb0⟩
  ·have HF : Hid (fullF d = 0) := by show _ = _; unfold fullF; rw [if_neg e6, if_neg e8]
   have g3 : (d.k == 8) = false := beq_eq_false_iff_ne.2 (by omega)
   have g4 : (d.k == 9) = false := beq_eq_false_iff_ne.2 (by omega)
   have g5 : (d.k == 11) = false := beq_eq_false_iff_ne.2 (by omega)
   clear e6 e8
   go_enter Tryz.func87, Tryz.ntmps87
   go_wp2
   go_ret
   exact ⟨by rw [HF.out]; rfl, hb0⟩
theorem valOk_any (ah : Option Addr) (h : List Cel) (ch : Nat) (m : Mac) (m1 m2 : Option Addr) (e1 e2 : Nat) (w : World) (hl : h.length ≤ 1048576) (hsv : m.val.small) (hr : rgC.Row w (fun b => b < w.heap.size) ah h) :
  Calls Tryz.prog 57 #[.slice ah h.length ch, .agg #[.int .i64 m.mode, .int .i64 m.unit, .int .i64 m.node, .slice m1 m.env.length e1, .int .i64 m.val.k, .int .i64 m.val.n, .string m.val.s, .slice m2 m.stack.length e2, .int .i64 m.end_]] w fun e w' => Ans w (.bool (valB h m)) e w' := by
 have hb0 : Below w.heap.size w (w.alloc (Obj.cells #[.int .i64 m.mode, .int .i64 m.unit, .int .i64 m.node, .slice m1 m.env.length e1, .int .i64 m.val.k, .int .i64 m.val.n, .string m.val.s, .slice m2 m.stack.length e2, .int .i64 m.end_] 47)) := bR _ _
 have HVO : Hid (∀ w1, Below w.heap.size w w1 → Calls Tryz.prog 85 #[.slice ah h.length ch, .agg #[.int .i64 m.val.k, .int .i64 m.val.n, .string m.val.s]] w1 fun e w' => Ans w1 (.bool (m.val.ok h)) e w') := fun w1 h1 => implVal_any m.val ah h ch w1 hl hsv.2.2 (rowC_iff.1 (hr.keep fun b hb => ⟨Nat.lt_of_lt_of_le hb h1.size, h1.block b hb⟩))
 have hcmp := eqv39 m.val
 clear hr
 by_cases q1 : m.mode = 1
 ·have HR : Hid (valB h m = m.val.zero) := if_pos q1
  have g1 : (m.mode == 1) = true := beq_iff_eq.2 q1
  clear q1 HVO
  go_enter Tryz.func57, Tryz.ntmps57
  go_wp2
  go_ret
  exact ⟨by rw [HR.out]; rfl, hb0⟩
 ·have g1 : (m.mode == 1) = false := beq_eq_false_iff_ne.2 q1
  by_cases q2 : m.mode = 2
  ·have HR : Hid (valB h m = m.val.ok h) := by show _ = _; unfold valB; rw [if_neg q1, if_pos q2]
   have g2 : (m.mode == 2) = true := beq_iff_eq.2 q2
   have g3 : (m.mode == 3) = false := beq_eq_false_iff_ne.2 (by omega)
   clear q1 q2
   go_enter Tryz.func57, Tryz.ntmps57
   go_wp2_with (go_at_call 85; refine (HVO.out _ hb0).mono ?_; rintro e w4 ⟨rfl, hb9⟩)
   go_ret
   exact ⟨by rw [HR.out]; rfl, bT hb0 hb9⟩
  ·have g2 : (m.mode == 2) = false := beq_eq_false_iff_ne.2 q2
   by_cases q3 : m.mode = 3
   ·have HR : Hid (valB h m = (m.val.zero || m.val.ok h)) := by show _ = _; unfold valB; rw [if_neg q1, if_neg q2, if_pos q3]; rfl
    have g3 : (m.mode == 3) = true := beq_iff_eq.2 q3
    clear q1 q2 q3
    cases hz : m.val.zero
    ·rw [hz] at HR hcmp
     clear hz
     go_enter Tryz.func57, Tryz.ntmps57
     go_wp2_with (go_at_call 85; refine (HVO.out _ hb0).mono ?_; rintro e w4 ⟨rfl, hb9⟩)
     go_ret
     exact ⟨by rw [HR.out]; rfl, bT hb0 hb9⟩
    ·rw [hz] at HR hcmp
     clear hz
     go_enter Tryz.func57, Tryz.ntmps57
     go_wp2
     go_ret
     exact ⟨by rw [HR.out]; rfl, hb0⟩
   ·have HR : Hid (valB h m = false) := by show _ = _; unfold valB; rw [if_neg q1, if_neg q2, if_neg q3]
    have g3 : (m.mode == 3) = false := beq_eq_false_iff_ne.2 q3
    clear q1 q2 q3 HVO
    go_enter Tryz.func57, Tryz.ntmps57
    go_wp2
    go_ret
    exact ⟨by rw [HR.out]; rfl, hb0⟩
theorem bindsOk_any (ah : Option Addr) (h : List Cel) (ch : Nat) (a : Option Addr) (e : List Bnd) (ca : Nat) (w : World) (hl : h.length ≤ 1048576) (hr : rgC.Row w (fun b => b < w.heap.size) ah h) (hn : e.length ≤ 1048576) (hse : ∀ b ∈ e, Bnd.small b) (hre : rgB.Row w (fun b => b < w.heap.size) a e) :
  Calls Tryz.prog 58 #[.slice ah h.length ch, .slice a e.length ca] w fun r w' => Ans w (.bool (envB h e)) r w' := by
 have HR : Hid (rgB.Row w (fun b => b < w.heap.size) a e) := hre
 have HS : Hid (∀ b ∈ e, Bnd.small b) := hse
 have HC : Hid (rgC.Row w (fun b => b < w.heap.size) ah h) := hr
 have HQ0 : Hid (envB h e = e.all (Bnd.ok h)) := rfl
 rw [HQ0.out]
 clear hre hse hr
 go_enter Tryz.func58, Tryz.ntmps58
 go_wp2
 go_loopw [9] (fun o wr => ∃ i : Nat, i ≤ e.length ∧ o = .int .i64 i ∧ (e.take i).all (Bnd.ok h) = true ∧ Below w.heap.size w wr)
  (fun o _ => e.length - (intOf o).toNat)
 case atStart => exact ⟨0, by omega, rfl, by simp, Below.refl _ _⟩
 case round =>
  obtain ⟨i, hi, rfl, hall, hb⟩ := hrel
  by_cases hlt : i < e.length
  ·obtain ⟨b, hbi⟩ : ∃ b, e[i]? = some b := ⟨_, List.getElem?_eq_getElem hlt⟩
   obtain ⟨b1, o1, cs, rfl, hbb, rfl, hl1⟩ := HR.out i b hbi
   have hil : (i : Int) < (e.length : Int) := by omega
   have x0 : wr.cell? ⟨b1, o1 + i * 4, none⟩ = some (.string b.name) := cell_keep (hl1 0 _ rfl) hb hbb
   have x1 : wr.cell? ⟨b1, o1 + i * 4 + 1, none⟩ = some (.int .i64 b.val.k) := cell_keep (hl1 1 _ rfl) hb hbb
   have x2 : wr.cell? ⟨b1, o1 + i * 4 + 2, none⟩ = some (.int .i64 b.val.n) := cell_keep (hl1 2 _ rfl) hb hbb
   have x3 : wr.cell? ⟨b1, o1 + i * 4 + 3, none⟩ = some (.string b.val.s) := cell_keep (hl1 3 _ rfl) hb hbb
   have hbm := List.mem_of_getElem? hbi
   have HNM : Hid (∀ w1, Calls Tryz.prog 86 #[.string b.name] w1 fun e w' => Ans w1 (.bool (naL b.name.toList)) e w') := fun w1 => implNa_any b.name w1 (HS.out b hbm).1
   have HVL : Hid (∀ w1, Below w.heap.size w w1 → Calls Tryz.prog 85 #[.slice ah h.length ch, .agg #[.int .i64 b.val.k, .int .i64 b.val.n, .string b.val.s]] w1 fun e w' => Ans w1 (.bool (b.val.ok h)) e w') := fun w1 h1 => implVal_any b.val ah h ch w1 hl (HS.out b hbm).2.2.2 (rowC_iff.1 (HC.out.keep fun c hc => ⟨Nat.lt_of_lt_of_le hc h1.size, h1.block c hc⟩))
   have good : Bnd.ok h b = true → Hid ((e.take (i + 1)).all (Bnd.ok h) = true) := fun q => by show _ = _; rw [all_take_succ _ hbi, hall, q]; rfl
   have bad : Bnd.ok h b = false → Hid (e.all (Bnd.ok h) = false) := fun q => all_of_bad _ hbi q
   have HE : Hid (Bnd.ok h b = (naL b.name.toList && b.val.ok h)) := rfl
   have hbA : Below w.heap.size w (wr.alloc (Obj.cells #[.string b.name, .int .i64 b.val.k, .int .i64 b.val.n, .string b.val.s] 121)) := hb.alloc hb.size _
   have kA : (wr.alloc (Obj.cells #[.string b.name, .int .i64 b.val.k, .int .i64 b.val.n, .string b.val.s] 121)).heap[wr.heap.size]? = some (Obj.cells #[.string b.name, .int .i64 b.val.k, .int .i64 b.val.n, .string b.val.s] 121) := blk_at _ _ _ rfl
   clear hl1 hbi hbm
   cases h1 : naL b.name.toList
   ·rw [h1] at HNM
    have HQ := bad (by rw [HE.out, h1]; rfl)
    clear bad good hall HE h1 HVL
    go_wp2_with fail
    refine (HNM.out _).mono ?_
    rintro r w2 ⟨rfl, hb2⟩
    go_wp2
    go_ret
    exact ⟨by rw [HQ.out]; rfl, bT hbA hb2⟩
   ·rw [h1] at HNM
    cases h2 : b.val.ok h
    ·rw [h2] at HVL
     have HQ := bad (by rw [HE.out, h1, h2]; rfl)
     clear bad good hall HE h1 h2
     go_wp2_with fail
     refine (HNM.out _).mono ?_
     rintro r w2 ⟨rfl, hb2⟩
     have hb3 := bT hbA hb2
     have k2 := bK kA hb2
     obtain ⟨z1, z2, z3⟩ := zj3 1 2 3 k2 rfl rfl rfl
     go_wp2_with fail
     refine (HVL.out _ hb3).mono ?_
     rintro r w3 ⟨rfl, hb4⟩
     go_wp2
     go_ret
     exact ⟨by rw [HQ.out]; rfl, bT hb3 hb4⟩
    ·rw [h2] at HVL
     have HQ := good (by rw [HE.out, h1, h2]; rfl)
     clear bad good hall HE h1 h2
     go_wp2_with fail
     refine (HNM.out _).mono ?_
     rintro r w2 ⟨rfl, hb2⟩
     have hb3 := bT hbA hb2
     have k2 := bK kA hb2
     obtain ⟨z1, z2, z3⟩ := zj3 1 2 3 k2 rfl rfl rfl
     go_wp2_with fail
     refine (HVL.out _ hb3).mono ?_
     rintro r w3 ⟨rfl, hb4⟩
     go_wp2
     go_roundw
     case rel => exact ⟨i + 1, by omega, by go_num, HQ.out, bT hb3 hb4⟩
     case measure => simp [intOf]; omega
  ·obtain rfl : i = e.length := by omega
   rw [List.take_length] at hall
   have HQ : Hid (e.all (Bnd.ok h) = true) := hall
   have hlt' : decide ((e.length : Int) < (e.length : Int)) = false := by simp
   clear hall
   go_wp2
   go_ret
   exact ⟨by rw [HQ.out]; rfl, hb⟩
theorem stackOk_any (y : Sy) (y1 y2 y3 y4 : Option Addr) (d1 d2 d3 d4 : Nat) (a : Option Addr) (l : List Frm) (ca' : Nat) (w : World) (hs : y.small) (hr : SyRows w (fun b => b < w.heap.size) y1 y2 y3 y4 d1 d2 d3 d4 y) (hn : l.length ≤ 1048576) (hsl : ∀ f ∈ l, Frm.small f) (hrl : rgF.Row w (fun b => b < w.heap.size) a l) :
  Calls Tryz.prog 59 #[.agg #[.slice y1 y.heap.length d1, .slice y2 y.insts.length d2, .slice y3 y.units.length d3, .slice y4 y.out.length d4], .slice a l.length ca'] w fun r w' => Ans w (.bool (l.all (Frm.ok y.heap y.units))) r w' := by
 have hb0 : Below w.heap.size w (w.alloc (Obj.cells #[.slice y1 y.heap.length d1, .slice y2 y.insts.length d2, .slice y3 y.units.length d3, .slice y4 y.out.length d4] 41)) := bR _ _
 have kk : (w.alloc (Obj.cells #[.slice y1 y.heap.length d1, .slice y2 y.insts.length d2, .slice y3 y.units.length d3, .slice y4 y.out.length d4] 41)).heap[w.heap.size]? = some (Obj.cells #[.slice y1 y.heap.length d1, .slice y2 y.insts.length d2, .slice y3 y.units.length d3, .slice y4 y.out.length d4] 41) := blk_at _ _ _ rfl
 have HR : Hid (rgF.Row w (fun b => b < w.heap.size) a l) := hrl
 have HNQ : Hid (∀ (f : Frm) w1, Below w.heap.size w w1 → Calls Tryz.prog 55 #[.slice y3 y.units.length d3, .int .i64 f.unit, .int .i64 f.node] w1 fun e w' => NdPost y.units f.unit f.node w1 e w') := fun f w1 h1 => nodeAt_any y3 y.units d3 f.unit f.node w1 hs.2.2.1.1 hs.2.2.1.2 (hr.2.2.1.1.keep fun b hb => ⟨Nat.lt_of_lt_of_le hb h1.size, h1.block b hb⟩)
 have HVQ : Hid (∀ (f : Frm) (fa1 : Option Addr) (fc1 : Nat) w1, f ∈ l → rgV.Row w1 (fun b => b < w1.heap.size) fa1 f.vals → Below w.heap.size w w1 → Calls Tryz.prog 88 #[.slice y1 y.heap.length d1, .slice fa1 f.vals.length fc1] w1 fun e w' => Ans w1 (.bool (f.vals.all (Val.ok y.heap))) e w') := fun f fa1 fc1 w1 hf hv h1 => valuesOk_any y1 y.heap d1 fa1 f.vals fc1 w1 hs.1.1 (hsl f hf).2.2.1.1 (hsl f hf).2.2.1.2 (rowC_iff.1 (hr.1.1.keep fun b hb => ⟨Nat.lt_of_lt_of_le hb h1.size, h1.block b hb⟩)) (rowV_iff.1 hv)
 have HBQ : Hid (∀ (f : Frm) (fa2 : Option Addr) (fc2 : Nat) w1, f ∈ l → rgB.Row w1 (fun b => b < w1.heap.size) fa2 f.env → Below w.heap.size w w1 → Calls Tryz.prog 58 #[.slice y1 y.heap.length d1, .slice fa2 f.env.length fc2] w1 fun e w' => Ans w1 (.bool (envB y.heap f.env)) e w') := fun f fa2 fc2 w1 hf he h1 => bindsOk_any y1 y.heap d1 fa2 f.env fc2 w1 hs.1.1 (hr.1.1.keep fun b hb => ⟨Nat.lt_of_lt_of_le hb h1.size, h1.block b hb⟩) (hsl f hf).2.2.2.1 (hsl f hf).2.2.2.2 he
 have HDS : Hid (∀ u ∈ y.units, ∀ d ∈ u.prog.nodes, d.args.length ≤ 1048576) := fun u hu d hd => ((hs.2.2.1.2 u hu).2.1.2 d hd).2.2.2.2.1
 have HVLn : Hid (∀ f ∈ l, f.vals.length ≤ 1048576) := fun f hf => (hsl f hf).2.2.1.1
 clear hr hs hrl hsl
 go_enter Tryz.func59, Tryz.ntmps59
 go_wp2
 have z0 : (w.alloc (Obj.cells #[.slice y1 y.heap.length d1, .slice y2 y.insts.length d2, .slice y3 y.units.length d3, .slice y4 y.out.length d4] 41)).heap.size = w.heap.size + 1 := by simp
 generalize w.alloc (Obj.cells #[.slice y1 y.heap.length d1, .slice y2 y.insts.length d2, .slice y3 y.units.length d3, .slice y4 y.out.length d4] 41) = W0 at *
 have HZ : Hid (W0.heap.size = w.heap.size + 1) := z0
 clear z0
 go_loopw [11] (fun o wr => ∃ i : Nat, i ≤ l.length ∧ o = .int .i64 i ∧ (l.take i).all (Frm.ok y.heap y.units) = true ∧ Below W0.heap.size W0 wr)
  (fun o _ => l.length - (intOf o).toNat)
 case atStart => exact ⟨0, by omega, rfl, by simp, Below.refl _ _⟩
 case round =>
  obtain ⟨i, hi, rfl, hall, hbW⟩ := hrel
  have hb : Below w.heap.size w wr := bT hb0 hbW
  have k0 := blk_keep kk hbW (by have := HZ.out; omega)
  have e2 := zB 2 k0 rfl
  have hwl : w.heap.size < wr.heap.size := (Array.getElem?_eq_some_iff.1 k0).1
  by_cases hlt : i < l.length
  ·obtain ⟨f, hf⟩ : ∃ f, l[i]? = some f := ⟨_, List.getElem?_eq_getElem hlt⟩
   obtain ⟨b8, o8, cs8, rfl, hb8, ⟨fa1, fa2, fc1, fc2, rfl, hfr⟩, hl8⟩ := (HR.out.below hb) i f hf
   have x0 : wr.cell? ⟨b8, o8 + i * 4, none⟩ = some (.int .i64 f.unit) := hl8 0 _ rfl
   have x1 : wr.cell? ⟨b8, o8 + i * 4 + 1, none⟩ = some (.int .i64 f.node) := hl8 1 _ rfl
   have x2 : wr.cell? ⟨b8, o8 + i * 4 + 2, none⟩ = some (.slice fa1 f.vals.length fc1) := hl8 2 _ rfl
   have x3 : wr.cell? ⟨b8, o8 + i * 4 + 3, none⟩ = some (.slice fa2 f.env.length fc2) := hl8 3 _ rfl
   have hfm := List.mem_of_getElem? hf
   have hbz := hb.size
   have rws : ∀ w1, Below w.heap.size w w1 → rgV.Row w1 (fun b => b < w1.heap.size) fa1 f.vals ∧ rgB.Row w1 (fun b => b < w1.heap.size) fa2 f.env := by
    obtain ⟨b8', o8', cs8', hax, _, ⟨ga1, ga2, gc1, gc2, rfl, hgr⟩, hl9⟩ := HR.out i f hf
    obtain ⟨rfl, rfl⟩ : b8 = b8' ∧ o8 = o8' := by simpa using hax
    have y2 : wr.cell? ⟨b8, o8 + i * 4 + 2, none⟩ = some (.slice ga1 f.vals.length gc1) := cell_keep (hl9 2 _ rfl) hb hb8
    have y3 : wr.cell? ⟨b8, o8 + i * 4 + 3, none⟩ = some (.slice ga2 f.env.length gc2) := cell_keep (hl9 3 _ rfl) hb hb8
    obtain ⟨rfl, rfl⟩ : fa1 = ga1 ∧ fc1 = gc1 := by rw [x2] at y2; simpa using y2
    obtain ⟨rfl, rfl⟩ : fa2 = ga2 ∧ fc2 = gc2 := by rw [x3] at y3; simpa using y3
    intro w1 h1
    exact ⟨hgr.1.1.keep fun b hb => ⟨Nat.lt_of_lt_of_le hb h1.size, h1.block b hb⟩, hgr.2.1.keep fun b hb => ⟨Nat.lt_of_lt_of_le hb h1.size, h1.block b hb⟩⟩
   have HVV : Hid (∀ w1, Below w.heap.size w w1 → Calls Tryz.prog 88 #[.slice y1 y.heap.length d1, .slice fa1 f.vals.length fc1] w1 fun e w' => Ans w1 (.bool (f.vals.all (Val.ok y.heap))) e w') := fun w1 h1 => HVQ.out f fa1 fc1 w1 hfm (rws w1 h1).1 h1
   have HBB : Hid (∀ w1, Below w.heap.size w w1 → Calls Tryz.prog 58 #[.slice y1 y.heap.length d1, .slice fa2 f.env.length fc2] w1 fun e w' => Ans w1 (.bool (envB y.heap f.env)) e w') := fun w1 h1 => HBQ.out f fa2 fc2 w1 hfm (rws w1 h1).2 h1
   have HNB : Hid (∀ w1, Below w.heap.size w w1 → Calls Tryz.prog 55 #[.slice y3 y.units.length d3, .int .i64 f.unit, .int .i64 f.node] w1 fun e w' => NdPost y.units f.unit f.node w1 e w') := fun w1 h1 => HNQ.out f w1 h1
   have good : f.ok y.heap y.units = true → Hid ((l.take (i + 1)).all (Frm.ok y.heap y.units) = true) := fun q => by show _ = _; rw [all_take_succ _ hf, hall, q]; rfl
   have bad : f.ok y.heap y.units = false → Hid (l.all (Frm.ok y.heap y.units) = false) := fun q => all_of_bad _ hf q
   have hkl : (i : Int) < (l.length : Int) := by omega
   have hvl := HVLn.out f hfm
   clear hl8 hf hfm HVQ HBQ HNQ hfr hall rws HR
   cases hna : nodeAt y.units f.unit f.node with
   | none =>
    have HNA : Hid (∀ w1, Below w.heap.size w w1 → Calls Tryz.prog 55 #[.slice y3 y.units.length d3, .int .i64 f.unit, .int .i64 f.node] w1 fun e w' => e = .returned (.tuple #[.agg #[.int .i64 0, .int .i64 0, .string ⟨#[]⟩, .slice none 0 0, .slice none 0 0], .bool false]) ∧ Below w1.heap.size w1 w') := fun w1 h1 => (HNB.out w1 h1).mono (by
     rintro e w2 (⟨d, an, aa, cn, ca, hd, -, -⟩ | ⟨hd, rfl, hb⟩)
     ·rw [hna] at hd; cases hd
     ·exact ⟨rfl, hb⟩)
    have HQ := bad (by unfold Frm.ok; rw [hna])
    clear good bad HNB hna HVV HBB
    have hbA : Below w.heap.size w (wr.alloc (Obj.cells #[.int .i64 f.unit, .int .i64 f.node, .slice fa1 f.vals.length fc1, .slice fa2 f.env.length fc2] 104)) := hb.alloc hb.size _
    have kA : (wr.alloc (Obj.cells #[.int .i64 f.unit, .int .i64 f.node, .slice fa1 f.vals.length fc1, .slice fa2 f.env.length fc2] 104)).heap[wr.heap.size]? = some (Obj.cells #[.int .i64 f.unit, .int .i64 f.node, .slice fa1 f.vals.length fc1, .slice fa2 f.env.length fc2] 104) := blk_at _ _ _ rfl
    have kY : (wr.alloc (Obj.cells #[.int .i64 f.unit, .int .i64 f.node, .slice fa1 f.vals.length fc1, .slice fa2 f.env.length fc2] 104)).heap[w.heap.size]? = some (Obj.cells #[.slice y1 y.heap.length d1, .slice y2 y.insts.length d2, .slice y3 y.units.length d3, .slice y4 y.out.length d4] 41) := blk_past k0
    go_wp2_with fail
    refine (HNA.out _ hbA).mono ?_
    rintro e w2 ⟨rfl, hb2⟩
    have hbB := bT hbA hb2
    have hbV : Below W0.heap.size W0 w2 := (hbW.alloc hbW.size _).trans (hb2.mono (hbW.alloc hbW.size (Obj.cells #[.int .i64 f.unit, .int .i64 f.node, .slice fa1 f.vals.length fc1, .slice fa2 f.env.length fc2] 104)).size)
    have kA2 := bK kA hb2
    have kY2 := bK kY hb2
    have hbC : Below w.heap.size w (w2.alloc (Obj.cells #[.int .i64 0, .int .i64 0, .string ⟨#[]⟩, .slice none 0 0, .slice none 0 0] 126)) := hbB.alloc hbB.size _
    have kN : (w2.alloc (Obj.cells #[.int .i64 0, .int .i64 0, .string ⟨#[]⟩, .slice none 0 0, .slice none 0 0] 126)).heap[w2.heap.size]? = some (Obj.cells #[.int .i64 0, .int .i64 0, .string ⟨#[]⟩, .slice none 0 0, .slice none 0 0] 126) := blk_at _ _ _ rfl
    have kA3 : (w2.alloc (Obj.cells #[.int .i64 0, .int .i64 0, .string ⟨#[]⟩, .slice none 0 0, .slice none 0 0] 126)).heap[wr.heap.size]? = some (Obj.cells #[.int .i64 f.unit, .int .i64 f.node, .slice fa1 f.vals.length fc1, .slice fa2 f.env.length fc2] 104) := blk_past kA2
    have kY3 : (w2.alloc (Obj.cells #[.int .i64 0, .int .i64 0, .string ⟨#[]⟩, .slice none 0 0, .slice none 0 0] 126)).heap[w.heap.size]? = some (Obj.cells #[.slice y1 y.heap.length d1, .slice y2 y.insts.length d2, .slice y3 y.units.length d3, .slice y4 y.out.length d4] 41) := blk_past kY2
    have hwA : wr.heap.size < w2.heap.size := (Array.getElem?_eq_some_iff.1 kA2).1
    have hwY : w.heap.size < w2.heap.size := (Array.getElem?_eq_some_iff.1 kY2).1
    clear kA kY hb2 kA2 kY2 hbA
    obtain ⟨WD, hWD⟩ : ∃ WD : World, WD = { (w2.alloc (Obj.cells #[.int .i64 0, .int .i64 0, .string ⟨#[]⟩, .slice none 0 0, .slice none 0 0] 126)) with drawn := (w2.alloc (Obj.cells #[.int .i64 0, .int .i64 0, .string ⟨#[]⟩, .slice none 0 0, .slice none 0 0] 126)).drawn + 1 } := ⟨_, rfl⟩
    have HSD : Hid ((fun X : World => (X.cell? ⟨w.heap.size, 0, none⟩ = some (.slice y1 y.heap.length d1)) ∧ (X.cell? ⟨wr.heap.size, 2, none⟩ = some (.slice fa1 f.vals.length fc1)) ∧ (X.cell? ⟨wr.heap.size, 3, none⟩ = some (.slice fa2 f.env.length fc2))) WD) := by rw [hWD]; exact ⟨cell_blk (j := 0) kY3 rfl, cell_blk (j := 2) kA3 rfl, cell_blk (j := 3) kA3 rfl⟩
    have HBD : Hid (Below w.heap.size w WD) := by rw [hWD]; exact ⟨hbC.os, hbC.tape, hbC.output, hbC.size, hbC.block⟩
    have HWD : Hid (w2.heap.size + 1 ≤ WD.heap.size) := by rw [hWD]; show _ ≤ (w2.alloc _).heap.size; simp
    have HB0 : Hid (Below W0.heap.size W0 WD) := by
     have hq := hbV.alloc hbV.size (Obj.cells #[.int .i64 0, .int .i64 0, .string ⟨#[]⟩, .slice none 0 0, .slice none 0 0] 126)
     rw [hWD]; exact ⟨hq.os, hq.tape, hq.output, hq.size, hq.block⟩
    have HWE : Hid (WD = { (w2.alloc (Obj.cells #[.int .i64 0, .int .i64 0, .string ⟨#[]⟩, .slice none 0 0, .slice none 0 0] 126)) with drawn := (w2.alloc (Obj.cells #[.int .i64 0, .int .i64 0, .string ⟨#[]⟩, .slice none 0 0, .slice none 0 0] 126)).drawn + 1 }) := hWD
    have KS : ∀ u v : World, w2.heap.size + 1 ≤ u.heap.size → (fun X : World => (X.cell? ⟨w.heap.size, 0, none⟩ = some (.slice y1 y.heap.length d1)) ∧ (X.cell? ⟨wr.heap.size, 2, none⟩ = some (.slice fa1 f.vals.length fc1)) ∧ (X.cell? ⟨wr.heap.size, 3, none⟩ = some (.slice fa2 f.env.length fc2))) u → Below u.heap.size u v → (fun X : World => (X.cell? ⟨w.heap.size, 0, none⟩ = some (.slice y1 y.heap.length d1)) ∧ (X.cell? ⟨wr.heap.size, 2, none⟩ = some (.slice fa1 f.vals.length fc1)) ∧ (X.cell? ⟨wr.heap.size, 3, none⟩ = some (.slice fa2 f.env.length fc2))) v := fun u v hu ⟨h0, h1, h2⟩ hb9 => by
     have q0 : w.heap.size < u.heap.size := by omega
     have q1 : wr.heap.size < u.heap.size := by omega
     have q2 : w2.heap.size < u.heap.size := by omega
     exact ⟨cell_keep h0 hb9 q0, cell_keep h1 hb9 q1, cell_keep h2 hb9 q1⟩
    clear hWD kN kA3 kY3 hbC
    go_wp2_with fail
    refine wp_region_held (S := (fun X : World => (X.cell? ⟨w.heap.size, 0, none⟩ = some (.slice y1 y.heap.length d1)) ∧ (X.cell? ⟨wr.heap.size, 2, none⟩ = some (.slice fa1 f.vals.length fc1)) ∧ (X.cell? ⟨wr.heap.size, 3, none⟩ = some (.slice fa2 f.env.length fc2)))) (by kernel_rfl) ?_
    rw [← HWE.out]
    have hS : (fun X : World => (X.cell? ⟨w.heap.size, 0, none⟩ = some (.slice y1 y.heap.length d1)) ∧ (X.cell? ⟨wr.heap.size, 2, none⟩ = some (.slice fa1 f.vals.length fc1)) ∧ (X.cell? ⟨wr.heap.size, 3, none⟩ = some (.slice fa2 f.env.length fc2))) WD := HSD.out
    refine tK 0 (vF) rfl (by kernel_rfl) (fun _ _ _ h => h) (fun _ => by kernel_rfl) hS ?_
    refine tK 1 (vT) rfl (by kernel_rfl) (fun _ _ _ h => h) (fun _ => by kernel_rfl) hS ?_
    refine tK 2 (vT) rfl (by kernel_rfl) (fun _ _ _ h => h) (fun _ => by kernel_rfl) hS ?_
    refine tU 3 rfl (by kernel_rfl) (fun _ _ _ h => h) hS ?_
    refine tU 4 rfl (by kernel_rfl) (fun _ _ _ h => h) hS ?_
    refine tU 5 rfl (by kernel_rfl) (fun _ _ _ h => h) hS ?_
    refine tU 6 rfl (by kernel_rfl) (fun _ _ _ h => h) hS ?_
    refine tU 7 rfl (by kernel_rfl) (fun _ _ _ h => h) hS ?_
    refine tU 8 rfl (by kernel_rfl) (fun _ _ _ h => h) hS ?_
    refine tK 9 (vT) rfl (by kernel_rfl) (fun _ _ _ h => h) (fun _ => by kernel_rfl) hS ?_
    refine tK 10 (vT) rfl (by kernel_rfl) (fun _ _ _ h => h) (fun _ => by kernel_rfl) hS ?_
    refine tU 11 rfl (by kernel_rfl) (fun _ _ _ h => h) hS ?_
    refine tU 12 rfl (by kernel_rfl) (fun _ _ _ h => h) hS ?_
    refine tU 13 rfl (by kernel_rfl) (fun _ _ _ h => h) hS ?_
    refine tU 14 rfl (by kernel_rfl) (fun _ _ _ h => h) hS ?_
    refine tU 15 rfl (by kernel_rfl) (fun _ _ _ h => h) hS ?_
    refine tU 16 rfl (by kernel_rfl) (fun _ _ _ h => h) hS ?_
    refine tK 17 (vT) rfl (by kernel_rfl) (fun _ _ _ h => h) (fun _ => by kernel_rfl) hS ?_
    refine tK 18 (vT) rfl (by kernel_rfl) (fun _ _ _ h => h) (fun _ => by kernel_rfl) hS ?_
    refine tU 19 rfl (by kernel_rfl) (fun _ _ _ h => h) hS ?_
    refine tU 20 rfl (by kernel_rfl) (fun _ _ _ h => h) hS ?_
    refine tU 21 rfl (by kernel_rfl) (fun _ _ _ h => h) hS ?_
    refine tU 22 rfl (by kernel_rfl) (fun _ _ _ h => h) hS ?_
    refine tU 23 rfl (by kernel_rfl) (fun _ _ _ h => h) hS ?_
    refine tU 24 rfl (by kernel_rfl) (fun _ _ _ h => h) hS ?_
    refine tK 25 (vT) rfl (by kernel_rfl) (fun _ _ _ h => h) (fun _ => by kernel_rfl) hS ?_
    refine eH (bb 26 67108863) ⟨#[.agg #[.slice y1 y.heap.length d1, .slice y2 y.insts.length d2, .slice y3 y.units.length d3, .slice y4 y.out.length d4], .slice (some ⟨b8, o8, none⟩) l.length ca', .pointer (some ⟨w.heap.size, 0, none⟩), undef, u4, undef, .pointer (some ⟨wr.heap.size, 0, none⟩), .pointer (some ⟨w2.heap.size, 0, none⟩), .bool false, .slice (some ⟨b8, o8, none⟩) l.length ca', .int .i64 ↑l.length, .int .i64 ↑i, .bool true, .pointer (some ⟨b8, o8 + i * 4, none⟩), .agg #[.int .i64 f.unit, .int .i64 f.node, .slice fa1 f.vals.length fc1, .slice fa2 f.env.length fc2], Value.tuple #[.agg #[.int .i64 0, .int .i64 0, .string { data := #[] }, .slice none 0 0, .slice none 0 0], .bool false], .pointer (some ⟨w.heap.size, 2, none⟩), .slice y3 y.units.length d3, .pointer (some ⟨wr.heap.size, 0, none⟩), .int .i64 f.unit, .pointer (some ⟨wr.heap.size, 1, none⟩), .int .i64 f.node, Value.tuple #[.agg #[.int .i64 0, .int .i64 0, .string { data := #[] }, .slice none 0 0, .slice none 0 0], .bool false], .agg #[.int .i64 0, .int .i64 0, .string { data := #[] }, .slice none 0 0, .slice none 0 0], .bool false, .bool false, .bool true, .bool true, undef, undef, undef, undef, undef, undef, .bool true, .bool true, undef, undef, undef, undef, undef, undef, .bool true, .bool true, undef, undef, undef, undef, undef, undef, .bool true, u51], []⟩ (by kernel_rfl) (by kernel_rfl) ?_
    refine wpAnyH_done (by kernel_rfl) ?_ _
    dsimp only []
    go_wp2
    go_ret
    exact ⟨by rw [HQ.out]; rfl, HBD.out⟩
   | some d =>
    have hdq : Hid (f.ok y.heap y.units = (decide (f.vals.length < fullF d) && f.vals.all (Val.ok y.heap) && envB y.heap f.env)) := by show _ = _; unfold Frm.ok; rw [hna]; rfl
    have HNA : Hid (∀ w1, Below w.heap.size w w1 → Calls Tryz.prog 55 #[.slice y3 y.units.length d3, .int .i64 f.unit, .int .i64 f.node] w1 fun e w' => ∃ (an aa : Option Addr) (cn ca : Nat), e = .returned (.tuple #[.agg #[.int .i64 d.k, .int .i64 d.n, .string d.s, .slice an d.names.length cn, .slice aa d.args.length ca], .bool true]) ∧ Below w1.heap.size w1 w') := fun w1 h1 => (HNB.out w1 h1).mono (by
     rintro e w2 (⟨d', an, aa, cn, ca, hd, -, rfl, -, hb⟩ | ⟨hd, -⟩)
     ·rw [hna] at hd
      obtain rfl := Option.some.inj hd
      exact ⟨an, aa, cn, ca, rfl, hb⟩
     ·rw [hna] at hd; cases hd)
    have hdl : ∀ w1, Below w.heap.size w w1 → d.args.length ≤ 1048576 := by
     intro w1 h1
     obtain ⟨i', j', u', _, _, hu', hd'⟩ := nodeAt_inv hna
     exact HDS.out u' (List.mem_of_getElem? hu') d (List.mem_of_getElem? hd')
    have hdl2 := hdl wr hb
    have HFF : Hid (∀ (an aa : Option Addr) (cn ca : Nat) w1, Calls Tryz.prog 87 #[.agg #[.int .i64 d.k, .int .i64 d.n, .string d.s, .slice an d.names.length cn, .slice aa d.args.length ca]] w1 fun e w' => Ans w1 (.int .i64 (fullF d : Int)) e w') := fun an aa cn ca w1 => fullFrame_any d an aa cn ca w1 hdl2
    clear HNB hna hdl hdl2
    have hbA : Below w.heap.size w (wr.alloc (Obj.cells #[.int .i64 f.unit, .int .i64 f.node, .slice fa1 f.vals.length fc1, .slice fa2 f.env.length fc2] 104)) := hb.alloc hb.size _
    have kA : (wr.alloc (Obj.cells #[.int .i64 f.unit, .int .i64 f.node, .slice fa1 f.vals.length fc1, .slice fa2 f.env.length fc2] 104)).heap[wr.heap.size]? = some (Obj.cells #[.int .i64 f.unit, .int .i64 f.node, .slice fa1 f.vals.length fc1, .slice fa2 f.env.length fc2] 104) := blk_at _ _ _ rfl
    have kY : (wr.alloc (Obj.cells #[.int .i64 f.unit, .int .i64 f.node, .slice fa1 f.vals.length fc1, .slice fa2 f.env.length fc2] 104)).heap[w.heap.size]? = some (Obj.cells #[.slice y1 y.heap.length d1, .slice y2 y.insts.length d2, .slice y3 y.units.length d3, .slice y4 y.out.length d4] 41) := blk_past k0
    go_wp2_with fail
    refine (HNA.out _ hbA).mono ?_
    rintro e w2 ⟨an, aa, cn, ca, rfl, hb2⟩
    have hbB := bT hbA hb2
    have hbV : Below W0.heap.size W0 w2 := (hbW.alloc hbW.size _).trans (hb2.mono (hbW.alloc hbW.size (Obj.cells #[.int .i64 f.unit, .int .i64 f.node, .slice fa1 f.vals.length fc1, .slice fa2 f.env.length fc2] 104)).size)
    have kA2 := bK kA hb2
    have kY2 := bK kY hb2
    have hbC : Below w.heap.size w (w2.alloc (Obj.cells #[.int .i64 d.k, .int .i64 d.n, .string d.s, .slice an d.names.length cn, .slice aa d.args.length ca] 126)) := hbB.alloc hbB.size _
    have kN : (w2.alloc (Obj.cells #[.int .i64 d.k, .int .i64 d.n, .string d.s, .slice an d.names.length cn, .slice aa d.args.length ca] 126)).heap[w2.heap.size]? = some (Obj.cells #[.int .i64 d.k, .int .i64 d.n, .string d.s, .slice an d.names.length cn, .slice aa d.args.length ca] 126) := blk_at _ _ _ rfl
    have kA3 : (w2.alloc (Obj.cells #[.int .i64 d.k, .int .i64 d.n, .string d.s, .slice an d.names.length cn, .slice aa d.args.length ca] 126)).heap[wr.heap.size]? = some (Obj.cells #[.int .i64 f.unit, .int .i64 f.node, .slice fa1 f.vals.length fc1, .slice fa2 f.env.length fc2] 104) := blk_past kA2
    have kY3 : (w2.alloc (Obj.cells #[.int .i64 d.k, .int .i64 d.n, .string d.s, .slice an d.names.length cn, .slice aa d.args.length ca] 126)).heap[w.heap.size]? = some (Obj.cells #[.slice y1 y.heap.length d1, .slice y2 y.insts.length d2, .slice y3 y.units.length d3, .slice y4 y.out.length d4] 41) := blk_past kY2
    have hwA : wr.heap.size < w2.heap.size := (Array.getElem?_eq_some_iff.1 kA2).1
    have hwY : w.heap.size < w2.heap.size := (Array.getElem?_eq_some_iff.1 kY2).1
    clear kA kY hb2 kA2 kY2 hbA
    obtain ⟨WD, hWD⟩ : ∃ WD : World, WD = { (w2.alloc (Obj.cells #[.int .i64 d.k, .int .i64 d.n, .string d.s, .slice an d.names.length cn, .slice aa d.args.length ca] 126)) with drawn := (w2.alloc (Obj.cells #[.int .i64 d.k, .int .i64 d.n, .string d.s, .slice an d.names.length cn, .slice aa d.args.length ca] 126)).drawn + 1 } := ⟨_, rfl⟩
    have HSD : Hid ((fun X : World => (X.cell? ⟨w.heap.size, 0, none⟩ = some (.slice y1 y.heap.length d1)) ∧ (X.cell? ⟨wr.heap.size, 2, none⟩ = some (.slice fa1 f.vals.length fc1)) ∧ (X.cell? ⟨wr.heap.size, 3, none⟩ = some (.slice fa2 f.env.length fc2)) ∧ (X.cell? ⟨w2.heap.size, 0, none⟩ = some (.int .i64 d.k)) ∧ (X.cell? ⟨w2.heap.size, 1, none⟩ = some (.int .i64 d.n)) ∧ (X.cell? ⟨w2.heap.size, 2, none⟩ = some (.string d.s)) ∧ (X.cell? ⟨w2.heap.size, 3, none⟩ = some (.slice an d.names.length cn)) ∧ (X.cell? ⟨w2.heap.size, 4, none⟩ = some (.slice aa d.args.length ca))) WD) := by rw [hWD]; exact ⟨cell_blk (j := 0) kY3 rfl, cell_blk (j := 2) kA3 rfl, cell_blk (j := 3) kA3 rfl, cell_blk (j := 0) kN rfl, cell_blk (j := 1) kN rfl, cell_blk (j := 2) kN rfl, cell_blk (j := 3) kN rfl, cell_blk (j := 4) kN rfl⟩
    have HBD : Hid (Below w.heap.size w WD) := by rw [hWD]; exact ⟨hbC.os, hbC.tape, hbC.output, hbC.size, hbC.block⟩
    have HWD : Hid (w2.heap.size + 1 ≤ WD.heap.size) := by rw [hWD]; show _ ≤ (w2.alloc _).heap.size; simp
    have HB0 : Hid (Below W0.heap.size W0 WD) := by
     have hq := hbV.alloc hbV.size (Obj.cells #[.int .i64 d.k, .int .i64 d.n, .string d.s, .slice an d.names.length cn, .slice aa d.args.length ca] 126)
     rw [hWD]; exact ⟨hq.os, hq.tape, hq.output, hq.size, hq.block⟩
    have HWE : Hid (WD = { (w2.alloc (Obj.cells #[.int .i64 d.k, .int .i64 d.n, .string d.s, .slice an d.names.length cn, .slice aa d.args.length ca] 126)) with drawn := (w2.alloc (Obj.cells #[.int .i64 d.k, .int .i64 d.n, .string d.s, .slice an d.names.length cn, .slice aa d.args.length ca] 126)).drawn + 1 }) := hWD
    have KS : ∀ u v : World, w2.heap.size + 1 ≤ u.heap.size → (fun X : World => (X.cell? ⟨w.heap.size, 0, none⟩ = some (.slice y1 y.heap.length d1)) ∧ (X.cell? ⟨wr.heap.size, 2, none⟩ = some (.slice fa1 f.vals.length fc1)) ∧ (X.cell? ⟨wr.heap.size, 3, none⟩ = some (.slice fa2 f.env.length fc2)) ∧ (X.cell? ⟨w2.heap.size, 0, none⟩ = some (.int .i64 d.k)) ∧ (X.cell? ⟨w2.heap.size, 1, none⟩ = some (.int .i64 d.n)) ∧ (X.cell? ⟨w2.heap.size, 2, none⟩ = some (.string d.s)) ∧ (X.cell? ⟨w2.heap.size, 3, none⟩ = some (.slice an d.names.length cn)) ∧ (X.cell? ⟨w2.heap.size, 4, none⟩ = some (.slice aa d.args.length ca))) u → Below u.heap.size u v → (fun X : World => (X.cell? ⟨w.heap.size, 0, none⟩ = some (.slice y1 y.heap.length d1)) ∧ (X.cell? ⟨wr.heap.size, 2, none⟩ = some (.slice fa1 f.vals.length fc1)) ∧ (X.cell? ⟨wr.heap.size, 3, none⟩ = some (.slice fa2 f.env.length fc2)) ∧ (X.cell? ⟨w2.heap.size, 0, none⟩ = some (.int .i64 d.k)) ∧ (X.cell? ⟨w2.heap.size, 1, none⟩ = some (.int .i64 d.n)) ∧ (X.cell? ⟨w2.heap.size, 2, none⟩ = some (.string d.s)) ∧ (X.cell? ⟨w2.heap.size, 3, none⟩ = some (.slice an d.names.length cn)) ∧ (X.cell? ⟨w2.heap.size, 4, none⟩ = some (.slice aa d.args.length ca))) v := fun u v hu ⟨h0, h1, h2, h3, h4, h5, h6, h7⟩ hb9 => by
     have q0 : w.heap.size < u.heap.size := by omega
     have q1 : wr.heap.size < u.heap.size := by omega
     have q2 : w2.heap.size < u.heap.size := by omega
     exact ⟨cell_keep h0 hb9 q0, cell_keep h1 hb9 q1, cell_keep h2 hb9 q1, cell_keep h3 hb9 q2, cell_keep h4 hb9 q2, cell_keep h5 hb9 q2, cell_keep h6 hb9 q2, cell_keep h7 hb9 q2⟩
    clear hWD kN kA3 kY3 hbC
    go_wp2_with fail
    by_cases hfu : f.vals.length < fullF d
    ·have gF : f.vals.length < fullF d := hfu
     cases hvv : f.vals.all (Val.ok y.heap)
     ·rw [hvv] at HVV
      have HQ := bad (by rw [hdq.out, hvv]; simp)
      clear good bad hdq hvv hfu
      refine wp_region_held (S := (fun X : World => (X.cell? ⟨w.heap.size, 0, none⟩ = some (.slice y1 y.heap.length d1)) ∧ (X.cell? ⟨wr.heap.size, 2, none⟩ = some (.slice fa1 f.vals.length fc1)) ∧ (X.cell? ⟨wr.heap.size, 3, none⟩ = some (.slice fa2 f.env.length fc2)) ∧ (X.cell? ⟨w2.heap.size, 0, none⟩ = some (.int .i64 d.k)) ∧ (X.cell? ⟨w2.heap.size, 1, none⟩ = some (.int .i64 d.n)) ∧ (X.cell? ⟨w2.heap.size, 2, none⟩ = some (.string d.s)) ∧ (X.cell? ⟨w2.heap.size, 3, none⟩ = some (.slice an d.names.length cn)) ∧ (X.cell? ⟨w2.heap.size, 4, none⟩ = some (.slice aa d.args.length ca)))) (by kernel_rfl) ?_
      rw [← HWE.out]
      have hS : (fun X : World => (X.cell? ⟨w.heap.size, 0, none⟩ = some (.slice y1 y.heap.length d1)) ∧ (X.cell? ⟨wr.heap.size, 2, none⟩ = some (.slice fa1 f.vals.length fc1)) ∧ (X.cell? ⟨wr.heap.size, 3, none⟩ = some (.slice fa2 f.env.length fc2)) ∧ (X.cell? ⟨w2.heap.size, 0, none⟩ = some (.int .i64 d.k)) ∧ (X.cell? ⟨w2.heap.size, 1, none⟩ = some (.int .i64 d.n)) ∧ (X.cell? ⟨w2.heap.size, 2, none⟩ = some (.string d.s)) ∧ (X.cell? ⟨w2.heap.size, 3, none⟩ = some (.slice an d.names.length cn)) ∧ (X.cell? ⟨w2.heap.size, 4, none⟩ = some (.slice aa d.args.length ca))) WD := HSD.out
      refine tK 0 (vT) rfl (by kernel_rfl) (fun _ _ _ h => h) (fun _ => by kernel_rfl) hS ?_
      refine tK 1 (vF) rfl (by kernel_rfl) (fun _ _ _ h => h) (fun _ => by kernel_rfl) hS ?_
      refine tK 2 (vF) rfl (by kernel_rfl) (fun _ _ _ h => h) (fun _ => by kernel_rfl) hS ?_
      refine tK 3 (vP wr.heap.size 2) rfl (by kernel_rfl) (fun _ _ _ h => h) (fun _ => by kernel_rfl) hS ?_
      refine tL 4 (.slice fa1 f.vals.length fc1) rfl (by kernel_rfl) (fun _ _ _ h => h) (fun w' hS' => ldR (p := .pointer (some ⟨wr.heap.size, 2, none⟩)) rfl (by kernel_rfl) (by obtain ⟨c0, f2, f3, n0, n1, n2, n3, n4⟩ := hS'; simp [go_sem, f2])) hS ?_
      refine tK 5 (vI ↑f.vals.length) rfl (by kernel_rfl) (fun _ _ _ h => h) (fun _ => by kernel_rfl) hS ?_
      refine tL 6 (.agg #[.int .i64 d.k, .int .i64 d.n, .string d.s, .slice an d.names.length cn, .slice aa d.args.length ca]) rfl (by kernel_rfl) (fun _ _ _ h => h) (fun w' hS' => ldR (p := .pointer (some ⟨w2.heap.size, 0, none⟩)) rfl (by kernel_rfl) (by obtain ⟨c0, f2, f3, n0, n1, n2, n3, n4⟩ := hS'; simp [go_sem, n0, n1, n2, n3, n4])) hS ?_
      refine eH (bb 26 127) ⟨#[yA y y1 y2 y3 y4 d1 d2 d3 d4,vS b8 o8 l.length ca',vP w.heap.size 0,vU,u4,vU,vP wr.heap.size 0,vP w2.heap.size 0,vT,vS b8 o8 l.length ca',vI ↑l.length,vI ↑i,vT,vP b8 (o8 + i * 4),fA f fa1 fa2 fc1 fc2,Value.tuple #[nA d an aa cn ca,vT],vP w.heap.size 2,.slice y3 y.units.length d3,vP wr.heap.size 0,vI f.unit,vP wr.heap.size 1,vI f.node,Value.tuple #[nA d an aa cn ca,vT],nA d an aa cn ca,vT,vT,vF,vF,vP wr.heap.size 2,.slice fa1 f.vals.length fc1,vI ↑f.vals.length,nA d an aa cn ca,u32,u33,u34,u35,u36,u37,u38,u39,u40,u41,u42,u43,u44,u45,u46,u47,u48,u49,u50,u51], []⟩ (by kernel_rfl) (by kernel_rfl) ?_
      refine wpAnyH_all (rs := [7]) (by kernel_rfl) (by simp) fun jj hjj => ?_
      obtain rfl : jj = 7 := by simpa using hjj
      refine opw_call (f := 87) (args := #[.agg #[.int .i64 d.k, .int .i64 d.n, .string d.s, .slice an d.names.length cn, .slice aa d.args.length ca]]) rfl (by kernel_rfl) (by kernel_rfl) ((HFF.out an aa cn ca _).mono ?_)
      rintro e w5 ⟨rfl, hb5⟩
      have hS := KS WD w5 HWD.out hS hb5
      have hbn5 : Below w.heap.size w w5 := bT HBD.out hb5
      refine ⟨_, rfl, hS, ?_⟩
      refine eH (bb 26 255) ⟨#[yA y y1 y2 y3 y4 d1 d2 d3 d4,vS b8 o8 l.length ca',vP w.heap.size 0,vU,u4,vU,vP wr.heap.size 0,vP w2.heap.size 0,vT,vS b8 o8 l.length ca',vI ↑l.length,vI ↑i,vT,vP b8 (o8 + i * 4),fA f fa1 fa2 fc1 fc2,Value.tuple #[nA d an aa cn ca,vT],vP w.heap.size 2,.slice y3 y.units.length d3,vP wr.heap.size 0,vI f.unit,vP wr.heap.size 1,vI f.node,Value.tuple #[nA d an aa cn ca,vT],nA d an aa cn ca,vT,vT,vF,vF,vP wr.heap.size 2,.slice fa1 f.vals.length fc1,vI ↑f.vals.length,nA d an aa cn ca,vI ↑(fullF d),u33,u34,u35,u36,u37,u38,u39,u40,u41,u42,u43,u44,u45,u46,u47,u48,u49,u50,u51], []⟩ (by kernel_rfl) (by kernel_rfl) ?_
      refine tL 8 (.bool false) rfl (by kernel_rfl) (fun _ _ _ h => h) (fun w' hS' => run_vN (by simp [go_sem, vI]; omega)) hS ?_
      refine tK 9 (vF) rfl (by kernel_rfl) (fun _ _ _ h => h) (fun _ => by kernel_rfl) hS ?_
      refine tK 10 (vF) rfl (by kernel_rfl) (fun _ _ _ h => h) (fun _ => by kernel_rfl) hS ?_
      refine tK 11 (vP w.heap.size 0) rfl (by kernel_rfl) (fun _ _ _ h => h) (fun _ => by kernel_rfl) hS ?_
      refine tL 12 (.slice y1 y.heap.length d1) rfl (by kernel_rfl) (fun _ _ _ h => h) (fun w' hS' => ldR (p := .pointer (some ⟨w.heap.size, 0, none⟩)) rfl (by kernel_rfl) (by obtain ⟨c0, f2, f3, n0, n1, n2, n3, n4⟩ := hS'; simp [go_sem, c0])) hS ?_
      refine tK 13 (vP wr.heap.size 2) rfl (by kernel_rfl) (fun _ _ _ h => h) (fun _ => by kernel_rfl) hS ?_
      refine tL 14 (.slice fa1 f.vals.length fc1) rfl (by kernel_rfl) (fun _ _ _ h => h) (fun w' hS' => ldR (p := .pointer (some ⟨wr.heap.size, 2, none⟩)) rfl (by kernel_rfl) (by obtain ⟨c0, f2, f3, n0, n1, n2, n3, n4⟩ := hS'; simp [go_sem, f2])) hS ?_
      refine eH (bb 26 32767) ⟨#[yA y y1 y2 y3 y4 d1 d2 d3 d4,vS b8 o8 l.length ca',vP w.heap.size 0,vU,u4,vU,vP wr.heap.size 0,vP w2.heap.size 0,vT,vS b8 o8 l.length ca',vI ↑l.length,vI ↑i,vT,vP b8 (o8 + i * 4),fA f fa1 fa2 fc1 fc2,Value.tuple #[nA d an aa cn ca,vT],vP w.heap.size 2,.slice y3 y.units.length d3,vP wr.heap.size 0,vI f.unit,vP wr.heap.size 1,vI f.node,Value.tuple #[nA d an aa cn ca,vT],nA d an aa cn ca,vT,vT,vF,vF,vP wr.heap.size 2,.slice fa1 f.vals.length fc1,vI ↑f.vals.length,nA d an aa cn ca,vI ↑(fullF d),vF,vF,vF,vP w.heap.size 0,.slice y1 y.heap.length d1,vP wr.heap.size 2,.slice fa1 f.vals.length fc1,u40,u41,u42,u43,u44,u45,u46,u47,u48,u49,u50,u51], []⟩ (by kernel_rfl) (by kernel_rfl) ?_
      refine wpAnyH_all (rs := [15]) (by kernel_rfl) (by simp) fun jj hjj => ?_
      obtain rfl : jj = 15 := by simpa using hjj
      refine opw_call (f := 88) (args := #[.slice y1 y.heap.length d1, .slice fa1 f.vals.length fc1]) rfl (by kernel_rfl) (by kernel_rfl) ((HVV.out _ hbn5).mono ?_)
      rintro e w6 ⟨rfl, hb6⟩
      have hS := KS w5 w6 (Nat.le_trans HWD.out hb5.size) hS hb6
      have hbn6 : Below w.heap.size w w6 := bT hbn5 hb6
      refine ⟨_, rfl, hS, ?_⟩
      refine eH (bb 26 65535) ⟨#[yA y y1 y2 y3 y4 d1 d2 d3 d4,vS b8 o8 l.length ca',vP w.heap.size 0,vU,u4,vU,vP wr.heap.size 0,vP w2.heap.size 0,vT,vS b8 o8 l.length ca',vI ↑l.length,vI ↑i,vT,vP b8 (o8 + i * 4),fA f fa1 fa2 fc1 fc2,Value.tuple #[nA d an aa cn ca,vT],vP w.heap.size 2,.slice y3 y.units.length d3,vP wr.heap.size 0,vI f.unit,vP wr.heap.size 1,vI f.node,Value.tuple #[nA d an aa cn ca,vT],nA d an aa cn ca,vT,vT,vF,vF,vP wr.heap.size 2,.slice fa1 f.vals.length fc1,vI ↑f.vals.length,nA d an aa cn ca,vI ↑(fullF d),vF,vF,vF,vP w.heap.size 0,.slice y1 y.heap.length d1,vP wr.heap.size 2,.slice fa1 f.vals.length fc1,vF,u41,u42,u43,u44,u45,u46,u47,u48,u49,u50,u51], []⟩ (by kernel_rfl) (by kernel_rfl) ?_
      refine tK 16 (vT) rfl (by kernel_rfl) (fun _ _ _ h => h) (fun _ => by kernel_rfl) hS ?_
      refine tK 17 (vT) rfl (by kernel_rfl) (fun _ _ _ h => h) (fun _ => by kernel_rfl) hS ?_
      refine tK 18 (vT) rfl (by kernel_rfl) (fun _ _ _ h => h) (fun _ => by kernel_rfl) hS ?_
      refine tU 19 rfl (by kernel_rfl) (fun _ _ _ h => h) hS ?_
      refine tU 20 rfl (by kernel_rfl) (fun _ _ _ h => h) hS ?_
      refine tU 21 rfl (by kernel_rfl) (fun _ _ _ h => h) hS ?_
      refine tU 22 rfl (by kernel_rfl) (fun _ _ _ h => h) hS ?_
      refine tU 23 rfl (by kernel_rfl) (fun _ _ _ h => h) hS ?_
      refine tU 24 rfl (by kernel_rfl) (fun _ _ _ h => h) hS ?_
      refine tK 25 (vT) rfl (by kernel_rfl) (fun _ _ _ h => h) (fun _ => by kernel_rfl) hS ?_
      refine eH (bb 26 67108863) ⟨#[.agg #[.slice y1 y.heap.length d1, .slice y2 y.insts.length d2, .slice y3 y.units.length d3, .slice y4 y.out.length d4], .slice (some ⟨b8, o8, none⟩) l.length ca', .pointer (some ⟨w.heap.size, 0, none⟩), undef, u4, undef, .pointer (some ⟨wr.heap.size, 0, none⟩), .pointer (some ⟨w2.heap.size, 0, none⟩), .bool true, .slice (some ⟨b8, o8, none⟩) l.length ca', .int .i64 ↑l.length, .int .i64 ↑i, .bool true, .pointer (some ⟨b8, o8 + i * 4, none⟩), .agg #[.int .i64 f.unit, .int .i64 f.node, .slice fa1 f.vals.length fc1, .slice fa2 f.env.length fc2], Value.tuple #[.agg #[.int .i64 d.k, .int .i64 d.n, .string d.s, .slice an d.names.length cn, .slice aa d.args.length ca], .bool true], .pointer (some ⟨w.heap.size, 2, none⟩), .slice y3 y.units.length d3, .pointer (some ⟨wr.heap.size, 0, none⟩), .int .i64 f.unit, .pointer (some ⟨wr.heap.size, 1, none⟩), .int .i64 f.node, Value.tuple #[.agg #[.int .i64 d.k, .int .i64 d.n, .string d.s, .slice an d.names.length cn, .slice aa d.args.length ca], .bool true], .agg #[.int .i64 d.k, .int .i64 d.n, .string d.s, .slice an d.names.length cn, .slice aa d.args.length ca], .bool true, .bool true, .bool false, .bool false, .pointer (some ⟨wr.heap.size, 2, none⟩), .slice fa1 f.vals.length fc1, .int .i64 ↑f.vals.length, .agg #[.int .i64 d.k, .int .i64 d.n, .string d.s, .slice an d.names.length cn, .slice aa d.args.length ca], .int .i64 ↑(fullF d), .bool false, .bool false, .bool false, .pointer (some ⟨w.heap.size, 0, none⟩), .slice y1 y.heap.length d1, .pointer (some ⟨wr.heap.size, 2, none⟩), .slice fa1 f.vals.length fc1, .bool false, .bool true, .bool true, .bool true, undef, undef, undef, undef, undef, undef, .bool true, u51], []⟩ (by kernel_rfl) (by kernel_rfl) ?_
      refine wpAnyH_done (by kernel_rfl) ?_ _
      dsimp only []
      go_wp2
      go_ret
      exact ⟨by rw [HQ.out]; rfl, hbn6⟩
     ·rw [hvv] at HVV
      cases hee : envB y.heap f.env
      ·rw [hee] at HBB
       have HQ := bad (by rw [hdq.out, hee]; simp)
       clear good bad hdq hvv hfu hee
       refine wp_region_held (S := (fun X : World => (X.cell? ⟨w.heap.size, 0, none⟩ = some (.slice y1 y.heap.length d1)) ∧ (X.cell? ⟨wr.heap.size, 2, none⟩ = some (.slice fa1 f.vals.length fc1)) ∧ (X.cell? ⟨wr.heap.size, 3, none⟩ = some (.slice fa2 f.env.length fc2)) ∧ (X.cell? ⟨w2.heap.size, 0, none⟩ = some (.int .i64 d.k)) ∧ (X.cell? ⟨w2.heap.size, 1, none⟩ = some (.int .i64 d.n)) ∧ (X.cell? ⟨w2.heap.size, 2, none⟩ = some (.string d.s)) ∧ (X.cell? ⟨w2.heap.size, 3, none⟩ = some (.slice an d.names.length cn)) ∧ (X.cell? ⟨w2.heap.size, 4, none⟩ = some (.slice aa d.args.length ca)))) (by kernel_rfl) ?_
       rw [← HWE.out]
       have hS : (fun X : World => (X.cell? ⟨w.heap.size, 0, none⟩ = some (.slice y1 y.heap.length d1)) ∧ (X.cell? ⟨wr.heap.size, 2, none⟩ = some (.slice fa1 f.vals.length fc1)) ∧ (X.cell? ⟨wr.heap.size, 3, none⟩ = some (.slice fa2 f.env.length fc2)) ∧ (X.cell? ⟨w2.heap.size, 0, none⟩ = some (.int .i64 d.k)) ∧ (X.cell? ⟨w2.heap.size, 1, none⟩ = some (.int .i64 d.n)) ∧ (X.cell? ⟨w2.heap.size, 2, none⟩ = some (.string d.s)) ∧ (X.cell? ⟨w2.heap.size, 3, none⟩ = some (.slice an d.names.length cn)) ∧ (X.cell? ⟨w2.heap.size, 4, none⟩ = some (.slice aa d.args.length ca))) WD := HSD.out
       refine tK 0 (vT) rfl (by kernel_rfl) (fun _ _ _ h => h) (fun _ => by kernel_rfl) hS ?_
       refine tK 1 (vF) rfl (by kernel_rfl) (fun _ _ _ h => h) (fun _ => by kernel_rfl) hS ?_
       refine tK 2 (vF) rfl (by kernel_rfl) (fun _ _ _ h => h) (fun _ => by kernel_rfl) hS ?_
       refine tK 3 (vP wr.heap.size 2) rfl (by kernel_rfl) (fun _ _ _ h => h) (fun _ => by kernel_rfl) hS ?_
       refine tL 4 (.slice fa1 f.vals.length fc1) rfl (by kernel_rfl) (fun _ _ _ h => h) (fun w' hS' => ldR (p := .pointer (some ⟨wr.heap.size, 2, none⟩)) rfl (by kernel_rfl) (by obtain ⟨c0, f2, f3, n0, n1, n2, n3, n4⟩ := hS'; simp [go_sem, f2])) hS ?_
       refine tK 5 (vI ↑f.vals.length) rfl (by kernel_rfl) (fun _ _ _ h => h) (fun _ => by kernel_rfl) hS ?_
       refine tL 6 (.agg #[.int .i64 d.k, .int .i64 d.n, .string d.s, .slice an d.names.length cn, .slice aa d.args.length ca]) rfl (by kernel_rfl) (fun _ _ _ h => h) (fun w' hS' => ldR (p := .pointer (some ⟨w2.heap.size, 0, none⟩)) rfl (by kernel_rfl) (by obtain ⟨c0, f2, f3, n0, n1, n2, n3, n4⟩ := hS'; simp [go_sem, n0, n1, n2, n3, n4])) hS ?_
       refine eH (bb 26 127) ⟨#[yA y y1 y2 y3 y4 d1 d2 d3 d4,vS b8 o8 l.length ca',vP w.heap.size 0,vU,u4,vU,vP wr.heap.size 0,vP w2.heap.size 0,vT,vS b8 o8 l.length ca',vI ↑l.length,vI ↑i,vT,vP b8 (o8 + i * 4),fA f fa1 fa2 fc1 fc2,Value.tuple #[nA d an aa cn ca,vT],vP w.heap.size 2,.slice y3 y.units.length d3,vP wr.heap.size 0,vI f.unit,vP wr.heap.size 1,vI f.node,Value.tuple #[nA d an aa cn ca,vT],nA d an aa cn ca,vT,vT,vF,vF,vP wr.heap.size 2,.slice fa1 f.vals.length fc1,vI ↑f.vals.length,nA d an aa cn ca,u32,u33,u34,u35,u36,u37,u38,u39,u40,u41,u42,u43,u44,u45,u46,u47,u48,u49,u50,u51], []⟩ (by kernel_rfl) (by kernel_rfl) ?_
       refine wpAnyH_all (rs := [7]) (by kernel_rfl) (by simp) fun jj hjj => ?_
       obtain rfl : jj = 7 := by simpa using hjj
       refine opw_call (f := 87) (args := #[.agg #[.int .i64 d.k, .int .i64 d.n, .string d.s, .slice an d.names.length cn, .slice aa d.args.length ca]]) rfl (by kernel_rfl) (by kernel_rfl) ((HFF.out an aa cn ca _).mono ?_)
       rintro e w5 ⟨rfl, hb5⟩
       have hS := KS WD w5 HWD.out hS hb5
       have hbn5 : Below w.heap.size w w5 := bT HBD.out hb5
       refine ⟨_, rfl, hS, ?_⟩
       refine eH (bb 26 255) ⟨#[yA y y1 y2 y3 y4 d1 d2 d3 d4,vS b8 o8 l.length ca',vP w.heap.size 0,vU,u4,vU,vP wr.heap.size 0,vP w2.heap.size 0,vT,vS b8 o8 l.length ca',vI ↑l.length,vI ↑i,vT,vP b8 (o8 + i * 4),fA f fa1 fa2 fc1 fc2,Value.tuple #[nA d an aa cn ca,vT],vP w.heap.size 2,.slice y3 y.units.length d3,vP wr.heap.size 0,vI f.unit,vP wr.heap.size 1,vI f.node,Value.tuple #[nA d an aa cn ca,vT],nA d an aa cn ca,vT,vT,vF,vF,vP wr.heap.size 2,.slice fa1 f.vals.length fc1,vI ↑f.vals.length,nA d an aa cn ca,vI ↑(fullF d),u33,u34,u35,u36,u37,u38,u39,u40,u41,u42,u43,u44,u45,u46,u47,u48,u49,u50,u51], []⟩ (by kernel_rfl) (by kernel_rfl) ?_
       refine tL 8 (.bool false) rfl (by kernel_rfl) (fun _ _ _ h => h) (fun w' hS' => run_vN (by simp [go_sem, vI]; omega)) hS ?_
       refine tK 9 (vF) rfl (by kernel_rfl) (fun _ _ _ h => h) (fun _ => by kernel_rfl) hS ?_
       refine tK 10 (vF) rfl (by kernel_rfl) (fun _ _ _ h => h) (fun _ => by kernel_rfl) hS ?_
       refine tK 11 (vP w.heap.size 0) rfl (by kernel_rfl) (fun _ _ _ h => h) (fun _ => by kernel_rfl) hS ?_
       refine tL 12 (.slice y1 y.heap.length d1) rfl (by kernel_rfl) (fun _ _ _ h => h) (fun w' hS' => ldR (p := .pointer (some ⟨w.heap.size, 0, none⟩)) rfl (by kernel_rfl) (by obtain ⟨c0, f2, f3, n0, n1, n2, n3, n4⟩ := hS'; simp [go_sem, c0])) hS ?_
       refine tK 13 (vP wr.heap.size 2) rfl (by kernel_rfl) (fun _ _ _ h => h) (fun _ => by kernel_rfl) hS ?_
       refine tL 14 (.slice fa1 f.vals.length fc1) rfl (by kernel_rfl) (fun _ _ _ h => h) (fun w' hS' => ldR (p := .pointer (some ⟨wr.heap.size, 2, none⟩)) rfl (by kernel_rfl) (by obtain ⟨c0, f2, f3, n0, n1, n2, n3, n4⟩ := hS'; simp [go_sem, f2])) hS ?_
       refine eH (bb 26 32767) ⟨#[yA y y1 y2 y3 y4 d1 d2 d3 d4,vS b8 o8 l.length ca',vP w.heap.size 0,vU,u4,vU,vP wr.heap.size 0,vP w2.heap.size 0,vT,vS b8 o8 l.length ca',vI ↑l.length,vI ↑i,vT,vP b8 (o8 + i * 4),fA f fa1 fa2 fc1 fc2,Value.tuple #[nA d an aa cn ca,vT],vP w.heap.size 2,.slice y3 y.units.length d3,vP wr.heap.size 0,vI f.unit,vP wr.heap.size 1,vI f.node,Value.tuple #[nA d an aa cn ca,vT],nA d an aa cn ca,vT,vT,vF,vF,vP wr.heap.size 2,.slice fa1 f.vals.length fc1,vI ↑f.vals.length,nA d an aa cn ca,vI ↑(fullF d),vF,vF,vF,vP w.heap.size 0,.slice y1 y.heap.length d1,vP wr.heap.size 2,.slice fa1 f.vals.length fc1,u40,u41,u42,u43,u44,u45,u46,u47,u48,u49,u50,u51], []⟩ (by kernel_rfl) (by kernel_rfl) ?_
       refine wpAnyH_all (rs := [15]) (by kernel_rfl) (by simp) fun jj hjj => ?_
       obtain rfl : jj = 15 := by simpa using hjj
       refine opw_call (f := 88) (args := #[.slice y1 y.heap.length d1, .slice fa1 f.vals.length fc1]) rfl (by kernel_rfl) (by kernel_rfl) ((HVV.out _ hbn5).mono ?_)
       rintro e w6 ⟨rfl, hb6⟩
       have hS := KS w5 w6 (Nat.le_trans HWD.out hb5.size) hS hb6
       have hbn6 : Below w.heap.size w w6 := bT hbn5 hb6
       refine ⟨_, rfl, hS, ?_⟩
       refine eH (bb 26 65535) ⟨#[yA y y1 y2 y3 y4 d1 d2 d3 d4,vS b8 o8 l.length ca',vP w.heap.size 0,vU,u4,vU,vP wr.heap.size 0,vP w2.heap.size 0,vT,vS b8 o8 l.length ca',vI ↑l.length,vI ↑i,vT,vP b8 (o8 + i * 4),fA f fa1 fa2 fc1 fc2,Value.tuple #[nA d an aa cn ca,vT],vP w.heap.size 2,.slice y3 y.units.length d3,vP wr.heap.size 0,vI f.unit,vP wr.heap.size 1,vI f.node,Value.tuple #[nA d an aa cn ca,vT],nA d an aa cn ca,vT,vT,vF,vF,vP wr.heap.size 2,.slice fa1 f.vals.length fc1,vI ↑f.vals.length,nA d an aa cn ca,vI ↑(fullF d),vF,vF,vF,vP w.heap.size 0,.slice y1 y.heap.length d1,vP wr.heap.size 2,.slice fa1 f.vals.length fc1,vT,u41,u42,u43,u44,u45,u46,u47,u48,u49,u50,u51], []⟩ (by kernel_rfl) (by kernel_rfl) ?_
       refine tK 16 (vF) rfl (by kernel_rfl) (fun _ _ _ h => h) (fun _ => by kernel_rfl) hS ?_
       refine tK 17 (vF) rfl (by kernel_rfl) (fun _ _ _ h => h) (fun _ => by kernel_rfl) hS ?_
       refine tK 18 (vF) rfl (by kernel_rfl) (fun _ _ _ h => h) (fun _ => by kernel_rfl) hS ?_
       refine tK 19 (vP w.heap.size 0) rfl (by kernel_rfl) (fun _ _ _ h => h) (fun _ => by kernel_rfl) hS ?_
       refine tL 20 (.slice y1 y.heap.length d1) rfl (by kernel_rfl) (fun _ _ _ h => h) (fun w' hS' => ldR (p := .pointer (some ⟨w.heap.size, 0, none⟩)) rfl (by kernel_rfl) (by obtain ⟨c0, f2, f3, n0, n1, n2, n3, n4⟩ := hS'; simp [go_sem, c0])) hS ?_
       refine tK 21 (vP wr.heap.size 3) rfl (by kernel_rfl) (fun _ _ _ h => h) (fun _ => by kernel_rfl) hS ?_
       refine tL 22 (.slice fa2 f.env.length fc2) rfl (by kernel_rfl) (fun _ _ _ h => h) (fun w' hS' => ldR (p := .pointer (some ⟨wr.heap.size, 3, none⟩)) rfl (by kernel_rfl) (by obtain ⟨c0, f2, f3, n0, n1, n2, n3, n4⟩ := hS'; simp [go_sem, f3])) hS ?_
       refine eH (bb 26 8388607) ⟨#[yA y y1 y2 y3 y4 d1 d2 d3 d4,vS b8 o8 l.length ca',vP w.heap.size 0,vU,u4,vU,vP wr.heap.size 0,vP w2.heap.size 0,vT,vS b8 o8 l.length ca',vI ↑l.length,vI ↑i,vT,vP b8 (o8 + i * 4),fA f fa1 fa2 fc1 fc2,Value.tuple #[nA d an aa cn ca,vT],vP w.heap.size 2,.slice y3 y.units.length d3,vP wr.heap.size 0,vI f.unit,vP wr.heap.size 1,vI f.node,Value.tuple #[nA d an aa cn ca,vT],nA d an aa cn ca,vT,vT,vF,vF,vP wr.heap.size 2,.slice fa1 f.vals.length fc1,vI ↑f.vals.length,nA d an aa cn ca,vI ↑(fullF d),vF,vF,vF,vP w.heap.size 0,.slice y1 y.heap.length d1,vP wr.heap.size 2,.slice fa1 f.vals.length fc1,vT,vF,vF,vF,vP w.heap.size 0,.slice y1 y.heap.length d1,vP wr.heap.size 3,.slice fa2 f.env.length fc2,u48,u49,u50,u51], []⟩ (by kernel_rfl) (by kernel_rfl) ?_
       refine wpAnyH_all (rs := [23]) (by kernel_rfl) (by simp) fun jj hjj => ?_
       obtain rfl : jj = 23 := by simpa using hjj
       refine opw_call (f := 58) (args := #[.slice y1 y.heap.length d1, .slice fa2 f.env.length fc2]) rfl (by kernel_rfl) (by kernel_rfl) ((HBB.out _ hbn6).mono ?_)
       rintro e w7 ⟨rfl, hb7⟩
       have hS := KS w6 w7 (Nat.le_trans (Nat.le_trans HWD.out hb5.size) hb6.size) hS hb7
       have hbn7 : Below w.heap.size w w7 := bT hbn6 hb7
       refine ⟨_, rfl, hS, ?_⟩
       refine eH (bb 26 16777215) ⟨#[yA y y1 y2 y3 y4 d1 d2 d3 d4,vS b8 o8 l.length ca',vP w.heap.size 0,vU,u4,vU,vP wr.heap.size 0,vP w2.heap.size 0,vT,vS b8 o8 l.length ca',vI ↑l.length,vI ↑i,vT,vP b8 (o8 + i * 4),fA f fa1 fa2 fc1 fc2,Value.tuple #[nA d an aa cn ca,vT],vP w.heap.size 2,.slice y3 y.units.length d3,vP wr.heap.size 0,vI f.unit,vP wr.heap.size 1,vI f.node,Value.tuple #[nA d an aa cn ca,vT],nA d an aa cn ca,vT,vT,vF,vF,vP wr.heap.size 2,.slice fa1 f.vals.length fc1,vI ↑f.vals.length,nA d an aa cn ca,vI ↑(fullF d),vF,vF,vF,vP w.heap.size 0,.slice y1 y.heap.length d1,vP wr.heap.size 2,.slice fa1 f.vals.length fc1,vT,vF,vF,vF,vP w.heap.size 0,.slice y1 y.heap.length d1,vP wr.heap.size 3,.slice fa2 f.env.length fc2,vF,u49,u50,u51], []⟩ (by kernel_rfl) (by kernel_rfl) ?_
       refine tK 24 (vT) rfl (by kernel_rfl) (fun _ _ _ h => h) (fun _ => by kernel_rfl) hS ?_
       refine tK 25 (vT) rfl (by kernel_rfl) (fun _ _ _ h => h) (fun _ => by kernel_rfl) hS ?_
       refine eH (bb 26 67108863) ⟨#[.agg #[.slice y1 y.heap.length d1, .slice y2 y.insts.length d2, .slice y3 y.units.length d3, .slice y4 y.out.length d4], .slice (some ⟨b8, o8, none⟩) l.length ca', .pointer (some ⟨w.heap.size, 0, none⟩), undef, u4, undef, .pointer (some ⟨wr.heap.size, 0, none⟩), .pointer (some ⟨w2.heap.size, 0, none⟩), .bool true, .slice (some ⟨b8, o8, none⟩) l.length ca', .int .i64 ↑l.length, .int .i64 ↑i, .bool true, .pointer (some ⟨b8, o8 + i * 4, none⟩), .agg #[.int .i64 f.unit, .int .i64 f.node, .slice fa1 f.vals.length fc1, .slice fa2 f.env.length fc2], Value.tuple #[.agg #[.int .i64 d.k, .int .i64 d.n, .string d.s, .slice an d.names.length cn, .slice aa d.args.length ca], .bool true], .pointer (some ⟨w.heap.size, 2, none⟩), .slice y3 y.units.length d3, .pointer (some ⟨wr.heap.size, 0, none⟩), .int .i64 f.unit, .pointer (some ⟨wr.heap.size, 1, none⟩), .int .i64 f.node, Value.tuple #[.agg #[.int .i64 d.k, .int .i64 d.n, .string d.s, .slice an d.names.length cn, .slice aa d.args.length ca], .bool true], .agg #[.int .i64 d.k, .int .i64 d.n, .string d.s, .slice an d.names.length cn, .slice aa d.args.length ca], .bool true, .bool true, .bool false, .bool false, .pointer (some ⟨wr.heap.size, 2, none⟩), .slice fa1 f.vals.length fc1, .int .i64 ↑f.vals.length, .agg #[.int .i64 d.k, .int .i64 d.n, .string d.s, .slice an d.names.length cn, .slice aa d.args.length ca], .int .i64 ↑(fullF d), .bool false, .bool false, .bool false, .pointer (some ⟨w.heap.size, 0, none⟩), .slice y1 y.heap.length d1, .pointer (some ⟨wr.heap.size, 2, none⟩), .slice fa1 f.vals.length fc1, .bool true, .bool false, .bool false, .bool false, .pointer (some ⟨w.heap.size, 0, none⟩), .slice y1 y.heap.length d1, .pointer (some ⟨wr.heap.size, 3, none⟩), .slice fa2 f.env.length fc2, .bool false, .bool true, .bool true, u51], []⟩ (by kernel_rfl) (by kernel_rfl) ?_
       refine wpAnyH_done (by kernel_rfl) ?_ _
       dsimp only []
       go_wp2
       go_ret
       exact ⟨by rw [HQ.out]; rfl, hbn7⟩
      ·rw [hee] at HBB
       have HQ := good (by rw [hdq.out, hee, hvv, decide_eq_true hfu]; rfl)
       clear good bad hdq hvv hfu hee
       refine wp_region_held (S := (fun X : World => (X.cell? ⟨w.heap.size, 0, none⟩ = some (.slice y1 y.heap.length d1)) ∧ (X.cell? ⟨wr.heap.size, 2, none⟩ = some (.slice fa1 f.vals.length fc1)) ∧ (X.cell? ⟨wr.heap.size, 3, none⟩ = some (.slice fa2 f.env.length fc2)) ∧ (X.cell? ⟨w2.heap.size, 0, none⟩ = some (.int .i64 d.k)) ∧ (X.cell? ⟨w2.heap.size, 1, none⟩ = some (.int .i64 d.n)) ∧ (X.cell? ⟨w2.heap.size, 2, none⟩ = some (.string d.s)) ∧ (X.cell? ⟨w2.heap.size, 3, none⟩ = some (.slice an d.names.length cn)) ∧ (X.cell? ⟨w2.heap.size, 4, none⟩ = some (.slice aa d.args.length ca)))) (by kernel_rfl) ?_
       rw [← HWE.out]
       have hS : (fun X : World => (X.cell? ⟨w.heap.size, 0, none⟩ = some (.slice y1 y.heap.length d1)) ∧ (X.cell? ⟨wr.heap.size, 2, none⟩ = some (.slice fa1 f.vals.length fc1)) ∧ (X.cell? ⟨wr.heap.size, 3, none⟩ = some (.slice fa2 f.env.length fc2)) ∧ (X.cell? ⟨w2.heap.size, 0, none⟩ = some (.int .i64 d.k)) ∧ (X.cell? ⟨w2.heap.size, 1, none⟩ = some (.int .i64 d.n)) ∧ (X.cell? ⟨w2.heap.size, 2, none⟩ = some (.string d.s)) ∧ (X.cell? ⟨w2.heap.size, 3, none⟩ = some (.slice an d.names.length cn)) ∧ (X.cell? ⟨w2.heap.size, 4, none⟩ = some (.slice aa d.args.length ca))) WD := HSD.out
       refine tK 0 (vT) rfl (by kernel_rfl) (fun _ _ _ h => h) (fun _ => by kernel_rfl) hS ?_
       refine tK 1 (vF) rfl (by kernel_rfl) (fun _ _ _ h => h) (fun _ => by kernel_rfl) hS ?_
       refine tK 2 (vF) rfl (by kernel_rfl) (fun _ _ _ h => h) (fun _ => by kernel_rfl) hS ?_
       refine tK 3 (vP wr.heap.size 2) rfl (by kernel_rfl) (fun _ _ _ h => h) (fun _ => by kernel_rfl) hS ?_
       refine tL 4 (.slice fa1 f.vals.length fc1) rfl (by kernel_rfl) (fun _ _ _ h => h) (fun w' hS' => ldR (p := .pointer (some ⟨wr.heap.size, 2, none⟩)) rfl (by kernel_rfl) (by obtain ⟨c0, f2, f3, n0, n1, n2, n3, n4⟩ := hS'; simp [go_sem, f2])) hS ?_
       refine tK 5 (vI ↑f.vals.length) rfl (by kernel_rfl) (fun _ _ _ h => h) (fun _ => by kernel_rfl) hS ?_
       refine tL 6 (.agg #[.int .i64 d.k, .int .i64 d.n, .string d.s, .slice an d.names.length cn, .slice aa d.args.length ca]) rfl (by kernel_rfl) (fun _ _ _ h => h) (fun w' hS' => ldR (p := .pointer (some ⟨w2.heap.size, 0, none⟩)) rfl (by kernel_rfl) (by obtain ⟨c0, f2, f3, n0, n1, n2, n3, n4⟩ := hS'; simp [go_sem, n0, n1, n2, n3, n4])) hS ?_
       refine eH (bb 26 127) ⟨#[yA y y1 y2 y3 y4 d1 d2 d3 d4,vS b8 o8 l.length ca',vP w.heap.size 0,vU,u4,vU,vP wr.heap.size 0,vP w2.heap.size 0,vT,vS b8 o8 l.length ca',vI ↑l.length,vI ↑i,vT,vP b8 (o8 + i * 4),fA f fa1 fa2 fc1 fc2,Value.tuple #[nA d an aa cn ca,vT],vP w.heap.size 2,.slice y3 y.units.length d3,vP wr.heap.size 0,vI f.unit,vP wr.heap.size 1,vI f.node,Value.tuple #[nA d an aa cn ca,vT],nA d an aa cn ca,vT,vT,vF,vF,vP wr.heap.size 2,.slice fa1 f.vals.length fc1,vI ↑f.vals.length,nA d an aa cn ca,u32,u33,u34,u35,u36,u37,u38,u39,u40,u41,u42,u43,u44,u45,u46,u47,u48,u49,u50,u51], []⟩ (by kernel_rfl) (by kernel_rfl) ?_
       refine wpAnyH_all (rs := [7]) (by kernel_rfl) (by simp) fun jj hjj => ?_
       obtain rfl : jj = 7 := by simpa using hjj
       refine opw_call (f := 87) (args := #[.agg #[.int .i64 d.k, .int .i64 d.n, .string d.s, .slice an d.names.length cn, .slice aa d.args.length ca]]) rfl (by kernel_rfl) (by kernel_rfl) ((HFF.out an aa cn ca _).mono ?_)
       rintro e w5 ⟨rfl, hb5⟩
       have hS := KS WD w5 HWD.out hS hb5
       have hbn5 : Below w.heap.size w w5 := bT HBD.out hb5
       refine ⟨_, rfl, hS, ?_⟩
       refine eH (bb 26 255) ⟨#[yA y y1 y2 y3 y4 d1 d2 d3 d4,vS b8 o8 l.length ca',vP w.heap.size 0,vU,u4,vU,vP wr.heap.size 0,vP w2.heap.size 0,vT,vS b8 o8 l.length ca',vI ↑l.length,vI ↑i,vT,vP b8 (o8 + i * 4),fA f fa1 fa2 fc1 fc2,Value.tuple #[nA d an aa cn ca,vT],vP w.heap.size 2,.slice y3 y.units.length d3,vP wr.heap.size 0,vI f.unit,vP wr.heap.size 1,vI f.node,Value.tuple #[nA d an aa cn ca,vT],nA d an aa cn ca,vT,vT,vF,vF,vP wr.heap.size 2,.slice fa1 f.vals.length fc1,vI ↑f.vals.length,nA d an aa cn ca,vI ↑(fullF d),u33,u34,u35,u36,u37,u38,u39,u40,u41,u42,u43,u44,u45,u46,u47,u48,u49,u50,u51], []⟩ (by kernel_rfl) (by kernel_rfl) ?_
       refine tL 8 (.bool false) rfl (by kernel_rfl) (fun _ _ _ h => h) (fun w' hS' => run_vN (by simp [go_sem, vI]; omega)) hS ?_
       refine tK 9 (vF) rfl (by kernel_rfl) (fun _ _ _ h => h) (fun _ => by kernel_rfl) hS ?_
       refine tK 10 (vF) rfl (by kernel_rfl) (fun _ _ _ h => h) (fun _ => by kernel_rfl) hS ?_
       refine tK 11 (vP w.heap.size 0) rfl (by kernel_rfl) (fun _ _ _ h => h) (fun _ => by kernel_rfl) hS ?_
       refine tL 12 (.slice y1 y.heap.length d1) rfl (by kernel_rfl) (fun _ _ _ h => h) (fun w' hS' => ldR (p := .pointer (some ⟨w.heap.size, 0, none⟩)) rfl (by kernel_rfl) (by obtain ⟨c0, f2, f3, n0, n1, n2, n3, n4⟩ := hS'; simp [go_sem, c0])) hS ?_
       refine tK 13 (vP wr.heap.size 2) rfl (by kernel_rfl) (fun _ _ _ h => h) (fun _ => by kernel_rfl) hS ?_
       refine tL 14 (.slice fa1 f.vals.length fc1) rfl (by kernel_rfl) (fun _ _ _ h => h) (fun w' hS' => ldR (p := .pointer (some ⟨wr.heap.size, 2, none⟩)) rfl (by kernel_rfl) (by obtain ⟨c0, f2, f3, n0, n1, n2, n3, n4⟩ := hS'; simp [go_sem, f2])) hS ?_
       refine eH (bb 26 32767) ⟨#[yA y y1 y2 y3 y4 d1 d2 d3 d4,vS b8 o8 l.length ca',vP w.heap.size 0,vU,u4,vU,vP wr.heap.size 0,vP w2.heap.size 0,vT,vS b8 o8 l.length ca',vI ↑l.length,vI ↑i,vT,vP b8 (o8 + i * 4),fA f fa1 fa2 fc1 fc2,Value.tuple #[nA d an aa cn ca,vT],vP w.heap.size 2,.slice y3 y.units.length d3,vP wr.heap.size 0,vI f.unit,vP wr.heap.size 1,vI f.node,Value.tuple #[nA d an aa cn ca,vT],nA d an aa cn ca,vT,vT,vF,vF,vP wr.heap.size 2,.slice fa1 f.vals.length fc1,vI ↑f.vals.length,nA d an aa cn ca,vI ↑(fullF d),vF,vF,vF,vP w.heap.size 0,.slice y1 y.heap.length d1,vP wr.heap.size 2,.slice fa1 f.vals.length fc1,u40,u41,u42,u43,u44,u45,u46,u47,u48,u49,u50,u51], []⟩ (by kernel_rfl) (by kernel_rfl) ?_
       refine wpAnyH_all (rs := [15]) (by kernel_rfl) (by simp) fun jj hjj => ?_
       obtain rfl : jj = 15 := by simpa using hjj
       refine opw_call (f := 88) (args := #[.slice y1 y.heap.length d1, .slice fa1 f.vals.length fc1]) rfl (by kernel_rfl) (by kernel_rfl) ((HVV.out _ hbn5).mono ?_)
       rintro e w6 ⟨rfl, hb6⟩
       have hS := KS w5 w6 (Nat.le_trans HWD.out hb5.size) hS hb6
       have hbn6 : Below w.heap.size w w6 := bT hbn5 hb6
       refine ⟨_, rfl, hS, ?_⟩
       refine eH (bb 26 65535) ⟨#[yA y y1 y2 y3 y4 d1 d2 d3 d4,vS b8 o8 l.length ca',vP w.heap.size 0,vU,u4,vU,vP wr.heap.size 0,vP w2.heap.size 0,vT,vS b8 o8 l.length ca',vI ↑l.length,vI ↑i,vT,vP b8 (o8 + i * 4),fA f fa1 fa2 fc1 fc2,Value.tuple #[nA d an aa cn ca,vT],vP w.heap.size 2,.slice y3 y.units.length d3,vP wr.heap.size 0,vI f.unit,vP wr.heap.size 1,vI f.node,Value.tuple #[nA d an aa cn ca,vT],nA d an aa cn ca,vT,vT,vF,vF,vP wr.heap.size 2,.slice fa1 f.vals.length fc1,vI ↑f.vals.length,nA d an aa cn ca,vI ↑(fullF d),vF,vF,vF,vP w.heap.size 0,.slice y1 y.heap.length d1,vP wr.heap.size 2,.slice fa1 f.vals.length fc1,vT,u41,u42,u43,u44,u45,u46,u47,u48,u49,u50,u51], []⟩ (by kernel_rfl) (by kernel_rfl) ?_
       refine tK 16 (vF) rfl (by kernel_rfl) (fun _ _ _ h => h) (fun _ => by kernel_rfl) hS ?_
       refine tK 17 (vF) rfl (by kernel_rfl) (fun _ _ _ h => h) (fun _ => by kernel_rfl) hS ?_
       refine tK 18 (vF) rfl (by kernel_rfl) (fun _ _ _ h => h) (fun _ => by kernel_rfl) hS ?_
       refine tK 19 (vP w.heap.size 0) rfl (by kernel_rfl) (fun _ _ _ h => h) (fun _ => by kernel_rfl) hS ?_
       refine tL 20 (.slice y1 y.heap.length d1) rfl (by kernel_rfl) (fun _ _ _ h => h) (fun w' hS' => ldR (p := .pointer (some ⟨w.heap.size, 0, none⟩)) rfl (by kernel_rfl) (by obtain ⟨c0, f2, f3, n0, n1, n2, n3, n4⟩ := hS'; simp [go_sem, c0])) hS ?_
       refine tK 21 (vP wr.heap.size 3) rfl (by kernel_rfl) (fun _ _ _ h => h) (fun _ => by kernel_rfl) hS ?_
       refine tL 22 (.slice fa2 f.env.length fc2) rfl (by kernel_rfl) (fun _ _ _ h => h) (fun w' hS' => ldR (p := .pointer (some ⟨wr.heap.size, 3, none⟩)) rfl (by kernel_rfl) (by obtain ⟨c0, f2, f3, n0, n1, n2, n3, n4⟩ := hS'; simp [go_sem, f3])) hS ?_
       refine eH (bb 26 8388607) ⟨#[yA y y1 y2 y3 y4 d1 d2 d3 d4,vS b8 o8 l.length ca',vP w.heap.size 0,vU,u4,vU,vP wr.heap.size 0,vP w2.heap.size 0,vT,vS b8 o8 l.length ca',vI ↑l.length,vI ↑i,vT,vP b8 (o8 + i * 4),fA f fa1 fa2 fc1 fc2,Value.tuple #[nA d an aa cn ca,vT],vP w.heap.size 2,.slice y3 y.units.length d3,vP wr.heap.size 0,vI f.unit,vP wr.heap.size 1,vI f.node,Value.tuple #[nA d an aa cn ca,vT],nA d an aa cn ca,vT,vT,vF,vF,vP wr.heap.size 2,.slice fa1 f.vals.length fc1,vI ↑f.vals.length,nA d an aa cn ca,vI ↑(fullF d),vF,vF,vF,vP w.heap.size 0,.slice y1 y.heap.length d1,vP wr.heap.size 2,.slice fa1 f.vals.length fc1,vT,vF,vF,vF,vP w.heap.size 0,.slice y1 y.heap.length d1,vP wr.heap.size 3,.slice fa2 f.env.length fc2,u48,u49,u50,u51], []⟩ (by kernel_rfl) (by kernel_rfl) ?_
       refine wpAnyH_all (rs := [23]) (by kernel_rfl) (by simp) fun jj hjj => ?_
       obtain rfl : jj = 23 := by simpa using hjj
       refine opw_call (f := 58) (args := #[.slice y1 y.heap.length d1, .slice fa2 f.env.length fc2]) rfl (by kernel_rfl) (by kernel_rfl) ((HBB.out _ hbn6).mono ?_)
       rintro e w7 ⟨rfl, hb7⟩
       have hS := KS w6 w7 (Nat.le_trans (Nat.le_trans HWD.out hb5.size) hb6.size) hS hb7
       have hbn7 : Below w.heap.size w w7 := bT hbn6 hb7
       refine ⟨_, rfl, hS, ?_⟩
       refine eH (bb 26 16777215) ⟨#[yA y y1 y2 y3 y4 d1 d2 d3 d4,vS b8 o8 l.length ca',vP w.heap.size 0,vU,u4,vU,vP wr.heap.size 0,vP w2.heap.size 0,vT,vS b8 o8 l.length ca',vI ↑l.length,vI ↑i,vT,vP b8 (o8 + i * 4),fA f fa1 fa2 fc1 fc2,Value.tuple #[nA d an aa cn ca,vT],vP w.heap.size 2,.slice y3 y.units.length d3,vP wr.heap.size 0,vI f.unit,vP wr.heap.size 1,vI f.node,Value.tuple #[nA d an aa cn ca,vT],nA d an aa cn ca,vT,vT,vF,vF,vP wr.heap.size 2,.slice fa1 f.vals.length fc1,vI ↑f.vals.length,nA d an aa cn ca,vI ↑(fullF d),vF,vF,vF,vP w.heap.size 0,.slice y1 y.heap.length d1,vP wr.heap.size 2,.slice fa1 f.vals.length fc1,vT,vF,vF,vF,vP w.heap.size 0,.slice y1 y.heap.length d1,vP wr.heap.size 3,.slice fa2 f.env.length fc2,vT,u49,u50,u51], []⟩ (by kernel_rfl) (by kernel_rfl) ?_
       refine tK 24 (vF) rfl (by kernel_rfl) (fun _ _ _ h => h) (fun _ => by kernel_rfl) hS ?_
       refine tK 25 (vF) rfl (by kernel_rfl) (fun _ _ _ h => h) (fun _ => by kernel_rfl) hS ?_
       refine eH (bb 26 67108863) ⟨#[.agg #[.slice y1 y.heap.length d1, .slice y2 y.insts.length d2, .slice y3 y.units.length d3, .slice y4 y.out.length d4], .slice (some ⟨b8, o8, none⟩) l.length ca', .pointer (some ⟨w.heap.size, 0, none⟩), undef, u4, undef, .pointer (some ⟨wr.heap.size, 0, none⟩), .pointer (some ⟨w2.heap.size, 0, none⟩), .bool true, .slice (some ⟨b8, o8, none⟩) l.length ca', .int .i64 ↑l.length, .int .i64 ↑i, .bool true, .pointer (some ⟨b8, o8 + i * 4, none⟩), .agg #[.int .i64 f.unit, .int .i64 f.node, .slice fa1 f.vals.length fc1, .slice fa2 f.env.length fc2], Value.tuple #[.agg #[.int .i64 d.k, .int .i64 d.n, .string d.s, .slice an d.names.length cn, .slice aa d.args.length ca], .bool true], .pointer (some ⟨w.heap.size, 2, none⟩), .slice y3 y.units.length d3, .pointer (some ⟨wr.heap.size, 0, none⟩), .int .i64 f.unit, .pointer (some ⟨wr.heap.size, 1, none⟩), .int .i64 f.node, Value.tuple #[.agg #[.int .i64 d.k, .int .i64 d.n, .string d.s, .slice an d.names.length cn, .slice aa d.args.length ca], .bool true], .agg #[.int .i64 d.k, .int .i64 d.n, .string d.s, .slice an d.names.length cn, .slice aa d.args.length ca], .bool true, .bool true, .bool false, .bool false, .pointer (some ⟨wr.heap.size, 2, none⟩), .slice fa1 f.vals.length fc1, .int .i64 ↑f.vals.length, .agg #[.int .i64 d.k, .int .i64 d.n, .string d.s, .slice an d.names.length cn, .slice aa d.args.length ca], .int .i64 ↑(fullF d), .bool false, .bool false, .bool false, .pointer (some ⟨w.heap.size, 0, none⟩), .slice y1 y.heap.length d1, .pointer (some ⟨wr.heap.size, 2, none⟩), .slice fa1 f.vals.length fc1, .bool true, .bool false, .bool false, .bool false, .pointer (some ⟨w.heap.size, 0, none⟩), .slice y1 y.heap.length d1, .pointer (some ⟨wr.heap.size, 3, none⟩), .slice fa2 f.env.length fc2, .bool true, .bool false, .bool false, u51], []⟩ (by kernel_rfl) (by kernel_rfl) ?_
       refine wpAnyH_done (by kernel_rfl) ?_ _
       dsimp only []
       go_wp2
       go_roundw
       case rel => exact ⟨i + 1, by omega, by go_num, HQ.out, HB0.out.trans ((hb5.mono HB0.out.size).trans ((hb6.mono (Nat.le_trans HB0.out.size hb5.size)).trans (hb7.mono (Nat.le_trans (Nat.le_trans HB0.out.size hb5.size) hb6.size))))⟩
       case measure => simp [intOf]; omega
    ·have gF : fullF d ≤ f.vals.length := by omega
     have HQ := bad (by rw [hdq.out, decide_eq_false hfu]; simp)
     clear good bad hdq hfu
     refine wp_region_held (S := (fun X : World => (X.cell? ⟨w.heap.size, 0, none⟩ = some (.slice y1 y.heap.length d1)) ∧ (X.cell? ⟨wr.heap.size, 2, none⟩ = some (.slice fa1 f.vals.length fc1)) ∧ (X.cell? ⟨wr.heap.size, 3, none⟩ = some (.slice fa2 f.env.length fc2)) ∧ (X.cell? ⟨w2.heap.size, 0, none⟩ = some (.int .i64 d.k)) ∧ (X.cell? ⟨w2.heap.size, 1, none⟩ = some (.int .i64 d.n)) ∧ (X.cell? ⟨w2.heap.size, 2, none⟩ = some (.string d.s)) ∧ (X.cell? ⟨w2.heap.size, 3, none⟩ = some (.slice an d.names.length cn)) ∧ (X.cell? ⟨w2.heap.size, 4, none⟩ = some (.slice aa d.args.length ca)))) (by kernel_rfl) ?_
     rw [← HWE.out]
     have hS : (fun X : World => (X.cell? ⟨w.heap.size, 0, none⟩ = some (.slice y1 y.heap.length d1)) ∧ (X.cell? ⟨wr.heap.size, 2, none⟩ = some (.slice fa1 f.vals.length fc1)) ∧ (X.cell? ⟨wr.heap.size, 3, none⟩ = some (.slice fa2 f.env.length fc2)) ∧ (X.cell? ⟨w2.heap.size, 0, none⟩ = some (.int .i64 d.k)) ∧ (X.cell? ⟨w2.heap.size, 1, none⟩ = some (.int .i64 d.n)) ∧ (X.cell? ⟨w2.heap.size, 2, none⟩ = some (.string d.s)) ∧ (X.cell? ⟨w2.heap.size, 3, none⟩ = some (.slice an d.names.length cn)) ∧ (X.cell? ⟨w2.heap.size, 4, none⟩ = some (.slice aa d.args.length ca))) WD := HSD.out
     refine tK 0 (vT) rfl (by kernel_rfl) (fun _ _ _ h => h) (fun _ => by kernel_rfl) hS ?_
     refine tK 1 (vF) rfl (by kernel_rfl) (fun _ _ _ h => h) (fun _ => by kernel_rfl) hS ?_
     refine tK 2 (vF) rfl (by kernel_rfl) (fun _ _ _ h => h) (fun _ => by kernel_rfl) hS ?_
     refine tK 3 (vP wr.heap.size 2) rfl (by kernel_rfl) (fun _ _ _ h => h) (fun _ => by kernel_rfl) hS ?_
     refine tL 4 (.slice fa1 f.vals.length fc1) rfl (by kernel_rfl) (fun _ _ _ h => h) (fun w' hS' => ldR (p := .pointer (some ⟨wr.heap.size, 2, none⟩)) rfl (by kernel_rfl) (by obtain ⟨c0, f2, f3, n0, n1, n2, n3, n4⟩ := hS'; simp [go_sem, f2])) hS ?_
     refine tK 5 (vI ↑f.vals.length) rfl (by kernel_rfl) (fun _ _ _ h => h) (fun _ => by kernel_rfl) hS ?_
     refine tL 6 (.agg #[.int .i64 d.k, .int .i64 d.n, .string d.s, .slice an d.names.length cn, .slice aa d.args.length ca]) rfl (by kernel_rfl) (fun _ _ _ h => h) (fun w' hS' => ldR (p := .pointer (some ⟨w2.heap.size, 0, none⟩)) rfl (by kernel_rfl) (by obtain ⟨c0, f2, f3, n0, n1, n2, n3, n4⟩ := hS'; simp [go_sem, n0, n1, n2, n3, n4])) hS ?_
     refine eH (bb 26 127) ⟨#[yA y y1 y2 y3 y4 d1 d2 d3 d4,vS b8 o8 l.length ca',vP w.heap.size 0,vU,u4,vU,vP wr.heap.size 0,vP w2.heap.size 0,vT,vS b8 o8 l.length ca',vI ↑l.length,vI ↑i,vT,vP b8 (o8 + i * 4),fA f fa1 fa2 fc1 fc2,Value.tuple #[nA d an aa cn ca,vT],vP w.heap.size 2,.slice y3 y.units.length d3,vP wr.heap.size 0,vI f.unit,vP wr.heap.size 1,vI f.node,Value.tuple #[nA d an aa cn ca,vT],nA d an aa cn ca,vT,vT,vF,vF,vP wr.heap.size 2,.slice fa1 f.vals.length fc1,vI ↑f.vals.length,nA d an aa cn ca,u32,u33,u34,u35,u36,u37,u38,u39,u40,u41,u42,u43,u44,u45,u46,u47,u48,u49,u50,u51], []⟩ (by kernel_rfl) (by kernel_rfl) ?_
     refine wpAnyH_all (rs := [7]) (by kernel_rfl) (by simp) fun jj hjj => ?_
     obtain rfl : jj = 7 := by simpa using hjj
     refine opw_call (f := 87) (args := #[.agg #[.int .i64 d.k, .int .i64 d.n, .string d.s, .slice an d.names.length cn, .slice aa d.args.length ca]]) rfl (by kernel_rfl) (by kernel_rfl) ((HFF.out an aa cn ca _).mono ?_)
     rintro e w5 ⟨rfl, hb5⟩
     have hS := KS WD w5 HWD.out hS hb5
     have hbn5 : Below w.heap.size w w5 := bT HBD.out hb5
     refine ⟨_, rfl, hS, ?_⟩
     refine eH (bb 26 255) ⟨#[yA y y1 y2 y3 y4 d1 d2 d3 d4,vS b8 o8 l.length ca',vP w.heap.size 0,vU,u4,vU,vP wr.heap.size 0,vP w2.heap.size 0,vT,vS b8 o8 l.length ca',vI ↑l.length,vI ↑i,vT,vP b8 (o8 + i * 4),fA f fa1 fa2 fc1 fc2,Value.tuple #[nA d an aa cn ca,vT],vP w.heap.size 2,.slice y3 y.units.length d3,vP wr.heap.size 0,vI f.unit,vP wr.heap.size 1,vI f.node,Value.tuple #[nA d an aa cn ca,vT],nA d an aa cn ca,vT,vT,vF,vF,vP wr.heap.size 2,.slice fa1 f.vals.length fc1,vI ↑f.vals.length,nA d an aa cn ca,vI ↑(fullF d),u33,u34,u35,u36,u37,u38,u39,u40,u41,u42,u43,u44,u45,u46,u47,u48,u49,u50,u51], []⟩ (by kernel_rfl) (by kernel_rfl) ?_
     refine tL 8 (.bool true) rfl (by kernel_rfl) (fun _ _ _ h => h) (fun w' hS' => run_vN (by simp [go_sem, vI]; omega)) hS ?_
     refine tK 9 (vT) rfl (by kernel_rfl) (fun _ _ _ h => h) (fun _ => by kernel_rfl) hS ?_
     refine tK 10 (vT) rfl (by kernel_rfl) (fun _ _ _ h => h) (fun _ => by kernel_rfl) hS ?_
     refine tU 11 rfl (by kernel_rfl) (fun _ _ _ h => h) hS ?_
     refine tU 12 rfl (by kernel_rfl) (fun _ _ _ h => h) hS ?_
     refine tU 13 rfl (by kernel_rfl) (fun _ _ _ h => h) hS ?_
     refine tU 14 rfl (by kernel_rfl) (fun _ _ _ h => h) hS ?_
     refine tU 15 rfl (by kernel_rfl) (fun _ _ _ h => h) hS ?_
     refine tU 16 rfl (by kernel_rfl) (fun _ _ _ h => h) hS ?_
     refine tK 17 (vT) rfl (by kernel_rfl) (fun _ _ _ h => h) (fun _ => by kernel_rfl) hS ?_
     refine tK 18 (vT) rfl (by kernel_rfl) (fun _ _ _ h => h) (fun _ => by kernel_rfl) hS ?_
     refine tU 19 rfl (by kernel_rfl) (fun _ _ _ h => h) hS ?_
     refine tU 20 rfl (by kernel_rfl) (fun _ _ _ h => h) hS ?_
     refine tU 21 rfl (by kernel_rfl) (fun _ _ _ h => h) hS ?_
     refine tU 22 rfl (by kernel_rfl) (fun _ _ _ h => h) hS ?_
     refine tU 23 rfl (by kernel_rfl) (fun _ _ _ h => h) hS ?_
     refine tU 24 rfl (by kernel_rfl) (fun _ _ _ h => h) hS ?_
     refine tK 25 (vT) rfl (by kernel_rfl) (fun _ _ _ h => h) (fun _ => by kernel_rfl) hS ?_
     refine eH (bb 26 67108863) ⟨#[.agg #[.slice y1 y.heap.length d1, .slice y2 y.insts.length d2, .slice y3 y.units.length d3, .slice y4 y.out.length d4], .slice (some ⟨b8, o8, none⟩) l.length ca', .pointer (some ⟨w.heap.size, 0, none⟩), undef, u4, undef, .pointer (some ⟨wr.heap.size, 0, none⟩), .pointer (some ⟨w2.heap.size, 0, none⟩), .bool true, .slice (some ⟨b8, o8, none⟩) l.length ca', .int .i64 ↑l.length, .int .i64 ↑i, .bool true, .pointer (some ⟨b8, o8 + i * 4, none⟩), .agg #[.int .i64 f.unit, .int .i64 f.node, .slice fa1 f.vals.length fc1, .slice fa2 f.env.length fc2], Value.tuple #[.agg #[.int .i64 d.k, .int .i64 d.n, .string d.s, .slice an d.names.length cn, .slice aa d.args.length ca], .bool true], .pointer (some ⟨w.heap.size, 2, none⟩), .slice y3 y.units.length d3, .pointer (some ⟨wr.heap.size, 0, none⟩), .int .i64 f.unit, .pointer (some ⟨wr.heap.size, 1, none⟩), .int .i64 f.node, Value.tuple #[.agg #[.int .i64 d.k, .int .i64 d.n, .string d.s, .slice an d.names.length cn, .slice aa d.args.length ca], .bool true], .agg #[.int .i64 d.k, .int .i64 d.n, .string d.s, .slice an d.names.length cn, .slice aa d.args.length ca], .bool true, .bool true, .bool false, .bool false, .pointer (some ⟨wr.heap.size, 2, none⟩), .slice fa1 f.vals.length fc1, .int .i64 ↑f.vals.length, .agg #[.int .i64 d.k, .int .i64 d.n, .string d.s, .slice an d.names.length cn, .slice aa d.args.length ca], .int .i64 ↑(fullF d), .bool true, .bool true, .bool true, undef, undef, undef, undef, undef, undef, .bool true, .bool true, undef, undef, undef, undef, undef, undef, .bool true, u51], []⟩ (by kernel_rfl) (by kernel_rfl) ?_
     refine wpAnyH_done (by kernel_rfl) ?_ _
     dsimp only []
     go_wp2
     go_ret
     exact ⟨by rw [HQ.out]; rfl, hbn5⟩
  ·obtain rfl : i = l.length := by omega
   rw [List.take_length] at hall
   have HQ : Hid (l.all (Frm.ok y.heap y.units) = true) := hall
   have hlt' : decide ((l.length : Int) < (l.length : Int)) = false := by simp
   clear hall
   go_wp2
   go_ret
   exact ⟨by rw [HQ.out]; rfl, hb⟩
theorem implMac_any (y : Sy) (y1 y2 y3 y4 : Option Addr) (d1 d2 d3 d4 : Nat) (m : Mac) (m1 m2 : Option Addr) (e1 e2 : Nat) (w : World) (hs : y.small) (hr : SyRows w (fun b => b < w.heap.size) y1 y2 y3 y4 d1 d2 d3 d4 y) (hsm : m.small) (hrm : MacRows w (fun b => b < w.heap.size) m1 m2 e1 e2 m) :
  Calls Tryz.prog 28 #[.agg #[.slice y1 y.heap.length d1, .slice y2 y.insts.length d2, .slice y3 y.units.length d3, .slice y4 y.out.length d4], .agg #[.int .i64 m.mode, .int .i64 m.unit, .int .i64 m.node, .slice m1 m.env.length e1, .int .i64 m.val.k, .int .i64 m.val.n, .string m.val.s, .slice m2 m.stack.length e2, .int .i64 m.end_]] w fun r w' => Ans w (.bool (m.ok y)) r w' := by
 obtain ⟨_, _, _, ⟨n1, n2⟩, sv, ⟨t1, t2⟩, _⟩ := hsm
 obtain ⟨⟨re, te⟩, ⟨rs, ts⟩⟩ := hrm
 have hb0 : Below w.heap.size w ((w.alloc (Obj.cells #[.slice y1 y.heap.length d1, .slice y2 y.insts.length d2, .slice y3 y.units.length d3, .slice y4 y.out.length d4] 41)).alloc (Obj.cells #[.int .i64 m.mode, .int .i64 m.unit, .int .i64 m.node, .slice m1 m.env.length e1, .int .i64 m.val.k, .int .i64 m.val.n, .string m.val.s, .slice m2 m.stack.length e2, .int .i64 m.end_] 47)) := (bR _ _).alloc (by simp) _
 have k0 : ((w.alloc (Obj.cells #[.slice y1 y.heap.length d1, .slice y2 y.insts.length d2, .slice y3 y.units.length d3, .slice y4 y.out.length d4] 41)).alloc (Obj.cells #[.int .i64 m.mode, .int .i64 m.unit, .int .i64 m.node, .slice m1 m.env.length e1, .int .i64 m.val.k, .int .i64 m.val.n, .string m.val.s, .slice m2 m.stack.length e2, .int .i64 m.end_] 47)).heap[w.heap.size]? = some (Obj.cells #[.slice y1 y.heap.length d1, .slice y2 y.insts.length d2, .slice y3 y.units.length d3, .slice y4 y.out.length d4] 41) := blk_past (blk_at _ _ _ rfl)
 have k1 : ((w.alloc (Obj.cells #[.slice y1 y.heap.length d1, .slice y2 y.insts.length d2, .slice y3 y.units.length d3, .slice y4 y.out.length d4] 41)).alloc (Obj.cells #[.int .i64 m.mode, .int .i64 m.unit, .int .i64 m.node, .slice m1 m.env.length e1, .int .i64 m.val.k, .int .i64 m.val.n, .string m.val.s, .slice m2 m.stack.length e2, .int .i64 m.end_] 47)).heap[w.heap.size + 1]? = some (Obj.cells #[.int .i64 m.mode, .int .i64 m.unit, .int .i64 m.node, .slice m1 m.env.length e1, .int .i64 m.val.k, .int .i64 m.val.n, .string m.val.s, .slice m2 m.stack.length e2, .int .i64 m.end_] 47) := blk_at _ _ _ (by simp)
 have HNB : Hid (∀ w1, Below w.heap.size w w1 → Calls Tryz.prog 55 #[.slice y3 y.units.length d3, .int .i64 m.unit, .int .i64 m.node] w1 fun e w' => NdPost y.units m.unit m.node w1 e w') := fun w1 h1 => nodeAt_any y3 y.units d3 m.unit m.node w1 hs.2.2.1.1 hs.2.2.1.2 (hr.2.2.1.1.keep fun b hb => ⟨Nat.lt_of_lt_of_le hb h1.size, h1.block b hb⟩)
 have HSY : Hid (∀ w1, Below w.heap.size w w1 → Calls Tryz.prog 56 #[.agg #[.slice y1 y.heap.length d1, .slice y2 y.insts.length d2, .slice y3 y.units.length d3, .slice y4 y.out.length d4]] w1 fun e w' => Ans w1 (.bool y.ok) e w') := fun w1 h1 => implSys_any y y1 y2 y3 y4 d1 d2 d3 d4 w1 hs (hr.keep fun b hb => ⟨Nat.lt_of_lt_of_le hb h1.size, h1.block b hb⟩)
 have HVA : Hid (∀ w1, Below w.heap.size w w1 → Calls Tryz.prog 57 #[.slice y1 y.heap.length d1, .agg #[.int .i64 m.mode, .int .i64 m.unit, .int .i64 m.node, .slice m1 m.env.length e1, .int .i64 m.val.k, .int .i64 m.val.n, .string m.val.s, .slice m2 m.stack.length e2, .int .i64 m.end_]] w1 fun e w' => Ans w1 (.bool (valB y.heap m)) e w') := fun w1 h1 => valOk_any y1 y.heap d1 m m1 m2 e1 e2 w1 hs.1.1 sv (hr.1.1.keep fun b hb => ⟨Nat.lt_of_lt_of_le hb h1.size, h1.block b hb⟩)
 have HBI : Hid (∀ w1, Below w.heap.size w w1 → Calls Tryz.prog 58 #[.slice y1 y.heap.length d1, .slice m1 m.env.length e1] w1 fun e w' => Ans w1 (.bool (envB y.heap m.env)) e w') := fun w1 h1 => bindsOk_any y1 y.heap d1 m1 m.env e1 w1 hs.1.1 (hr.1.1.keep fun b hb => ⟨Nat.lt_of_lt_of_le hb h1.size, h1.block b hb⟩) n1 n2 (re.keep fun b hb => ⟨Nat.lt_of_lt_of_le hb h1.size, h1.block b hb⟩)
 have HST : Hid (∀ w1, Below w.heap.size w w1 → Calls Tryz.prog 59 #[.agg #[.slice y1 y.heap.length d1, .slice y2 y.insts.length d2, .slice y3 y.units.length d3, .slice y4 y.out.length d4], .slice m2 m.stack.length e2] w1 fun e w' => Ans w1 (.bool (m.stack.all (Frm.ok y.heap y.units))) e w') := fun w1 h1 => stackOk_any y y1 y2 y3 y4 d1 d2 d3 d4 m2 m.stack e2 w1 hs (hr.keep fun b hb => ⟨Nat.lt_of_lt_of_le hb h1.size, h1.block b hb⟩) t1 t2 (rs.keep fun b hb => ⟨Nat.lt_of_lt_of_le hb h1.size, h1.block b hb⟩)
 clear re rs n2 t2 sv
 cases hna : nodeAt y.units m.unit m.node with
 | none =>
  have HNA : Hid (∀ w1, Below w.heap.size w w1 → Calls Tryz.prog 55 #[.slice y3 y.units.length d3, .int .i64 m.unit, .int .i64 m.node] w1 fun e w' => e = .returned (.tuple #[.agg #[.int .i64 0, .int .i64 0, .string ⟨#[]⟩, .slice none 0 0, .slice none 0 0], .bool false]) ∧ Below w1.heap.size w1 w') := fun w1 h1 => (HNB.out w1 h1).mono (by
   rintro e w2 (⟨d, an, aa, cn, ca, hd, -, -⟩ | ⟨hd, rfl, hb⟩)
   ·rw [hna] at hd; cases hd
   ·exact ⟨rfl, hb⟩)
  clear HNB
  have HQ : Hid (m.ok y = false) := by show _ = _; unfold Mac.ok; rw [hna]; rfl
  clear hs hr
  go_enter Tryz.func28, Tryz.ntmps28
  go_wp2_with fail
  refine (HNA.out _ hb0).mono ?_
  rintro e u0 ⟨rfl, hv0⟩
  have hc0 := bT hb0 hv0
  have k0 := bK k0 hv0
  have k1 := bK k1 hv0
  have hx0 : Below w.heap.size w (u0.alloc (Obj.cells #[.int .i64 0, .int .i64 0, .string ⟨#[]⟩, .slice none 0 0, .slice none 0 0] 126)) := hc0.alloc hc0.size _
  have k0 : (u0.alloc (Obj.cells #[.int .i64 0, .int .i64 0, .string ⟨#[]⟩, .slice none 0 0, .slice none 0 0] 126)).heap[w.heap.size]? = some (Obj.cells #[.slice y1 y.heap.length d1, .slice y2 y.insts.length d2, .slice y3 y.units.length d3, .slice y4 y.out.length d4] 41) := blk_past k0
  have k1 : (u0.alloc (Obj.cells #[.int .i64 0, .int .i64 0, .string ⟨#[]⟩, .slice none 0 0, .slice none 0 0] 126)).heap[w.heap.size + 1]? = some (Obj.cells #[.int .i64 m.mode, .int .i64 m.unit, .int .i64 m.node, .slice m1 m.env.length e1, .int .i64 m.val.k, .int .i64 m.val.n, .string m.val.s, .slice m2 m.stack.length e2, .int .i64 m.end_] 47) := blk_past k1
  clear hv0 hc0
  obtain ⟨ya0, ya1, ya2, ya3⟩ := zn4 k0 rfl rfl rfl rfl
  obtain ⟨ma0, ma1, ma2, ma3, ma4, ma5, ma6, ma7, ma8⟩ := zn9 k1 rfl rfl rfl rfl rfl rfl rfl rfl rfl
  go_wp2
  go_ret
  exact ⟨by rw [HQ.out]; rfl, hx0⟩
 | some d =>
  have hsome : (nodeAt y.units m.unit m.node).isSome = true := by rw [hna]; rfl
  have HNA : Hid (∀ w1, Below w.heap.size w w1 → Calls Tryz.prog 55 #[.slice y3 y.units.length d3, .int .i64 m.unit, .int .i64 m.node] w1 fun e w' => ∃ (an aa : Option Addr) (cn ca : Nat), e = .returned (.tuple #[.agg #[.int .i64 d.k, .int .i64 d.n, .string d.s, .slice an d.names.length cn, .slice aa d.args.length ca], .bool true]) ∧ Below w1.heap.size w1 w') := fun w1 h1 => (HNB.out w1 h1).mono (by
   rintro e w2 (⟨d', an, aa, cn, ca, hd, -, rfl, -, hb⟩ | ⟨hd, -⟩)
   ·rw [hna] at hd
    obtain rfl := Option.some.inj hd
    exact ⟨an, aa, cn, ca, rfl, hb⟩
   ·rw [hna] at hd; cases hd)
  clear HNB hna
  by_cases h1 : 0 ≤ m.end_
  ·have g1 : decide (0 ≤ m.end_) = true := decide_eq_true h1
   by_cases h2 : m.end_ ≤ 7
   ·have g2 : decide (m.end_ ≤ 7) = true := decide_eq_true h2
    by_cases h3 : m.stack.length ≤ 120
    ·have g3 : decide ((m.stack.length : Int) ≤ 120) = true := by simp; omega
     cases hy : y.ok
     ·rw [hy] at HSY
      have HQ : Hid (m.ok y = false) := by show _ = _; unfold Mac.ok; rw [hy]; simp
      clear hs hr
      go_enter Tryz.func28, Tryz.ntmps28
      go_wp2_with fail
      refine (HNA.out _ hb0).mono ?_
      rintro e u0 ⟨an, aa, cn, ca, rfl, hv0⟩
      have hc0 := bT hb0 hv0
      have k0 := bK k0 hv0
      have k1 := bK k1 hv0
      have hx0 : Below w.heap.size w (u0.alloc (Obj.cells #[.int .i64 d.k, .int .i64 d.n, .string d.s, .slice an d.names.length cn, .slice aa d.args.length ca] 126)) := hc0.alloc hc0.size _
      have k0 : (u0.alloc (Obj.cells #[.int .i64 d.k, .int .i64 d.n, .string d.s, .slice an d.names.length cn, .slice aa d.args.length ca] 126)).heap[w.heap.size]? = some (Obj.cells #[.slice y1 y.heap.length d1, .slice y2 y.insts.length d2, .slice y3 y.units.length d3, .slice y4 y.out.length d4] 41) := blk_past k0
      have k1 : (u0.alloc (Obj.cells #[.int .i64 d.k, .int .i64 d.n, .string d.s, .slice an d.names.length cn, .slice aa d.args.length ca] 126)).heap[w.heap.size + 1]? = some (Obj.cells #[.int .i64 m.mode, .int .i64 m.unit, .int .i64 m.node, .slice m1 m.env.length e1, .int .i64 m.val.k, .int .i64 m.val.n, .string m.val.s, .slice m2 m.stack.length e2, .int .i64 m.end_] 47) := blk_past k1
      clear hv0 hc0
      obtain ⟨ya0, ya1, ya2, ya3⟩ := zn4 k0 rfl rfl rfl rfl
      obtain ⟨ma0, ma1, ma2, ma3, ma4, ma5, ma6, ma7, ma8⟩ := zn9 k1 rfl rfl rfl rfl rfl rfl rfl rfl rfl
      go_wp2_with fail
      refine (HSY.out _ hx0).mono ?_
      rintro e u1 ⟨rfl, hv1⟩
      have hx1 := bT hx0 hv1
      have k0 := bK k0 hv1
      have k1 := bK k1 hv1
      clear hv1
      obtain ⟨yb0, yb1, yb2, yb3⟩ := zn4 k0 rfl rfl rfl rfl
      obtain ⟨mb0, mb1, mb2, mb3, mb4, mb5, mb6, mb7, mb8⟩ := zn9 k1 rfl rfl rfl rfl rfl rfl rfl rfl rfl
      go_wp2
      go_ret
      exact ⟨by rw [HQ.out]; rfl, hx1⟩
     ·rw [hy] at HSY
      cases hv : valB y.heap m
      ·rw [hv] at HVA
       have HQ : Hid (m.ok y = false) := by show _ = _; unfold Mac.ok; rw [hv]; simp
       clear hs hr
       go_enter Tryz.func28, Tryz.ntmps28
       go_wp2_with fail
       refine (HNA.out _ hb0).mono ?_
       rintro e u0 ⟨an, aa, cn, ca, rfl, hv0⟩
       have hc0 := bT hb0 hv0
       have k0 := bK k0 hv0
       have k1 := bK k1 hv0
       have hx0 : Below w.heap.size w (u0.alloc (Obj.cells #[.int .i64 d.k, .int .i64 d.n, .string d.s, .slice an d.names.length cn, .slice aa d.args.length ca] 126)) := hc0.alloc hc0.size _
       have k0 : (u0.alloc (Obj.cells #[.int .i64 d.k, .int .i64 d.n, .string d.s, .slice an d.names.length cn, .slice aa d.args.length ca] 126)).heap[w.heap.size]? = some (Obj.cells #[.slice y1 y.heap.length d1, .slice y2 y.insts.length d2, .slice y3 y.units.length d3, .slice y4 y.out.length d4] 41) := blk_past k0
       have k1 : (u0.alloc (Obj.cells #[.int .i64 d.k, .int .i64 d.n, .string d.s, .slice an d.names.length cn, .slice aa d.args.length ca] 126)).heap[w.heap.size + 1]? = some (Obj.cells #[.int .i64 m.mode, .int .i64 m.unit, .int .i64 m.node, .slice m1 m.env.length e1, .int .i64 m.val.k, .int .i64 m.val.n, .string m.val.s, .slice m2 m.stack.length e2, .int .i64 m.end_] 47) := blk_past k1
       clear hv0 hc0
       obtain ⟨ya0, ya1, ya2, ya3⟩ := zn4 k0 rfl rfl rfl rfl
       obtain ⟨ma0, ma1, ma2, ma3, ma4, ma5, ma6, ma7, ma8⟩ := zn9 k1 rfl rfl rfl rfl rfl rfl rfl rfl rfl
       go_wp2_with fail
       refine (HSY.out _ hx0).mono ?_
       rintro e u1 ⟨rfl, hv1⟩
       have hx1 := bT hx0 hv1
       have k0 := bK k0 hv1
       have k1 := bK k1 hv1
       clear hv1
       obtain ⟨yb0, yb1, yb2, yb3⟩ := zn4 k0 rfl rfl rfl rfl
       obtain ⟨mb0, mb1, mb2, mb3, mb4, mb5, mb6, mb7, mb8⟩ := zn9 k1 rfl rfl rfl rfl rfl rfl rfl rfl rfl
       go_wp2_with fail
       refine (HVA.out _ hx1).mono ?_
       rintro e u2 ⟨rfl, hv2⟩
       have hx2 := bT hx1 hv2
       have k0 := bK k0 hv2
       have k1 := bK k1 hv2
       clear hv2
       obtain ⟨yc0, yc1, yc2, yc3⟩ := zn4 k0 rfl rfl rfl rfl
       obtain ⟨mc0, mc1, mc2, mc3, mc4, mc5, mc6, mc7, mc8⟩ := zn9 k1 rfl rfl rfl rfl rfl rfl rfl rfl rfl
       go_wp2
       go_ret
       exact ⟨by rw [HQ.out]; rfl, hx2⟩
      ·rw [hv] at HVA
       cases he : envB y.heap m.env
       ·rw [he] at HBI
        have HQ : Hid (m.ok y = false) := by show _ = _; unfold Mac.ok; rw [he]; simp
        clear hs hr
        go_enter Tryz.func28, Tryz.ntmps28
        go_wp2_with fail
        refine (HNA.out _ hb0).mono ?_
        rintro e u0 ⟨an, aa, cn, ca, rfl, hv0⟩
        have hc0 := bT hb0 hv0
        have k0 := bK k0 hv0
        have k1 := bK k1 hv0
        have hx0 : Below w.heap.size w (u0.alloc (Obj.cells #[.int .i64 d.k, .int .i64 d.n, .string d.s, .slice an d.names.length cn, .slice aa d.args.length ca] 126)) := hc0.alloc hc0.size _
        have k0 : (u0.alloc (Obj.cells #[.int .i64 d.k, .int .i64 d.n, .string d.s, .slice an d.names.length cn, .slice aa d.args.length ca] 126)).heap[w.heap.size]? = some (Obj.cells #[.slice y1 y.heap.length d1, .slice y2 y.insts.length d2, .slice y3 y.units.length d3, .slice y4 y.out.length d4] 41) := blk_past k0
        have k1 : (u0.alloc (Obj.cells #[.int .i64 d.k, .int .i64 d.n, .string d.s, .slice an d.names.length cn, .slice aa d.args.length ca] 126)).heap[w.heap.size + 1]? = some (Obj.cells #[.int .i64 m.mode, .int .i64 m.unit, .int .i64 m.node, .slice m1 m.env.length e1, .int .i64 m.val.k, .int .i64 m.val.n, .string m.val.s, .slice m2 m.stack.length e2, .int .i64 m.end_] 47) := blk_past k1
        clear hv0 hc0
        obtain ⟨ya0, ya1, ya2, ya3⟩ := zn4 k0 rfl rfl rfl rfl
        obtain ⟨ma0, ma1, ma2, ma3, ma4, ma5, ma6, ma7, ma8⟩ := zn9 k1 rfl rfl rfl rfl rfl rfl rfl rfl rfl
        go_wp2_with fail
        refine (HSY.out _ hx0).mono ?_
        rintro e u1 ⟨rfl, hv1⟩
        have hx1 := bT hx0 hv1
        have k0 := bK k0 hv1
        have k1 := bK k1 hv1
        clear hv1
        obtain ⟨yb0, yb1, yb2, yb3⟩ := zn4 k0 rfl rfl rfl rfl
        obtain ⟨mb0, mb1, mb2, mb3, mb4, mb5, mb6, mb7, mb8⟩ := zn9 k1 rfl rfl rfl rfl rfl rfl rfl rfl rfl
        go_wp2_with fail
        refine (HVA.out _ hx1).mono ?_
        rintro e u2 ⟨rfl, hv2⟩
        have hx2 := bT hx1 hv2
        have k0 := bK k0 hv2
        have k1 := bK k1 hv2
        clear hv2
        obtain ⟨yc0, yc1, yc2, yc3⟩ := zn4 k0 rfl rfl rfl rfl
        obtain ⟨mc0, mc1, mc2, mc3, mc4, mc5, mc6, mc7, mc8⟩ := zn9 k1 rfl rfl rfl rfl rfl rfl rfl rfl rfl
        go_wp2_with fail
        refine (HBI.out _ hx2).mono ?_
        rintro e u3 ⟨rfl, hv3⟩
        have hx3 := bT hx2 hv3
        have k0 := bK k0 hv3
        have k1 := bK k1 hv3
        clear hv3
        obtain ⟨yd0, yd1, yd2, yd3⟩ := zn4 k0 rfl rfl rfl rfl
        obtain ⟨md0, md1, md2, md3, md4, md5, md6, md7, md8⟩ := zn9 k1 rfl rfl rfl rfl rfl rfl rfl rfl rfl
        go_wp2
        go_ret
        exact ⟨by rw [HQ.out]; rfl, hx3⟩
       ·rw [he] at HBI
        have HQ : Hid (m.ok y = m.stack.all (Frm.ok y.heap y.units)) := by show _ = _; unfold Mac.ok; rw [hsome, g1, g2, decide_eq_true h3, hy, hv, he]; rfl
        clear hs hr hy hv he hsome h1 h2
        go_enter Tryz.func28, Tryz.ntmps28
        go_wp2_with fail
        refine (HNA.out _ hb0).mono ?_
        rintro e u0 ⟨an, aa, cn, ca, rfl, hv0⟩
        have hc0 := bT hb0 hv0
        have k0 := bK k0 hv0
        have k1 := bK k1 hv0
        have hx0 : Below w.heap.size w (u0.alloc (Obj.cells #[.int .i64 d.k, .int .i64 d.n, .string d.s, .slice an d.names.length cn, .slice aa d.args.length ca] 126)) := hc0.alloc hc0.size _
        have k0 : (u0.alloc (Obj.cells #[.int .i64 d.k, .int .i64 d.n, .string d.s, .slice an d.names.length cn, .slice aa d.args.length ca] 126)).heap[w.heap.size]? = some (Obj.cells #[.slice y1 y.heap.length d1, .slice y2 y.insts.length d2, .slice y3 y.units.length d3, .slice y4 y.out.length d4] 41) := blk_past k0
        have k1 : (u0.alloc (Obj.cells #[.int .i64 d.k, .int .i64 d.n, .string d.s, .slice an d.names.length cn, .slice aa d.args.length ca] 126)).heap[w.heap.size + 1]? = some (Obj.cells #[.int .i64 m.mode, .int .i64 m.unit, .int .i64 m.node, .slice m1 m.env.length e1, .int .i64 m.val.k, .int .i64 m.val.n, .string m.val.s, .slice m2 m.stack.length e2, .int .i64 m.end_] 47) := blk_past k1
        clear hv0 hc0
        obtain ⟨ya0, ya1, ya2, ya3⟩ := zn4 k0 rfl rfl rfl rfl
        obtain ⟨ma0, ma1, ma2, ma3, ma4, ma5, ma6, ma7, ma8⟩ := zn9 k1 rfl rfl rfl rfl rfl rfl rfl rfl rfl
        go_wp2_with fail
        refine (HSY.out _ hx0).mono ?_
        rintro e u1 ⟨rfl, hv1⟩
        have hx1 := bT hx0 hv1
        have k0 := bK k0 hv1
        have k1 := bK k1 hv1
        clear hv1
        obtain ⟨yb0, yb1, yb2, yb3⟩ := zn4 k0 rfl rfl rfl rfl
        obtain ⟨mb0, mb1, mb2, mb3, mb4, mb5, mb6, mb7, mb8⟩ := zn9 k1 rfl rfl rfl rfl rfl rfl rfl rfl rfl
        go_wp2_with fail
        refine (HVA.out _ hx1).mono ?_
        rintro e u2 ⟨rfl, hv2⟩
        have hx2 := bT hx1 hv2
        have k0 := bK k0 hv2
        have k1 := bK k1 hv2
        clear hv2
        obtain ⟨yc0, yc1, yc2, yc3⟩ := zn4 k0 rfl rfl rfl rfl
        obtain ⟨mc0, mc1, mc2, mc3, mc4, mc5, mc6, mc7, mc8⟩ := zn9 k1 rfl rfl rfl rfl rfl rfl rfl rfl rfl
        go_wp2_with fail
        refine (HBI.out _ hx2).mono ?_
        rintro e u3 ⟨rfl, hv3⟩
        have hx3 := bT hx2 hv3
        have k0 := bK k0 hv3
        have k1 := bK k1 hv3
        clear hv3
        obtain ⟨yd0, yd1, yd2, yd3⟩ := zn4 k0 rfl rfl rfl rfl
        obtain ⟨md0, md1, md2, md3, md4, md5, md6, md7, md8⟩ := zn9 k1 rfl rfl rfl rfl rfl rfl rfl rfl rfl
        go_wp2_with fail
        refine (HST.out _ hx3).mono ?_
        rintro e u4 ⟨rfl, hv4⟩
        have hx4 := bT hx3 hv4
        have k0 := bK k0 hv4
        have k1 := bK k1 hv4
        clear hv4
        obtain ⟨ye0, ye1, ye2, ye3⟩ := zn4 k0 rfl rfl rfl rfl
        obtain ⟨me0, me1, me2, me3, me4, me5, me6, me7, me8⟩ := zn9 k1 rfl rfl rfl rfl rfl rfl rfl rfl rfl
        go_wp2
        go_ret
        exact ⟨by rw [HQ.out]; rfl, hx4⟩
    ·have g3 : decide ((m.stack.length : Int) ≤ 120) = false := by simp; omega
     have HQ : Hid (m.ok y = false) := by show _ = _; unfold Mac.ok; rw [decide_eq_false h3]; simp
     clear hs hr
     go_enter Tryz.func28, Tryz.ntmps28
     go_wp2_with fail
     refine (HNA.out _ hb0).mono ?_
     rintro e u0 ⟨an, aa, cn, ca, rfl, hv0⟩
     have hc0 := bT hb0 hv0
     have k0 := bK k0 hv0
     have k1 := bK k1 hv0
     have hx0 : Below w.heap.size w (u0.alloc (Obj.cells #[.int .i64 d.k, .int .i64 d.n, .string d.s, .slice an d.names.length cn, .slice aa d.args.length ca] 126)) := hc0.alloc hc0.size _
     have k0 : (u0.alloc (Obj.cells #[.int .i64 d.k, .int .i64 d.n, .string d.s, .slice an d.names.length cn, .slice aa d.args.length ca] 126)).heap[w.heap.size]? = some (Obj.cells #[.slice y1 y.heap.length d1, .slice y2 y.insts.length d2, .slice y3 y.units.length d3, .slice y4 y.out.length d4] 41) := blk_past k0
     have k1 : (u0.alloc (Obj.cells #[.int .i64 d.k, .int .i64 d.n, .string d.s, .slice an d.names.length cn, .slice aa d.args.length ca] 126)).heap[w.heap.size + 1]? = some (Obj.cells #[.int .i64 m.mode, .int .i64 m.unit, .int .i64 m.node, .slice m1 m.env.length e1, .int .i64 m.val.k, .int .i64 m.val.n, .string m.val.s, .slice m2 m.stack.length e2, .int .i64 m.end_] 47) := blk_past k1
     clear hv0 hc0
     obtain ⟨ya0, ya1, ya2, ya3⟩ := zn4 k0 rfl rfl rfl rfl
     obtain ⟨ma0, ma1, ma2, ma3, ma4, ma5, ma6, ma7, ma8⟩ := zn9 k1 rfl rfl rfl rfl rfl rfl rfl rfl rfl
     go_wp2
     go_ret
     exact ⟨by rw [HQ.out]; rfl, hx0⟩
   ·have g2 : decide (m.end_ ≤ 7) = false := decide_eq_false h2
    have HQ : Hid (m.ok y = false) := by show _ = _; unfold Mac.ok; rw [g2]; simp
    clear hs hr
    go_enter Tryz.func28, Tryz.ntmps28
    go_wp2_with fail
    refine (HNA.out _ hb0).mono ?_
    rintro e u0 ⟨an, aa, cn, ca, rfl, hv0⟩
    have hc0 := bT hb0 hv0
    have k0 := bK k0 hv0
    have k1 := bK k1 hv0
    have hx0 : Below w.heap.size w (u0.alloc (Obj.cells #[.int .i64 d.k, .int .i64 d.n, .string d.s, .slice an d.names.length cn, .slice aa d.args.length ca] 126)) := hc0.alloc hc0.size _
    have k0 : (u0.alloc (Obj.cells #[.int .i64 d.k, .int .i64 d.n, .string d.s, .slice an d.names.length cn, .slice aa d.args.length ca] 126)).heap[w.heap.size]? = some (Obj.cells #[.slice y1 y.heap.length d1, .slice y2 y.insts.length d2, .slice y3 y.units.length d3, .slice y4 y.out.length d4] 41) := blk_past k0
    have k1 : (u0.alloc (Obj.cells #[.int .i64 d.k, .int .i64 d.n, .string d.s, .slice an d.names.length cn, .slice aa d.args.length ca] 126)).heap[w.heap.size + 1]? = some (Obj.cells #[.int .i64 m.mode, .int .i64 m.unit, .int .i64 m.node, .slice m1 m.env.length e1, .int .i64 m.val.k, .int .i64 m.val.n, .string m.val.s, .slice m2 m.stack.length e2, .int .i64 m.end_] 47) := blk_past k1
    clear hv0 hc0
    obtain ⟨ya0, ya1, ya2, ya3⟩ := zn4 k0 rfl rfl rfl rfl
    obtain ⟨ma0, ma1, ma2, ma3, ma4, ma5, ma6, ma7, ma8⟩ := zn9 k1 rfl rfl rfl rfl rfl rfl rfl rfl rfl
    go_wp2
    go_ret
    exact ⟨by rw [HQ.out]; rfl, hx0⟩
  ·have g1 : decide (0 ≤ m.end_) = false := decide_eq_false h1
   have HQ : Hid (m.ok y = false) := by show _ = _; unfold Mac.ok; rw [g1]; simp
   clear hs hr
   go_enter Tryz.func28, Tryz.ntmps28
   go_wp2_with fail
   refine (HNA.out _ hb0).mono ?_
   rintro e u0 ⟨an, aa, cn, ca, rfl, hv0⟩
   have hc0 := bT hb0 hv0
   have k0 := bK k0 hv0
   have k1 := bK k1 hv0
   have hx0 : Below w.heap.size w (u0.alloc (Obj.cells #[.int .i64 d.k, .int .i64 d.n, .string d.s, .slice an d.names.length cn, .slice aa d.args.length ca] 126)) := hc0.alloc hc0.size _
   have k0 : (u0.alloc (Obj.cells #[.int .i64 d.k, .int .i64 d.n, .string d.s, .slice an d.names.length cn, .slice aa d.args.length ca] 126)).heap[w.heap.size]? = some (Obj.cells #[.slice y1 y.heap.length d1, .slice y2 y.insts.length d2, .slice y3 y.units.length d3, .slice y4 y.out.length d4] 41) := blk_past k0
   have k1 : (u0.alloc (Obj.cells #[.int .i64 d.k, .int .i64 d.n, .string d.s, .slice an d.names.length cn, .slice aa d.args.length ca] 126)).heap[w.heap.size + 1]? = some (Obj.cells #[.int .i64 m.mode, .int .i64 m.unit, .int .i64 m.node, .slice m1 m.env.length e1, .int .i64 m.val.k, .int .i64 m.val.n, .string m.val.s, .slice m2 m.stack.length e2, .int .i64 m.end_] 47) := blk_past k1
   clear hv0 hc0
   obtain ⟨ya0, ya1, ya2, ya3⟩ := zn4 k0 rfl rfl rfl rfl
   obtain ⟨ma0, ma1, ma2, ma3, ma4, ma5, ma6, ma7, ma8⟩ := zn9 k1 rfl rfl rfl rfl rfl rfl rfl rfl rfl
   go_wp2
   go_ret
   exact ⟨by rw [HQ.out]; rfl, hx0⟩
end Go.Proofs.YtlacidojljilaaaGreatDoor
