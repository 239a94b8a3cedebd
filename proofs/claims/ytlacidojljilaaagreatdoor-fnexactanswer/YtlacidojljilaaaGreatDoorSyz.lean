/- The size of a system that comes in. -/
import Derived.Test.YtlacidojljilaaaGreatDoorSyp
set_option linter.unusedVariables false
set_option maxRecDepth 100000
set_option maxHeartbeats 8000000
namespace Go.Proofs.YtlacidojljilaaaGreatDoor
open Go.ChangeShapes Go.WideShapes Go.ChangeAt Go.RowKit
theorem leftOf_zero (n : Nat) : leftOf n 0 = (n : Int) := by simp [leftOf]
theorem sz_string (a : Option Addr) (l : List ByteArray) (cap left : Nat) (w : World) (hl : left ≤ 1048576) (hn : l.length ≤ 9223372036854775807) (hr : rgS.Row w (fun b => b < w.heap.size) a l) (hwf : ∀ d ∈ l, wfS d) :
  Calls Tryz.prog 15 #[.slice a l.length cap, .int .i64 left] w fun e w' => Ans w (.int .i64 (leftOf left (bulkS l))) e w' := szStringS_any a l cap left w hl hn (rowS_iff.1 hr) hwf
theorem sz_Value (a : Option Addr) (l : List Val) (cap left : Nat) (w : World) (hl : left ≤ 1048576) (hn : l.length ≤ 9223372036854775807) (hr : rgV.Row w (fun b => b < w.heap.size) a l) (hwf : ∀ d ∈ l, Val.wf d) :
  Calls Tryz.prog 66 #[.slice a l.length cap, .int .i64 left] w fun e w' => Ans w (.int .i64 (leftOf left (bulkV l))) e w' := szValueS_any a l cap left w hl hn (rowV_iff.1 hr) hwf
theorem sz_Cell (a : Option Addr) (l : List Cel) (cap left : Nat) (w : World) (hl : left ≤ 1048576) (hn : l.length ≤ 9223372036854775807) (hr : rgC.Row w (fun b => b < w.heap.size) a l) (hwf : ∀ d ∈ l, Cel.wf d) :
  Calls Tryz.prog 12 #[.slice a l.length cap, .int .i64 left] w fun e w' => Ans w (.int .i64 (leftOf left (bulkC l))) e w' := szCellS_any a l cap left w hl hn (rowC_iff.1 hr) hwf
theorem sz_Node (a : Option Addr) (l : List Nod) (cap left : Nat) (w : World) (hl : left ≤ 1048576) (hn : l.length ≤ 9223372036854775807) (hr : rgN.Row w (fun b => b < w.heap.size) a l) (hwf : ∀ d ∈ l, Nod.wf d) :
  Calls Tryz.prog 100 #[.slice a l.length cap, .int .i64 left] w fun e w' => Ans w (.int .i64 (leftOf left (bulkN l))) e w' := szNodeS_any a l cap left w hl hn (rowN_iff.1 hr) hwf
theorem szE_Prog (x : Prg) (a1 : Option Addr) (c1 : Nat) (left : Nat) (w : World) (hl : left ≤ 1048576) (hw : x.wf) (hr : PrgRows w (fun b => b < w.heap.size) a1 c1 x) :
  Calls Tryz.prog 69 #[.agg #[.slice a1 x.nodes.length c1, .int .i64 x.root], .int .i64 left] w fun e w' => Ans w (.int .i64 (leftOf left x.bulk)) e w' := by
 unfold Prg.bulk
 obtain ⟨u0, u1⟩ := hw
 obtain ⟨r1, t1⟩ := hr
 have hb0 : Below w.heap.size w (w.alloc (Obj.cells #[.slice a1 x.nodes.length c1, .int .i64 x.root] 88)) := bR _ _
 have k0 : (w.alloc (Obj.cells #[.slice a1 x.nodes.length c1, .int .i64 x.root] 88)).heap[w.heap.size]? = some (Obj.cells #[.slice a1 x.nodes.length c1, .int .i64 x.root] 88) := blk_at _ _ _ rfl
 have hlc : left ≤ 1048576 := by omega
 have HC0 : Hid (∀ w2, Below w.heap.size w w2 → Calls Tryz.prog 100 #[.slice a1 x.nodes.length c1, .int .i64 left] w2 fun e w' => Ans w2 (.int .i64 (leftOf left (bulkN x.nodes))) e w') := fun w2 h2 => sz_Node a1 x.nodes c1 left w2 hlc (u0.1) (r1.keep fun b h => ⟨by have := h2.size; omega, h2.block b h⟩) u0.2
 clear hlc
 by_cases h0 : left < bulkN x.nodes
 ·rw [leftOf_neg h0] at HC0
  go_enter Tryz.func69, Tryz.ntmps69
  go_wp2_with fail
  refine (HC0.out _ hb0).mono ?_
  rintro e v0 ⟨rfl, hv0⟩
  have hbv0 : Below w.heap.size w v0 := bT hb0 hv0
  have k1 := bK k0 hv0
  obtain ⟨z0_0, z0_1⟩ := zn2 k1 rfl rfl
  go_wp2
  go_ret
  exact ⟨by rw [leftOf_neg (by omega)]; rfl, hbv0⟩
 ·rw [leftOf_nat h0] at HC0
  have HB0 : Hid (leftOf left (bulkN x.nodes) = leftOf (left - bulkN x.nodes) 0) := by show _ = _; rw [leftOf_nat h0]; simp [leftOf]
  rw [HB0.out]
  have hl0 : left - bulkN x.nodes ≤ 1048576 := by omega
  clear HB0 h0
  generalize left - bulkN x.nodes = q0 at *
  go_enter Tryz.func69, Tryz.ntmps69
  go_wp2_with fail
  refine (HC0.out _ hb0).mono ?_
  rintro e v0 ⟨rfl, hv0⟩
  have hbv0 : Below w.heap.size w v0 := bT hb0 hv0
  have k1 := bK k0 hv0
  obtain ⟨z0_0, z0_1⟩ := zn2 k1 rfl rfl
  go_wp2
  go_ret
  exact ⟨by rw [leftOf_zero]; first | rfl | simp_all, hbv0⟩
theorem szE_Link (x : Lnk) (left : Nat) (w : World) (hl : left ≤ 1048576) (hw : x.wf) :
  Calls Tryz.prog 98 #[.agg #[.string x.name, .int .i64 x.inst, .string x.at_], .int .i64 left] w fun e w' => Ans w (.int .i64 (leftOf left x.bulk)) e w' := by
 unfold Lnk.bulk
 obtain ⟨u0, u1, u2⟩ := hw
 have hb0 : Below w.heap.size w (w.alloc (Obj.cells #[.string x.name, .int .i64 x.inst, .string x.at_] 177)) := bR _ _
 have k0 : (w.alloc (Obj.cells #[.string x.name, .int .i64 x.inst, .string x.at_] 177)).heap[w.heap.size]? = some (Obj.cells #[.string x.name, .int .i64 x.inst, .string x.at_] 177) := blk_at _ _ _ rfl
 by_cases h0 : left < x.name.size
 ·have g0 : decide ((left : Int) - (x.name.size : Int) < 0) = true := by simp; omega
  go_enter Tryz.func98, Tryz.ntmps98
  go_wp2
  go_ret
  exact ⟨by rw [leftOf_neg (by omega)]; rfl, hb0⟩
 ·have g0 : decide ((left : Int) - (x.name.size : Int) < 0) = false := by simp; omega
  obtain ⟨q0, hq0⟩ : ∃ q, q = left - x.name.size := ⟨_, rfl⟩
  have eq0 : (left : Int) - (x.name.size : Int) = (q0 : Int) := by omega
  have hl0 : q0 ≤ 1048576 := by omega
  have HB0 : Hid (leftOf left (x.name.size + (x.at_.size)) = leftOf q0 (x.at_.size)) := by show _ = _; rw [leftOf_add h0, hq0]
  rw [HB0.out]
  clear HB0 hq0 h0
  by_cases h1 : q0 < x.at_.size
  ·have g1 : decide ((q0 : Int) - (x.at_.size : Int) < 0) = true := by simp; omega
   go_enter Tryz.func98, Tryz.ntmps98
   go_wp2
   go_ret
   exact ⟨by rw [leftOf_neg (by omega)]; rfl, hb0⟩
  ·have g1 : decide ((q0 : Int) - (x.at_.size : Int) < 0) = false := by simp; omega
   obtain ⟨q1, hq1⟩ : ∃ q, q = q0 - x.at_.size := ⟨_, rfl⟩
   have eq1 : (q0 : Int) - (x.at_.size : Int) = (q1 : Int) := by omega
   have hl1 : q1 ≤ 1048576 := by omega
   have HB1 : Hid (leftOf q0 (x.at_.size) = leftOf q1 0) := by show _ = _; rw [hq1, leftOf_nat h1]; simp [leftOf]
   rw [HB1.out]
   clear HB1 hq1 h1
   go_enter Tryz.func98, Tryz.ntmps98
   go_wp2
   go_ret
   exact ⟨by rw [leftOf_zero]; first | rfl | simp_all, hb0⟩
theorem sz_Link (a : Option Addr) (l : List Lnk) (cap left : Nat) (w : World) (hl : left ≤ 1048576) (hn : l.length ≤ 9223372036854775807) (hr : rgL.Row w (fun b => b < w.heap.size) a l) (hwf : ∀ d ∈ l, Lnk.wf d) :
  Calls Tryz.prog 67 #[.slice a l.length cap, .int .i64 left] w fun e w' => Ans w (.int .i64 (leftOf left (bulkOf Lnk.bulk l))) e w' := by
 by_cases h : left < l.length
 ·have HL : Hid (leftOf left (bulkOf Lnk.bulk l) = -1) := if_pos (by have := bulkOf_len Lnk.bulk l; omega)
  have hd : decide ((left : Int) - (l.length : Int) < 0) = true := by simp; omega
  go_enter Tryz.func67, Tryz.ntmps67
  go_wp2
  all_goals go_ret
  all_goals exact ⟨by rw [HL.out]; rfl, Below.refl _ _⟩
 ·have hd : decide ((left : Int) - (l.length : Int) < 0) = false := by simp; omega
  have HR : Hid (rgL.Row w (fun b => b < w.heap.size) a l) := hr
  have HW : Hid (∀ d ∈ l, Lnk.wf d) := hwf
  clear hr hwf
  go_enter Tryz.func67, Tryz.ntmps67
  go_wp2
  go_loopw [1, 5] (fun t o wr => ∃ (i m : Nat), i ≤ l.length ∧ m + bulkOf Lnk.bulk (l.take i) + (l.length - i) = left ∧ t = .int .i64 m ∧ o = .int .i64 i ∧ Below w.heap.size w wr)
   (fun _ o _ => l.length - (intOf o).toNat)
  case atStart => exact ⟨0, left - l.length, by omega, by simp [bulkOf]; omega, by go_num, rfl, Below.refl _ _⟩
  case round =>
   obtain ⟨i, m, hi, hm, rfl, rfl, hb⟩ := hrel
   by_cases hlt : i < l.length
   ·obtain ⟨d, hd⟩ : ∃ d, l[i]? = some d := ⟨_, List.getElem?_eq_getElem hlt⟩
    obtain ⟨b1, o1, cs, rfl, hbb, hat, hlies⟩ := HR.out i d hd
    obtain rfl := hat
    have cx0 : wr.cell? ⟨b1, o1 + i * 3, none⟩ = some (.string d.name) := cell_keep (hlies 0 _ rfl) hb hbb
    have cx1 : wr.cell? ⟨b1, o1 + i * 3 + 1, none⟩ = some (.int .i64 d.inst) := cell_keep (hlies 1 _ rfl) hb hbb
    have cx2 : wr.cell? ⟨b1, o1 + i * 3 + 2, none⟩ = some (.string d.at_) := cell_keep (hlies 2 _ rfl) hb hbb
    have hsz := hb.size
    have HM : Hid (m + bulkOf Lnk.bulk (l.take i) + (l.length - i) = left) := hm
    have hm' : m ≤ 1048576 := by omega
    have hbs := bulkOf_take_succ Lnk.bulk hd
    have hle := bulkOf_take_le Lnk.bulk l (i + 1)
    have HZ : Hid (Calls Tryz.prog 98 #[.agg #[.string d.name, .int .i64 d.inst, .string d.at_], .int .i64 m] wr fun e w' => Ans wr (.int .i64 (leftOf m d.bulk)) e w') := szE_Link d   m wr hm' (HW.out d (List.mem_of_getElem? hd))
    clear hm hlies hd
    by_cases hq : m < d.bulk
    ·rw [leftOf_neg hq] at HZ
     have HL : Hid (leftOf left (bulkOf Lnk.bulk l) = -1) := if_pos (by have := HM.out; omega)
     clear hbs hle
     go_wp2_with (go_at_call 98; refine HZ.out.mono ?_; rintro e w1 ⟨rfl, hb1⟩)
     go_ret
     exact ⟨by rw [HL.out]; rfl, hb.trans (hb1.mono hsz)⟩
    ·rw [leftOf_nat hq] at HZ
     have HQ : Hid ((m - d.bulk) + bulkOf Lnk.bulk (l.take (i + 1)) + (l.length - (i + 1)) = left) := by have := HM.out; show _ = _; omega
     generalize m - d.bulk = q at *
     clear hbs hle hq
     go_wp2_with (go_at_call 98; refine HZ.out.mono ?_; rintro e w1 ⟨rfl, hb1⟩)
     go_roundw
     case rel => exact ⟨i + 1, q, by omega, HQ.out, rfl, by go_num, hb.trans (hb1.mono hsz)⟩
     case measure => simp [intOf]; omega
   ·have hlt' : decide ((i : Int) < (l.length : Int)) = false := by simp; omega
    obtain rfl : i = l.length := by omega
    rw [List.take_length] at hm
    have HL : Hid (leftOf left (bulkOf Lnk.bulk l) = m) := by show _ = _; rw [show leftOf left (bulkOf Lnk.bulk l) = (left : Int) - bulkOf Lnk.bulk l from if_neg (by omega)]; omega
    clear hm
    go_wp2
    go_ret
    exact ⟨by rw [HL.out]; rfl, hb⟩
theorem szE_Type (x : Typ) (left : Nat) (w : World) (hl : left ≤ 1048576) (hw : x.wf) :
  Calls Tryz.prog 99 #[.agg #[.string x.name, .int .i64 x.size], .int .i64 left] w fun e w' => Ans w (.int .i64 (leftOf left x.bulk)) e w' := by
 unfold Typ.bulk
 obtain ⟨u0, u1⟩ := hw
 have hb0 : Below w.heap.size w (w.alloc (Obj.cells #[.string x.name, .int .i64 x.size] 180)) := bR _ _
 have k0 : (w.alloc (Obj.cells #[.string x.name, .int .i64 x.size] 180)).heap[w.heap.size]? = some (Obj.cells #[.string x.name, .int .i64 x.size] 180) := blk_at _ _ _ rfl
 by_cases h0 : left < x.name.size
 ·have g0 : decide ((left : Int) - (x.name.size : Int) < 0) = true := by simp; omega
  go_enter Tryz.func99, Tryz.ntmps99
  go_wp2
  go_ret
  exact ⟨by rw [leftOf_neg (by omega)]; rfl, hb0⟩
 ·have g0 : decide ((left : Int) - (x.name.size : Int) < 0) = false := by simp; omega
  obtain ⟨q0, hq0⟩ : ∃ q, q = left - x.name.size := ⟨_, rfl⟩
  have eq0 : (left : Int) - (x.name.size : Int) = (q0 : Int) := by omega
  have hl0 : q0 ≤ 1048576 := by omega
  have HB0 : Hid (leftOf left (x.name.size) = leftOf q0 0) := by show _ = _; rw [hq0, leftOf_nat h0]; simp [leftOf]
  rw [HB0.out]
  clear HB0 hq0 h0
  go_enter Tryz.func99, Tryz.ntmps99
  go_wp2
  go_ret
  exact ⟨by rw [leftOf_zero]; first | rfl | simp_all, hb0⟩
theorem sz_Type (a : Option Addr) (l : List Typ) (cap left : Nat) (w : World) (hl : left ≤ 1048576) (hn : l.length ≤ 9223372036854775807) (hr : rgT.Row w (fun b => b < w.heap.size) a l) (hwf : ∀ d ∈ l, Typ.wf d) :
  Calls Tryz.prog 68 #[.slice a l.length cap, .int .i64 left] w fun e w' => Ans w (.int .i64 (leftOf left (bulkOf Typ.bulk l))) e w' := by
 by_cases h : left < l.length
 ·have HL : Hid (leftOf left (bulkOf Typ.bulk l) = -1) := if_pos (by have := bulkOf_len Typ.bulk l; omega)
  have hd : decide ((left : Int) - (l.length : Int) < 0) = true := by simp; omega
  go_enter Tryz.func68, Tryz.ntmps68
  go_wp2
  all_goals go_ret
  all_goals exact ⟨by rw [HL.out]; rfl, Below.refl _ _⟩
 ·have hd : decide ((left : Int) - (l.length : Int) < 0) = false := by simp; omega
  have HR : Hid (rgT.Row w (fun b => b < w.heap.size) a l) := hr
  have HW : Hid (∀ d ∈ l, Typ.wf d) := hwf
  clear hr hwf
  go_enter Tryz.func68, Tryz.ntmps68
  go_wp2
  go_loopw [1, 5] (fun t o wr => ∃ (i m : Nat), i ≤ l.length ∧ m + bulkOf Typ.bulk (l.take i) + (l.length - i) = left ∧ t = .int .i64 m ∧ o = .int .i64 i ∧ Below w.heap.size w wr)
   (fun _ o _ => l.length - (intOf o).toNat)
  case atStart => exact ⟨0, left - l.length, by omega, by simp [bulkOf]; omega, by go_num, rfl, Below.refl _ _⟩
  case round =>
   obtain ⟨i, m, hi, hm, rfl, rfl, hb⟩ := hrel
   by_cases hlt : i < l.length
   ·obtain ⟨d, hd⟩ : ∃ d, l[i]? = some d := ⟨_, List.getElem?_eq_getElem hlt⟩
    obtain ⟨b1, o1, cs, rfl, hbb, hat, hlies⟩ := HR.out i d hd
    obtain rfl := hat
    have cx0 : wr.cell? ⟨b1, o1 + i * 2, none⟩ = some (.string d.name) := cell_keep (hlies 0 _ rfl) hb hbb
    have cx1 : wr.cell? ⟨b1, o1 + i * 2 + 1, none⟩ = some (.int .i64 d.size) := cell_keep (hlies 1 _ rfl) hb hbb
    have hsz := hb.size
    have HM : Hid (m + bulkOf Typ.bulk (l.take i) + (l.length - i) = left) := hm
    have hm' : m ≤ 1048576 := by omega
    have hbs := bulkOf_take_succ Typ.bulk hd
    have hle := bulkOf_take_le Typ.bulk l (i + 1)
    have HZ : Hid (Calls Tryz.prog 99 #[.agg #[.string d.name, .int .i64 d.size], .int .i64 m] wr fun e w' => Ans wr (.int .i64 (leftOf m d.bulk)) e w') := szE_Type d   m wr hm' (HW.out d (List.mem_of_getElem? hd))
    clear hm hlies hd
    by_cases hq : m < d.bulk
    ·rw [leftOf_neg hq] at HZ
     have HL : Hid (leftOf left (bulkOf Typ.bulk l) = -1) := if_pos (by have := HM.out; omega)
     clear hbs hle
     go_wp2_with (go_at_call 99; refine HZ.out.mono ?_; rintro e w1 ⟨rfl, hb1⟩)
     go_ret
     exact ⟨by rw [HL.out]; rfl, hb.trans (hb1.mono hsz)⟩
    ·rw [leftOf_nat hq] at HZ
     have HQ : Hid ((m - d.bulk) + bulkOf Typ.bulk (l.take (i + 1)) + (l.length - (i + 1)) = left) := by have := HM.out; show _ = _; omega
     generalize m - d.bulk = q at *
     clear hbs hle hq
     go_wp2_with (go_at_call 99; refine HZ.out.mono ?_; rintro e w1 ⟨rfl, hb1⟩)
     go_roundw
     case rel => exact ⟨i + 1, q, by omega, HQ.out, rfl, by go_num, hb.trans (hb1.mono hsz)⟩
     case measure => simp [intOf]; omega
   ·have hlt' : decide ((i : Int) < (l.length : Int)) = false := by simp; omega
    obtain rfl : i = l.length := by omega
    rw [List.take_length] at hm
    have HL : Hid (leftOf left (bulkOf Typ.bulk l) = m) := by show _ = _; rw [show leftOf left (bulkOf Typ.bulk l) = (left : Int) - bulkOf Typ.bulk l from if_neg (by omega)]; omega
    clear hm
    go_wp2
    go_ret
    exact ⟨by rw [HL.out]; rfl, hb⟩
theorem szE_Inst (x : Ins) (a1 a2 a3 a4 : Option Addr) (c1 c2 c3 c4 : Nat) (left : Nat) (w : World) (hl : left ≤ 1048576) (hw : x.wf) (hr : InsRows w (fun b => b < w.heap.size) a1 a2 a3 a4 c1 c2 c3 c4 x) :
  Calls Tryz.prog 39 #[.agg #[.string x.lib, .int .i64 x.ver, .slice a1 x.names.length c1, .slice a2 x.vals.length c2, .slice a3 x.links.length c3, .slice a4 x.types.length c4], .int .i64 left] w fun e w' => Ans w (.int .i64 (leftOf left x.bulk)) e w' := by
 unfold Ins.bulk
 obtain ⟨u0, u1, u2, u3, u4, u5⟩ := hw
 obtain ⟨⟨r1, t1⟩, ⟨r2, t2⟩, ⟨r3, t3⟩, ⟨r4, t4⟩⟩ := hr
 have hb0 : Below w.heap.size w (w.alloc (Obj.cells #[.string x.lib, .int .i64 x.ver, .slice a1 x.names.length c1, .slice a2 x.vals.length c2, .slice a3 x.links.length c3, .slice a4 x.types.length c4] 84)) := bR _ _
 have k0 : (w.alloc (Obj.cells #[.string x.lib, .int .i64 x.ver, .slice a1 x.names.length c1, .slice a2 x.vals.length c2, .slice a3 x.links.length c3, .slice a4 x.types.length c4] 84)).heap[w.heap.size]? = some (Obj.cells #[.string x.lib, .int .i64 x.ver, .slice a1 x.names.length c1, .slice a2 x.vals.length c2, .slice a3 x.links.length c3, .slice a4 x.types.length c4] 84) := blk_at _ _ _ rfl
 by_cases h0 : left < x.lib.size
 ·have g0 : decide ((left : Int) - (x.lib.size : Int) < 0) = true := by simp; omega
  go_enter Tryz.func39, Tryz.ntmps39
  go_wp2
  go_ret
  exact ⟨by rw [leftOf_neg (by omega)]; rfl, hb0⟩
 ·have g0 : decide ((left : Int) - (x.lib.size : Int) < 0) = false := by simp; omega
  obtain ⟨q0, hq0⟩ : ∃ q, q = left - x.lib.size := ⟨_, rfl⟩
  have eq0 : (left : Int) - (x.lib.size : Int) = (q0 : Int) := by omega
  have hl0 : q0 ≤ 1048576 := by omega
  have HB0 : Hid (leftOf left (x.lib.size + (bulkS x.names + (bulkV x.vals + (bulkOf Lnk.bulk x.links + (bulkOf Typ.bulk x.types))))) = leftOf q0 (bulkS x.names + (bulkV x.vals + (bulkOf Lnk.bulk x.links + (bulkOf Typ.bulk x.types))))) := by show _ = _; rw [leftOf_add h0, hq0]
  rw [HB0.out]
  clear HB0 hq0 h0
  have hlc : q0 ≤ 1048576 := by omega
  have HC1 : Hid (∀ w2, Below w.heap.size w w2 → Calls Tryz.prog 15 #[.slice a1 x.names.length c1, .int .i64 q0] w2 fun e w' => Ans w2 (.int .i64 (leftOf q0 (bulkS x.names))) e w') := fun w2 h2 => sz_string a1 x.names c1 q0 w2 hlc (u2.1) (r1.keep fun b h => ⟨by have := h2.size; omega, h2.block b h⟩) u2.2
  clear hlc
  by_cases h1 : q0 < bulkS x.names
  ·rw [leftOf_neg h1] at HC1
   go_enter Tryz.func39, Tryz.ntmps39
   go_wp2_with fail
   try rw [eq0]
   refine (HC1.out _ hb0).mono ?_
   rintro e v0 ⟨rfl, hv0⟩
   have hbv0 : Below w.heap.size w v0 := bT hb0 hv0
   have k1 := bK k0 hv0
   obtain ⟨z0_0, z0_1, z0_2, z0_3, z0_4, z0_5⟩ := zn6 k1 rfl rfl rfl rfl rfl rfl
   go_wp2
   go_ret
   exact ⟨by rw [leftOf_neg (by omega)]; rfl, hbv0⟩
  ·rw [leftOf_nat h1] at HC1
   have HB1 : Hid (leftOf q0 (bulkS x.names + (bulkV x.vals + (bulkOf Lnk.bulk x.links + (bulkOf Typ.bulk x.types)))) = leftOf (q0 - bulkS x.names) (bulkV x.vals + (bulkOf Lnk.bulk x.links + (bulkOf Typ.bulk x.types)))) := by show _ = _; rw [leftOf_add h1]
   rw [HB1.out]
   have hl1 : q0 - bulkS x.names ≤ 1048576 := by omega
   clear HB1 h1
   generalize q0 - bulkS x.names = q1 at *
   have hlc : q1 ≤ 1048576 := by omega
   have HC2 : Hid (∀ w2, Below w.heap.size w w2 → Calls Tryz.prog 66 #[.slice a2 x.vals.length c2, .int .i64 q1] w2 fun e w' => Ans w2 (.int .i64 (leftOf q1 (bulkV x.vals))) e w') := fun w2 h2 => sz_Value a2 x.vals c2 q1 w2 hlc (u3.1) (r2.keep fun b h => ⟨by have := h2.size; omega, h2.block b h⟩) u3.2
   clear hlc
   by_cases h2 : q1 < bulkV x.vals
   ·rw [leftOf_neg h2] at HC2
    go_enter Tryz.func39, Tryz.ntmps39
    go_wp2_with fail
    try rw [eq0]
    refine (HC1.out _ hb0).mono ?_
    rintro e v0 ⟨rfl, hv0⟩
    have hbv0 : Below w.heap.size w v0 := bT hb0 hv0
    have k1 := bK k0 hv0
    obtain ⟨z0_0, z0_1, z0_2, z0_3, z0_4, z0_5⟩ := zn6 k1 rfl rfl rfl rfl rfl rfl
    go_wp2_with fail
    try rw [eq0]
    refine (HC2.out _ hbv0).mono ?_
    rintro e v1 ⟨rfl, hv1⟩
    have hbv1 : Below w.heap.size w v1 := bT hbv0 hv1
    have k2 := bK k1 hv1
    obtain ⟨z1_0, z1_1, z1_2, z1_3, z1_4, z1_5⟩ := zn6 k2 rfl rfl rfl rfl rfl rfl
    go_wp2
    go_ret
    exact ⟨by rw [leftOf_neg (by omega)]; rfl, hbv1⟩
   ·rw [leftOf_nat h2] at HC2
    have HB2 : Hid (leftOf q1 (bulkV x.vals + (bulkOf Lnk.bulk x.links + (bulkOf Typ.bulk x.types))) = leftOf (q1 - bulkV x.vals) (bulkOf Lnk.bulk x.links + (bulkOf Typ.bulk x.types))) := by show _ = _; rw [leftOf_add h2]
    rw [HB2.out]
    have hl2 : q1 - bulkV x.vals ≤ 1048576 := by omega
    clear HB2 h2
    generalize q1 - bulkV x.vals = q2 at *
    have hlc : q2 ≤ 1048576 := by omega
    have HC3 : Hid (∀ w2, Below w.heap.size w w2 → Calls Tryz.prog 67 #[.slice a3 x.links.length c3, .int .i64 q2] w2 fun e w' => Ans w2 (.int .i64 (leftOf q2 (bulkOf Lnk.bulk x.links))) e w') := fun w2 h2 => sz_Link a3 x.links c3 q2 w2 hlc (u4.1) (r3.keep fun b h => ⟨by have := h2.size; omega, h2.block b h⟩) u4.2
    clear hlc
    by_cases h3 : q2 < bulkOf Lnk.bulk x.links
    ·rw [leftOf_neg h3] at HC3
     go_enter Tryz.func39, Tryz.ntmps39
     go_wp2_with fail
     try rw [eq0]
     refine (HC1.out _ hb0).mono ?_
     rintro e v0 ⟨rfl, hv0⟩
     have hbv0 : Below w.heap.size w v0 := bT hb0 hv0
     have k1 := bK k0 hv0
     obtain ⟨z0_0, z0_1, z0_2, z0_3, z0_4, z0_5⟩ := zn6 k1 rfl rfl rfl rfl rfl rfl
     go_wp2_with fail
     try rw [eq0]
     refine (HC2.out _ hbv0).mono ?_
     rintro e v1 ⟨rfl, hv1⟩
     have hbv1 : Below w.heap.size w v1 := bT hbv0 hv1
     have k2 := bK k1 hv1
     obtain ⟨z1_0, z1_1, z1_2, z1_3, z1_4, z1_5⟩ := zn6 k2 rfl rfl rfl rfl rfl rfl
     go_wp2_with fail
     try rw [eq0]
     refine (HC3.out _ hbv1).mono ?_
     rintro e v2 ⟨rfl, hv2⟩
     have hbv2 : Below w.heap.size w v2 := bT hbv1 hv2
     have k3 := bK k2 hv2
     obtain ⟨z2_0, z2_1, z2_2, z2_3, z2_4, z2_5⟩ := zn6 k3 rfl rfl rfl rfl rfl rfl
     go_wp2
     go_ret
     exact ⟨by rw [leftOf_neg (by omega)]; rfl, hbv2⟩
    ·rw [leftOf_nat h3] at HC3
     have HB3 : Hid (leftOf q2 (bulkOf Lnk.bulk x.links + (bulkOf Typ.bulk x.types)) = leftOf (q2 - bulkOf Lnk.bulk x.links) (bulkOf Typ.bulk x.types)) := by show _ = _; rw [leftOf_add h3]
     rw [HB3.out]
     have hl3 : q2 - bulkOf Lnk.bulk x.links ≤ 1048576 := by omega
     clear HB3 h3
     generalize q2 - bulkOf Lnk.bulk x.links = q3 at *
     have hlc : q3 ≤ 1048576 := by omega
     have HC4 : Hid (∀ w2, Below w.heap.size w w2 → Calls Tryz.prog 68 #[.slice a4 x.types.length c4, .int .i64 q3] w2 fun e w' => Ans w2 (.int .i64 (leftOf q3 (bulkOf Typ.bulk x.types))) e w') := fun w2 h2 => sz_Type a4 x.types c4 q3 w2 hlc (u5.1) (r4.keep fun b h => ⟨by have := h2.size; omega, h2.block b h⟩) u5.2
     clear hlc
     by_cases h4 : q3 < bulkOf Typ.bulk x.types
     ·rw [leftOf_neg h4] at HC4
      go_enter Tryz.func39, Tryz.ntmps39
      go_wp2_with fail
      try rw [eq0]
      refine (HC1.out _ hb0).mono ?_
      rintro e v0 ⟨rfl, hv0⟩
      have hbv0 : Below w.heap.size w v0 := bT hb0 hv0
      have k1 := bK k0 hv0
      obtain ⟨z0_0, z0_1, z0_2, z0_3, z0_4, z0_5⟩ := zn6 k1 rfl rfl rfl rfl rfl rfl
      go_wp2_with fail
      try rw [eq0]
      refine (HC2.out _ hbv0).mono ?_
      rintro e v1 ⟨rfl, hv1⟩
      have hbv1 : Below w.heap.size w v1 := bT hbv0 hv1
      have k2 := bK k1 hv1
      obtain ⟨z1_0, z1_1, z1_2, z1_3, z1_4, z1_5⟩ := zn6 k2 rfl rfl rfl rfl rfl rfl
      go_wp2_with fail
      try rw [eq0]
      refine (HC3.out _ hbv1).mono ?_
      rintro e v2 ⟨rfl, hv2⟩
      have hbv2 : Below w.heap.size w v2 := bT hbv1 hv2
      have k3 := bK k2 hv2
      obtain ⟨z2_0, z2_1, z2_2, z2_3, z2_4, z2_5⟩ := zn6 k3 rfl rfl rfl rfl rfl rfl
      go_wp2_with fail
      try rw [eq0]
      refine (HC4.out _ hbv2).mono ?_
      rintro e v3 ⟨rfl, hv3⟩
      have hbv3 : Below w.heap.size w v3 := bT hbv2 hv3
      have k4 := bK k3 hv3
      obtain ⟨z3_0, z3_1, z3_2, z3_3, z3_4, z3_5⟩ := zn6 k4 rfl rfl rfl rfl rfl rfl
      go_wp2
      go_ret
      exact ⟨by rw [leftOf_neg (by omega)]; rfl, hbv3⟩
     ·rw [leftOf_nat h4] at HC4
      have HB4 : Hid (leftOf q3 (bulkOf Typ.bulk x.types) = leftOf (q3 - bulkOf Typ.bulk x.types) 0) := by show _ = _; rw [leftOf_nat h4]; simp [leftOf]
      rw [HB4.out]
      have hl4 : q3 - bulkOf Typ.bulk x.types ≤ 1048576 := by omega
      clear HB4 h4
      generalize q3 - bulkOf Typ.bulk x.types = q4 at *
      go_enter Tryz.func39, Tryz.ntmps39
      go_wp2_with fail
      try rw [eq0]
      refine (HC1.out _ hb0).mono ?_
      rintro e v0 ⟨rfl, hv0⟩
      have hbv0 : Below w.heap.size w v0 := bT hb0 hv0
      have k1 := bK k0 hv0
      obtain ⟨z0_0, z0_1, z0_2, z0_3, z0_4, z0_5⟩ := zn6 k1 rfl rfl rfl rfl rfl rfl
      go_wp2_with fail
      try rw [eq0]
      refine (HC2.out _ hbv0).mono ?_
      rintro e v1 ⟨rfl, hv1⟩
      have hbv1 : Below w.heap.size w v1 := bT hbv0 hv1
      have k2 := bK k1 hv1
      obtain ⟨z1_0, z1_1, z1_2, z1_3, z1_4, z1_5⟩ := zn6 k2 rfl rfl rfl rfl rfl rfl
      go_wp2_with fail
      try rw [eq0]
      refine (HC3.out _ hbv1).mono ?_
      rintro e v2 ⟨rfl, hv2⟩
      have hbv2 : Below w.heap.size w v2 := bT hbv1 hv2
      have k3 := bK k2 hv2
      obtain ⟨z2_0, z2_1, z2_2, z2_3, z2_4, z2_5⟩ := zn6 k3 rfl rfl rfl rfl rfl rfl
      go_wp2_with fail
      try rw [eq0]
      refine (HC4.out _ hbv2).mono ?_
      rintro e v3 ⟨rfl, hv3⟩
      have hbv3 : Below w.heap.size w v3 := bT hbv2 hv3
      have k4 := bK k3 hv3
      obtain ⟨z3_0, z3_1, z3_2, z3_3, z3_4, z3_5⟩ := zn6 k4 rfl rfl rfl rfl rfl rfl
      go_wp2
      go_ret
      exact ⟨by rw [leftOf_zero]; first | rfl | simp_all, hbv3⟩
theorem sz_Inst (a : Option Addr) (l : List Ins) (cap left : Nat) (w : World) (hl : left ≤ 1048576) (hn : l.length ≤ 9223372036854775807) (hr : rgX.Row w (fun b => b < w.heap.size) a l) (hwf : ∀ d ∈ l, Ins.wf d) :
  Calls Tryz.prog 13 #[.slice a l.length cap, .int .i64 left] w fun e w' => Ans w (.int .i64 (leftOf left (bulkOf Ins.bulk l))) e w' := by
 by_cases h : left < l.length
 ·have HL : Hid (leftOf left (bulkOf Ins.bulk l) = -1) := if_pos (by have := bulkOf_len Ins.bulk l; omega)
  have hd : decide ((left : Int) - (l.length : Int) < 0) = true := by simp; omega
  go_enter Tryz.func13, Tryz.ntmps13
  go_wp2
  all_goals go_ret
  all_goals exact ⟨by rw [HL.out]; rfl, Below.refl _ _⟩
 ·have hd : decide ((left : Int) - (l.length : Int) < 0) = false := by simp; omega
  have HR : Hid (rgX.Row w (fun b => b < w.heap.size) a l) := hr
  have HW : Hid (∀ d ∈ l, Ins.wf d) := hwf
  clear hr hwf
  go_enter Tryz.func13, Tryz.ntmps13
  go_wp2
  go_loopw [1, 5] (fun t o wr => ∃ (i m : Nat), i ≤ l.length ∧ m + bulkOf Ins.bulk (l.take i) + (l.length - i) = left ∧ t = .int .i64 m ∧ o = .int .i64 i ∧ Below w.heap.size w wr)
   (fun _ o _ => l.length - (intOf o).toNat)
  case atStart => exact ⟨0, left - l.length, by omega, by simp [bulkOf]; omega, by go_num, rfl, Below.refl _ _⟩
  case round =>
   obtain ⟨i, m, hi, hm, rfl, rfl, hb⟩ := hrel
   by_cases hlt : i < l.length
   ·obtain ⟨d, hd⟩ : ∃ d, l[i]? = some d := ⟨_, List.getElem?_eq_getElem hlt⟩
    obtain ⟨b1, o1, cs, rfl, hbb, hat, hlies⟩ := HR.out i d hd
    obtain ⟨a1, a2, a3, a4, c1, c2, c3, c4, rfl, hrows⟩ := hat
    have cx0 : wr.cell? ⟨b1, o1 + i * 6, none⟩ = some (.string d.lib) := cell_keep (hlies 0 _ rfl) hb hbb
    have cx1 : wr.cell? ⟨b1, o1 + i * 6 + 1, none⟩ = some (.int .i64 d.ver) := cell_keep (hlies 1 _ rfl) hb hbb
    have cx2 : wr.cell? ⟨b1, o1 + i * 6 + 2, none⟩ = some (.slice a1 d.names.length c1) := cell_keep (hlies 2 _ rfl) hb hbb
    have cx3 : wr.cell? ⟨b1, o1 + i * 6 + 3, none⟩ = some (.slice a2 d.vals.length c2) := cell_keep (hlies 3 _ rfl) hb hbb
    have cx4 : wr.cell? ⟨b1, o1 + i * 6 + 4, none⟩ = some (.slice a3 d.links.length c3) := cell_keep (hlies 4 _ rfl) hb hbb
    have cx5 : wr.cell? ⟨b1, o1 + i * 6 + 5, none⟩ = some (.slice a4 d.types.length c4) := cell_keep (hlies 5 _ rfl) hb hbb
    have hsz := hb.size
    have HM : Hid (m + bulkOf Ins.bulk (l.take i) + (l.length - i) = left) := hm
    have hm' : m ≤ 1048576 := by omega
    have hbs := bulkOf_take_succ Ins.bulk hd
    have hle := bulkOf_take_le Ins.bulk l (i + 1)
    have HZ : Hid (Calls Tryz.prog 39 #[.agg #[.string d.lib, .int .i64 d.ver, .slice a1 d.names.length c1, .slice a2 d.vals.length c2, .slice a3 d.links.length c3, .slice a4 d.types.length c4], .int .i64 m] wr fun e w' => Ans wr (.int .i64 (leftOf m d.bulk)) e w') := szE_Inst d a1 a2 a3 a4 c1 c2 c3 c4 m wr hm' (HW.out d (List.mem_of_getElem? hd)) (hrows.keep fun b h => ⟨by have := hb.size; omega, hb.block b h⟩)
    clear hm hlies hd hrows
    by_cases hq : m < d.bulk
    ·rw [leftOf_neg hq] at HZ
     have HL : Hid (leftOf left (bulkOf Ins.bulk l) = -1) := if_pos (by have := HM.out; omega)
     clear hbs hle
     go_wp2_with (go_at_call 39; refine HZ.out.mono ?_; rintro e w1 ⟨rfl, hb1⟩)
     go_ret
     exact ⟨by rw [HL.out]; rfl, hb.trans (hb1.mono hsz)⟩
    ·rw [leftOf_nat hq] at HZ
     have HQ : Hid ((m - d.bulk) + bulkOf Ins.bulk (l.take (i + 1)) + (l.length - (i + 1)) = left) := by have := HM.out; show _ = _; omega
     generalize m - d.bulk = q at *
     clear hbs hle hq
     go_wp2_with (go_at_call 39; refine HZ.out.mono ?_; rintro e w1 ⟨rfl, hb1⟩)
     go_roundw
     case rel => exact ⟨i + 1, q, by omega, HQ.out, rfl, by go_num, hb.trans (hb1.mono hsz)⟩
     case measure => simp [intOf]; omega
   ·have hlt' : decide ((i : Int) < (l.length : Int)) = false := by simp; omega
    obtain rfl : i = l.length := by omega
    rw [List.take_length] at hm
    have HL : Hid (leftOf left (bulkOf Ins.bulk l) = m) := by show _ = _; rw [show leftOf left (bulkOf Ins.bulk l) = (left : Int) - bulkOf Ins.bulk l from if_neg (by omega)]; omega
    clear hm
    go_wp2
    go_ret
    exact ⟨by rw [HL.out]; rfl, hb⟩
theorem szE_Unit (x : Unt) (a1 : Option Addr) (c1 : Nat) (left : Nat) (w : World) (hl : left ≤ 1048576) (hw : x.wf) (hr : UntRows w (fun b => b < w.heap.size) a1 c1 x) :
  Calls Tryz.prog 40 #[.agg #[.int .i64 x.home, .slice a1 x.prog.nodes.length c1, .int .i64 x.prog.root], .int .i64 left] w fun e w' => Ans w (.int .i64 (leftOf left x.bulk)) e w' := by
 unfold Unt.bulk
 obtain ⟨u0, u1⟩ := hw
 obtain ⟨r1, t1⟩ := hr
 have hb0 : Below w.heap.size w (w.alloc (Obj.cells #[.int .i64 x.home, .slice a1 x.prog.nodes.length c1, .int .i64 x.prog.root] 90)) := bR _ _
 have k0 : (w.alloc (Obj.cells #[.int .i64 x.home, .slice a1 x.prog.nodes.length c1, .int .i64 x.prog.root] 90)).heap[w.heap.size]? = some (Obj.cells #[.int .i64 x.home, .slice a1 x.prog.nodes.length c1, .int .i64 x.prog.root] 90) := blk_at _ _ _ rfl
 have hlc : left ≤ 1048576 := by omega
 have HC0 : Hid (∀ w2, Below w.heap.size w w2 → Calls Tryz.prog 69 #[.agg #[.slice a1 x.prog.nodes.length c1, .int .i64 x.prog.root], .int .i64 left] w2 fun e w' => Ans w2 (.int .i64 (leftOf left (x.prog.bulk))) e w') := fun w2 h2 => szE_Prog x.prog a1 c1 left w2 hlc u1 (PrgRows.keep (w := w) (p := (fun b => b < w.heap.size)) ⟨r1, t1⟩ fun b h => ⟨by have := h2.size; omega, h2.block b h⟩)
 clear hlc
 by_cases h0 : left < x.prog.bulk
 ·rw [leftOf_neg h0] at HC0
  go_enter Tryz.func40, Tryz.ntmps40
  go_wp2_with fail
  refine (HC0.out _ hb0).mono ?_
  rintro e v0 ⟨rfl, hv0⟩
  have hbv0 : Below w.heap.size w v0 := bT hb0 hv0
  have k1 := bK k0 hv0
  obtain ⟨z0_0, z0_1, z0_2⟩ := zn3 k1 rfl rfl rfl
  go_wp2
  go_ret
  exact ⟨by rw [leftOf_neg (by omega)]; rfl, hbv0⟩
 ·rw [leftOf_nat h0] at HC0
  have HB0 : Hid (leftOf left (x.prog.bulk) = leftOf (left - x.prog.bulk) 0) := by show _ = _; rw [leftOf_nat h0]; simp [leftOf]
  rw [HB0.out]
  have hl0 : left - x.prog.bulk ≤ 1048576 := by omega
  clear HB0 h0
  generalize left - x.prog.bulk = q0 at *
  go_enter Tryz.func40, Tryz.ntmps40
  go_wp2_with fail
  refine (HC0.out _ hb0).mono ?_
  rintro e v0 ⟨rfl, hv0⟩
  have hbv0 : Below w.heap.size w v0 := bT hb0 hv0
  have k1 := bK k0 hv0
  obtain ⟨z0_0, z0_1, z0_2⟩ := zn3 k1 rfl rfl rfl
  go_wp2
  go_ret
  exact ⟨by rw [leftOf_zero]; first | rfl | simp_all, hbv0⟩
theorem sz_Unit (a : Option Addr) (l : List Unt) (cap left : Nat) (w : World) (hl : left ≤ 1048576) (hn : l.length ≤ 9223372036854775807) (hr : rgU.Row w (fun b => b < w.heap.size) a l) (hwf : ∀ d ∈ l, Unt.wf d) :
  Calls Tryz.prog 14 #[.slice a l.length cap, .int .i64 left] w fun e w' => Ans w (.int .i64 (leftOf left (bulkOf Unt.bulk l))) e w' := by
 by_cases h : left < l.length
 ·have HL : Hid (leftOf left (bulkOf Unt.bulk l) = -1) := if_pos (by have := bulkOf_len Unt.bulk l; omega)
  have hd : decide ((left : Int) - (l.length : Int) < 0) = true := by simp; omega
  go_enter Tryz.func14, Tryz.ntmps14
  go_wp2
  all_goals go_ret
  all_goals exact ⟨by rw [HL.out]; rfl, Below.refl _ _⟩
 ·have hd : decide ((left : Int) - (l.length : Int) < 0) = false := by simp; omega
  have HR : Hid (rgU.Row w (fun b => b < w.heap.size) a l) := hr
  have HW : Hid (∀ d ∈ l, Unt.wf d) := hwf
  clear hr hwf
  go_enter Tryz.func14, Tryz.ntmps14
  go_wp2
  go_loopw [1, 5] (fun t o wr => ∃ (i m : Nat), i ≤ l.length ∧ m + bulkOf Unt.bulk (l.take i) + (l.length - i) = left ∧ t = .int .i64 m ∧ o = .int .i64 i ∧ Below w.heap.size w wr)
   (fun _ o _ => l.length - (intOf o).toNat)
  case atStart => exact ⟨0, left - l.length, by omega, by simp [bulkOf]; omega, by go_num, rfl, Below.refl _ _⟩
  case round =>
   obtain ⟨i, m, hi, hm, rfl, rfl, hb⟩ := hrel
   by_cases hlt : i < l.length
   ·obtain ⟨d, hd⟩ : ∃ d, l[i]? = some d := ⟨_, List.getElem?_eq_getElem hlt⟩
    obtain ⟨b1, o1, cs, rfl, hbb, hat, hlies⟩ := HR.out i d hd
    obtain ⟨a1, c1, rfl, hrows⟩ := hat
    have cx0 : wr.cell? ⟨b1, o1 + i * 3, none⟩ = some (.int .i64 d.home) := cell_keep (hlies 0 _ rfl) hb hbb
    have cx1 : wr.cell? ⟨b1, o1 + i * 3 + 1, none⟩ = some (.slice a1 d.prog.nodes.length c1) := cell_keep (hlies 1 _ rfl) hb hbb
    have cx2 : wr.cell? ⟨b1, o1 + i * 3 + 2, none⟩ = some (.int .i64 d.prog.root) := cell_keep (hlies 2 _ rfl) hb hbb
    have hsz := hb.size
    have HM : Hid (m + bulkOf Unt.bulk (l.take i) + (l.length - i) = left) := hm
    have hm' : m ≤ 1048576 := by omega
    have hbs := bulkOf_take_succ Unt.bulk hd
    have hle := bulkOf_take_le Unt.bulk l (i + 1)
    have HZ : Hid (Calls Tryz.prog 40 #[.agg #[.int .i64 d.home, .slice a1 d.prog.nodes.length c1, .int .i64 d.prog.root], .int .i64 m] wr fun e w' => Ans wr (.int .i64 (leftOf m d.bulk)) e w') := szE_Unit d a1 c1 m wr hm' (HW.out d (List.mem_of_getElem? hd)) (hrows.keep fun b h => ⟨by have := hb.size; omega, hb.block b h⟩)
    clear hm hlies hd hrows
    by_cases hq : m < d.bulk
    ·rw [leftOf_neg hq] at HZ
     have HL : Hid (leftOf left (bulkOf Unt.bulk l) = -1) := if_pos (by have := HM.out; omega)
     clear hbs hle
     go_wp2_with (go_at_call 40; refine HZ.out.mono ?_; rintro e w1 ⟨rfl, hb1⟩)
     go_ret
     exact ⟨by rw [HL.out]; rfl, hb.trans (hb1.mono hsz)⟩
    ·rw [leftOf_nat hq] at HZ
     have HQ : Hid ((m - d.bulk) + bulkOf Unt.bulk (l.take (i + 1)) + (l.length - (i + 1)) = left) := by have := HM.out; show _ = _; omega
     generalize m - d.bulk = q at *
     clear hbs hle hq
     go_wp2_with (go_at_call 40; refine HZ.out.mono ?_; rintro e w1 ⟨rfl, hb1⟩)
     go_roundw
     case rel => exact ⟨i + 1, q, by omega, HQ.out, rfl, by go_num, hb.trans (hb1.mono hsz)⟩
     case measure => simp [intOf]; omega
   ·have hlt' : decide ((i : Int) < (l.length : Int)) = false := by simp; omega
    obtain rfl : i = l.length := by omega
    rw [List.take_length] at hm
    have HL : Hid (leftOf left (bulkOf Unt.bulk l) = m) := by show _ = _; rw [show leftOf left (bulkOf Unt.bulk l) = (left : Int) - bulkOf Unt.bulk l from if_neg (by omega)]; omega
    clear hm
    go_wp2
    go_ret
    exact ⟨by rw [HL.out]; rfl, hb⟩
theorem szE_Sys (x : Sy) (a1 a2 a3 a4 : Option Addr) (c1 c2 c3 c4 : Nat) (left : Nat) (w : World) (hl : left ≤ 1048576) (hw : x.wf) (hr : SyRows w (fun b => b < w.heap.size) a1 a2 a3 a4 c1 c2 c3 c4 x) :
  Calls Tryz.prog 4 #[.agg #[.slice a1 x.heap.length c1, .slice a2 x.insts.length c2, .slice a3 x.units.length c3, .slice a4 x.out.length c4], .int .i64 left] w fun e w' => Ans w (.int .i64 (leftOf left x.bulk)) e w' := by
 unfold Sy.bulk
 obtain ⟨u0, u1, u2, u3⟩ := hw
 obtain ⟨⟨r1, t1⟩, ⟨r2, t2⟩, ⟨r3, t3⟩, ⟨r4, t4⟩⟩ := hr
 have hb0 : Below w.heap.size w (w.alloc (Obj.cells #[.slice a1 x.heap.length c1, .slice a2 x.insts.length c2, .slice a3 x.units.length c3, .slice a4 x.out.length c4] 27)) := bR _ _
 have k0 : (w.alloc (Obj.cells #[.slice a1 x.heap.length c1, .slice a2 x.insts.length c2, .slice a3 x.units.length c3, .slice a4 x.out.length c4] 27)).heap[w.heap.size]? = some (Obj.cells #[.slice a1 x.heap.length c1, .slice a2 x.insts.length c2, .slice a3 x.units.length c3, .slice a4 x.out.length c4] 27) := blk_at _ _ _ rfl
 have hlc : left ≤ 1048576 := by omega
 have HC0 : Hid (∀ w2, Below w.heap.size w w2 → Calls Tryz.prog 12 #[.slice a1 x.heap.length c1, .int .i64 left] w2 fun e w' => Ans w2 (.int .i64 (leftOf left (bulkC x.heap))) e w') := fun w2 h2 => sz_Cell a1 x.heap c1 left w2 hlc (u0.1) (r1.keep fun b h => ⟨by have := h2.size; omega, h2.block b h⟩) u0.2
 clear hlc
 by_cases h0 : left < bulkC x.heap
 ·rw [leftOf_neg h0] at HC0
  go_enter Tryz.func4, Tryz.ntmps4
  go_wp2_with fail
  refine (HC0.out _ hb0).mono ?_
  rintro e v0 ⟨rfl, hv0⟩
  have hbv0 : Below w.heap.size w v0 := bT hb0 hv0
  have k1 := bK k0 hv0
  obtain ⟨z0_0, z0_1, z0_2, z0_3⟩ := zn4 k1 rfl rfl rfl rfl
  go_wp2
  go_ret
  exact ⟨by rw [leftOf_neg (by omega)]; rfl, hbv0⟩
 ·rw [leftOf_nat h0] at HC0
  have HB0 : Hid (leftOf left (bulkC x.heap + (bulkOf Ins.bulk x.insts + (bulkOf Unt.bulk x.units + (bulkS x.out)))) = leftOf (left - bulkC x.heap) (bulkOf Ins.bulk x.insts + (bulkOf Unt.bulk x.units + (bulkS x.out)))) := by show _ = _; rw [leftOf_add h0]
  rw [HB0.out]
  have hl0 : left - bulkC x.heap ≤ 1048576 := by omega
  clear HB0 h0
  generalize left - bulkC x.heap = q0 at *
  have hlc : q0 ≤ 1048576 := by omega
  have HC1 : Hid (∀ w2, Below w.heap.size w w2 → Calls Tryz.prog 13 #[.slice a2 x.insts.length c2, .int .i64 q0] w2 fun e w' => Ans w2 (.int .i64 (leftOf q0 (bulkOf Ins.bulk x.insts))) e w') := fun w2 h2 => sz_Inst a2 x.insts c2 q0 w2 hlc (u1.1) (r2.keep fun b h => ⟨by have := h2.size; omega, h2.block b h⟩) u1.2
  clear hlc
  by_cases h1 : q0 < bulkOf Ins.bulk x.insts
  ·rw [leftOf_neg h1] at HC1
   go_enter Tryz.func4, Tryz.ntmps4
   go_wp2_with fail
   refine (HC0.out _ hb0).mono ?_
   rintro e v0 ⟨rfl, hv0⟩
   have hbv0 : Below w.heap.size w v0 := bT hb0 hv0
   have k1 := bK k0 hv0
   obtain ⟨z0_0, z0_1, z0_2, z0_3⟩ := zn4 k1 rfl rfl rfl rfl
   go_wp2_with fail
   refine (HC1.out _ hbv0).mono ?_
   rintro e v1 ⟨rfl, hv1⟩
   have hbv1 : Below w.heap.size w v1 := bT hbv0 hv1
   have k2 := bK k1 hv1
   obtain ⟨z1_0, z1_1, z1_2, z1_3⟩ := zn4 k2 rfl rfl rfl rfl
   go_wp2
   go_ret
   exact ⟨by rw [leftOf_neg (by omega)]; rfl, hbv1⟩
  ·rw [leftOf_nat h1] at HC1
   have HB1 : Hid (leftOf q0 (bulkOf Ins.bulk x.insts + (bulkOf Unt.bulk x.units + (bulkS x.out))) = leftOf (q0 - bulkOf Ins.bulk x.insts) (bulkOf Unt.bulk x.units + (bulkS x.out))) := by show _ = _; rw [leftOf_add h1]
   rw [HB1.out]
   have hl1 : q0 - bulkOf Ins.bulk x.insts ≤ 1048576 := by omega
   clear HB1 h1
   generalize q0 - bulkOf Ins.bulk x.insts = q1 at *
   have hlc : q1 ≤ 1048576 := by omega
   have HC2 : Hid (∀ w2, Below w.heap.size w w2 → Calls Tryz.prog 14 #[.slice a3 x.units.length c3, .int .i64 q1] w2 fun e w' => Ans w2 (.int .i64 (leftOf q1 (bulkOf Unt.bulk x.units))) e w') := fun w2 h2 => sz_Unit a3 x.units c3 q1 w2 hlc (u2.1) (r3.keep fun b h => ⟨by have := h2.size; omega, h2.block b h⟩) u2.2
   clear hlc
   by_cases h2 : q1 < bulkOf Unt.bulk x.units
   ·rw [leftOf_neg h2] at HC2
    go_enter Tryz.func4, Tryz.ntmps4
    go_wp2_with fail
    refine (HC0.out _ hb0).mono ?_
    rintro e v0 ⟨rfl, hv0⟩
    have hbv0 : Below w.heap.size w v0 := bT hb0 hv0
    have k1 := bK k0 hv0
    obtain ⟨z0_0, z0_1, z0_2, z0_3⟩ := zn4 k1 rfl rfl rfl rfl
    go_wp2_with fail
    refine (HC1.out _ hbv0).mono ?_
    rintro e v1 ⟨rfl, hv1⟩
    have hbv1 : Below w.heap.size w v1 := bT hbv0 hv1
    have k2 := bK k1 hv1
    obtain ⟨z1_0, z1_1, z1_2, z1_3⟩ := zn4 k2 rfl rfl rfl rfl
    go_wp2_with fail
    refine (HC2.out _ hbv1).mono ?_
    rintro e v2 ⟨rfl, hv2⟩
    have hbv2 : Below w.heap.size w v2 := bT hbv1 hv2
    have k3 := bK k2 hv2
    obtain ⟨z2_0, z2_1, z2_2, z2_3⟩ := zn4 k3 rfl rfl rfl rfl
    go_wp2
    go_ret
    exact ⟨by rw [leftOf_neg (by omega)]; rfl, hbv2⟩
   ·rw [leftOf_nat h2] at HC2
    have HB2 : Hid (leftOf q1 (bulkOf Unt.bulk x.units + (bulkS x.out)) = leftOf (q1 - bulkOf Unt.bulk x.units) (bulkS x.out)) := by show _ = _; rw [leftOf_add h2]
    rw [HB2.out]
    have hl2 : q1 - bulkOf Unt.bulk x.units ≤ 1048576 := by omega
    clear HB2 h2
    generalize q1 - bulkOf Unt.bulk x.units = q2 at *
    have hlc : q2 ≤ 1048576 := by omega
    have HC3 : Hid (∀ w2, Below w.heap.size w w2 → Calls Tryz.prog 15 #[.slice a4 x.out.length c4, .int .i64 q2] w2 fun e w' => Ans w2 (.int .i64 (leftOf q2 (bulkS x.out))) e w') := fun w2 h2 => sz_string a4 x.out c4 q2 w2 hlc (u3.1) (r4.keep fun b h => ⟨by have := h2.size; omega, h2.block b h⟩) u3.2
    clear hlc
    by_cases h3 : q2 < bulkS x.out
    ·rw [leftOf_neg h3] at HC3
     go_enter Tryz.func4, Tryz.ntmps4
     go_wp2_with fail
     refine (HC0.out _ hb0).mono ?_
     rintro e v0 ⟨rfl, hv0⟩
     have hbv0 : Below w.heap.size w v0 := bT hb0 hv0
     have k1 := bK k0 hv0
     obtain ⟨z0_0, z0_1, z0_2, z0_3⟩ := zn4 k1 rfl rfl rfl rfl
     go_wp2_with fail
     refine (HC1.out _ hbv0).mono ?_
     rintro e v1 ⟨rfl, hv1⟩
     have hbv1 : Below w.heap.size w v1 := bT hbv0 hv1
     have k2 := bK k1 hv1
     obtain ⟨z1_0, z1_1, z1_2, z1_3⟩ := zn4 k2 rfl rfl rfl rfl
     go_wp2_with fail
     refine (HC2.out _ hbv1).mono ?_
     rintro e v2 ⟨rfl, hv2⟩
     have hbv2 : Below w.heap.size w v2 := bT hbv1 hv2
     have k3 := bK k2 hv2
     obtain ⟨z2_0, z2_1, z2_2, z2_3⟩ := zn4 k3 rfl rfl rfl rfl
     go_wp2_with fail
     refine (HC3.out _ hbv2).mono ?_
     rintro e v3 ⟨rfl, hv3⟩
     have hbv3 : Below w.heap.size w v3 := bT hbv2 hv3
     have k4 := bK k3 hv3
     obtain ⟨z3_0, z3_1, z3_2, z3_3⟩ := zn4 k4 rfl rfl rfl rfl
     go_wp2
     go_ret
     exact ⟨by rw [leftOf_neg (by omega)]; rfl, hbv3⟩
    ·rw [leftOf_nat h3] at HC3
     have HB3 : Hid (leftOf q2 (bulkS x.out) = leftOf (q2 - bulkS x.out) 0) := by show _ = _; rw [leftOf_nat h3]; simp [leftOf]
     rw [HB3.out]
     have hl3 : q2 - bulkS x.out ≤ 1048576 := by omega
     clear HB3 h3
     generalize q2 - bulkS x.out = q3 at *
     go_enter Tryz.func4, Tryz.ntmps4
     go_wp2_with fail
     refine (HC0.out _ hb0).mono ?_
     rintro e v0 ⟨rfl, hv0⟩
     have hbv0 : Below w.heap.size w v0 := bT hb0 hv0
     have k1 := bK k0 hv0
     obtain ⟨z0_0, z0_1, z0_2, z0_3⟩ := zn4 k1 rfl rfl rfl rfl
     go_wp2_with fail
     refine (HC1.out _ hbv0).mono ?_
     rintro e v1 ⟨rfl, hv1⟩
     have hbv1 : Below w.heap.size w v1 := bT hbv0 hv1
     have k2 := bK k1 hv1
     obtain ⟨z1_0, z1_1, z1_2, z1_3⟩ := zn4 k2 rfl rfl rfl rfl
     go_wp2_with fail
     refine (HC2.out _ hbv1).mono ?_
     rintro e v2 ⟨rfl, hv2⟩
     have hbv2 : Below w.heap.size w v2 := bT hbv1 hv2
     have k3 := bK k2 hv2
     obtain ⟨z2_0, z2_1, z2_2, z2_3⟩ := zn4 k3 rfl rfl rfl rfl
     go_wp2_with fail
     refine (HC3.out _ hbv2).mono ?_
     rintro e v3 ⟨rfl, hv3⟩
     have hbv3 : Below w.heap.size w v3 := bT hbv2 hv3
     have k4 := bK k3 hv3
     obtain ⟨z3_0, z3_1, z3_2, z3_3⟩ := zn4 k4 rfl rfl rfl rfl
     go_wp2
     go_ret
     exact ⟨by rw [leftOf_zero]; first | rfl | simp_all, hbv3⟩
end Go.Proofs.YtlacidojljilaaaGreatDoor
