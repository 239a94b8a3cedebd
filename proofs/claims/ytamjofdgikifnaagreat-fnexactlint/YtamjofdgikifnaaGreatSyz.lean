/- The size of a system that comes in. -/
import Derived.Test.YtamjofdgikifnaaGreatApw
import Derived.Test.YtamjofdgikifnaaGreatSzc
import Derived.Test.YtamjofdgikifnaaGreatZpx
set_option linter.unusedVariables false
namespace Go.Proofs.YtamjofdgikifnaaGreat
open Go.ChangeShapes Go.WideShapes Go.ChangeAt Go.RowKit
theorem leftOf_zero (n : Nat) : leftOf n 0 = (n : Int) := by simp [leftOf]
theorem sz_string (a : Option Addr) (l : List ByteArray) (cap left : Nat) (w : World) (hl : left ≤ 1048576) (hn : l.length ≤ 9223372036854775807) (hr : rgS.Row w (fun b => b < w.heap.size) a l) (hwf : ∀ d ∈ l, wfS d) :
  Calls Tryz.prog 6 #[.slice a l.length cap, .int .i64 left] w fun e w' => Ans w (.int .i64 (leftOf left (bulkS l))) e w' := szStringS_any a l cap left w hl hn (rowS_iff.1 hr) hwf
theorem sz_Node (a : Option Addr) (l : List Nod) (cap left : Nat) (w : World) (hl : left ≤ 1048576) (hn : l.length ≤ 9223372036854775807) (hr : rgN.Row w (fun b => b < w.heap.size) a l) (hwf : ∀ d ∈ l, Nod.wf d) :
  Calls Tryz.prog 99 #[.slice a l.length cap, .int .i64 left] w fun e w' => Ans w (.int .i64 (leftOf left (bulkN l))) e w' := szNodeS_any a l cap left w hl hn (rowN_iff.1 hr) hwf
set_option maxRecDepth 100000 in
set_option maxHeartbeats 1000000 in
theorem szE_Prog (x : Prg) (a1 : Option Addr) (c1 : Nat) (left : Nat) (w : World) (hl : left ≤ 1048576) (hw : x.wf) (hr : PrgRows w (fun b => b < w.heap.size) a1 c1 x) :
  Calls Tryz.prog 79 #[.agg #[.slice a1 x.nodes.length c1, .int .i64 x.root], .int .i64 left] w fun e w' => Ans w (.int .i64 (leftOf left x.bulk)) e w' := by
 unfold Prg.bulk
 obtain ⟨u0, u1⟩ := hw
 obtain ⟨r1, t1⟩ := hr
 have hb0 : Below w.heap.size w (w.alloc (Obj.cells #[.slice a1 x.nodes.length c1, .int .i64 x.root] 86)) := (Below.refl _ _).alloc (Nat.le_refl _) _
 have k0 : (w.alloc (Obj.cells #[.slice a1 x.nodes.length c1, .int .i64 x.root] 86)).heap[w.heap.size]? = some (Obj.cells #[.slice a1 x.nodes.length c1, .int .i64 x.root] 86) := blk_at _ _ _ rfl
 have hlc : left ≤ 1048576 := by omega
 have HC0 : Hid (∀ w2, Below w.heap.size w w2 → Calls Tryz.prog 99 #[.slice a1 x.nodes.length c1, .int .i64 left] w2 fun e w' => Ans w2 (.int .i64 (leftOf left (bulkN x.nodes))) e w') := fun w2 h2 => sz_Node a1 x.nodes c1 left w2 hlc (u0.1) (r1.keep fun b h => ⟨by have := h2.size; omega, h2.block b h⟩) u0.2
 clear hlc
 by_cases h0 : left < bulkN x.nodes
 ·rw [leftOf_neg h0] at HC0
  go_enter Tryz.func79, Tryz.ntmps79
  go_wp2_with fail
  refine (HC0.out _ hb0).mono ?_
  rintro e v0 ⟨rfl, hv0⟩
  have hbv0 : Below w.heap.size w v0 := hb0.trans (hv0.mono hb0.size)
  have k1 := blk_keep k0 hv0 (Array.getElem?_eq_some_iff.1 k0).1
  have z0_0 := cell_blk (j := 0) k1 rfl
  have z0_1 := cell_blk (j := 1) k1 rfl
  go_wp2
  go_ret
  exact ⟨by rw [leftOf_neg (by omega)]; rfl, hbv0⟩
 ·rw [leftOf_nat h0] at HC0
  have HB0 : Hid (leftOf left (bulkN x.nodes) = leftOf (left - bulkN x.nodes) 0) := by show _ = _; rw [leftOf_nat h0]; simp [leftOf]
  rw [HB0.out]
  have hl0 : left - bulkN x.nodes ≤ 1048576 := by omega
  clear HB0 h0
  generalize left - bulkN x.nodes = q0 at *
  go_enter Tryz.func79, Tryz.ntmps79
  go_wp2_with fail
  refine (HC0.out _ hb0).mono ?_
  rintro e v0 ⟨rfl, hv0⟩
  have hbv0 : Below w.heap.size w v0 := hb0.trans (hv0.mono hb0.size)
  have k1 := blk_keep k0 hv0 (Array.getElem?_eq_some_iff.1 k0).1
  have z0_0 := cell_blk (j := 0) k1 rfl
  have z0_1 := cell_blk (j := 1) k1 rfl
  go_wp2
  go_ret
  exact ⟨by rw [leftOf_zero]; first | rfl | simp_all, hbv0⟩
set_option maxRecDepth 100000 in
set_option maxHeartbeats 1000000 in
theorem szE_Type (x : Typ) (left : Nat) (w : World) (hl : left ≤ 1048576) (hw : x.wf) :
  Calls Tryz.prog 49 #[.agg #[.string x.name, .int .i64 x.size], .int .i64 left] w fun e w' => Ans w (.int .i64 (leftOf left x.bulk)) e w' := by
 unfold Typ.bulk
 obtain ⟨u0, u1⟩ := hw
 have hb0 : Below w.heap.size w (w.alloc (Obj.cells #[.string x.name, .int .i64 x.size] 82)) := (Below.refl _ _).alloc (Nat.le_refl _) _
 have k0 : (w.alloc (Obj.cells #[.string x.name, .int .i64 x.size] 82)).heap[w.heap.size]? = some (Obj.cells #[.string x.name, .int .i64 x.size] 82) := blk_at _ _ _ rfl
 by_cases h0 : left < x.name.size
 ·have g0 : decide ((left : Int) - (x.name.size : Int) < 0) = true := by simp; omega
  go_enter Tryz.func49, Tryz.ntmps49
  go_wp2
  go_ret
  exact ⟨by rw [leftOf_neg (by omega)]; rfl, hb0⟩
 ·have g0 : decide ((left : Int) - (x.name.size : Int) < 0) = false := by simp; omega
  obtain ⟨q0, hq0⟩ : ∃ q, q = left - x.name.size := ⟨_, rfl⟩
  have eq0 : (left : Int) - (x.name.size : Int) = (q0 : Int) := by omega
  have hl0 : q0 ≤ 1048576 := by omega
  have HB0 : Hid (leftOf left (x.name.size) = leftOf q0 0) := by show _ = _; rw [hq0, leftOf_nat h0]; simp [leftOf]
  rw [HB0.out]
  clear HB0 hq0 h0
  go_enter Tryz.func49, Tryz.ntmps49
  go_wp2
  go_ret
  exact ⟨by rw [leftOf_zero]; first | rfl | simp_all, hb0⟩
set_option maxRecDepth 100000 in
set_option maxHeartbeats 1000000 in
theorem sz_Type (a : Option Addr) (l : List Typ) (cap left : Nat) (w : World) (hl : left ≤ 1048576) (hn : l.length ≤ 9223372036854775807) (hr : rgT.Row w (fun b => b < w.heap.size) a l) (hwf : ∀ d ∈ l, Typ.wf d) :
  Calls Tryz.prog 21 #[.slice a l.length cap, .int .i64 left] w fun e w' => Ans w (.int .i64 (leftOf left (bulkOf Typ.bulk l))) e w' := by
 by_cases h : left < l.length
 ·have HL : Hid (leftOf left (bulkOf Typ.bulk l) = -1) := if_pos (by have := bulkOf_len Typ.bulk l; omega)
  have hd : decide ((left : Int) - (l.length : Int) < 0) = true := by simp; omega
  go_enter Tryz.func21, Tryz.ntmps21
  go_wp2
  all_goals go_ret
  all_goals exact ⟨by rw [HL.out]; rfl, Below.refl _ _⟩
 ·have hd : decide ((left : Int) - (l.length : Int) < 0) = false := by simp; omega
  have HR : Hid (rgT.Row w (fun b => b < w.heap.size) a l) := hr
  have HW : Hid (∀ d ∈ l, Typ.wf d) := hwf
  clear hr hwf
  go_enter Tryz.func21, Tryz.ntmps21
  go_wp2
  go_loopw [1, 5] (fun t o wr => ∃ (i m : Nat), i ≤ l.length ∧ m + bulkOf Typ.bulk (l.take i) + (l.length - i) = left ∧ t = .int .i64 m ∧ o = .int .i64 i ∧ Below w.heap.size w wr)
   (fun _ o _ => l.length - (intOf o).toNat)
  case atStart => exact ⟨0, left - l.length, by omega, by simp [bulkOf]; omega, by go_num, rfl, Below.refl _ _⟩
  case round =>
   obtain ⟨i, m, hi, hm, rfl, rfl, hb⟩ := hrel
   by_cases hlt : i < l.length
   ·obtain ⟨d, hd⟩ : ∃ d, l[i]? = some d := ⟨_, List.getElem?_eq_getElem hlt⟩
    obtain ⟨b1, o1, cs, rfl, hbb, hat, hlies⟩ := HR.out i d hd
    obtain rfl := hat
    have cx0 : wr.cell? ⟨b1, o1 + i * 2, none⟩ = some (.string d.name) := cell_keep (hlies 0 _ rfl) hb hbb
    have cx1 : wr.cell? ⟨b1, o1 + i * 2 + 1, none⟩ = some (.int .i64 d.size) := cell_keep (hlies 1 _ rfl) hb hbb
    have hsz := hb.size
    have HM : Hid (m + bulkOf Typ.bulk (l.take i) + (l.length - i) = left) := hm
    have hm' : m ≤ 1048576 := by omega
    have hbs := bulkOf_take_succ Typ.bulk hd
    have hle := bulkOf_take_le Typ.bulk l (i + 1)
    have HZ : Hid (Calls Tryz.prog 49 #[.agg #[.string d.name, .int .i64 d.size], .int .i64 m] wr fun e w' => Ans wr (.int .i64 (leftOf m d.bulk)) e w') := szE_Type d   m wr hm' (HW.out d (List.mem_of_getElem? hd))
    clear hm hlies hd
    by_cases hq : m < d.bulk
    ·rw [leftOf_neg hq] at HZ
     have HL : Hid (leftOf left (bulkOf Typ.bulk l) = -1) := if_pos (by have := HM.out; omega)
     clear hbs hle
     go_wp2_with (go_at_call 49; refine HZ.out.mono ?_; rintro e w1 ⟨rfl, hb1⟩)
     go_ret
     exact ⟨by rw [HL.out]; rfl, hb.trans (hb1.mono hsz)⟩
    ·rw [leftOf_nat hq] at HZ
     have HQ : Hid ((m - d.bulk) + bulkOf Typ.bulk (l.take (i + 1)) + (l.length - (i + 1)) = left) := by have := HM.out; show _ = _; omega
     generalize m - d.bulk = q at *
     clear hbs hle hq
     go_wp2_with (go_at_call 49; refine HZ.out.mono ?_; rintro e w1 ⟨rfl, hb1⟩)
     go_roundw
     case rel => exact ⟨i + 1, q, by omega, HQ.out, rfl, by go_num, hb.trans (hb1.mono hsz)⟩
     case measure => simp [intOf]; omega
   ·have hlt' : decide ((i : Int) < (l.length : Int)) = false := by simp; omega
    obtain rfl : i = l.length := by omega
    rw [List.take_length] at hm
    have HL : Hid (leftOf left (bulkOf Typ.bulk l) = m) := by show _ = _; rw [show leftOf left (bulkOf Typ.bulk l) = (left : Int) - bulkOf Typ.bulk l from if_neg (by omega)]; omega
    clear hm
    go_wp2
    go_ret
    exact ⟨by rw [HL.out]; rfl, hb⟩
set_option maxRecDepth 100000 in
set_option maxHeartbeats 1000000 in
theorem szE_Def (x : Dfn) (a1 : Option Addr) (c1 : Nat) (left : Nat) (w : World) (hl : left ≤ 1048576) (hw : x.wf) (hr : DfnRows w (fun b => b < w.heap.size) a1 c1 x) :
  Calls Tryz.prog 50 #[.agg #[.string x.name, .slice a1 x.prog.nodes.length c1, .int .i64 x.prog.root], .int .i64 left] w fun e w' => Ans w (.int .i64 (leftOf left x.bulk)) e w' := by
 unfold Dfn.bulk
 obtain ⟨u0, u1⟩ := hw
 obtain ⟨r1, t1⟩ := hr
 have hb0 : Below w.heap.size w (w.alloc (Obj.cells #[.string x.name, .slice a1 x.prog.nodes.length c1, .int .i64 x.prog.root] 88)) := (Below.refl _ _).alloc (Nat.le_refl _) _
 have k0 : (w.alloc (Obj.cells #[.string x.name, .slice a1 x.prog.nodes.length c1, .int .i64 x.prog.root] 88)).heap[w.heap.size]? = some (Obj.cells #[.string x.name, .slice a1 x.prog.nodes.length c1, .int .i64 x.prog.root] 88) := blk_at _ _ _ rfl
 by_cases h0 : left < x.name.size
 ·have g0 : decide ((left : Int) - (x.name.size : Int) < 0) = true := by simp; omega
  go_enter Tryz.func50, Tryz.ntmps50
  go_wp2
  go_ret
  exact ⟨by rw [leftOf_neg (by omega)]; rfl, hb0⟩
 ·have g0 : decide ((left : Int) - (x.name.size : Int) < 0) = false := by simp; omega
  obtain ⟨q0, hq0⟩ : ∃ q, q = left - x.name.size := ⟨_, rfl⟩
  have eq0 : (left : Int) - (x.name.size : Int) = (q0 : Int) := by omega
  have hl0 : q0 ≤ 1048576 := by omega
  have HB0 : Hid (leftOf left (x.name.size + (x.prog.bulk)) = leftOf q0 (x.prog.bulk)) := by show _ = _; rw [leftOf_add h0, hq0]
  rw [HB0.out]
  clear HB0 hq0 h0
  have hlc : q0 ≤ 1048576 := by omega
  have HC1 : Hid (∀ w2, Below w.heap.size w w2 → Calls Tryz.prog 79 #[.agg #[.slice a1 x.prog.nodes.length c1, .int .i64 x.prog.root], .int .i64 q0] w2 fun e w' => Ans w2 (.int .i64 (leftOf q0 (x.prog.bulk))) e w') := fun w2 h2 => szE_Prog x.prog a1 c1 q0 w2 hlc u1 (PrgRows.keep (w := w) (p := (fun b => b < w.heap.size)) ⟨r1, t1⟩ fun b h => ⟨by have := h2.size; omega, h2.block b h⟩)
  clear hlc
  by_cases h1 : q0 < x.prog.bulk
  ·rw [leftOf_neg h1] at HC1
   go_enter Tryz.func50, Tryz.ntmps50
   go_wp2_with fail
   try rw [eq0]
   refine (HC1.out _ hb0).mono ?_
   rintro e v0 ⟨rfl, hv0⟩
   have hbv0 : Below w.heap.size w v0 := hb0.trans (hv0.mono hb0.size)
   have k1 := blk_keep k0 hv0 (Array.getElem?_eq_some_iff.1 k0).1
   have z0_0 := cell_blk (j := 0) k1 rfl
   have z0_1 := cell_blk (j := 1) k1 rfl
   have z0_2 := cell_blk (j := 2) k1 rfl
   go_wp2
   go_ret
   exact ⟨by rw [leftOf_neg (by omega)]; rfl, hbv0⟩
  ·rw [leftOf_nat h1] at HC1
   have HB1 : Hid (leftOf q0 (x.prog.bulk) = leftOf (q0 - x.prog.bulk) 0) := by show _ = _; rw [leftOf_nat h1]; simp [leftOf]
   rw [HB1.out]
   have hl1 : q0 - x.prog.bulk ≤ 1048576 := by omega
   clear HB1 h1
   generalize q0 - x.prog.bulk = q1 at *
   go_enter Tryz.func50, Tryz.ntmps50
   go_wp2_with fail
   try rw [eq0]
   refine (HC1.out _ hb0).mono ?_
   rintro e v0 ⟨rfl, hv0⟩
   have hbv0 : Below w.heap.size w v0 := hb0.trans (hv0.mono hb0.size)
   have k1 := blk_keep k0 hv0 (Array.getElem?_eq_some_iff.1 k0).1
   have z0_0 := cell_blk (j := 0) k1 rfl
   have z0_1 := cell_blk (j := 1) k1 rfl
   have z0_2 := cell_blk (j := 2) k1 rfl
   go_wp2
   go_ret
   exact ⟨by rw [leftOf_zero]; first | rfl | simp_all, hbv0⟩
set_option maxRecDepth 100000 in
set_option maxHeartbeats 1000000 in
theorem sz_Def (a : Option Addr) (l : List Dfn) (cap left : Nat) (w : World) (hl : left ≤ 1048576) (hn : l.length ≤ 9223372036854775807) (hr : rgD.Row w (fun b => b < w.heap.size) a l) (hwf : ∀ d ∈ l, Dfn.wf d) :
  Calls Tryz.prog 22 #[.slice a l.length cap, .int .i64 left] w fun e w' => Ans w (.int .i64 (leftOf left (bulkOf Dfn.bulk l))) e w' := by
 by_cases h : left < l.length
 ·have HL : Hid (leftOf left (bulkOf Dfn.bulk l) = -1) := if_pos (by have := bulkOf_len Dfn.bulk l; omega)
  have hd : decide ((left : Int) - (l.length : Int) < 0) = true := by simp; omega
  go_enter Tryz.func22, Tryz.ntmps22
  go_wp2
  all_goals go_ret
  all_goals exact ⟨by rw [HL.out]; rfl, Below.refl _ _⟩
 ·have hd : decide ((left : Int) - (l.length : Int) < 0) = false := by simp; omega
  have HR : Hid (rgD.Row w (fun b => b < w.heap.size) a l) := hr
  have HW : Hid (∀ d ∈ l, Dfn.wf d) := hwf
  clear hr hwf
  go_enter Tryz.func22, Tryz.ntmps22
  go_wp2
  go_loopw [1, 5] (fun t o wr => ∃ (i m : Nat), i ≤ l.length ∧ m + bulkOf Dfn.bulk (l.take i) + (l.length - i) = left ∧ t = .int .i64 m ∧ o = .int .i64 i ∧ Below w.heap.size w wr)
   (fun _ o _ => l.length - (intOf o).toNat)
  case atStart => exact ⟨0, left - l.length, by omega, by simp [bulkOf]; omega, by go_num, rfl, Below.refl _ _⟩
  case round =>
   obtain ⟨i, m, hi, hm, rfl, rfl, hb⟩ := hrel
   by_cases hlt : i < l.length
   ·obtain ⟨d, hd⟩ : ∃ d, l[i]? = some d := ⟨_, List.getElem?_eq_getElem hlt⟩
    obtain ⟨b1, o1, cs, rfl, hbb, hat, hlies⟩ := HR.out i d hd
    obtain ⟨a1, c1, rfl, hrows⟩ := hat
    have cx0 : wr.cell? ⟨b1, o1 + i * 3, none⟩ = some (.string d.name) := cell_keep (hlies 0 _ rfl) hb hbb
    have cx1 : wr.cell? ⟨b1, o1 + i * 3 + 1, none⟩ = some (.slice a1 d.prog.nodes.length c1) := cell_keep (hlies 1 _ rfl) hb hbb
    have cx2 : wr.cell? ⟨b1, o1 + i * 3 + 2, none⟩ = some (.int .i64 d.prog.root) := cell_keep (hlies 2 _ rfl) hb hbb
    have hsz := hb.size
    have HM : Hid (m + bulkOf Dfn.bulk (l.take i) + (l.length - i) = left) := hm
    have hm' : m ≤ 1048576 := by omega
    have hbs := bulkOf_take_succ Dfn.bulk hd
    have hle := bulkOf_take_le Dfn.bulk l (i + 1)
    have HZ : Hid (Calls Tryz.prog 50 #[.agg #[.string d.name, .slice a1 d.prog.nodes.length c1, .int .i64 d.prog.root], .int .i64 m] wr fun e w' => Ans wr (.int .i64 (leftOf m d.bulk)) e w') := szE_Def d a1 c1 m wr hm' (HW.out d (List.mem_of_getElem? hd)) (hrows.keep fun b h => ⟨by have := hb.size; omega, hb.block b h⟩)
    clear hm hlies hd hrows
    by_cases hq : m < d.bulk
    ·rw [leftOf_neg hq] at HZ
     have HL : Hid (leftOf left (bulkOf Dfn.bulk l) = -1) := if_pos (by have := HM.out; omega)
     clear hbs hle
     go_wp2_with (go_at_call 50; refine HZ.out.mono ?_; rintro e w1 ⟨rfl, hb1⟩)
     go_ret
     exact ⟨by rw [HL.out]; rfl, hb.trans (hb1.mono hsz)⟩
    ·rw [leftOf_nat hq] at HZ
     have HQ : Hid ((m - d.bulk) + bulkOf Dfn.bulk (l.take (i + 1)) + (l.length - (i + 1)) = left) := by have := HM.out; show _ = _; omega
     generalize m - d.bulk = q at *
     clear hbs hle hq
     go_wp2_with (go_at_call 50; refine HZ.out.mono ?_; rintro e w1 ⟨rfl, hb1⟩)
     go_roundw
     case rel => exact ⟨i + 1, q, by omega, HQ.out, rfl, by go_num, hb.trans (hb1.mono hsz)⟩
     case measure => simp [intOf]; omega
   ·have hlt' : decide ((i : Int) < (l.length : Int)) = false := by simp; omega
    obtain rfl : i = l.length := by omega
    rw [List.take_length] at hm
    have HL : Hid (leftOf left (bulkOf Dfn.bulk l) = m) := by show _ = _; rw [show leftOf left (bulkOf Dfn.bulk l) = (left : Int) - bulkOf Dfn.bulk l from if_neg (by omega)]; omega
    clear hm
    go_wp2
    go_ret
    exact ⟨by rw [HL.out]; rfl, hb⟩
set_option maxRecDepth 100000 in
set_option maxHeartbeats 1000000 in
theorem szE_Src (x : Srx) (a1 a2 a3 a4 a5 : Option Addr) (c1 c2 c3 c4 c5 : Nat) (left : Nat) (w : World) (hl : left ≤ 1048576) (hw : x.wf) (hr : SrxRows w (fun b => b < w.heap.size) a1 a2 a3 a4 a5 c1 c2 c3 c4 c5 x) :
  Calls Tryz.prog 5 #[.agg #[.string x.name, .slice a1 x.imps.length c1, .slice a2 x.exps.length c2, .slice a3 x.types.length c3, .slice a4 x.defs.length c4, .slice a5 x.convs.length c5], .int .i64 left] w fun e w' => Ans w (.int .i64 (leftOf left x.bulk)) e w' := by
 unfold Srx.bulk
 obtain ⟨u0, u1, u2, u3, u4, u5⟩ := hw
 obtain ⟨⟨r1, t1⟩, ⟨r2, t2⟩, ⟨r3, t3⟩, ⟨r4, t4⟩, ⟨r5, t5⟩⟩ := hr
 have hb0 : Below w.heap.size w (w.alloc (Obj.cells #[.string x.name, .slice a1 x.imps.length c1, .slice a2 x.exps.length c2, .slice a3 x.types.length c3, .slice a4 x.defs.length c4, .slice a5 x.convs.length c5] 26)) := (Below.refl _ _).alloc (Nat.le_refl _) _
 have k0 : (w.alloc (Obj.cells #[.string x.name, .slice a1 x.imps.length c1, .slice a2 x.exps.length c2, .slice a3 x.types.length c3, .slice a4 x.defs.length c4, .slice a5 x.convs.length c5] 26)).heap[w.heap.size]? = some (Obj.cells #[.string x.name, .slice a1 x.imps.length c1, .slice a2 x.exps.length c2, .slice a3 x.types.length c3, .slice a4 x.defs.length c4, .slice a5 x.convs.length c5] 26) := blk_at _ _ _ rfl
 by_cases h0 : left < x.name.size
 ·have g0 : decide ((left : Int) - (x.name.size : Int) < 0) = true := by simp; omega
  go_enter Tryz.func5, Tryz.ntmps5
  go_wp2
  go_ret
  exact ⟨by rw [leftOf_neg (by omega)]; rfl, hb0⟩
 ·have g0 : decide ((left : Int) - (x.name.size : Int) < 0) = false := by simp; omega
  obtain ⟨q0, hq0⟩ : ∃ q, q = left - x.name.size := ⟨_, rfl⟩
  have eq0 : (left : Int) - (x.name.size : Int) = (q0 : Int) := by omega
  have hl0 : q0 ≤ 1048576 := by omega
  have HB0 : Hid (leftOf left (x.name.size + (bulkS x.imps + (bulkS x.exps + (bulkOf Typ.bulk x.types + (bulkOf Dfn.bulk x.defs + (bulkOf Dfn.bulk x.convs)))))) = leftOf q0 (bulkS x.imps + (bulkS x.exps + (bulkOf Typ.bulk x.types + (bulkOf Dfn.bulk x.defs + (bulkOf Dfn.bulk x.convs)))))) := by show _ = _; rw [leftOf_add h0, hq0]
  rw [HB0.out]
  clear HB0 hq0 h0
  have hlc : q0 ≤ 1048576 := by omega
  have HC1 : Hid (∀ w2, Below w.heap.size w w2 → Calls Tryz.prog 6 #[.slice a1 x.imps.length c1, .int .i64 q0] w2 fun e w' => Ans w2 (.int .i64 (leftOf q0 (bulkS x.imps))) e w') := fun w2 h2 => sz_string a1 x.imps c1 q0 w2 hlc (u1.1) (r1.keep fun b h => ⟨by have := h2.size; omega, h2.block b h⟩) u1.2
  clear hlc
  by_cases h1 : q0 < bulkS x.imps
  ·rw [leftOf_neg h1] at HC1
   go_enter Tryz.func5, Tryz.ntmps5
   go_wp2_with fail
   try rw [eq0]
   refine (HC1.out _ hb0).mono ?_
   rintro e v0 ⟨rfl, hv0⟩
   have hbv0 : Below w.heap.size w v0 := hb0.trans (hv0.mono hb0.size)
   have k1 := blk_keep k0 hv0 (Array.getElem?_eq_some_iff.1 k0).1
   have z0_0 := cell_blk (j := 0) k1 rfl
   have z0_1 := cell_blk (j := 1) k1 rfl
   have z0_2 := cell_blk (j := 2) k1 rfl
   have z0_3 := cell_blk (j := 3) k1 rfl
   have z0_4 := cell_blk (j := 4) k1 rfl
   have z0_5 := cell_blk (j := 5) k1 rfl
   go_wp2
   go_ret
   exact ⟨by rw [leftOf_neg (by omega)]; rfl, hbv0⟩
  ·rw [leftOf_nat h1] at HC1
   have HB1 : Hid (leftOf q0 (bulkS x.imps + (bulkS x.exps + (bulkOf Typ.bulk x.types + (bulkOf Dfn.bulk x.defs + (bulkOf Dfn.bulk x.convs))))) = leftOf (q0 - bulkS x.imps) (bulkS x.exps + (bulkOf Typ.bulk x.types + (bulkOf Dfn.bulk x.defs + (bulkOf Dfn.bulk x.convs))))) := by show _ = _; rw [leftOf_add h1]
   rw [HB1.out]
   have hl1 : q0 - bulkS x.imps ≤ 1048576 := by omega
   clear HB1 h1
   generalize q0 - bulkS x.imps = q1 at *
   have hlc : q1 ≤ 1048576 := by omega
   have HC2 : Hid (∀ w2, Below w.heap.size w w2 → Calls Tryz.prog 6 #[.slice a2 x.exps.length c2, .int .i64 q1] w2 fun e w' => Ans w2 (.int .i64 (leftOf q1 (bulkS x.exps))) e w') := fun w2 h2 => sz_string a2 x.exps c2 q1 w2 hlc (u2.1) (r2.keep fun b h => ⟨by have := h2.size; omega, h2.block b h⟩) u2.2
   clear hlc
   by_cases h2 : q1 < bulkS x.exps
   ·rw [leftOf_neg h2] at HC2
    go_enter Tryz.func5, Tryz.ntmps5
    go_wp2_with fail
    try rw [eq0]
    refine (HC1.out _ hb0).mono ?_
    rintro e v0 ⟨rfl, hv0⟩
    have hbv0 : Below w.heap.size w v0 := hb0.trans (hv0.mono hb0.size)
    have k1 := blk_keep k0 hv0 (Array.getElem?_eq_some_iff.1 k0).1
    have z0_0 := cell_blk (j := 0) k1 rfl
    have z0_1 := cell_blk (j := 1) k1 rfl
    have z0_2 := cell_blk (j := 2) k1 rfl
    have z0_3 := cell_blk (j := 3) k1 rfl
    have z0_4 := cell_blk (j := 4) k1 rfl
    have z0_5 := cell_blk (j := 5) k1 rfl
    go_wp2_with fail
    try rw [eq0]
    refine (HC2.out _ hbv0).mono ?_
    rintro e v1 ⟨rfl, hv1⟩
    have hbv1 : Below w.heap.size w v1 := hbv0.trans (hv1.mono hbv0.size)
    have k2 := blk_keep k1 hv1 (Array.getElem?_eq_some_iff.1 k1).1
    have z1_0 := cell_blk (j := 0) k2 rfl
    have z1_1 := cell_blk (j := 1) k2 rfl
    have z1_2 := cell_blk (j := 2) k2 rfl
    have z1_3 := cell_blk (j := 3) k2 rfl
    have z1_4 := cell_blk (j := 4) k2 rfl
    have z1_5 := cell_blk (j := 5) k2 rfl
    go_wp2
    go_ret
    exact ⟨by rw [leftOf_neg (by omega)]; rfl, hbv1⟩
   ·rw [leftOf_nat h2] at HC2
    have HB2 : Hid (leftOf q1 (bulkS x.exps + (bulkOf Typ.bulk x.types + (bulkOf Dfn.bulk x.defs + (bulkOf Dfn.bulk x.convs)))) = leftOf (q1 - bulkS x.exps) (bulkOf Typ.bulk x.types + (bulkOf Dfn.bulk x.defs + (bulkOf Dfn.bulk x.convs)))) := by show _ = _; rw [leftOf_add h2]
    rw [HB2.out]
    have hl2 : q1 - bulkS x.exps ≤ 1048576 := by omega
    clear HB2 h2
    generalize q1 - bulkS x.exps = q2 at *
    have hlc : q2 ≤ 1048576 := by omega
    have HC3 : Hid (∀ w2, Below w.heap.size w w2 → Calls Tryz.prog 21 #[.slice a3 x.types.length c3, .int .i64 q2] w2 fun e w' => Ans w2 (.int .i64 (leftOf q2 (bulkOf Typ.bulk x.types))) e w') := fun w2 h2 => sz_Type a3 x.types c3 q2 w2 hlc (u3.1) (r3.keep fun b h => ⟨by have := h2.size; omega, h2.block b h⟩) u3.2
    clear hlc
    by_cases h3 : q2 < bulkOf Typ.bulk x.types
    ·rw [leftOf_neg h3] at HC3
     go_enter Tryz.func5, Tryz.ntmps5
     go_wp2_with fail
     try rw [eq0]
     refine (HC1.out _ hb0).mono ?_
     rintro e v0 ⟨rfl, hv0⟩
     have hbv0 : Below w.heap.size w v0 := hb0.trans (hv0.mono hb0.size)
     have k1 := blk_keep k0 hv0 (Array.getElem?_eq_some_iff.1 k0).1
     have z0_0 := cell_blk (j := 0) k1 rfl
     have z0_1 := cell_blk (j := 1) k1 rfl
     have z0_2 := cell_blk (j := 2) k1 rfl
     have z0_3 := cell_blk (j := 3) k1 rfl
     have z0_4 := cell_blk (j := 4) k1 rfl
     have z0_5 := cell_blk (j := 5) k1 rfl
     go_wp2_with fail
     try rw [eq0]
     refine (HC2.out _ hbv0).mono ?_
     rintro e v1 ⟨rfl, hv1⟩
     have hbv1 : Below w.heap.size w v1 := hbv0.trans (hv1.mono hbv0.size)
     have k2 := blk_keep k1 hv1 (Array.getElem?_eq_some_iff.1 k1).1
     have z1_0 := cell_blk (j := 0) k2 rfl
     have z1_1 := cell_blk (j := 1) k2 rfl
     have z1_2 := cell_blk (j := 2) k2 rfl
     have z1_3 := cell_blk (j := 3) k2 rfl
     have z1_4 := cell_blk (j := 4) k2 rfl
     have z1_5 := cell_blk (j := 5) k2 rfl
     go_wp2_with fail
     try rw [eq0]
     refine (HC3.out _ hbv1).mono ?_
     rintro e v2 ⟨rfl, hv2⟩
     have hbv2 : Below w.heap.size w v2 := hbv1.trans (hv2.mono hbv1.size)
     have k3 := blk_keep k2 hv2 (Array.getElem?_eq_some_iff.1 k2).1
     have z2_0 := cell_blk (j := 0) k3 rfl
     have z2_1 := cell_blk (j := 1) k3 rfl
     have z2_2 := cell_blk (j := 2) k3 rfl
     have z2_3 := cell_blk (j := 3) k3 rfl
     have z2_4 := cell_blk (j := 4) k3 rfl
     have z2_5 := cell_blk (j := 5) k3 rfl
     go_wp2
     go_ret
     exact ⟨by rw [leftOf_neg (by omega)]; rfl, hbv2⟩
    ·rw [leftOf_nat h3] at HC3
     have HB3 : Hid (leftOf q2 (bulkOf Typ.bulk x.types + (bulkOf Dfn.bulk x.defs + (bulkOf Dfn.bulk x.convs))) = leftOf (q2 - bulkOf Typ.bulk x.types) (bulkOf Dfn.bulk x.defs + (bulkOf Dfn.bulk x.convs))) := by show _ = _; rw [leftOf_add h3]
     rw [HB3.out]
     have hl3 : q2 - bulkOf Typ.bulk x.types ≤ 1048576 := by omega
     clear HB3 h3
     generalize q2 - bulkOf Typ.bulk x.types = q3 at *
     have hlc : q3 ≤ 1048576 := by omega
     have HC4 : Hid (∀ w2, Below w.heap.size w w2 → Calls Tryz.prog 22 #[.slice a4 x.defs.length c4, .int .i64 q3] w2 fun e w' => Ans w2 (.int .i64 (leftOf q3 (bulkOf Dfn.bulk x.defs))) e w') := fun w2 h2 => sz_Def a4 x.defs c4 q3 w2 hlc (u4.1) (r4.keep fun b h => ⟨by have := h2.size; omega, h2.block b h⟩) u4.2
     clear hlc
     by_cases h4 : q3 < bulkOf Dfn.bulk x.defs
     ·rw [leftOf_neg h4] at HC4
      go_enter Tryz.func5, Tryz.ntmps5
      go_wp2_with fail
      try rw [eq0]
      refine (HC1.out _ hb0).mono ?_
      rintro e v0 ⟨rfl, hv0⟩
      have hbv0 : Below w.heap.size w v0 := hb0.trans (hv0.mono hb0.size)
      have k1 := blk_keep k0 hv0 (Array.getElem?_eq_some_iff.1 k0).1
      have z0_0 := cell_blk (j := 0) k1 rfl
      have z0_1 := cell_blk (j := 1) k1 rfl
      have z0_2 := cell_blk (j := 2) k1 rfl
      have z0_3 := cell_blk (j := 3) k1 rfl
      have z0_4 := cell_blk (j := 4) k1 rfl
      have z0_5 := cell_blk (j := 5) k1 rfl
      go_wp2_with fail
      try rw [eq0]
      refine (HC2.out _ hbv0).mono ?_
      rintro e v1 ⟨rfl, hv1⟩
      have hbv1 : Below w.heap.size w v1 := hbv0.trans (hv1.mono hbv0.size)
      have k2 := blk_keep k1 hv1 (Array.getElem?_eq_some_iff.1 k1).1
      have z1_0 := cell_blk (j := 0) k2 rfl
      have z1_1 := cell_blk (j := 1) k2 rfl
      have z1_2 := cell_blk (j := 2) k2 rfl
      have z1_3 := cell_blk (j := 3) k2 rfl
      have z1_4 := cell_blk (j := 4) k2 rfl
      have z1_5 := cell_blk (j := 5) k2 rfl
      go_wp2_with fail
      try rw [eq0]
      refine (HC3.out _ hbv1).mono ?_
      rintro e v2 ⟨rfl, hv2⟩
      have hbv2 : Below w.heap.size w v2 := hbv1.trans (hv2.mono hbv1.size)
      have k3 := blk_keep k2 hv2 (Array.getElem?_eq_some_iff.1 k2).1
      have z2_0 := cell_blk (j := 0) k3 rfl
      have z2_1 := cell_blk (j := 1) k3 rfl
      have z2_2 := cell_blk (j := 2) k3 rfl
      have z2_3 := cell_blk (j := 3) k3 rfl
      have z2_4 := cell_blk (j := 4) k3 rfl
      have z2_5 := cell_blk (j := 5) k3 rfl
      go_wp2_with fail
      try rw [eq0]
      refine (HC4.out _ hbv2).mono ?_
      rintro e v3 ⟨rfl, hv3⟩
      have hbv3 : Below w.heap.size w v3 := hbv2.trans (hv3.mono hbv2.size)
      have k4 := blk_keep k3 hv3 (Array.getElem?_eq_some_iff.1 k3).1
      have z3_0 := cell_blk (j := 0) k4 rfl
      have z3_1 := cell_blk (j := 1) k4 rfl
      have z3_2 := cell_blk (j := 2) k4 rfl
      have z3_3 := cell_blk (j := 3) k4 rfl
      have z3_4 := cell_blk (j := 4) k4 rfl
      have z3_5 := cell_blk (j := 5) k4 rfl
      go_wp2
      go_ret
      exact ⟨by rw [leftOf_neg (by omega)]; rfl, hbv3⟩
     ·rw [leftOf_nat h4] at HC4
      have HB4 : Hid (leftOf q3 (bulkOf Dfn.bulk x.defs + (bulkOf Dfn.bulk x.convs)) = leftOf (q3 - bulkOf Dfn.bulk x.defs) (bulkOf Dfn.bulk x.convs)) := by show _ = _; rw [leftOf_add h4]
      rw [HB4.out]
      have hl4 : q3 - bulkOf Dfn.bulk x.defs ≤ 1048576 := by omega
      clear HB4 h4
      generalize q3 - bulkOf Dfn.bulk x.defs = q4 at *
      have hlc : q4 ≤ 1048576 := by omega
      have HC5 : Hid (∀ w2, Below w.heap.size w w2 → Calls Tryz.prog 22 #[.slice a5 x.convs.length c5, .int .i64 q4] w2 fun e w' => Ans w2 (.int .i64 (leftOf q4 (bulkOf Dfn.bulk x.convs))) e w') := fun w2 h2 => sz_Def a5 x.convs c5 q4 w2 hlc (u5.1) (r5.keep fun b h => ⟨by have := h2.size; omega, h2.block b h⟩) u5.2
      clear hlc
      by_cases h5 : q4 < bulkOf Dfn.bulk x.convs
      ·rw [leftOf_neg h5] at HC5
       go_enter Tryz.func5, Tryz.ntmps5
       go_wp2_with fail
       try rw [eq0]
       refine (HC1.out _ hb0).mono ?_
       rintro e v0 ⟨rfl, hv0⟩
       have hbv0 : Below w.heap.size w v0 := hb0.trans (hv0.mono hb0.size)
       have k1 := blk_keep k0 hv0 (Array.getElem?_eq_some_iff.1 k0).1
       have z0_0 := cell_blk (j := 0) k1 rfl
       have z0_1 := cell_blk (j := 1) k1 rfl
       have z0_2 := cell_blk (j := 2) k1 rfl
       have z0_3 := cell_blk (j := 3) k1 rfl
       have z0_4 := cell_blk (j := 4) k1 rfl
       have z0_5 := cell_blk (j := 5) k1 rfl
       go_wp2_with fail
       try rw [eq0]
       refine (HC2.out _ hbv0).mono ?_
       rintro e v1 ⟨rfl, hv1⟩
       have hbv1 : Below w.heap.size w v1 := hbv0.trans (hv1.mono hbv0.size)
       have k2 := blk_keep k1 hv1 (Array.getElem?_eq_some_iff.1 k1).1
       have z1_0 := cell_blk (j := 0) k2 rfl
       have z1_1 := cell_blk (j := 1) k2 rfl
       have z1_2 := cell_blk (j := 2) k2 rfl
       have z1_3 := cell_blk (j := 3) k2 rfl
       have z1_4 := cell_blk (j := 4) k2 rfl
       have z1_5 := cell_blk (j := 5) k2 rfl
       go_wp2_with fail
       try rw [eq0]
       refine (HC3.out _ hbv1).mono ?_
       rintro e v2 ⟨rfl, hv2⟩
       have hbv2 : Below w.heap.size w v2 := hbv1.trans (hv2.mono hbv1.size)
       have k3 := blk_keep k2 hv2 (Array.getElem?_eq_some_iff.1 k2).1
       have z2_0 := cell_blk (j := 0) k3 rfl
       have z2_1 := cell_blk (j := 1) k3 rfl
       have z2_2 := cell_blk (j := 2) k3 rfl
       have z2_3 := cell_blk (j := 3) k3 rfl
       have z2_4 := cell_blk (j := 4) k3 rfl
       have z2_5 := cell_blk (j := 5) k3 rfl
       go_wp2_with fail
       try rw [eq0]
       refine (HC4.out _ hbv2).mono ?_
       rintro e v3 ⟨rfl, hv3⟩
       have hbv3 : Below w.heap.size w v3 := hbv2.trans (hv3.mono hbv2.size)
       have k4 := blk_keep k3 hv3 (Array.getElem?_eq_some_iff.1 k3).1
       have z3_0 := cell_blk (j := 0) k4 rfl
       have z3_1 := cell_blk (j := 1) k4 rfl
       have z3_2 := cell_blk (j := 2) k4 rfl
       have z3_3 := cell_blk (j := 3) k4 rfl
       have z3_4 := cell_blk (j := 4) k4 rfl
       have z3_5 := cell_blk (j := 5) k4 rfl
       go_wp2_with fail
       try rw [eq0]
       refine (HC5.out _ hbv3).mono ?_
       rintro e v4 ⟨rfl, hv4⟩
       have hbv4 : Below w.heap.size w v4 := hbv3.trans (hv4.mono hbv3.size)
       have k5 := blk_keep k4 hv4 (Array.getElem?_eq_some_iff.1 k4).1
       have z4_0 := cell_blk (j := 0) k5 rfl
       have z4_1 := cell_blk (j := 1) k5 rfl
       have z4_2 := cell_blk (j := 2) k5 rfl
       have z4_3 := cell_blk (j := 3) k5 rfl
       have z4_4 := cell_blk (j := 4) k5 rfl
       have z4_5 := cell_blk (j := 5) k5 rfl
       go_wp2
       go_ret
       exact ⟨by rw [leftOf_neg (by omega)]; rfl, hbv4⟩
      ·rw [leftOf_nat h5] at HC5
       have HB5 : Hid (leftOf q4 (bulkOf Dfn.bulk x.convs) = leftOf (q4 - bulkOf Dfn.bulk x.convs) 0) := by show _ = _; rw [leftOf_nat h5]; simp [leftOf]
       rw [HB5.out]
       have hl5 : q4 - bulkOf Dfn.bulk x.convs ≤ 1048576 := by omega
       clear HB5 h5
       generalize q4 - bulkOf Dfn.bulk x.convs = q5 at *
       go_enter Tryz.func5, Tryz.ntmps5
       go_wp2_with fail
       try rw [eq0]
       refine (HC1.out _ hb0).mono ?_
       rintro e v0 ⟨rfl, hv0⟩
       have hbv0 : Below w.heap.size w v0 := hb0.trans (hv0.mono hb0.size)
       have k1 := blk_keep k0 hv0 (Array.getElem?_eq_some_iff.1 k0).1
       have z0_0 := cell_blk (j := 0) k1 rfl
       have z0_1 := cell_blk (j := 1) k1 rfl
       have z0_2 := cell_blk (j := 2) k1 rfl
       have z0_3 := cell_blk (j := 3) k1 rfl
       have z0_4 := cell_blk (j := 4) k1 rfl
       have z0_5 := cell_blk (j := 5) k1 rfl
       go_wp2_with fail
       try rw [eq0]
       refine (HC2.out _ hbv0).mono ?_
       rintro e v1 ⟨rfl, hv1⟩
       have hbv1 : Below w.heap.size w v1 := hbv0.trans (hv1.mono hbv0.size)
       have k2 := blk_keep k1 hv1 (Array.getElem?_eq_some_iff.1 k1).1
       have z1_0 := cell_blk (j := 0) k2 rfl
       have z1_1 := cell_blk (j := 1) k2 rfl
       have z1_2 := cell_blk (j := 2) k2 rfl
       have z1_3 := cell_blk (j := 3) k2 rfl
       have z1_4 := cell_blk (j := 4) k2 rfl
       have z1_5 := cell_blk (j := 5) k2 rfl
       go_wp2_with fail
       try rw [eq0]
       refine (HC3.out _ hbv1).mono ?_
       rintro e v2 ⟨rfl, hv2⟩
       have hbv2 : Below w.heap.size w v2 := hbv1.trans (hv2.mono hbv1.size)
       have k3 := blk_keep k2 hv2 (Array.getElem?_eq_some_iff.1 k2).1
       have z2_0 := cell_blk (j := 0) k3 rfl
       have z2_1 := cell_blk (j := 1) k3 rfl
       have z2_2 := cell_blk (j := 2) k3 rfl
       have z2_3 := cell_blk (j := 3) k3 rfl
       have z2_4 := cell_blk (j := 4) k3 rfl
       have z2_5 := cell_blk (j := 5) k3 rfl
       go_wp2_with fail
       try rw [eq0]
       refine (HC4.out _ hbv2).mono ?_
       rintro e v3 ⟨rfl, hv3⟩
       have hbv3 : Below w.heap.size w v3 := hbv2.trans (hv3.mono hbv2.size)
       have k4 := blk_keep k3 hv3 (Array.getElem?_eq_some_iff.1 k3).1
       have z3_0 := cell_blk (j := 0) k4 rfl
       have z3_1 := cell_blk (j := 1) k4 rfl
       have z3_2 := cell_blk (j := 2) k4 rfl
       have z3_3 := cell_blk (j := 3) k4 rfl
       have z3_4 := cell_blk (j := 4) k4 rfl
       have z3_5 := cell_blk (j := 5) k4 rfl
       go_wp2_with fail
       try rw [eq0]
       refine (HC5.out _ hbv3).mono ?_
       rintro e v4 ⟨rfl, hv4⟩
       have hbv4 : Below w.heap.size w v4 := hbv3.trans (hv4.mono hbv3.size)
       have k5 := blk_keep k4 hv4 (Array.getElem?_eq_some_iff.1 k4).1
       have z4_0 := cell_blk (j := 0) k5 rfl
       have z4_1 := cell_blk (j := 1) k5 rfl
       have z4_2 := cell_blk (j := 2) k5 rfl
       have z4_3 := cell_blk (j := 3) k5 rfl
       have z4_4 := cell_blk (j := 4) k5 rfl
       have z4_5 := cell_blk (j := 5) k5 rfl
       go_wp2
       go_ret
       exact ⟨by rw [leftOf_zero]; first | rfl | simp_all, hbv4⟩
end Go.Proofs.YtamjofdgikifnaaGreat
