/- Machines as plain lists; machines in memory. The size of a machine that comes in. A machine that comes in, copied. A machine that comes in, copied. Like machines are told alike. A machine that comes in, opened. -/
import Derived.Test.YtlacidojljilaaaGreatDoorSyp
import Derived.Test.YtlacidojljilaaaGreatDoorSyz
import Derived.Test.YtlacidojljilaaaGreatDoorSyt
import Derived.Test.YtlacidojljilaaaGreatDoorSye
import Derived.Test.YtlacidojljilaaaGreatDoorOpx
set_option linter.unusedVariables false
namespace Go.Proofs.YtlacidojljilaaaGreatDoor
open Go.ChangeShapes Go.WideShapes Go.ChangeAt Go.RowKit
def Val.bulk (v : Val) : Nat := v.s.size
theorem Val.small_of {x : Val} (h : x.wf) (hb : x.bulk ≤ 1048576) : x.small := by
 obtain ⟨h0, h1, h2⟩ := h
 unfold Val.bulk at hb
 exact ⟨h0, h1, by omega⟩
structure Bnd where
 name : ByteArray
 val : Val
def Bnd.wf (x : Bnd) : Prop := x.name.size ≤ 9223372036854775807 ∧ x.val.wf
def Bnd.small (x : Bnd) : Prop := x.name.size ≤ 1048576 ∧ x.val.small
def Bnd.bulk (x : Bnd) : Nat := x.name.size + (x.val.bulk)
def rgB : Rd Bnd where
 n := 4
 At _ _ cs x := cs = [.string x.name, .int .i64 x.val.k, .int .i64 x.val.n, .string x.val.s]
 len h := by rw [h]; rfl
 keep h _ := h
theorem Bnd.small_of {x : Bnd} (h : x.wf) (hb : x.bulk ≤ 1048576) : x.small := by
 obtain ⟨h0, h1⟩ := h
 unfold Bnd.bulk at hb
 have qh1 : x.val.bulk ≤ 1048576 := by omega
 exact ⟨by omega, Val.small_of h1 qh1⟩
theorem smrow_Bind {l : List Bnd} (h1 : l.length ≤ 9223372036854775807) (h2 : ∀ d ∈ l, Bnd.wf d) (hb : bulkOf Bnd.bulk l ≤ 1048576) : l.length ≤ 1048576 ∧ ∀ d ∈ l, Bnd.small d := by
 have hl := bulkOf_len Bnd.bulk l
 exact ⟨by omega, fun d hd => Bnd.small_of (h2 d hd) (by have := bulkOf_mem Bnd.bulk hd; omega)⟩
structure Frm where
 unit : Int
 node : Int
 vals : List Val
 env : List Bnd
def Frm.wf (x : Frm) : Prop := i64B x.unit ∧ i64B x.node ∧ (x.vals.length ≤ 9223372036854775807 ∧ ∀ d ∈ x.vals, Val.wf d) ∧ (x.env.length ≤ 9223372036854775807 ∧ ∀ d ∈ x.env, Bnd.wf d)
def Frm.small (x : Frm) : Prop := i64B x.unit ∧ i64B x.node ∧ (x.vals.length ≤ 1048576 ∧ ∀ d ∈ x.vals, Val.small d) ∧ (x.env.length ≤ 1048576 ∧ ∀ d ∈ x.env, Bnd.small d)
def Frm.bulk (x : Frm) : Nat := bulkV x.vals + (bulkOf Bnd.bulk x.env)
def FrmRows (w : World) (p : Nat → Prop) (a1 a2 : Option Addr) (c1 c2 : Nat) (x : Frm) : Prop := (rgV.Row w p a1 x.vals ∧ x.vals.length ≤ c1) ∧ (rgB.Row w p a2 x.env ∧ x.env.length ≤ c2)
theorem FrmRows.keep {w w' : World} {p q : Nat → Prop} {a1 a2 : Option Addr} {c1 c2 : Nat} {x : Frm} (h : FrmRows w p a1 a2 c1 c2 x) (hk : ∀ b, p b → q b ∧ w'.heap[b]? = w.heap[b]?) : FrmRows w' q a1 a2 c1 c2 x := by
 obtain ⟨⟨r1, t1⟩, ⟨r2, t2⟩⟩ := h
 exact ⟨⟨r1.keep hk, t1⟩, ⟨r2.keep hk, t2⟩⟩
def rgF : Rd Frm where
 n := 4
 At w p cs x := ∃ a1 a2 c1 c2, cs = [.int .i64 x.unit, .int .i64 x.node, .slice a1 x.vals.length c1, .slice a2 x.env.length c2] ∧ FrmRows w p a1 a2 c1 c2 x
 len h := by obtain ⟨_, _, _, _, rfl, _⟩ := h; rfl
 keep h hk := by
  obtain ⟨a1, a2, c1, c2, rfl, hr⟩ := h
  exact ⟨a1, a2, c1, c2, rfl, hr.keep hk⟩
theorem Frm.small_of {x : Frm} (h : x.wf) (hb : x.bulk ≤ 1048576) : x.small := by
 obtain ⟨h0, h1, h2, h3⟩ := h
 unfold Frm.bulk at hb
 have qh2 : bulkV x.vals ≤ 1048576 := by omega
 have qh3 : bulkOf Bnd.bulk x.env ≤ 1048576 := by omega
 exact ⟨h0, h1, smrow_Value h2.1 h2.2 qh2, smrow_Bind h3.1 h3.2 qh3⟩
theorem smrow_Frame {l : List Frm} (h1 : l.length ≤ 9223372036854775807) (h2 : ∀ d ∈ l, Frm.wf d) (hb : bulkOf Frm.bulk l ≤ 1048576) : l.length ≤ 1048576 ∧ ∀ d ∈ l, Frm.small d := by
 have hl := bulkOf_len Frm.bulk l
 exact ⟨by omega, fun d hd => Frm.small_of (h2 d hd) (by have := bulkOf_mem Frm.bulk hd; omega)⟩
structure Mac where
 mode : Int
 unit : Int
 node : Int
 env : List Bnd
 val : Val
 stack : List Frm
 end_ : Int
def Mac.wf (x : Mac) : Prop := i64B x.mode ∧ i64B x.unit ∧ i64B x.node ∧ (x.env.length ≤ 9223372036854775807 ∧ ∀ d ∈ x.env, Bnd.wf d) ∧ x.val.wf ∧ (x.stack.length ≤ 9223372036854775807 ∧ ∀ d ∈ x.stack, Frm.wf d) ∧ i64B x.end_
def mA (m : Mac) (a b : Option Addr) (e f : Nat) : Value := .agg #[.int .i64 m.mode, .int .i64 m.unit, .int .i64 m.node, .slice a m.env.length e, .int .i64 m.val.k, .int .i64 m.val.n, .string m.val.s, .slice b m.stack.length f, .int .i64 m.end_]
def fA (x : Frm) (a b : Option Addr) (e f : Nat) : Value := .agg #[.int .i64 x.unit, .int .i64 x.node, .slice a x.vals.length e, .slice b x.env.length f]
def Mac.small (x : Mac) : Prop := i64B x.mode ∧ i64B x.unit ∧ i64B x.node ∧ (x.env.length ≤ 1048576 ∧ ∀ d ∈ x.env, Bnd.small d) ∧ x.val.small ∧ (x.stack.length ≤ 1048576 ∧ ∀ d ∈ x.stack, Frm.small d) ∧ i64B x.end_
def Mac.bulk (x : Mac) : Nat := bulkOf Bnd.bulk x.env + (x.val.bulk + (bulkOf Frm.bulk x.stack))
def MacRows (w : World) (p : Nat → Prop) (a1 a2 : Option Addr) (c1 c2 : Nat) (x : Mac) : Prop := (rgB.Row w p a1 x.env ∧ x.env.length ≤ c1) ∧ (rgF.Row w p a2 x.stack ∧ x.stack.length ≤ c2)
theorem MacRows.keep {w w' : World} {p q : Nat → Prop} {a1 a2 : Option Addr} {c1 c2 : Nat} {x : Mac} (h : MacRows w p a1 a2 c1 c2 x) (hk : ∀ b, p b → q b ∧ w'.heap[b]? = w.heap[b]?) : MacRows w' q a1 a2 c1 c2 x := by
 obtain ⟨⟨r1, t1⟩, ⟨r2, t2⟩⟩ := h
 exact ⟨⟨r1.keep hk, t1⟩, ⟨r2.keep hk, t2⟩⟩
def rgM : Rd Mac where
 n := 9
 At w p cs x := ∃ a1 a2 c1 c2, cs = [.int .i64 x.mode, .int .i64 x.unit, .int .i64 x.node, .slice a1 x.env.length c1, .int .i64 x.val.k, .int .i64 x.val.n, .string x.val.s, .slice a2 x.stack.length c2, .int .i64 x.end_] ∧ MacRows w p a1 a2 c1 c2 x
 len h := by obtain ⟨_, _, _, _, rfl, _⟩ := h; rfl
 keep h hk := by
  obtain ⟨a1, a2, c1, c2, rfl, hr⟩ := h
  exact ⟨a1, a2, c1, c2, rfl, hr.keep hk⟩
theorem Mac.small_of {x : Mac} (h : x.wf) (hb : x.bulk ≤ 1048576) : x.small := by
 obtain ⟨h0, h1, h2, h3, h4, h5, h6⟩ := h
 unfold Mac.bulk at hb
 have qh3 : bulkOf Bnd.bulk x.env ≤ 1048576 := by omega
 have qh4 : x.val.bulk ≤ 1048576 := by omega
 have qh5 : bulkOf Frm.bulk x.stack ≤ 1048576 := by omega
 exact ⟨h0, h1, h2, smrow_Bind h3.1 h3.2 qh3, Val.small_of h4 qh4, smrow_Frame h5.1 h5.2 qh5, h6⟩
end Go.Proofs.YtlacidojljilaaaGreatDoor
set_option linter.unusedVariables false
namespace Go.Proofs.YtlacidojljilaaaGreatDoor
open Go.ChangeShapes Go.WideShapes Go.ChangeAt Go.RowKit
theorem szE_Value (x : Val) (left : Nat) (w : World) (hl : left ≤ 1048576) (hw : x.wf) :
  Calls Tryz.prog 17 #[.agg #[.int .i64 x.k, .int .i64 x.n, .string x.s], .int .i64 left] w fun e w' => Ans w (.int .i64 (leftOf left x.bulk)) e w' := szValue_any x left w hl hw.2.2
set_option maxRecDepth 100000 in
set_option maxHeartbeats 1000000 in
theorem szE_Bind (x : Bnd) (left : Nat) (w : World) (hl : left ≤ 1048576) (hw : x.wf) :
  Calls Tryz.prog 41 #[.agg #[.string x.name, .int .i64 x.val.k, .int .i64 x.val.n, .string x.val.s], .int .i64 left] w fun e w' => Ans w (.int .i64 (leftOf left x.bulk)) e w' := by
 unfold Bnd.bulk
 obtain ⟨u0, u1⟩ := hw
 have hb0 : Below w.heap.size w (w.alloc (Obj.cells #[.string x.name, .int .i64 x.val.k, .int .i64 x.val.n, .string x.val.s] 93)) := bR _ _
 have k0 : (w.alloc (Obj.cells #[.string x.name, .int .i64 x.val.k, .int .i64 x.val.n, .string x.val.s] 93)).heap[w.heap.size]? = some (Obj.cells #[.string x.name, .int .i64 x.val.k, .int .i64 x.val.n, .string x.val.s] 93) := blk_at _ _ _ rfl
 by_cases h0 : left < x.name.size
 ·have g0 : decide ((left : Int) - (x.name.size : Int) < 0) = true := by simp; omega
  go_enter Tryz.func41, Tryz.ntmps41
  go_wp2
  go_ret
  exact ⟨by rw [leftOf_neg (by omega)]; rfl, hb0⟩
 ·have g0 : decide ((left : Int) - (x.name.size : Int) < 0) = false := by simp; omega
  obtain ⟨q0, hq0⟩ : ∃ q, q = left - x.name.size := ⟨_, rfl⟩
  have eq0 : (left : Int) - (x.name.size : Int) = (q0 : Int) := by omega
  have hl0 : q0 ≤ 1048576 := by omega
  have HB0 : Hid (leftOf left (x.name.size + (x.val.bulk)) = leftOf q0 (x.val.bulk)) := by show _ = _; rw [leftOf_add h0, hq0]
  rw [HB0.out]
  clear HB0 hq0 h0
  have hlc : q0 ≤ 1048576 := by omega
  have HC1 : Hid (∀ w2, Below w.heap.size w w2 → Calls Tryz.prog 17 #[.agg #[.int .i64 x.val.k, .int .i64 x.val.n, .string x.val.s], .int .i64 q0] w2 fun e w' => Ans w2 (.int .i64 (leftOf q0 (x.val.bulk))) e w') := fun w2 h2 => szE_Value x.val q0 w2 hlc u1
  clear hlc
  by_cases h1 : q0 < x.val.bulk
  ·rw [leftOf_neg h1] at HC1
   go_enter Tryz.func41, Tryz.ntmps41
   go_wp2_with fail
   try rw [eq0]
   refine (HC1.out _ hb0).mono ?_
   rintro e v0 ⟨rfl, hv0⟩
   have hbv0 : Below w.heap.size w v0 := bT hb0 hv0
   have k1 := bK k0 hv0
   obtain ⟨z0_0, z0_1, z0_2, z0_3⟩ := zn4 k1 rfl rfl rfl rfl
   go_wp2
   go_ret
   exact ⟨by rw [leftOf_neg (by omega)]; rfl, hbv0⟩
  ·rw [leftOf_nat h1] at HC1
   have HB1 : Hid (leftOf q0 (x.val.bulk) = leftOf (q0 - x.val.bulk) 0) := by show _ = _; rw [leftOf_nat h1]; simp [leftOf]
   rw [HB1.out]
   have hl1 : q0 - x.val.bulk ≤ 1048576 := by omega
   clear HB1 h1
   generalize q0 - x.val.bulk = q1 at *
   go_enter Tryz.func41, Tryz.ntmps41
   go_wp2_with fail
   try rw [eq0]
   refine (HC1.out _ hb0).mono ?_
   rintro e v0 ⟨rfl, hv0⟩
   have hbv0 : Below w.heap.size w v0 := bT hb0 hv0
   have k1 := bK k0 hv0
   obtain ⟨z0_0, z0_1, z0_2, z0_3⟩ := zn4 k1 rfl rfl rfl rfl
   go_wp2
   go_ret
   exact ⟨by rw [leftOf_zero]; first | rfl | simp_all, hbv0⟩
set_option maxRecDepth 100000 in
set_option maxHeartbeats 1000000 in
theorem sz_Bind (a : Option Addr) (l : List Bnd) (cap left : Nat) (w : World) (hl : left ≤ 1048576) (hn : l.length ≤ 9223372036854775807) (hr : rgB.Row w (fun b => b < w.heap.size) a l) (hwf : ∀ d ∈ l, Bnd.wf d) :
  Calls Tryz.prog 16 #[.slice a l.length cap, .int .i64 left] w fun e w' => Ans w (.int .i64 (leftOf left (bulkOf Bnd.bulk l))) e w' := by
 by_cases h : left < l.length
 ·have HL : Hid (leftOf left (bulkOf Bnd.bulk l) = -1) := if_pos (by have := bulkOf_len Bnd.bulk l; omega)
  have hd : decide ((left : Int) - (l.length : Int) < 0) = true := by simp; omega
  go_enter Tryz.func16, Tryz.ntmps16
  go_wp2
  all_goals go_ret
  all_goals exact ⟨by rw [HL.out]; rfl, Below.refl _ _⟩
 ·have hd : decide ((left : Int) - (l.length : Int) < 0) = false := by simp; omega
  have HR : Hid (rgB.Row w (fun b => b < w.heap.size) a l) := hr
  have HW : Hid (∀ d ∈ l, Bnd.wf d) := hwf
  clear hr hwf
  go_enter Tryz.func16, Tryz.ntmps16
  go_wp2
  go_loopw [1, 5] (fun t o wr => ∃ (i m : Nat), i ≤ l.length ∧ m + bulkOf Bnd.bulk (l.take i) + (l.length - i) = left ∧ t = .int .i64 m ∧ o = .int .i64 i ∧ Below w.heap.size w wr)
   (fun _ o _ => l.length - (intOf o).toNat)
  case atStart => exact ⟨0, left - l.length, by omega, by simp [bulkOf]; omega, by go_num, rfl, Below.refl _ _⟩
  case round =>
   obtain ⟨i, m, hi, hm, rfl, rfl, hb⟩ := hrel
   by_cases hlt : i < l.length
   ·obtain ⟨d, hd⟩ : ∃ d, l[i]? = some d := ⟨_, List.getElem?_eq_getElem hlt⟩
    obtain ⟨b1, o1, cs, rfl, hbb, hat, hlies⟩ := HR.out i d hd
    obtain rfl := hat
    have cx0 : wr.cell? ⟨b1, o1 + i * 4, none⟩ = some (.string d.name) := cell_keep (hlies 0 _ rfl) hb hbb
    have cx1 : wr.cell? ⟨b1, o1 + i * 4 + 1, none⟩ = some (.int .i64 d.val.k) := cell_keep (hlies 1 _ rfl) hb hbb
    have cx2 : wr.cell? ⟨b1, o1 + i * 4 + 2, none⟩ = some (.int .i64 d.val.n) := cell_keep (hlies 2 _ rfl) hb hbb
    have cx3 : wr.cell? ⟨b1, o1 + i * 4 + 3, none⟩ = some (.string d.val.s) := cell_keep (hlies 3 _ rfl) hb hbb
    have hsz := hb.size
    have HM : Hid (m + bulkOf Bnd.bulk (l.take i) + (l.length - i) = left) := hm
    have hm' : m ≤ 1048576 := by omega
    have hbs := bulkOf_take_succ Bnd.bulk hd
    have hle := bulkOf_take_le Bnd.bulk l (i + 1)
    have HZ : Hid (Calls Tryz.prog 41 #[.agg #[.string d.name, .int .i64 d.val.k, .int .i64 d.val.n, .string d.val.s], .int .i64 m] wr fun e w' => Ans wr (.int .i64 (leftOf m d.bulk)) e w') := szE_Bind d   m wr hm' (HW.out d (List.mem_of_getElem? hd))
    clear hm hlies hd
    by_cases hq : m < d.bulk
    ·rw [leftOf_neg hq] at HZ
     have HL : Hid (leftOf left (bulkOf Bnd.bulk l) = -1) := if_pos (by have := HM.out; omega)
     clear hbs hle
     go_wp2_with (go_at_call 41; refine HZ.out.mono ?_; rintro e w1 ⟨rfl, hb1⟩)
     go_ret
     exact ⟨by rw [HL.out]; rfl, hb.trans (hb1.mono hsz)⟩
    ·rw [leftOf_nat hq] at HZ
     have HQ : Hid ((m - d.bulk) + bulkOf Bnd.bulk (l.take (i + 1)) + (l.length - (i + 1)) = left) := by have := HM.out; show _ = _; omega
     generalize m - d.bulk = q at *
     clear hbs hle hq
     go_wp2_with (go_at_call 41; refine HZ.out.mono ?_; rintro e w1 ⟨rfl, hb1⟩)
     go_roundw
     case rel => exact ⟨i + 1, q, by omega, HQ.out, rfl, by go_num, hb.trans (hb1.mono hsz)⟩
     case measure => simp [intOf]; omega
   ·have hlt' : decide ((i : Int) < (l.length : Int)) = false := by simp; omega
    obtain rfl : i = l.length := by omega
    rw [List.take_length] at hm
    have HL : Hid (leftOf left (bulkOf Bnd.bulk l) = m) := by show _ = _; rw [show leftOf left (bulkOf Bnd.bulk l) = (left : Int) - bulkOf Bnd.bulk l from if_neg (by omega)]; omega
    clear hm
    go_wp2
    go_ret
    exact ⟨by rw [HL.out]; rfl, hb⟩
set_option maxRecDepth 100000 in
set_option maxHeartbeats 1000000 in
theorem szE_Frame (x : Frm) (a1 a2 : Option Addr) (c1 c2 : Nat) (left : Nat) (w : World) (hl : left ≤ 1048576) (hw : x.wf) (hr : FrmRows w (fun b => b < w.heap.size) a1 a2 c1 c2 x) :
  Calls Tryz.prog 42 #[.agg #[.int .i64 x.unit, .int .i64 x.node, .slice a1 x.vals.length c1, .slice a2 x.env.length c2], .int .i64 left] w fun e w' => Ans w (.int .i64 (leftOf left x.bulk)) e w' := by
 unfold Frm.bulk
 obtain ⟨u0, u1, u2, u3⟩ := hw
 obtain ⟨⟨r1, t1⟩, ⟨r2, t2⟩⟩ := hr
 have hb0 : Below w.heap.size w (w.alloc (Obj.cells #[.int .i64 x.unit, .int .i64 x.node, .slice a1 x.vals.length c1, .slice a2 x.env.length c2] 96)) := bR _ _
 have k0 : (w.alloc (Obj.cells #[.int .i64 x.unit, .int .i64 x.node, .slice a1 x.vals.length c1, .slice a2 x.env.length c2] 96)).heap[w.heap.size]? = some (Obj.cells #[.int .i64 x.unit, .int .i64 x.node, .slice a1 x.vals.length c1, .slice a2 x.env.length c2] 96) := blk_at _ _ _ rfl
 have hlc : left ≤ 1048576 := by omega
 have HC0 : Hid (∀ w2, Below w.heap.size w w2 → Calls Tryz.prog 66 #[.slice a1 x.vals.length c1, .int .i64 left] w2 fun e w' => Ans w2 (.int .i64 (leftOf left (bulkV x.vals))) e w') := fun w2 h2 => sz_Value a1 x.vals c1 left w2 hlc (u2.1) (r1.keep fun b h => ⟨by have := h2.size; omega, h2.block b h⟩) u2.2
 clear hlc
 by_cases h0 : left < bulkV x.vals
 ·rw [leftOf_neg h0] at HC0
  go_enter Tryz.func42, Tryz.ntmps42
  go_wp2_with fail
  refine (HC0.out _ hb0).mono ?_
  rintro e v0 ⟨rfl, hv0⟩
  have hbv0 : Below w.heap.size w v0 := bT hb0 hv0
  have k1 := bK k0 hv0
  obtain ⟨z0_0, z0_1, z0_2, z0_3⟩ := zn4 k1 rfl rfl rfl rfl
  go_wp2
  go_ret
  exact ⟨by rw [leftOf_neg (by omega)]; rfl, hbv0⟩
 ·rw [leftOf_nat h0] at HC0
  have HB0 : Hid (leftOf left (bulkV x.vals + (bulkOf Bnd.bulk x.env)) = leftOf (left - bulkV x.vals) (bulkOf Bnd.bulk x.env)) := by show _ = _; rw [leftOf_add h0]
  rw [HB0.out]
  have hl0 : left - bulkV x.vals ≤ 1048576 := by omega
  clear HB0 h0
  generalize left - bulkV x.vals = q0 at *
  have hlc : q0 ≤ 1048576 := by omega
  have HC1 : Hid (∀ w2, Below w.heap.size w w2 → Calls Tryz.prog 16 #[.slice a2 x.env.length c2, .int .i64 q0] w2 fun e w' => Ans w2 (.int .i64 (leftOf q0 (bulkOf Bnd.bulk x.env))) e w') := fun w2 h2 => sz_Bind a2 x.env c2 q0 w2 hlc (u3.1) (r2.keep fun b h => ⟨by have := h2.size; omega, h2.block b h⟩) u3.2
  clear hlc
  by_cases h1 : q0 < bulkOf Bnd.bulk x.env
  ·rw [leftOf_neg h1] at HC1
   go_enter Tryz.func42, Tryz.ntmps42
   go_wp2_with fail
   refine (HC0.out _ hb0).mono ?_
   rintro e v0 ⟨rfl, hv0⟩
   have hbv0 : Below w.heap.size w v0 := bT hb0 hv0
   have k1 := bK k0 hv0
   obtain ⟨z0_0, z0_1, z0_2, z0_3⟩ := zn4 k1 rfl rfl rfl rfl
   go_wp2_with fail
   refine (HC1.out _ hbv0).mono ?_
   rintro e v1 ⟨rfl, hv1⟩
   have hbv1 : Below w.heap.size w v1 := bT hbv0 hv1
   have k2 := bK k1 hv1
   obtain ⟨z1_0, z1_1, z1_2, z1_3⟩ := zn4 k2 rfl rfl rfl rfl
   go_wp2
   go_ret
   exact ⟨by rw [leftOf_neg (by omega)]; rfl, hbv1⟩
  ·rw [leftOf_nat h1] at HC1
   have HB1 : Hid (leftOf q0 (bulkOf Bnd.bulk x.env) = leftOf (q0 - bulkOf Bnd.bulk x.env) 0) := by show _ = _; rw [leftOf_nat h1]; simp [leftOf]
   rw [HB1.out]
   have hl1 : q0 - bulkOf Bnd.bulk x.env ≤ 1048576 := by omega
   clear HB1 h1
   generalize q0 - bulkOf Bnd.bulk x.env = q1 at *
   go_enter Tryz.func42, Tryz.ntmps42
   go_wp2_with fail
   refine (HC0.out _ hb0).mono ?_
   rintro e v0 ⟨rfl, hv0⟩
   have hbv0 : Below w.heap.size w v0 := bT hb0 hv0
   have k1 := bK k0 hv0
   obtain ⟨z0_0, z0_1, z0_2, z0_3⟩ := zn4 k1 rfl rfl rfl rfl
   go_wp2_with fail
   refine (HC1.out _ hbv0).mono ?_
   rintro e v1 ⟨rfl, hv1⟩
   have hbv1 : Below w.heap.size w v1 := bT hbv0 hv1
   have k2 := bK k1 hv1
   obtain ⟨z1_0, z1_1, z1_2, z1_3⟩ := zn4 k2 rfl rfl rfl rfl
   go_wp2
   go_ret
   exact ⟨by rw [leftOf_zero]; first | rfl | simp_all, hbv1⟩
set_option maxRecDepth 100000 in
set_option maxHeartbeats 1000000 in
theorem sz_Frame (a : Option Addr) (l : List Frm) (cap left : Nat) (w : World) (hl : left ≤ 1048576) (hn : l.length ≤ 9223372036854775807) (hr : rgF.Row w (fun b => b < w.heap.size) a l) (hwf : ∀ d ∈ l, Frm.wf d) :
  Calls Tryz.prog 18 #[.slice a l.length cap, .int .i64 left] w fun e w' => Ans w (.int .i64 (leftOf left (bulkOf Frm.bulk l))) e w' := by
 by_cases h : left < l.length
 ·have HL : Hid (leftOf left (bulkOf Frm.bulk l) = -1) := if_pos (by have := bulkOf_len Frm.bulk l; omega)
  have hd : decide ((left : Int) - (l.length : Int) < 0) = true := by simp; omega
  go_enter Tryz.func18, Tryz.ntmps18
  go_wp2
  all_goals go_ret
  all_goals exact ⟨by rw [HL.out]; rfl, Below.refl _ _⟩
 ·have hd : decide ((left : Int) - (l.length : Int) < 0) = false := by simp; omega
  have HR : Hid (rgF.Row w (fun b => b < w.heap.size) a l) := hr
  have HW : Hid (∀ d ∈ l, Frm.wf d) := hwf
  clear hr hwf
  go_enter Tryz.func18, Tryz.ntmps18
  go_wp2
  go_loopw [1, 5] (fun t o wr => ∃ (i m : Nat), i ≤ l.length ∧ m + bulkOf Frm.bulk (l.take i) + (l.length - i) = left ∧ t = .int .i64 m ∧ o = .int .i64 i ∧ Below w.heap.size w wr)
   (fun _ o _ => l.length - (intOf o).toNat)
  case atStart => exact ⟨0, left - l.length, by omega, by simp [bulkOf]; omega, by go_num, rfl, Below.refl _ _⟩
  case round =>
   obtain ⟨i, m, hi, hm, rfl, rfl, hb⟩ := hrel
   by_cases hlt : i < l.length
   ·obtain ⟨d, hd⟩ : ∃ d, l[i]? = some d := ⟨_, List.getElem?_eq_getElem hlt⟩
    obtain ⟨b1, o1, cs, rfl, hbb, hat, hlies⟩ := HR.out i d hd
    obtain ⟨a1, a2, c1, c2, rfl, hrows⟩ := hat
    have cx0 : wr.cell? ⟨b1, o1 + i * 4, none⟩ = some (.int .i64 d.unit) := cell_keep (hlies 0 _ rfl) hb hbb
    have cx1 : wr.cell? ⟨b1, o1 + i * 4 + 1, none⟩ = some (.int .i64 d.node) := cell_keep (hlies 1 _ rfl) hb hbb
    have cx2 : wr.cell? ⟨b1, o1 + i * 4 + 2, none⟩ = some (.slice a1 d.vals.length c1) := cell_keep (hlies 2 _ rfl) hb hbb
    have cx3 : wr.cell? ⟨b1, o1 + i * 4 + 3, none⟩ = some (.slice a2 d.env.length c2) := cell_keep (hlies 3 _ rfl) hb hbb
    have hsz := hb.size
    have HM : Hid (m + bulkOf Frm.bulk (l.take i) + (l.length - i) = left) := hm
    have hm' : m ≤ 1048576 := by omega
    have hbs := bulkOf_take_succ Frm.bulk hd
    have hle := bulkOf_take_le Frm.bulk l (i + 1)
    have HZ : Hid (Calls Tryz.prog 42 #[.agg #[.int .i64 d.unit, .int .i64 d.node, .slice a1 d.vals.length c1, .slice a2 d.env.length c2], .int .i64 m] wr fun e w' => Ans wr (.int .i64 (leftOf m d.bulk)) e w') := szE_Frame d a1 a2 c1 c2 m wr hm' (HW.out d (List.mem_of_getElem? hd)) (hrows.keep fun b h => ⟨by have := hb.size; omega, hb.block b h⟩)
    clear hm hlies hd hrows
    by_cases hq : m < d.bulk
    ·rw [leftOf_neg hq] at HZ
     have HL : Hid (leftOf left (bulkOf Frm.bulk l) = -1) := if_pos (by have := HM.out; omega)
     clear hbs hle
     go_wp2_with (go_at_call 42; refine HZ.out.mono ?_; rintro e w1 ⟨rfl, hb1⟩)
     go_ret
     exact ⟨by rw [HL.out]; rfl, hb.trans (hb1.mono hsz)⟩
    ·rw [leftOf_nat hq] at HZ
     have HQ : Hid ((m - d.bulk) + bulkOf Frm.bulk (l.take (i + 1)) + (l.length - (i + 1)) = left) := by have := HM.out; show _ = _; omega
     generalize m - d.bulk = q at *
     clear hbs hle hq
     go_wp2_with (go_at_call 42; refine HZ.out.mono ?_; rintro e w1 ⟨rfl, hb1⟩)
     go_roundw
     case rel => exact ⟨i + 1, q, by omega, HQ.out, rfl, by go_num, hb.trans (hb1.mono hsz)⟩
     case measure => simp [intOf]; omega
   ·have hlt' : decide ((i : Int) < (l.length : Int)) = false := by simp; omega
    obtain rfl : i = l.length := by omega
    rw [List.take_length] at hm
    have HL : Hid (leftOf left (bulkOf Frm.bulk l) = m) := by show _ = _; rw [show leftOf left (bulkOf Frm.bulk l) = (left : Int) - bulkOf Frm.bulk l from if_neg (by omega)]; omega
    clear hm
    go_wp2
    go_ret
    exact ⟨by rw [HL.out]; rfl, hb⟩
set_option maxRecDepth 100000 in
set_option maxHeartbeats 1000000 in
theorem szE_Machine (x : Mac) (a1 a2 : Option Addr) (c1 c2 : Nat) (left : Nat) (w : World) (hl : left ≤ 1048576) (hw : x.wf) (hr : MacRows w (fun b => b < w.heap.size) a1 a2 c1 c2 x) :
  Calls Tryz.prog 5 #[.agg #[.int .i64 x.mode, .int .i64 x.unit, .int .i64 x.node, .slice a1 x.env.length c1, .int .i64 x.val.k, .int .i64 x.val.n, .string x.val.s, .slice a2 x.stack.length c2, .int .i64 x.end_], .int .i64 left] w fun e w' => Ans w (.int .i64 (leftOf left x.bulk)) e w' := by
 unfold Mac.bulk
 obtain ⟨u0, u1, u2, u3, u4, u5, u6⟩ := hw
 obtain ⟨⟨r1, t1⟩, ⟨r2, t2⟩⟩ := hr
 have hb0 : Below w.heap.size w (w.alloc (Obj.cells #[.int .i64 x.mode, .int .i64 x.unit, .int .i64 x.node, .slice a1 x.env.length c1, .int .i64 x.val.k, .int .i64 x.val.n, .string x.val.s, .slice a2 x.stack.length c2, .int .i64 x.end_] 33)) := bR _ _
 have k0 : (w.alloc (Obj.cells #[.int .i64 x.mode, .int .i64 x.unit, .int .i64 x.node, .slice a1 x.env.length c1, .int .i64 x.val.k, .int .i64 x.val.n, .string x.val.s, .slice a2 x.stack.length c2, .int .i64 x.end_] 33)).heap[w.heap.size]? = some (Obj.cells #[.int .i64 x.mode, .int .i64 x.unit, .int .i64 x.node, .slice a1 x.env.length c1, .int .i64 x.val.k, .int .i64 x.val.n, .string x.val.s, .slice a2 x.stack.length c2, .int .i64 x.end_] 33) := blk_at _ _ _ rfl
 have hlc : left ≤ 1048576 := by omega
 have HC0 : Hid (∀ w2, Below w.heap.size w w2 → Calls Tryz.prog 16 #[.slice a1 x.env.length c1, .int .i64 left] w2 fun e w' => Ans w2 (.int .i64 (leftOf left (bulkOf Bnd.bulk x.env))) e w') := fun w2 h2 => sz_Bind a1 x.env c1 left w2 hlc (u3.1) (r1.keep fun b h => ⟨by have := h2.size; omega, h2.block b h⟩) u3.2
 clear hlc
 by_cases h0 : left < bulkOf Bnd.bulk x.env
 ·rw [leftOf_neg h0] at HC0
  go_enter Tryz.func5, Tryz.ntmps5
  go_wp2_with fail
  refine (HC0.out _ hb0).mono ?_
  rintro e v0 ⟨rfl, hv0⟩
  have hbv0 : Below w.heap.size w v0 := bT hb0 hv0
  have k1 := bK k0 hv0
  obtain ⟨z0_0, z0_1, z0_2, z0_3, z0_4, z0_5, z0_6, z0_7, z0_8⟩ := zn9 k1 rfl rfl rfl rfl rfl rfl rfl rfl rfl
  go_wp2
  go_ret
  exact ⟨by rw [leftOf_neg (by omega)]; rfl, hbv0⟩
 ·rw [leftOf_nat h0] at HC0
  have HB0 : Hid (leftOf left (bulkOf Bnd.bulk x.env + (x.val.bulk + (bulkOf Frm.bulk x.stack))) = leftOf (left - bulkOf Bnd.bulk x.env) (x.val.bulk + (bulkOf Frm.bulk x.stack))) := by show _ = _; rw [leftOf_add h0]
  rw [HB0.out]
  have hl0 : left - bulkOf Bnd.bulk x.env ≤ 1048576 := by omega
  clear HB0 h0
  generalize left - bulkOf Bnd.bulk x.env = q0 at *
  have hlc : q0 ≤ 1048576 := by omega
  have HC1 : Hid (∀ w2, Below w.heap.size w w2 → Calls Tryz.prog 17 #[.agg #[.int .i64 x.val.k, .int .i64 x.val.n, .string x.val.s], .int .i64 q0] w2 fun e w' => Ans w2 (.int .i64 (leftOf q0 (x.val.bulk))) e w') := fun w2 h2 => szE_Value x.val q0 w2 hlc u4
  clear hlc
  by_cases h1 : q0 < x.val.bulk
  ·rw [leftOf_neg h1] at HC1
   go_enter Tryz.func5, Tryz.ntmps5
   go_wp2_with fail
   refine (HC0.out _ hb0).mono ?_
   rintro e v0 ⟨rfl, hv0⟩
   have hbv0 : Below w.heap.size w v0 := bT hb0 hv0
   have k1 := bK k0 hv0
   obtain ⟨z0_0, z0_1, z0_2, z0_3, z0_4, z0_5, z0_6, z0_7, z0_8⟩ := zn9 k1 rfl rfl rfl rfl rfl rfl rfl rfl rfl
   go_wp2_with fail
   refine (HC1.out _ hbv0).mono ?_
   rintro e v1 ⟨rfl, hv1⟩
   have hbv1 : Below w.heap.size w v1 := bT hbv0 hv1
   have k2 := bK k1 hv1
   obtain ⟨z1_0, z1_1, z1_2, z1_3, z1_4, z1_5, z1_6, z1_7, z1_8⟩ := zn9 k2 rfl rfl rfl rfl rfl rfl rfl rfl rfl
   go_wp2
   go_ret
   exact ⟨by rw [leftOf_neg (by omega)]; rfl, hbv1⟩
  ·rw [leftOf_nat h1] at HC1
   have HB1 : Hid (leftOf q0 (x.val.bulk + (bulkOf Frm.bulk x.stack)) = leftOf (q0 - x.val.bulk) (bulkOf Frm.bulk x.stack)) := by show _ = _; rw [leftOf_add h1]
   rw [HB1.out]
   have hl1 : q0 - x.val.bulk ≤ 1048576 := by omega
   clear HB1 h1
   generalize q0 - x.val.bulk = q1 at *
   have hlc : q1 ≤ 1048576 := by omega
   have HC2 : Hid (∀ w2, Below w.heap.size w w2 → Calls Tryz.prog 18 #[.slice a2 x.stack.length c2, .int .i64 q1] w2 fun e w' => Ans w2 (.int .i64 (leftOf q1 (bulkOf Frm.bulk x.stack))) e w') := fun w2 h2 => sz_Frame a2 x.stack c2 q1 w2 hlc (u5.1) (r2.keep fun b h => ⟨by have := h2.size; omega, h2.block b h⟩) u5.2
   clear hlc
   by_cases h2 : q1 < bulkOf Frm.bulk x.stack
   ·rw [leftOf_neg h2] at HC2
    go_enter Tryz.func5, Tryz.ntmps5
    go_wp2_with fail
    refine (HC0.out _ hb0).mono ?_
    rintro e v0 ⟨rfl, hv0⟩
    have hbv0 : Below w.heap.size w v0 := bT hb0 hv0
    have k1 := bK k0 hv0
    obtain ⟨z0_0, z0_1, z0_2, z0_3, z0_4, z0_5, z0_6, z0_7, z0_8⟩ := zn9 k1 rfl rfl rfl rfl rfl rfl rfl rfl rfl
    go_wp2_with fail
    refine (HC1.out _ hbv0).mono ?_
    rintro e v1 ⟨rfl, hv1⟩
    have hbv1 : Below w.heap.size w v1 := bT hbv0 hv1
    have k2 := bK k1 hv1
    obtain ⟨z1_0, z1_1, z1_2, z1_3, z1_4, z1_5, z1_6, z1_7, z1_8⟩ := zn9 k2 rfl rfl rfl rfl rfl rfl rfl rfl rfl
    go_wp2_with fail
    refine (HC2.out _ hbv1).mono ?_
    rintro e v2 ⟨rfl, hv2⟩
    have hbv2 : Below w.heap.size w v2 := bT hbv1 hv2
    have k3 := bK k2 hv2
    obtain ⟨z2_0, z2_1, z2_2, z2_3, z2_4, z2_5, z2_6, z2_7, z2_8⟩ := zn9 k3 rfl rfl rfl rfl rfl rfl rfl rfl rfl
    go_wp2
    go_ret
    exact ⟨by rw [leftOf_neg (by omega)]; rfl, hbv2⟩
   ·rw [leftOf_nat h2] at HC2
    have HB2 : Hid (leftOf q1 (bulkOf Frm.bulk x.stack) = leftOf (q1 - bulkOf Frm.bulk x.stack) 0) := by show _ = _; rw [leftOf_nat h2]; simp [leftOf]
    rw [HB2.out]
    have hl2 : q1 - bulkOf Frm.bulk x.stack ≤ 1048576 := by omega
    clear HB2 h2
    generalize q1 - bulkOf Frm.bulk x.stack = q2 at *
    go_enter Tryz.func5, Tryz.ntmps5
    go_wp2_with fail
    refine (HC0.out _ hb0).mono ?_
    rintro e v0 ⟨rfl, hv0⟩
    have hbv0 : Below w.heap.size w v0 := bT hb0 hv0
    have k1 := bK k0 hv0
    obtain ⟨z0_0, z0_1, z0_2, z0_3, z0_4, z0_5, z0_6, z0_7, z0_8⟩ := zn9 k1 rfl rfl rfl rfl rfl rfl rfl rfl rfl
    go_wp2_with fail
    refine (HC1.out _ hbv0).mono ?_
    rintro e v1 ⟨rfl, hv1⟩
    have hbv1 : Below w.heap.size w v1 := bT hbv0 hv1
    have k2 := bK k1 hv1
    obtain ⟨z1_0, z1_1, z1_2, z1_3, z1_4, z1_5, z1_6, z1_7, z1_8⟩ := zn9 k2 rfl rfl rfl rfl rfl rfl rfl rfl rfl
    go_wp2_with fail
    refine (HC2.out _ hbv1).mono ?_
    rintro e v2 ⟨rfl, hv2⟩
    have hbv2 : Below w.heap.size w v2 := bT hbv1 hv2
    have k3 := bK k2 hv2
    obtain ⟨z2_0, z2_1, z2_2, z2_3, z2_4, z2_5, z2_6, z2_7, z2_8⟩ := zn9 k3 rfl rfl rfl rfl rfl rfl rfl rfl rfl
    go_wp2
    go_ret
    exact ⟨by rw [leftOf_zero]; first | rfl | simp_all, hbv2⟩
end Go.Proofs.YtlacidojljilaaaGreatDoor
set_option linter.unusedVariables false
namespace Go.Proofs.YtlacidojljilaaaGreatDoor
open Go.ChangeShapes Go.WideShapes Go.ChangeAt Go.RowKit
theorem toE_Value (x : Val) (w : World) (hs : x.small) :
  Calls Tryz.prog 26 #[.agg #[.int .i64 x.k, .int .i64 x.n, .string x.s]] w fun e w' => MadeE rgV x w e w' :=
 (toValue_any x w).mono fun e w' ⟨he, hb⟩ => ⟨[.int .i64 x.k, .int .i64 x.n, .string x.s], he, rfl, hb⟩
set_option maxRecDepth 100000 in
set_option maxHeartbeats 2000000 in
theorem toE_Bind (x : Bnd) (w : World) (hs : x.small) :
  Calls Tryz.prog 53 #[.agg #[.string x.name, .int .i64 x.val.k, .int .i64 x.val.n, .string x.val.s]] w fun e w' => MadeE rgB x w e w' := by
 obtain ⟨u0, u1⟩ := hs
 have HC0 : Hid (∀ w2, Below w.heap.size w w2 → Calls Tryz.prog 26 #[.agg #[.int .i64 x.val.k, .int .i64 x.val.n, .string x.val.s]] w2 fun e w' => MadeE rgV x.val w2 e w') := fun w2 h2 => toE_Value x.val w2 u1
 go_enter Tryz.func53, Tryz.ntmps53
 go_wp2_with fail
 have hb : Below w.heap.size w (((w.alloc (Obj.cells #[.string x.name, .int .i64 x.val.k, .int .i64 x.val.n, .string x.val.s] 93)).alloc (Obj.cells #[.string ⟨#[]⟩, .int .i64 0, .int .i64 0, .string ⟨#[]⟩] 121)).alloc (Obj.cells #[.string x.name, .int .i64 0, .int .i64 0, .string ⟨#[]⟩] 121)) := ((bR _ _).alloc (by simp) _).alloc (by simp; omega) _
 have k0 : (((w.alloc (Obj.cells #[.string x.name, .int .i64 x.val.k, .int .i64 x.val.n, .string x.val.s] 93)).alloc (Obj.cells #[.string ⟨#[]⟩, .int .i64 0, .int .i64 0, .string ⟨#[]⟩] 121)).alloc (Obj.cells #[.string x.name, .int .i64 0, .int .i64 0, .string ⟨#[]⟩] 121)).heap[w.heap.size]? = some (Obj.cells #[.string x.name, .int .i64 x.val.k, .int .i64 x.val.n, .string x.val.s] 93) := blk_past (blk_past (blk_at _ _ _ rfl))
 have k1 : (((w.alloc (Obj.cells #[.string x.name, .int .i64 x.val.k, .int .i64 x.val.n, .string x.val.s] 93)).alloc (Obj.cells #[.string ⟨#[]⟩, .int .i64 0, .int .i64 0, .string ⟨#[]⟩] 121)).alloc (Obj.cells #[.string x.name, .int .i64 0, .int .i64 0, .string ⟨#[]⟩] 121)).heap[w.heap.size + 1]? = some (Obj.cells #[.string ⟨#[]⟩, .int .i64 0, .int .i64 0, .string ⟨#[]⟩] 121) := blk_past (blk_at _ _ _ (by simp))
 have k2 : (((w.alloc (Obj.cells #[.string x.name, .int .i64 x.val.k, .int .i64 x.val.n, .string x.val.s] 93)).alloc (Obj.cells #[.string ⟨#[]⟩, .int .i64 0, .int .i64 0, .string ⟨#[]⟩] 121)).alloc (Obj.cells #[.string x.name, .int .i64 0, .int .i64 0, .string ⟨#[]⟩] 121)).heap[w.heap.size + 1 + 1]? = some (Obj.cells #[.string x.name, .int .i64 0, .int .i64 0, .string ⟨#[]⟩] 121) := blk_at _ _ _ (by simp)
 have hz : w.heap.size + 3 ≤ (((w.alloc (Obj.cells #[.string x.name, .int .i64 x.val.k, .int .i64 x.val.n, .string x.val.s] 93)).alloc (Obj.cells #[.string ⟨#[]⟩, .int .i64 0, .int .i64 0, .string ⟨#[]⟩] 121)).alloc (Obj.cells #[.string x.name, .int .i64 0, .int .i64 0, .string ⟨#[]⟩] 121)).heap.size := by simp
 generalize (((w.alloc (Obj.cells #[.string x.name, .int .i64 x.val.k, .int .i64 x.val.n, .string x.val.s] 93)).alloc (Obj.cells #[.string ⟨#[]⟩, .int .i64 0, .int .i64 0, .string ⟨#[]⟩] 121)).alloc (Obj.cells #[.string x.name, .int .i64 0, .int .i64 0, .string ⟨#[]⟩] 121)) = wA at *
 refine (HC0.out _ hb).mono ?_
 rintro e v0 ⟨cs, rfl, rfl, hv⟩
 have hb1 : Below w.heap.size w v0 := bT hb hv
 have hsv := hv.size
 have k0 := blk_keep k0 hv (by omega)
 have k1 := blk_keep k1 hv (by omega)
 have k2 := blk_keep k2 hv (by omega)
 clear hb hv
 obtain ⟨p0, p1, p2, p3⟩ := zn4 k0 rfl rfl rfl rfl
 obtain ⟨o0, o1, o2, o3⟩ := zn4 k2 rfl rfl rfl rfl
 have f1 := frozen_blk k2 1
 have f2 := frozen_blk k2 2
 have f3 := frozen_blk k2 3
 have s0 := zB 0 k1 rfl
 have l0 := frozen_blk k1 0
 have s1 := zB 1 k1 rfl
 have l1 := frozen_blk k1 1
 have s2 := zB 2 k1 rfl
 have l2 := frozen_blk k1 2
 have s3 := zB 3 k1 rfl
 have l3 := frozen_blk k1 3
 have K0 : Hid (v0.heap[w.heap.size]? = some (Obj.cells #[.string x.name, .int .i64 x.val.k, .int .i64 x.val.n, .string x.val.s] 93)) := k0
 have K1 : Hid (v0.heap[w.heap.size + 1]? = some (Obj.cells #[.string ⟨#[]⟩, .int .i64 0, .int .i64 0, .string ⟨#[]⟩] 121)) := k1
 have K2 : Hid (v0.heap[w.heap.size + 1 + 1]? = some (Obj.cells #[.string x.name, .int .i64 0, .int .i64 0, .string ⟨#[]⟩] 121)) := k2
 clear k0 k1 k2
 go_wp2
 have K3 : (((v0.setCell ⟨w.heap.size + 1 + 1, 1, none⟩ (.int .i64 x.val.k)).setCell ⟨w.heap.size + 1 + 1, 2, none⟩ (.int .i64 x.val.n)).setCell ⟨w.heap.size + 1 + 1, 3, none⟩ (.string x.val.s)).heap[w.heap.size + 1]? = some (Obj.cells #[.string ⟨#[]⟩, .int .i64 0, .int .i64 0, .string ⟨#[]⟩] 121) := by
  rw [heap_setCell_other _ _ _ _ (by simp), heap_setCell_other _ _ _ _ (by simp), heap_setCell_other _ _ _ _ (by simp)]; exact K1.out
 refine bodyPost_ret (results_cell_row rfl _ _ (w.heap.size + 1) 121 #[.string x.name, .int .i64 x.val.k, .int .i64 x.val.n, .string x.val.s] (0, 0) _ rfl (heap_setCell_same _ _ _ _ _ _ (heap_setCell_same _ _ _ _ _ _ (heap_setCell_same _ _ _ _ _ _ (heap_setCell_same _ _ _ _ _ _ (K3))))) Tryz.underlying121 rfl (by kernel_rfl)) rfl ?_
 have hoth : ∀ b, w.heap.size + 3 ≤ b → (((((((v0.setCell ⟨w.heap.size + 1 + 1, 1, none⟩ (.int .i64 x.val.k)).setCell ⟨w.heap.size + 1 + 1, 2, none⟩ (.int .i64 x.val.n)).setCell ⟨w.heap.size + 1 + 1, 3, none⟩ (.string x.val.s)).setCell ⟨w.heap.size + 1, 0, none⟩ (.string x.name)).setCell ⟨w.heap.size + 1, 1, none⟩ (.int .i64 x.val.k)).setCell ⟨w.heap.size + 1, 2, none⟩ (.int .i64 x.val.n)).setCell ⟨w.heap.size + 1, 3, none⟩ (.string x.val.s)).heap[b]? = v0.heap[b]? := by
  intro b h
  rw [heap_setCell_other _ _ _ _ (by show b ≠ w.heap.size + 1; omega), heap_setCell_other _ _ _ _ (by show b ≠ w.heap.size + 1; omega), heap_setCell_other _ _ _ _ (by show b ≠ w.heap.size + 1; omega), heap_setCell_other _ _ _ _ (by show b ≠ w.heap.size + 1; omega), heap_setCell_other _ _ _ _ (by show b ≠ w.heap.size + 1 + 1; omega), heap_setCell_other _ _ _ _ (by show b ≠ w.heap.size + 1 + 1; omega), heap_setCell_other _ _ _ _ (by show b ≠ w.heap.size + 1 + 1; omega)]
 exact ⟨[.string x.name, .int .i64 x.val.k, .int .i64 x.val.n, .string x.val.s], rfl, rfl, ((((((hb1.setCell (p := ⟨_, _, none⟩) (by simp <;> omega) _).setCell (p := ⟨_, _, none⟩) (by simp <;> omega) _).setCell (p := ⟨_, _, none⟩) (by simp <;> omega) _).setCell (p := ⟨_, _, none⟩) (by simp <;> omega) _).setCell (p := ⟨_, _, none⟩) (by simp <;> omega) _).setCell (p := ⟨_, _, none⟩) (by simp <;> omega) _).setCell (p := ⟨_, _, none⟩) (by simp <;> omega) _⟩
theorem Tryz.inf_Bind : (Tryz.prog.info? 121).map (fun i => (i.zero, i.size, i.bytes)) = some (some (.agg #[.string ⟨#[]⟩, .int .i64 0, .int .i64 0, .string ⟨#[]⟩]), 4, 48) := by kernel_rfl
set_option maxRecDepth 100000 in
set_option maxHeartbeats 2000000 in
theorem to_Bind (a : Option Addr) (l : List Bnd) (cap : Nat) (w : World) (hn : l.length ≤ 1048576) (hsm : ∀ d ∈ l, Bnd.small d) (hr : rgB.Row w (fun b => b < w.heap.size) a l) :
  Calls Tryz.prog 25 #[.slice a l.length cap] w fun e w' => Made rgB l w e w' := by
 obtain ⟨i0, hi, hz0, hz1, hz2⟩ := info_parts Tryz.inf_Bind
 have HR : Hid (rgB.Row w (fun b => b < w.heap.size) a l) := hr
 have HS : Hid (∀ d ∈ l, Bnd.small d) := hsm
 clear hr hsm
 go_enter Tryz.func25, Tryz.ntmps25
 go_wp2_with (at_make; refine wpList_make_full _ rfl _ _ 43 rfl w.heap.size 121 i0 _ 4 Tryz.underlying43 hi hz0 hz1 .i64 .i64 _ _ l.length rfl rfl rfl rfl ?c1 ?c2 ?c3 ?_)
 case c1 => rw [hz2]; omega
 case c2 => simp [maxLen]; omega
 case c3 => exact Nat.le_refl _
 intro w1 hown1 hgr1
 go_wp2
 have hb1 : Below w.heap.size w w1 := (Below.refl _ _).grown hgr1 (Nat.le_refl _) (fun _ h => by cases h)
 obtain ⟨hlen, ⟨h0, _⟩ | ⟨g, cp, cur, hv, _, hblk, _, _, hcs, _⟩⟩ := hown1
 ·cases h0
 simp only [Value.slice.injEq, Option.some.injEq, Addr.mk.injEq] at hv
 obtain ⟨⟨rfl, _⟩, _, rfl⟩ := hv
 clear hlen
 go_loopw [4] (fun o wr => ∃ (i : Nat) (cur : Array Value), i ≤ l.length ∧ wr.heap[w.heap.size]? = some (.cells cur 121 (0, 0)) ∧ cur.size = l.length * 4 ∧ Laid rgB wr w.heap.size i l ∧ o = .int .i64 i ∧ Below w.heap.size w wr)
  (fun o _ => l.length - (intOf o).toNat)
 case atStart => exact ⟨0, cur, by omega, hblk, hcs, Laid.zero, rfl, hb1⟩
 case round =>
  clear hblk hcs hb1 hgr1
  obtain ⟨i, cur, hi, hblk, hcs, hat0, rfl, hb⟩ := hrel
  have HA : Hid (Laid rgB wr w.heap.size i l) := hat0
  have HK : Hid (wr.heap[w.heap.size]? = some (.cells cur 121 (0, 0))) := hblk
  have hlt2 : w.heap.size < wr.heap.size := (Array.getElem?_eq_some_iff.1 hblk).1
  clear hat0 hblk
  by_cases hlt : i < l.length
  ·obtain ⟨d, hd⟩ : ∃ d, l[i]? = some d := ⟨_, List.getElem?_eq_getElem hlt⟩
   obtain ⟨b1, o1, cs, rfl, hbb, hat, hlies⟩ := HR.out i d hd
   obtain rfl := hat
   have cx0 : wr.cell? ⟨b1, o1 + i * 4, none⟩ = some (.string d.name) := cell_keep (hlies 0 _ rfl) hb hbb
   have cx1 : wr.cell? ⟨b1, o1 + i * 4 + 1, none⟩ = some (.int .i64 d.val.k) := cell_keep (hlies 1 _ rfl) hb hbb
   have cx2 : wr.cell? ⟨b1, o1 + i * 4 + 2, none⟩ = some (.int .i64 d.val.n) := cell_keep (hlies 2 _ rfl) hb hbb
   have cx3 : wr.cell? ⟨b1, o1 + i * 4 + 3, none⟩ = some (.string d.val.s) := cell_keep (hlies 3 _ rfl) hb hbb
   have hsz := hb.size
   have HT : Hid (Calls Tryz.prog 53 #[.agg #[.string d.name, .int .i64 d.val.k, .int .i64 d.val.n, .string d.val.s]] wr fun e w' => MadeE rgB d wr e w') := toE_Bind d   wr (HS.out d (List.mem_of_getElem? hd))
   have HD : Hid (l[i]? = some d) := hd
   clear hlies hd
   go_wp2_with fail
   refine HT.out.mono ?_
   rintro e w2 ⟨cs2, rfl, hat2, hb2⟩
   obtain rfl := hat2
   have HA2 : Hid (rgB.At w2 (fun b => wr.heap.size ≤ b ∧ b < w2.heap.size) [.string d.name, .int .i64 d.val.k, .int .i64 d.val.n, .string d.val.s] d) := rfl
   have hk2 := blk_keep HK.out hb2 hlt2
   have f0 := frozen_blk hk2 (i * 4)
   obtain ⟨x0, e0⟩ := cell_blk' hk2 (i * 4) (by omega)
   have f1 := frozen_blk hk2 (i * 4 + 1)
   obtain ⟨x1, e1⟩ := cell_blk' hk2 (i * 4 + 1) (by omega)
   have f2 := frozen_blk hk2 (i * 4 + 2)
   obtain ⟨x2, e2⟩ := cell_blk' hk2 (i * 4 + 2) (by omega)
   have f3 := frozen_blk hk2 (i * 4 + 3)
   obtain ⟨x3, e3⟩ := cell_blk' hk2 (i * 4 + 3) (by omega)
   have HK2 : Hid (w2.heap[w.heap.size]? = some (.cells cur 121 (0, 0))) := hk2
   have HB2 : Hid (Below wr.heap.size wr w2) := hb2
   clear hk2 HT hb2
   go_wp2
   go_roundw
   case rel =>
    have hput : putL w2 w.heap.size (i * 4) [.string d.name, .int .i64 d.val.k, .int .i64 d.val.n, .string d.val.s] = ((((w2.setCell ⟨w.heap.size, i * 4, none⟩ (.string d.name)).setCell ⟨w.heap.size, i * 4 + 1, none⟩ (.int .i64 d.val.k)).setCell ⟨w.heap.size, i * 4 + 2, none⟩ (.int .i64 d.val.n)).setCell ⟨w.heap.size, i * 4 + 3, none⟩ (.string d.val.s)) := by simp only [putL, Nat.add_assoc, Nat.reduceAdd]
    rw [← hput]
    obtain ⟨ys, hy1, hy2⟩ := putL_blk [.string d.name, .int .i64 d.val.k, .int .i64 d.val.n, .string d.val.s] (i * 4) HK2.out
    refine ⟨i + 1, ys, by omega, hy1, by omega, HA.out.next HD.out hlt2 HB2.out HA2.out HK2.out (by show i * 4 + 4 ≤ cur.size; omega), by go_num, putL_below [.string d.name, .int .i64 d.val.k, .int .i64 d.val.n, .string d.val.s] (i * 4) (hb.trans (HB2.out.mono hsz)) (Nat.le_refl _)⟩
   case measure => simp [intOf]; omega
  ·have hlt' : decide ((i : Int) < (l.length : Int)) = false := by simp; omega
   obtain rfl : i = l.length := by omega
   go_wp2
   go_ret
   exact ⟨w.heap.size, rfl, HA.out.row hlt2, hb⟩
set_option maxRecDepth 100000 in
set_option maxHeartbeats 2000000 in
theorem toE_Frame (x : Frm) (a1 a2 : Option Addr) (c1 c2 : Nat) (w : World) (hs : x.small) (hr : FrmRows w (fun b => b < w.heap.size) a1 a2 c1 c2 x) :
  Calls Tryz.prog 54 #[.agg #[.int .i64 x.unit, .int .i64 x.node, .slice a1 x.vals.length c1, .slice a2 x.env.length c2]] w fun e w' => MadeE rgF x w e w' := by
 obtain ⟨u0, u1, u2, u3⟩ := hs
 obtain ⟨⟨r1, t1⟩, ⟨r2, t2⟩⟩ := hr
 have HC0 : Hid (∀ w2, Below w.heap.size w w2 → Calls Tryz.prog 77 #[.slice a1 x.vals.length c1] w2 fun e w' => Made rgV x.vals w2 e w') := fun w2 h2 => to_Value a1 x.vals c1 w2 u2.1 u2.2 (r1.keep fun b h => ⟨by have := h2.size; omega, h2.block b h⟩)
 have HC1 : Hid (∀ w2, Below w.heap.size w w2 → Calls Tryz.prog 25 #[.slice a2 x.env.length c2] w2 fun e w' => Made rgB x.env w2 e w') := fun w2 h2 => to_Bind a2 x.env c2 w2 u3.1 u3.2 (r2.keep fun b h => ⟨by have := h2.size; omega, h2.block b h⟩)
 clear r1 r2
 go_enter Tryz.func54, Tryz.ntmps54
 go_wp2_with fail
 have hb : Below w.heap.size w (((w.alloc (Obj.cells #[.int .i64 x.unit, .int .i64 x.node, .slice a1 x.vals.length c1, .slice a2 x.env.length c2] 96)).alloc (Obj.cells #[.int .i64 0, .int .i64 0, .slice none 0 0, .slice none 0 0] 104)).alloc (Obj.cells #[.int .i64 x.unit, .int .i64 x.node, .slice none 0 0, .slice none 0 0] 104)) := ((bR _ _).alloc (by simp) _).alloc (by simp; omega) _
 have k0 : (((w.alloc (Obj.cells #[.int .i64 x.unit, .int .i64 x.node, .slice a1 x.vals.length c1, .slice a2 x.env.length c2] 96)).alloc (Obj.cells #[.int .i64 0, .int .i64 0, .slice none 0 0, .slice none 0 0] 104)).alloc (Obj.cells #[.int .i64 x.unit, .int .i64 x.node, .slice none 0 0, .slice none 0 0] 104)).heap[w.heap.size]? = some (Obj.cells #[.int .i64 x.unit, .int .i64 x.node, .slice a1 x.vals.length c1, .slice a2 x.env.length c2] 96) := blk_past (blk_past (blk_at _ _ _ rfl))
 have k1 : (((w.alloc (Obj.cells #[.int .i64 x.unit, .int .i64 x.node, .slice a1 x.vals.length c1, .slice a2 x.env.length c2] 96)).alloc (Obj.cells #[.int .i64 0, .int .i64 0, .slice none 0 0, .slice none 0 0] 104)).alloc (Obj.cells #[.int .i64 x.unit, .int .i64 x.node, .slice none 0 0, .slice none 0 0] 104)).heap[w.heap.size + 1]? = some (Obj.cells #[.int .i64 0, .int .i64 0, .slice none 0 0, .slice none 0 0] 104) := blk_past (blk_at _ _ _ (by simp))
 have k2 : (((w.alloc (Obj.cells #[.int .i64 x.unit, .int .i64 x.node, .slice a1 x.vals.length c1, .slice a2 x.env.length c2] 96)).alloc (Obj.cells #[.int .i64 0, .int .i64 0, .slice none 0 0, .slice none 0 0] 104)).alloc (Obj.cells #[.int .i64 x.unit, .int .i64 x.node, .slice none 0 0, .slice none 0 0] 104)).heap[w.heap.size + 1 + 1]? = some (Obj.cells #[.int .i64 x.unit, .int .i64 x.node, .slice none 0 0, .slice none 0 0] 104) := blk_at _ _ _ (by simp)
 have hz : w.heap.size + 3 ≤ (((w.alloc (Obj.cells #[.int .i64 x.unit, .int .i64 x.node, .slice a1 x.vals.length c1, .slice a2 x.env.length c2] 96)).alloc (Obj.cells #[.int .i64 0, .int .i64 0, .slice none 0 0, .slice none 0 0] 104)).alloc (Obj.cells #[.int .i64 x.unit, .int .i64 x.node, .slice none 0 0, .slice none 0 0] 104)).heap.size := by simp
 generalize (((w.alloc (Obj.cells #[.int .i64 x.unit, .int .i64 x.node, .slice a1 x.vals.length c1, .slice a2 x.env.length c2] 96)).alloc (Obj.cells #[.int .i64 0, .int .i64 0, .slice none 0 0, .slice none 0 0] 104)).alloc (Obj.cells #[.int .i64 x.unit, .int .i64 x.node, .slice none 0 0, .slice none 0 0] 104)) = wA at *
 refine (HC0.out _ hb).mono ?_
 rintro e v0 ⟨g0, rfl, hrow, hv⟩
 have hb1 : Below w.heap.size w v0 := bT hb hv
 have hsv := hv.size
 have k0 := blk_keep k0 hv (by omega)
 have k1 := blk_keep k1 hv (by omega)
 have k2 := blk_keep k2 hv (by omega)
 have R0_0 : rgV.Row v0 (fun b => w.heap.size + 3 ≤ b ∧ b < v0.heap.size) (some ⟨g0, 0, none⟩) x.vals := hrow.keep fun b h => ⟨⟨by have := h.1; omega, h.2⟩, rfl⟩
 clear hb hv hrow
 have R0_0 : Hid (rgV.Row v0 (fun b => w.heap.size + 3 ≤ b ∧ b < v0.heap.size) (some ⟨g0, 0, none⟩) x.vals) := R0_0
 obtain ⟨p0, p1, p2, p3⟩ := zn4 k0 rfl rfl rfl rfl
 obtain ⟨o0, o1, o2, o3⟩ := zn4 k2 rfl rfl rfl rfl
 have f2 := frozen_blk k2 2
 have K0 : Hid (v0.heap[w.heap.size]? = some (Obj.cells #[.int .i64 x.unit, .int .i64 x.node, .slice a1 x.vals.length c1, .slice a2 x.env.length c2] 96)) := k0
 have K1 : Hid (v0.heap[w.heap.size + 1]? = some (Obj.cells #[.int .i64 0, .int .i64 0, .slice none 0 0, .slice none 0 0] 104)) := k1
 have K2 : Hid (v0.heap[w.heap.size + 1 + 1]? = some (Obj.cells #[.int .i64 x.unit, .int .i64 x.node, .slice none 0 0, .slice none 0 0] 104)) := k2
 clear k0 k1 k2
 go_wp2_with fail
 have k0 : (v0.setCell ⟨w.heap.size + 1 + 1, 2, none⟩ (.slice (some ⟨g0, 0, none⟩) x.vals.length x.vals.length)).heap[w.heap.size]? = some (Obj.cells #[.int .i64 x.unit, .int .i64 x.node, .slice a1 x.vals.length c1, .slice a2 x.env.length c2] 96) := by
  rw [heap_setCell_other _ _ _ _ (by simp; try omega)]; exact K0.out
 have k1 : (v0.setCell ⟨w.heap.size + 1 + 1, 2, none⟩ (.slice (some ⟨g0, 0, none⟩) x.vals.length x.vals.length)).heap[w.heap.size + 1]? = some (Obj.cells #[.int .i64 0, .int .i64 0, .slice none 0 0, .slice none 0 0] 104) := by
  rw [heap_setCell_other _ _ _ _ (by simp)]; exact K1.out
 have k2 : (v0.setCell ⟨w.heap.size + 1 + 1, 2, none⟩ (.slice (some ⟨g0, 0, none⟩) x.vals.length x.vals.length)).heap[w.heap.size + 1 + 1]? = some (Obj.cells #[.int .i64 x.unit, .int .i64 x.node, .slice (some ⟨g0, 0, none⟩) x.vals.length x.vals.length, .slice none 0 0] 104) := heap_setCell_same _ _ _ _ _ _ (K2.out)
 have hb : Below w.heap.size w (v0.setCell ⟨w.heap.size + 1 + 1, 2, none⟩ (.slice (some ⟨g0, 0, none⟩) x.vals.length x.vals.length)) := hb1.setCell (p := ⟨_, _, none⟩) (by simp; omega) _
 have hz : w.heap.size + 3 ≤ (v0.setCell ⟨w.heap.size + 1 + 1, 2, none⟩ (.slice (some ⟨g0, 0, none⟩) x.vals.length x.vals.length)).heap.size := by simp; omega
 have R0_0 : Hid (rgV.Row (v0.setCell ⟨w.heap.size + 1 + 1, 2, none⟩ (.slice (some ⟨g0, 0, none⟩) x.vals.length x.vals.length)) (fun b => w.heap.size + 3 ≤ b ∧ b < (v0.setCell ⟨w.heap.size + 1 + 1, 2, none⟩ (.slice (some ⟨g0, 0, none⟩) x.vals.length x.vals.length)).heap.size) (some ⟨g0, 0, none⟩) x.vals) := R0_0.out.keep fun b h => ⟨⟨h.1, by have := h.2; simpa using this⟩, by rw [heap_setCell_other _ _ _ _ (by have := h.1; show b ≠ w.heap.size + 1 + 1; omega)]⟩
 clear K0 K1 K2 hb1 hsv p0 o0 p1 o1 p2 o2 p3 o3 f2
 generalize (v0.setCell ⟨w.heap.size + 1 + 1, 2, none⟩ (.slice (some ⟨g0, 0, none⟩) x.vals.length x.vals.length)) = w0A at *
 refine (HC1.out _ hb).mono ?_
 rintro e v1 ⟨g1, rfl, hrow, hv⟩
 have hb1 : Below w.heap.size w v1 := bT hb hv
 have hsv := hv.size
 have k0 := blk_keep k0 hv (by omega)
 have k1 := blk_keep k1 hv (by omega)
 have k2 := blk_keep k2 hv (by omega)
 have R0_0 : rgV.Row v1 (fun b => w.heap.size + 3 ≤ b ∧ b < v1.heap.size) (some ⟨g0, 0, none⟩) x.vals := R0_0.out.keep fun b h => ⟨⟨h.1, by have := h.2; omega⟩, hv.block b h.2⟩
 have R1_0 : rgB.Row v1 (fun b => w.heap.size + 3 ≤ b ∧ b < v1.heap.size) (some ⟨g1, 0, none⟩) x.env := hrow.keep fun b h => ⟨⟨by have := h.1; omega, h.2⟩, rfl⟩
 clear hb hv hrow
 have R0_0 : Hid (rgV.Row v1 (fun b => w.heap.size + 3 ≤ b ∧ b < v1.heap.size) (some ⟨g0, 0, none⟩) x.vals) := R0_0
 have R1_0 : Hid (rgB.Row v1 (fun b => w.heap.size + 3 ≤ b ∧ b < v1.heap.size) (some ⟨g1, 0, none⟩) x.env) := R1_0
 obtain ⟨p0, p1, p2, p3⟩ := zn4 k0 rfl rfl rfl rfl
 obtain ⟨o0, o1, o2, o3⟩ := zn4 k2 rfl rfl rfl rfl
 have f3 := frozen_blk k2 3
 have s0 := zB 0 k1 rfl
 have l0 := frozen_blk k1 0
 have s1 := zB 1 k1 rfl
 have l1 := frozen_blk k1 1
 have s2 := zB 2 k1 rfl
 have l2 := frozen_blk k1 2
 have s3 := zB 3 k1 rfl
 have l3 := frozen_blk k1 3
 have K0 : Hid (v1.heap[w.heap.size]? = some (Obj.cells #[.int .i64 x.unit, .int .i64 x.node, .slice a1 x.vals.length c1, .slice a2 x.env.length c2] 96)) := k0
 have K1 : Hid (v1.heap[w.heap.size + 1]? = some (Obj.cells #[.int .i64 0, .int .i64 0, .slice none 0 0, .slice none 0 0] 104)) := k1
 have K2 : Hid (v1.heap[w.heap.size + 1 + 1]? = some (Obj.cells #[.int .i64 x.unit, .int .i64 x.node, .slice (some ⟨g0, 0, none⟩) x.vals.length x.vals.length, .slice none 0 0] 104)) := k2
 clear k0 k1 k2
 go_wp2
 have K3 : (v1.setCell ⟨w.heap.size + 1 + 1, 3, none⟩ (.slice (some ⟨g1, 0, none⟩) x.env.length x.env.length)).heap[w.heap.size + 1]? = some (Obj.cells #[.int .i64 0, .int .i64 0, .slice none 0 0, .slice none 0 0] 104) := by
  rw [heap_setCell_other _ _ _ _ (by simp)]; exact K1.out
 refine bodyPost_ret (results_cell_row rfl _ _ (w.heap.size + 1) 104 #[.int .i64 x.unit, .int .i64 x.node, .slice (some ⟨g0, 0, none⟩) x.vals.length x.vals.length, .slice (some ⟨g1, 0, none⟩) x.env.length x.env.length] (0, 0) _ rfl (heap_setCell_same _ _ _ _ _ _ (heap_setCell_same _ _ _ _ _ _ (heap_setCell_same _ _ _ _ _ _ (heap_setCell_same _ _ _ _ _ _ (K3))))) Tryz.underlying104 rfl (by kernel_rfl)) rfl ?_
 have hoth : ∀ b, w.heap.size + 3 ≤ b → (((((v1.setCell ⟨w.heap.size + 1 + 1, 3, none⟩ (.slice (some ⟨g1, 0, none⟩) x.env.length x.env.length)).setCell ⟨w.heap.size + 1, 0, none⟩ (.int .i64 x.unit)).setCell ⟨w.heap.size + 1, 1, none⟩ (.int .i64 x.node)).setCell ⟨w.heap.size + 1, 2, none⟩ (.slice (some ⟨g0, 0, none⟩) x.vals.length x.vals.length)).setCell ⟨w.heap.size + 1, 3, none⟩ (.slice (some ⟨g1, 0, none⟩) x.env.length x.env.length)).heap[b]? = v1.heap[b]? := by
  intro b h
  rw [heap_setCell_other _ _ _ _ (by show b ≠ w.heap.size + 1; omega), heap_setCell_other _ _ _ _ (by show b ≠ w.heap.size + 1; omega), heap_setCell_other _ _ _ _ (by show b ≠ w.heap.size + 1; omega), heap_setCell_other _ _ _ _ (by show b ≠ w.heap.size + 1; omega), heap_setCell_other _ _ _ _ (by show b ≠ w.heap.size + 1 + 1; omega)]
 exact ⟨_, rfl, ⟨_, _, _, _, rfl, ⟨⟨R0_0.out.keep fun b h => ⟨⟨by have := h.1; omega, by have := h.2; simpa using this⟩, hoth b h.1⟩, Nat.le_refl _⟩, ⟨R1_0.out.keep fun b h => ⟨⟨by have := h.1; omega, by have := h.2; simpa using this⟩, hoth b h.1⟩, Nat.le_refl _⟩⟩⟩, ((((hb1.setCell (p := ⟨_, _, none⟩) (by simp <;> omega) _).setCell (p := ⟨_, _, none⟩) (by simp <;> omega) _).setCell (p := ⟨_, _, none⟩) (by simp <;> omega) _).setCell (p := ⟨_, _, none⟩) (by simp <;> omega) _).setCell (p := ⟨_, _, none⟩) (by simp <;> omega) _⟩
theorem Tryz.inf_Frame : (Tryz.prog.info? 104).map (fun i => (i.zero, i.size, i.bytes)) = some (some (.agg #[.int .i64 0, .int .i64 0, .slice none 0 0, .slice none 0 0]), 4, 64) := by kernel_rfl
set_option maxRecDepth 100000 in
set_option maxHeartbeats 2000000 in
theorem to_Frame (a : Option Addr) (l : List Frm) (cap : Nat) (w : World) (hn : l.length ≤ 1048576) (hsm : ∀ d ∈ l, Frm.small d) (hr : rgF.Row w (fun b => b < w.heap.size) a l) :
  Calls Tryz.prog 27 #[.slice a l.length cap] w fun e w' => Made rgF l w e w' := by
 obtain ⟨i0, hi, hz0, hz1, hz2⟩ := info_parts Tryz.inf_Frame
 have HR : Hid (rgF.Row w (fun b => b < w.heap.size) a l) := hr
 have HS : Hid (∀ d ∈ l, Frm.small d) := hsm
 clear hr hsm
 go_enter Tryz.func27, Tryz.ntmps27
 go_wp2_with (at_make; refine wpList_make_full _ rfl _ _ 45 rfl w.heap.size 104 i0 _ 4 Tryz.underlying45 hi hz0 hz1 .i64 .i64 _ _ l.length rfl rfl rfl rfl ?c1 ?c2 ?c3 ?_)
 case c1 => rw [hz2]; omega
 case c2 => simp [maxLen]; omega
 case c3 => exact Nat.le_refl _
 intro w1 hown1 hgr1
 go_wp2
 have hb1 : Below w.heap.size w w1 := (Below.refl _ _).grown hgr1 (Nat.le_refl _) (fun _ h => by cases h)
 obtain ⟨hlen, ⟨h0, _⟩ | ⟨g, cp, cur, hv, _, hblk, _, _, hcs, _⟩⟩ := hown1
 ·cases h0
 simp only [Value.slice.injEq, Option.some.injEq, Addr.mk.injEq] at hv
 obtain ⟨⟨rfl, _⟩, _, rfl⟩ := hv
 clear hlen
 go_loopw [4] (fun o wr => ∃ (i : Nat) (cur : Array Value), i ≤ l.length ∧ wr.heap[w.heap.size]? = some (.cells cur 104 (0, 0)) ∧ cur.size = l.length * 4 ∧ Laid rgF wr w.heap.size i l ∧ o = .int .i64 i ∧ Below w.heap.size w wr)
  (fun o _ => l.length - (intOf o).toNat)
 case atStart => exact ⟨0, cur, by omega, hblk, hcs, Laid.zero, rfl, hb1⟩
 case round =>
  clear hblk hcs hb1 hgr1
  obtain ⟨i, cur, hi, hblk, hcs, hat0, rfl, hb⟩ := hrel
  have HA : Hid (Laid rgF wr w.heap.size i l) := hat0
  have HK : Hid (wr.heap[w.heap.size]? = some (.cells cur 104 (0, 0))) := hblk
  have hlt2 : w.heap.size < wr.heap.size := (Array.getElem?_eq_some_iff.1 hblk).1
  clear hat0 hblk
  by_cases hlt : i < l.length
  ·obtain ⟨d, hd⟩ : ∃ d, l[i]? = some d := ⟨_, List.getElem?_eq_getElem hlt⟩
   obtain ⟨b1, o1, cs, rfl, hbb, hat, hlies⟩ := HR.out i d hd
   obtain ⟨a1, a2, c1, c2, rfl, hrows⟩ := hat
   have cx0 : wr.cell? ⟨b1, o1 + i * 4, none⟩ = some (.int .i64 d.unit) := cell_keep (hlies 0 _ rfl) hb hbb
   have cx1 : wr.cell? ⟨b1, o1 + i * 4 + 1, none⟩ = some (.int .i64 d.node) := cell_keep (hlies 1 _ rfl) hb hbb
   have cx2 : wr.cell? ⟨b1, o1 + i * 4 + 2, none⟩ = some (.slice a1 d.vals.length c1) := cell_keep (hlies 2 _ rfl) hb hbb
   have cx3 : wr.cell? ⟨b1, o1 + i * 4 + 3, none⟩ = some (.slice a2 d.env.length c2) := cell_keep (hlies 3 _ rfl) hb hbb
   have hsz := hb.size
   have HT : Hid (Calls Tryz.prog 54 #[.agg #[.int .i64 d.unit, .int .i64 d.node, .slice a1 d.vals.length c1, .slice a2 d.env.length c2]] wr fun e w' => MadeE rgF d wr e w') := toE_Frame d a1 a2 c1 c2 wr (HS.out d (List.mem_of_getElem? hd)) (hrows.keep fun b h => ⟨by omega, hb.block b h⟩)
   have HD : Hid (l[i]? = some d) := hd
   clear hlies hd hrows
   go_wp2_with fail
   refine HT.out.mono ?_
   rintro e w2 ⟨cs2, rfl, hat2, hb2⟩
   obtain ⟨a1', a2', c1', c2', rfl, hrows2⟩ := hat2
   have HA2 : Hid (rgF.At w2 (fun b => wr.heap.size ≤ b ∧ b < w2.heap.size) [.int .i64 d.unit, .int .i64 d.node, .slice a1' d.vals.length c1', .slice a2' d.env.length c2'] d) := ⟨a1', a2', c1', c2', rfl, hrows2⟩
   have hk2 := blk_keep HK.out hb2 hlt2
   have f0 := frozen_blk hk2 (i * 4)
   obtain ⟨x0, e0⟩ := cell_blk' hk2 (i * 4) (by omega)
   have f1 := frozen_blk hk2 (i * 4 + 1)
   obtain ⟨x1, e1⟩ := cell_blk' hk2 (i * 4 + 1) (by omega)
   have f2 := frozen_blk hk2 (i * 4 + 2)
   obtain ⟨x2, e2⟩ := cell_blk' hk2 (i * 4 + 2) (by omega)
   have f3 := frozen_blk hk2 (i * 4 + 3)
   obtain ⟨x3, e3⟩ := cell_blk' hk2 (i * 4 + 3) (by omega)
   have HK2 : Hid (w2.heap[w.heap.size]? = some (.cells cur 104 (0, 0))) := hk2
   have HB2 : Hid (Below wr.heap.size wr w2) := hb2
   clear hk2 HT hb2 hrows2
   go_wp2
   go_roundw
   case rel =>
    have hput : putL w2 w.heap.size (i * 4) [.int .i64 d.unit, .int .i64 d.node, .slice a1' d.vals.length c1', .slice a2' d.env.length c2'] = ((((w2.setCell ⟨w.heap.size, i * 4, none⟩ (.int .i64 d.unit)).setCell ⟨w.heap.size, i * 4 + 1, none⟩ (.int .i64 d.node)).setCell ⟨w.heap.size, i * 4 + 2, none⟩ (.slice a1' d.vals.length c1')).setCell ⟨w.heap.size, i * 4 + 3, none⟩ (.slice a2' d.env.length c2')) := by simp only [putL, Nat.add_assoc, Nat.reduceAdd]
    rw [← hput]
    obtain ⟨ys, hy1, hy2⟩ := putL_blk [.int .i64 d.unit, .int .i64 d.node, .slice a1' d.vals.length c1', .slice a2' d.env.length c2'] (i * 4) HK2.out
    refine ⟨i + 1, ys, by omega, hy1, by omega, HA.out.next HD.out hlt2 HB2.out HA2.out HK2.out (by show i * 4 + 4 ≤ cur.size; omega), by go_num, putL_below [.int .i64 d.unit, .int .i64 d.node, .slice a1' d.vals.length c1', .slice a2' d.env.length c2'] (i * 4) (hb.trans (HB2.out.mono hsz)) (Nat.le_refl _)⟩
   case measure => simp [intOf]; omega
  ·have hlt' : decide ((i : Int) < (l.length : Int)) = false := by simp; omega
   obtain rfl : i = l.length := by omega
   go_wp2
   go_ret
   exact ⟨w.heap.size, rfl, HA.out.row hlt2, hb⟩
end Go.Proofs.YtlacidojljilaaaGreatDoor
set_option linter.unusedVariables false
namespace Go.Proofs.YtlacidojljilaaaGreatDoor
open Go.ChangeShapes Go.WideShapes Go.ChangeAt Go.RowKit
set_option maxRecDepth 100000 in
set_option maxHeartbeats 16000000 in
theorem toE_Machine (x : Mac) (a1 a2 : Option Addr) (c1 c2 : Nat) (w : World) (hs : x.small) (hr : MacRows w (fun b => b < w.heap.size) a1 a2 c1 c2 x) :
  Calls Tryz.prog 8 #[.agg #[.int .i64 x.mode, .int .i64 x.unit, .int .i64 x.node, .slice a1 x.env.length c1, .int .i64 x.val.k, .int .i64 x.val.n, .string x.val.s, .slice a2 x.stack.length c2, .int .i64 x.end_]] w fun e w' => MadeE rgM x w e w' := by
 obtain ⟨u0, u1, u2, u3, u4, u5, u6⟩ := hs
 obtain ⟨⟨r1, t1⟩, ⟨r2, t2⟩⟩ := hr
 have HC0 : Hid (∀ w2, Below w.heap.size w w2 → Calls Tryz.prog 25 #[.slice a1 x.env.length c1] w2 fun e w' => Made rgB x.env w2 e w') := fun w2 h2 => to_Bind a1 x.env c1 w2 u3.1 u3.2 (r1.keep fun b h => ⟨by have := h2.size; omega, h2.block b h⟩)
 have HC1 : Hid (∀ w2, Below w.heap.size w w2 → Calls Tryz.prog 26 #[.agg #[.int .i64 x.val.k, .int .i64 x.val.n, .string x.val.s]] w2 fun e w' => MadeE rgV x.val w2 e w') := fun w2 h2 => toE_Value x.val w2 u4
 have HC2 : Hid (∀ w2, Below w.heap.size w w2 → Calls Tryz.prog 27 #[.slice a2 x.stack.length c2] w2 fun e w' => Made rgF x.stack w2 e w') := fun w2 h2 => to_Frame a2 x.stack c2 w2 u5.1 u5.2 (r2.keep fun b h => ⟨by have := h2.size; omega, h2.block b h⟩)
 clear r1 r2
 go_enter Tryz.func8, Tryz.ntmps8
 go_wp2_with fail
 have hb : Below w.heap.size w (((w.alloc (Obj.cells #[.int .i64 x.mode, .int .i64 x.unit, .int .i64 x.node, .slice a1 x.env.length c1, .int .i64 x.val.k, .int .i64 x.val.n, .string x.val.s, .slice a2 x.stack.length c2, .int .i64 x.end_] 33)).alloc (Obj.cells #[.int .i64 0, .int .i64 0, .int .i64 0, .slice none 0 0, .int .i64 0, .int .i64 0, .string ⟨#[]⟩, .slice none 0 0, .int .i64 0] 47)).alloc (Obj.cells #[.int .i64 x.mode, .int .i64 x.unit, .int .i64 x.node, .slice none 0 0, .int .i64 0, .int .i64 0, .string ⟨#[]⟩, .slice none 0 0, .int .i64 0] 47)) := ((bR _ _).alloc (by simp) _).alloc (by simp; omega) _
 have k0 : (((w.alloc (Obj.cells #[.int .i64 x.mode, .int .i64 x.unit, .int .i64 x.node, .slice a1 x.env.length c1, .int .i64 x.val.k, .int .i64 x.val.n, .string x.val.s, .slice a2 x.stack.length c2, .int .i64 x.end_] 33)).alloc (Obj.cells #[.int .i64 0, .int .i64 0, .int .i64 0, .slice none 0 0, .int .i64 0, .int .i64 0, .string ⟨#[]⟩, .slice none 0 0, .int .i64 0] 47)).alloc (Obj.cells #[.int .i64 x.mode, .int .i64 x.unit, .int .i64 x.node, .slice none 0 0, .int .i64 0, .int .i64 0, .string ⟨#[]⟩, .slice none 0 0, .int .i64 0] 47)).heap[w.heap.size]? = some (Obj.cells #[.int .i64 x.mode, .int .i64 x.unit, .int .i64 x.node, .slice a1 x.env.length c1, .int .i64 x.val.k, .int .i64 x.val.n, .string x.val.s, .slice a2 x.stack.length c2, .int .i64 x.end_] 33) := blk_past (blk_past (blk_at _ _ _ rfl))
 have k1 : (((w.alloc (Obj.cells #[.int .i64 x.mode, .int .i64 x.unit, .int .i64 x.node, .slice a1 x.env.length c1, .int .i64 x.val.k, .int .i64 x.val.n, .string x.val.s, .slice a2 x.stack.length c2, .int .i64 x.end_] 33)).alloc (Obj.cells #[.int .i64 0, .int .i64 0, .int .i64 0, .slice none 0 0, .int .i64 0, .int .i64 0, .string ⟨#[]⟩, .slice none 0 0, .int .i64 0] 47)).alloc (Obj.cells #[.int .i64 x.mode, .int .i64 x.unit, .int .i64 x.node, .slice none 0 0, .int .i64 0, .int .i64 0, .string ⟨#[]⟩, .slice none 0 0, .int .i64 0] 47)).heap[w.heap.size + 1]? = some (Obj.cells #[.int .i64 0, .int .i64 0, .int .i64 0, .slice none 0 0, .int .i64 0, .int .i64 0, .string ⟨#[]⟩, .slice none 0 0, .int .i64 0] 47) := blk_past (blk_at _ _ _ (by simp))
 have k2 : (((w.alloc (Obj.cells #[.int .i64 x.mode, .int .i64 x.unit, .int .i64 x.node, .slice a1 x.env.length c1, .int .i64 x.val.k, .int .i64 x.val.n, .string x.val.s, .slice a2 x.stack.length c2, .int .i64 x.end_] 33)).alloc (Obj.cells #[.int .i64 0, .int .i64 0, .int .i64 0, .slice none 0 0, .int .i64 0, .int .i64 0, .string ⟨#[]⟩, .slice none 0 0, .int .i64 0] 47)).alloc (Obj.cells #[.int .i64 x.mode, .int .i64 x.unit, .int .i64 x.node, .slice none 0 0, .int .i64 0, .int .i64 0, .string ⟨#[]⟩, .slice none 0 0, .int .i64 0] 47)).heap[w.heap.size + 1 + 1]? = some (Obj.cells #[.int .i64 x.mode, .int .i64 x.unit, .int .i64 x.node, .slice none 0 0, .int .i64 0, .int .i64 0, .string ⟨#[]⟩, .slice none 0 0, .int .i64 0] 47) := blk_at _ _ _ (by simp)
 have hz : w.heap.size + 3 ≤ (((w.alloc (Obj.cells #[.int .i64 x.mode, .int .i64 x.unit, .int .i64 x.node, .slice a1 x.env.length c1, .int .i64 x.val.k, .int .i64 x.val.n, .string x.val.s, .slice a2 x.stack.length c2, .int .i64 x.end_] 33)).alloc (Obj.cells #[.int .i64 0, .int .i64 0, .int .i64 0, .slice none 0 0, .int .i64 0, .int .i64 0, .string ⟨#[]⟩, .slice none 0 0, .int .i64 0] 47)).alloc (Obj.cells #[.int .i64 x.mode, .int .i64 x.unit, .int .i64 x.node, .slice none 0 0, .int .i64 0, .int .i64 0, .string ⟨#[]⟩, .slice none 0 0, .int .i64 0] 47)).heap.size := by simp
 generalize (((w.alloc (Obj.cells #[.int .i64 x.mode, .int .i64 x.unit, .int .i64 x.node, .slice a1 x.env.length c1, .int .i64 x.val.k, .int .i64 x.val.n, .string x.val.s, .slice a2 x.stack.length c2, .int .i64 x.end_] 33)).alloc (Obj.cells #[.int .i64 0, .int .i64 0, .int .i64 0, .slice none 0 0, .int .i64 0, .int .i64 0, .string ⟨#[]⟩, .slice none 0 0, .int .i64 0] 47)).alloc (Obj.cells #[.int .i64 x.mode, .int .i64 x.unit, .int .i64 x.node, .slice none 0 0, .int .i64 0, .int .i64 0, .string ⟨#[]⟩, .slice none 0 0, .int .i64 0] 47)) = wA at *
 refine (HC0.out _ hb).mono ?_
 rintro e v0 ⟨g0, rfl, hrow, hv⟩
 have hb1 : Below w.heap.size w v0 := bT hb hv
 have hsv := hv.size
 have k0 := blk_keep k0 hv (by omega)
 have k1 := blk_keep k1 hv (by omega)
 have k2 := blk_keep k2 hv (by omega)
 have R0_0 : rgB.Row v0 (fun b => w.heap.size + 3 ≤ b ∧ b < v0.heap.size) (some ⟨g0, 0, none⟩) x.env := hrow.keep fun b h => ⟨⟨by have := h.1; omega, h.2⟩, rfl⟩
 clear hb hv hrow
 have R0_0 : Hid (rgB.Row v0 (fun b => w.heap.size + 3 ≤ b ∧ b < v0.heap.size) (some ⟨g0, 0, none⟩) x.env) := R0_0
 obtain ⟨p0, p1, p2, p3, p4, p5, p6, p7, p8⟩ := zn9 k0 rfl rfl rfl rfl rfl rfl rfl rfl rfl
 obtain ⟨o0, o1, o2, o3, o4, o5, o6, o7, o8⟩ := zn9 k2 rfl rfl rfl rfl rfl rfl rfl rfl rfl
 have f3 := frozen_blk k2 3
 have K0 : Hid (v0.heap[w.heap.size]? = some (Obj.cells #[.int .i64 x.mode, .int .i64 x.unit, .int .i64 x.node, .slice a1 x.env.length c1, .int .i64 x.val.k, .int .i64 x.val.n, .string x.val.s, .slice a2 x.stack.length c2, .int .i64 x.end_] 33)) := k0
 have K1 : Hid (v0.heap[w.heap.size + 1]? = some (Obj.cells #[.int .i64 0, .int .i64 0, .int .i64 0, .slice none 0 0, .int .i64 0, .int .i64 0, .string ⟨#[]⟩, .slice none 0 0, .int .i64 0] 47)) := k1
 have K2 : Hid (v0.heap[w.heap.size + 1 + 1]? = some (Obj.cells #[.int .i64 x.mode, .int .i64 x.unit, .int .i64 x.node, .slice none 0 0, .int .i64 0, .int .i64 0, .string ⟨#[]⟩, .slice none 0 0, .int .i64 0] 47)) := k2
 clear k0 k1 k2
 go_wp2_with fail
 have k0 : (v0.setCell ⟨w.heap.size + 1 + 1, 3, none⟩ (.slice (some ⟨g0, 0, none⟩) x.env.length x.env.length)).heap[w.heap.size]? = some (Obj.cells #[.int .i64 x.mode, .int .i64 x.unit, .int .i64 x.node, .slice a1 x.env.length c1, .int .i64 x.val.k, .int .i64 x.val.n, .string x.val.s, .slice a2 x.stack.length c2, .int .i64 x.end_] 33) := by
  rw [heap_setCell_other _ _ _ _ (by simp; try omega)]; exact K0.out
 have k1 : (v0.setCell ⟨w.heap.size + 1 + 1, 3, none⟩ (.slice (some ⟨g0, 0, none⟩) x.env.length x.env.length)).heap[w.heap.size + 1]? = some (Obj.cells #[.int .i64 0, .int .i64 0, .int .i64 0, .slice none 0 0, .int .i64 0, .int .i64 0, .string ⟨#[]⟩, .slice none 0 0, .int .i64 0] 47) := by
  rw [heap_setCell_other _ _ _ _ (by simp)]; exact K1.out
 have k2 : (v0.setCell ⟨w.heap.size + 1 + 1, 3, none⟩ (.slice (some ⟨g0, 0, none⟩) x.env.length x.env.length)).heap[w.heap.size + 1 + 1]? = some (Obj.cells #[.int .i64 x.mode, .int .i64 x.unit, .int .i64 x.node, .slice (some ⟨g0, 0, none⟩) x.env.length x.env.length, .int .i64 0, .int .i64 0, .string ⟨#[]⟩, .slice none 0 0, .int .i64 0] 47) := heap_setCell_same _ _ _ _ _ _ (K2.out)
 have hb : Below w.heap.size w (v0.setCell ⟨w.heap.size + 1 + 1, 3, none⟩ (.slice (some ⟨g0, 0, none⟩) x.env.length x.env.length)) := hb1.setCell (p := ⟨_, _, none⟩) (by simp; omega) _
 have hz : w.heap.size + 3 ≤ (v0.setCell ⟨w.heap.size + 1 + 1, 3, none⟩ (.slice (some ⟨g0, 0, none⟩) x.env.length x.env.length)).heap.size := by simp; omega
 have R0_0 : Hid (rgB.Row (v0.setCell ⟨w.heap.size + 1 + 1, 3, none⟩ (.slice (some ⟨g0, 0, none⟩) x.env.length x.env.length)) (fun b => w.heap.size + 3 ≤ b ∧ b < (v0.setCell ⟨w.heap.size + 1 + 1, 3, none⟩ (.slice (some ⟨g0, 0, none⟩) x.env.length x.env.length)).heap.size) (some ⟨g0, 0, none⟩) x.env) := R0_0.out.keep fun b h => ⟨⟨h.1, by have := h.2; simpa using this⟩, by rw [heap_setCell_other _ _ _ _ (by have := h.1; show b ≠ w.heap.size + 1 + 1; omega)]⟩
 clear K0 K1 K2 hb1 hsv p0 o0 p1 o1 p2 o2 p3 o3 p4 o4 p5 o5 p6 o6 p7 o7 p8 o8 f3
 generalize (v0.setCell ⟨w.heap.size + 1 + 1, 3, none⟩ (.slice (some ⟨g0, 0, none⟩) x.env.length x.env.length)) = w0A at *
 refine (HC1.out _ hb).mono ?_
 rintro e v1 ⟨cs, rfl, rfl, hv⟩
 have hb1 : Below w.heap.size w v1 := bT hb hv
 have hsv := hv.size
 have k0 := blk_keep k0 hv (by omega)
 have k1 := blk_keep k1 hv (by omega)
 have k2 := blk_keep k2 hv (by omega)
 have R0_0 : rgB.Row v1 (fun b => w.heap.size + 3 ≤ b ∧ b < v1.heap.size) (some ⟨g0, 0, none⟩) x.env := R0_0.out.keep fun b h => ⟨⟨h.1, by have := h.2; omega⟩, hv.block b h.2⟩
 clear hb hv
 have R0_0 : Hid (rgB.Row v1 (fun b => w.heap.size + 3 ≤ b ∧ b < v1.heap.size) (some ⟨g0, 0, none⟩) x.env) := R0_0
 obtain ⟨p0, p1, p2, p3, p4, p5, p6, p7, p8⟩ := zn9 k0 rfl rfl rfl rfl rfl rfl rfl rfl rfl
 obtain ⟨o0, o1, o2, o3, o4, o5, o6, o7, o8⟩ := zn9 k2 rfl rfl rfl rfl rfl rfl rfl rfl rfl
 have f4 := frozen_blk k2 4
 have f5 := frozen_blk k2 5
 have f6 := frozen_blk k2 6
 have K0 : Hid (v1.heap[w.heap.size]? = some (Obj.cells #[.int .i64 x.mode, .int .i64 x.unit, .int .i64 x.node, .slice a1 x.env.length c1, .int .i64 x.val.k, .int .i64 x.val.n, .string x.val.s, .slice a2 x.stack.length c2, .int .i64 x.end_] 33)) := k0
 have K1 : Hid (v1.heap[w.heap.size + 1]? = some (Obj.cells #[.int .i64 0, .int .i64 0, .int .i64 0, .slice none 0 0, .int .i64 0, .int .i64 0, .string ⟨#[]⟩, .slice none 0 0, .int .i64 0] 47)) := k1
 have K2 : Hid (v1.heap[w.heap.size + 1 + 1]? = some (Obj.cells #[.int .i64 x.mode, .int .i64 x.unit, .int .i64 x.node, .slice (some ⟨g0, 0, none⟩) x.env.length x.env.length, .int .i64 0, .int .i64 0, .string ⟨#[]⟩, .slice none 0 0, .int .i64 0] 47)) := k2
 clear k0 k1 k2
 go_wp2_with fail
 have k0 : (((v1.setCell ⟨w.heap.size + 1 + 1, 4, none⟩ (.int .i64 x.val.k)).setCell ⟨w.heap.size + 1 + 1, 5, none⟩ (.int .i64 x.val.n)).setCell ⟨w.heap.size + 1 + 1, 6, none⟩ (.string x.val.s)).heap[w.heap.size]? = some (Obj.cells #[.int .i64 x.mode, .int .i64 x.unit, .int .i64 x.node, .slice a1 x.env.length c1, .int .i64 x.val.k, .int .i64 x.val.n, .string x.val.s, .slice a2 x.stack.length c2, .int .i64 x.end_] 33) := by
  rw [heap_setCell_other _ _ _ _ (by simp; try omega), heap_setCell_other _ _ _ _ (by simp; try omega), heap_setCell_other _ _ _ _ (by simp; try omega)]; exact K0.out
 have k1 : (((v1.setCell ⟨w.heap.size + 1 + 1, 4, none⟩ (.int .i64 x.val.k)).setCell ⟨w.heap.size + 1 + 1, 5, none⟩ (.int .i64 x.val.n)).setCell ⟨w.heap.size + 1 + 1, 6, none⟩ (.string x.val.s)).heap[w.heap.size + 1]? = some (Obj.cells #[.int .i64 0, .int .i64 0, .int .i64 0, .slice none 0 0, .int .i64 0, .int .i64 0, .string ⟨#[]⟩, .slice none 0 0, .int .i64 0] 47) := by
  rw [heap_setCell_other _ _ _ _ (by simp), heap_setCell_other _ _ _ _ (by simp), heap_setCell_other _ _ _ _ (by simp)]; exact K1.out
 have k2 : (((v1.setCell ⟨w.heap.size + 1 + 1, 4, none⟩ (.int .i64 x.val.k)).setCell ⟨w.heap.size + 1 + 1, 5, none⟩ (.int .i64 x.val.n)).setCell ⟨w.heap.size + 1 + 1, 6, none⟩ (.string x.val.s)).heap[w.heap.size + 1 + 1]? = some (Obj.cells #[.int .i64 x.mode, .int .i64 x.unit, .int .i64 x.node, .slice (some ⟨g0, 0, none⟩) x.env.length x.env.length, .int .i64 x.val.k, .int .i64 x.val.n, .string x.val.s, .slice none 0 0, .int .i64 0] 47) := heap_setCell_same _ _ _ _ _ _ (heap_setCell_same _ _ _ _ _ _ (heap_setCell_same _ _ _ _ _ _ (K2.out)))
 have hb : Below w.heap.size w (((v1.setCell ⟨w.heap.size + 1 + 1, 4, none⟩ (.int .i64 x.val.k)).setCell ⟨w.heap.size + 1 + 1, 5, none⟩ (.int .i64 x.val.n)).setCell ⟨w.heap.size + 1 + 1, 6, none⟩ (.string x.val.s)) := ((hb1.setCell (p := ⟨_, _, none⟩) (by simp; omega) _).setCell (p := ⟨_, _, none⟩) (by simp; omega) _).setCell (p := ⟨_, _, none⟩) (by simp; omega) _
 have hz : w.heap.size + 3 ≤ (((v1.setCell ⟨w.heap.size + 1 + 1, 4, none⟩ (.int .i64 x.val.k)).setCell ⟨w.heap.size + 1 + 1, 5, none⟩ (.int .i64 x.val.n)).setCell ⟨w.heap.size + 1 + 1, 6, none⟩ (.string x.val.s)).heap.size := by simp; omega
 have R0_0 : Hid (rgB.Row (((v1.setCell ⟨w.heap.size + 1 + 1, 4, none⟩ (.int .i64 x.val.k)).setCell ⟨w.heap.size + 1 + 1, 5, none⟩ (.int .i64 x.val.n)).setCell ⟨w.heap.size + 1 + 1, 6, none⟩ (.string x.val.s)) (fun b => w.heap.size + 3 ≤ b ∧ b < (((v1.setCell ⟨w.heap.size + 1 + 1, 4, none⟩ (.int .i64 x.val.k)).setCell ⟨w.heap.size + 1 + 1, 5, none⟩ (.int .i64 x.val.n)).setCell ⟨w.heap.size + 1 + 1, 6, none⟩ (.string x.val.s)).heap.size) (some ⟨g0, 0, none⟩) x.env) := R0_0.out.keep fun b h => ⟨⟨h.1, by have := h.2; simpa using this⟩, by rw [heap_setCell_other _ _ _ _ (by have := h.1; show b ≠ w.heap.size + 1 + 1; omega), heap_setCell_other _ _ _ _ (by have := h.1; show b ≠ w.heap.size + 1 + 1; omega), heap_setCell_other _ _ _ _ (by have := h.1; show b ≠ w.heap.size + 1 + 1; omega)]⟩
 clear K0 K1 K2 hb1 hsv p0 o0 p1 o1 p2 o2 p3 o3 p4 o4 p5 o5 p6 o6 p7 o7 p8 o8 f4 f5 f6
 generalize (((v1.setCell ⟨w.heap.size + 1 + 1, 4, none⟩ (.int .i64 x.val.k)).setCell ⟨w.heap.size + 1 + 1, 5, none⟩ (.int .i64 x.val.n)).setCell ⟨w.heap.size + 1 + 1, 6, none⟩ (.string x.val.s)) = w1A at *
 refine (HC2.out _ hb).mono ?_
 rintro e v2 ⟨g2, rfl, hrow, hv⟩
 have hb1 : Below w.heap.size w v2 := bT hb hv
 have hsv := hv.size
 have k0 := blk_keep k0 hv (by omega)
 have k1 := blk_keep k1 hv (by omega)
 have k2 := blk_keep k2 hv (by omega)
 have R0_0 : rgB.Row v2 (fun b => w.heap.size + 3 ≤ b ∧ b < v2.heap.size) (some ⟨g0, 0, none⟩) x.env := R0_0.out.keep fun b h => ⟨⟨h.1, by have := h.2; omega⟩, hv.block b h.2⟩
 have R2_0 : rgF.Row v2 (fun b => w.heap.size + 3 ≤ b ∧ b < v2.heap.size) (some ⟨g2, 0, none⟩) x.stack := hrow.keep fun b h => ⟨⟨by have := h.1; omega, h.2⟩, rfl⟩
 clear hb hv hrow
 have R0_0 : Hid (rgB.Row v2 (fun b => w.heap.size + 3 ≤ b ∧ b < v2.heap.size) (some ⟨g0, 0, none⟩) x.env) := R0_0
 have R2_0 : Hid (rgF.Row v2 (fun b => w.heap.size + 3 ≤ b ∧ b < v2.heap.size) (some ⟨g2, 0, none⟩) x.stack) := R2_0
 obtain ⟨p0, p1, p2, p3, p4, p5, p6, p7, p8⟩ := zn9 k0 rfl rfl rfl rfl rfl rfl rfl rfl rfl
 obtain ⟨o0, o1, o2, o3, o4, o5, o6, o7, o8⟩ := zn9 k2 rfl rfl rfl rfl rfl rfl rfl rfl rfl
 have f7 := frozen_blk k2 7
 have f8 := frozen_blk k2 8
 have s0 := zB 0 k1 rfl
 have l0 := frozen_blk k1 0
 have s1 := zB 1 k1 rfl
 have l1 := frozen_blk k1 1
 have s2 := zB 2 k1 rfl
 have l2 := frozen_blk k1 2
 have s3 := zB 3 k1 rfl
 have l3 := frozen_blk k1 3
 have s4 := zB 4 k1 rfl
 have l4 := frozen_blk k1 4
 have s5 := zB 5 k1 rfl
 have l5 := frozen_blk k1 5
 have s6 := zB 6 k1 rfl
 have l6 := frozen_blk k1 6
 have s7 := zB 7 k1 rfl
 have l7 := frozen_blk k1 7
 have s8 := zB 8 k1 rfl
 have l8 := frozen_blk k1 8
 have K0 : Hid (v2.heap[w.heap.size]? = some (Obj.cells #[.int .i64 x.mode, .int .i64 x.unit, .int .i64 x.node, .slice a1 x.env.length c1, .int .i64 x.val.k, .int .i64 x.val.n, .string x.val.s, .slice a2 x.stack.length c2, .int .i64 x.end_] 33)) := k0
 have K1 : Hid (v2.heap[w.heap.size + 1]? = some (Obj.cells #[.int .i64 0, .int .i64 0, .int .i64 0, .slice none 0 0, .int .i64 0, .int .i64 0, .string ⟨#[]⟩, .slice none 0 0, .int .i64 0] 47)) := k1
 have K2 : Hid (v2.heap[w.heap.size + 1 + 1]? = some (Obj.cells #[.int .i64 x.mode, .int .i64 x.unit, .int .i64 x.node, .slice (some ⟨g0, 0, none⟩) x.env.length x.env.length, .int .i64 x.val.k, .int .i64 x.val.n, .string x.val.s, .slice none 0 0, .int .i64 0] 47)) := k2
 clear k0 k1 k2
 go_wp2
 have K3 : ((v2.setCell ⟨w.heap.size + 1 + 1, 7, none⟩ (.slice (some ⟨g2, 0, none⟩) x.stack.length x.stack.length)).setCell ⟨w.heap.size + 1 + 1, 8, none⟩ (.int .i64 x.end_)).heap[w.heap.size + 1]? = some (Obj.cells #[.int .i64 0, .int .i64 0, .int .i64 0, .slice none 0 0, .int .i64 0, .int .i64 0, .string ⟨#[]⟩, .slice none 0 0, .int .i64 0] 47) := by
  rw [heap_setCell_other _ _ _ _ (by simp), heap_setCell_other _ _ _ _ (by simp)]; exact K1.out
 refine bodyPost_ret (results_cell_row rfl _ _ (w.heap.size + 1) 47 #[.int .i64 x.mode, .int .i64 x.unit, .int .i64 x.node, .slice (some ⟨g0, 0, none⟩) x.env.length x.env.length, .int .i64 x.val.k, .int .i64 x.val.n, .string x.val.s, .slice (some ⟨g2, 0, none⟩) x.stack.length x.stack.length, .int .i64 x.end_] (0, 0) _ rfl (heap_setCell_same _ _ _ _ _ _ (heap_setCell_same _ _ _ _ _ _ (heap_setCell_same _ _ _ _ _ _ (heap_setCell_same _ _ _ _ _ _ (heap_setCell_same _ _ _ _ _ _ (heap_setCell_same _ _ _ _ _ _ (heap_setCell_same _ _ _ _ _ _ (heap_setCell_same _ _ _ _ _ _ (heap_setCell_same _ _ _ _ _ _ (K3)))))))))) Tryz.underlying47 rfl (by kernel_rfl)) rfl ?_
 have hoth : ∀ b, w.heap.size + 3 ≤ b → (((((((((((v2.setCell ⟨w.heap.size + 1 + 1, 7, none⟩ (.slice (some ⟨g2, 0, none⟩) x.stack.length x.stack.length)).setCell ⟨w.heap.size + 1 + 1, 8, none⟩ (.int .i64 x.end_)).setCell ⟨w.heap.size + 1, 0, none⟩ (.int .i64 x.mode)).setCell ⟨w.heap.size + 1, 1, none⟩ (.int .i64 x.unit)).setCell ⟨w.heap.size + 1, 2, none⟩ (.int .i64 x.node)).setCell ⟨w.heap.size + 1, 3, none⟩ (.slice (some ⟨g0, 0, none⟩) x.env.length x.env.length)).setCell ⟨w.heap.size + 1, 4, none⟩ (.int .i64 x.val.k)).setCell ⟨w.heap.size + 1, 5, none⟩ (.int .i64 x.val.n)).setCell ⟨w.heap.size + 1, 6, none⟩ (.string x.val.s)).setCell ⟨w.heap.size + 1, 7, none⟩ (.slice (some ⟨g2, 0, none⟩) x.stack.length x.stack.length)).setCell ⟨w.heap.size + 1, 8, none⟩ (.int .i64 x.end_)).heap[b]? = v2.heap[b]? := by
  intro b h
  rw [heap_setCell_other _ _ _ _ (by show b ≠ w.heap.size + 1; omega), heap_setCell_other _ _ _ _ (by show b ≠ w.heap.size + 1; omega), heap_setCell_other _ _ _ _ (by show b ≠ w.heap.size + 1; omega), heap_setCell_other _ _ _ _ (by show b ≠ w.heap.size + 1; omega), heap_setCell_other _ _ _ _ (by show b ≠ w.heap.size + 1; omega), heap_setCell_other _ _ _ _ (by show b ≠ w.heap.size + 1; omega), heap_setCell_other _ _ _ _ (by show b ≠ w.heap.size + 1; omega), heap_setCell_other _ _ _ _ (by show b ≠ w.heap.size + 1; omega), heap_setCell_other _ _ _ _ (by show b ≠ w.heap.size + 1; omega), heap_setCell_other _ _ _ _ (by show b ≠ w.heap.size + 1 + 1; omega), heap_setCell_other _ _ _ _ (by show b ≠ w.heap.size + 1 + 1; omega)]
 exact ⟨_, rfl, ⟨_, _, _, _, rfl, ⟨⟨R0_0.out.keep fun b h => ⟨⟨by have := h.1; omega, by have := h.2; simpa using this⟩, hoth b h.1⟩, Nat.le_refl _⟩, ⟨R2_0.out.keep fun b h => ⟨⟨by have := h.1; omega, by have := h.2; simpa using this⟩, hoth b h.1⟩, Nat.le_refl _⟩⟩⟩, ((((((((((hb1.setCell (p := ⟨_, _, none⟩) (by simp <;> omega) _).setCell (p := ⟨_, _, none⟩) (by simp <;> omega) _).setCell (p := ⟨_, _, none⟩) (by simp <;> omega) _).setCell (p := ⟨_, _, none⟩) (by simp <;> omega) _).setCell (p := ⟨_, _, none⟩) (by simp <;> omega) _).setCell (p := ⟨_, _, none⟩) (by simp <;> omega) _).setCell (p := ⟨_, _, none⟩) (by simp <;> omega) _).setCell (p := ⟨_, _, none⟩) (by simp <;> omega) _).setCell (p := ⟨_, _, none⟩) (by simp <;> omega) _).setCell (p := ⟨_, _, none⟩) (by simp <;> omega) _).setCell (p := ⟨_, _, none⟩) (by simp <;> omega) _⟩
end Go.Proofs.YtlacidojljilaaaGreatDoor
set_option linter.unusedVariables false
namespace Go.Proofs.YtlacidojljilaaaGreatDoor
open Go.ChangeShapes Go.WideShapes Go.ChangeAt Go.RowKit
theorem eqE_Value (x : Val) (w : World) (hs : x.small) :
  Calls Tryz.prog 36 #[.agg #[.int .i64 x.k, .int .i64 x.n, .string x.s], .agg #[.int .i64 x.k, .int .i64 x.n, .string x.s]] w fun e w' => Ans w (.bool true) e w' := eqValue_same x w
set_option maxRecDepth 100000 in
set_option maxHeartbeats 1000000 in
theorem eqE_Bind (x : Bnd) (w : World) (hs : x.small) :
  Calls Tryz.prog 64 #[.agg #[.string x.name, .int .i64 x.val.k, .int .i64 x.val.n, .string x.val.s], .agg #[.string x.name, .int .i64 x.val.k, .int .i64 x.val.n, .string x.val.s]] w fun e w' => Ans w (.bool true) e w' := by
 obtain ⟨u0, u1⟩ := hs
 have hb : Below w.heap.size w ((w.alloc (Obj.cells #[.string x.name, .int .i64 x.val.k, .int .i64 x.val.n, .string x.val.s] 121)).alloc (Obj.cells #[.string x.name, .int .i64 x.val.k, .int .i64 x.val.n, .string x.val.s] 121)) := (bR _ _).alloc (by simp) _
 have k0 : ((w.alloc (Obj.cells #[.string x.name, .int .i64 x.val.k, .int .i64 x.val.n, .string x.val.s] 121)).alloc (Obj.cells #[.string x.name, .int .i64 x.val.k, .int .i64 x.val.n, .string x.val.s] 121)).heap[w.heap.size]? = some (Obj.cells #[.string x.name, .int .i64 x.val.k, .int .i64 x.val.n, .string x.val.s] 121) := blk_past (blk_at _ _ _ rfl)
 have k1 : ((w.alloc (Obj.cells #[.string x.name, .int .i64 x.val.k, .int .i64 x.val.n, .string x.val.s] 121)).alloc (Obj.cells #[.string x.name, .int .i64 x.val.k, .int .i64 x.val.n, .string x.val.s] 121)).heap[w.heap.size + 1]? = some (Obj.cells #[.string x.name, .int .i64 x.val.k, .int .i64 x.val.n, .string x.val.s] 121) := blk_at _ _ _ (by simp)
 have HC0 : Hid (∀ w2, Below w.heap.size w w2 → Calls Tryz.prog 36 #[.agg #[.int .i64 x.val.k, .int .i64 x.val.n, .string x.val.s], .agg #[.int .i64 x.val.k, .int .i64 x.val.n, .string x.val.s]] w2 fun e w' => Ans w2 (.bool true) e w') := fun w2 hh => eqE_Value x.val w2 u1
 go_enter Tryz.func64, Tryz.ntmps64
 go_wp2_with fail
 refine (HC0.out _ hb).mono ?_
 rintro e v0 ⟨rfl, hv⟩
 have hb0 : Below w.heap.size w v0 := bT hb hv
 have k0 := bK k0 hv
 have k1 := bK k1 hv
 clear hv
 have p0_0 := zB 0 k0 rfl
 have q0_0 := zB 0 k1 rfl
 have p0_1 := zB 1 k0 rfl
 have q0_1 := zB 1 k1 rfl
 have p0_2 := zB 2 k0 rfl
 have q0_2 := zB 2 k1 rfl
 have p0_3 := zB 3 k0 rfl
 have q0_3 := zB 3 k1 rfl
 go_wp2
 go_ret
 exact ⟨rfl, hb0⟩
set_option maxRecDepth 100000 in
set_option maxHeartbeats 1000000 in
theorem eq_Bind (a b : Option Addr) (l : List Bnd) (ca cb : Nat) (w : World) (hn : l.length ≤ 1048576) (hsm : ∀ d ∈ l, Bnd.small d) (hr : rgB.Row w (fun b => b < w.heap.size) a l) (hr' : rgB.Row w (fun b => b < w.heap.size) b l) :
  Calls Tryz.prog 35 #[.slice a l.length ca, .slice b l.length cb] w fun e w' => Ans w (.bool true) e w' := by
 have HR : Hid (rgB.Row w (fun b => b < w.heap.size) a l) := hr
 have HR' : Hid (rgB.Row w (fun b => b < w.heap.size) b l) := hr'
 have HS : Hid (∀ d ∈ l, Bnd.small d) := hsm
 clear hr hr' hsm
 go_enter Tryz.func35, Tryz.ntmps35
 go_wp2
 go_loopw [5] (fun o wr => ∃ (i : Nat), i ≤ l.length ∧ o = .int .i64 i ∧ Below w.heap.size w wr)
  (fun o _ => l.length - (intOf o).toNat)
 case atStart => exact ⟨0, by omega, rfl, Below.refl _ _⟩
 case round =>
  obtain ⟨i, hi, rfl, hb⟩ := hrel
  by_cases hlt : i < l.length
  ·obtain ⟨d, hd⟩ : ∃ d, l[i]? = some d := ⟨_, List.getElem?_eq_getElem hlt⟩
   have hsz := hb.size
   obtain ⟨b1, o1, cs1, rfl, hbb, hat, hl1⟩ := (HR.out.below hb) i d hd
   obtain ⟨b2, o2, cs2, rfl, hbb', hat', hl2⟩ := (HR'.out.below hb) i d hd
   obtain rfl := hat
   obtain rfl := hat'
   have cx0 : wr.cell? ⟨b1, o1 + i * 4, none⟩ = some (.string d.name) := hl1 0 _ rfl
   have cy0 : wr.cell? ⟨b2, o2 + i * 4, none⟩ = some (.string d.name) := hl2 0 _ rfl
   have cx1 : wr.cell? ⟨b1, o1 + i * 4 + 1, none⟩ = some (.int .i64 d.val.k) := hl1 1 _ rfl
   have cy1 : wr.cell? ⟨b2, o2 + i * 4 + 1, none⟩ = some (.int .i64 d.val.k) := hl2 1 _ rfl
   have cx2 : wr.cell? ⟨b1, o1 + i * 4 + 2, none⟩ = some (.int .i64 d.val.n) := hl1 2 _ rfl
   have cy2 : wr.cell? ⟨b2, o2 + i * 4 + 2, none⟩ = some (.int .i64 d.val.n) := hl2 2 _ rfl
   have cx3 : wr.cell? ⟨b1, o1 + i * 4 + 3, none⟩ = some (.string d.val.s) := hl1 3 _ rfl
   have cy3 : wr.cell? ⟨b2, o2 + i * 4 + 3, none⟩ = some (.string d.val.s) := hl2 3 _ rfl
   have HE : Hid (∀ w1, Below w.heap.size wr w1 → Calls Tryz.prog 64 #[.agg #[.string d.name, .int .i64 d.val.k, .int .i64 d.val.n, .string d.val.s], .agg #[.string d.name, .int .i64 d.val.k, .int .i64 d.val.n, .string d.val.s]] w1 fun e w' => Ans w1 (.bool true) e w') := fun w1 h => eqE_Bind d   w1 (HS.out d (List.mem_of_getElem? hd))
   clear hd hl1 hl2
   go_wp2_with fail
   go_region_with (go_at_call 64; refine (HE.out _ (eqb_dn (Below.refl _ _) 1)).mono ?_; rintro e w2 ⟨rfl, hb2⟩)
   all_goals
    go_wp2
    go_roundw
    case rel => exact ⟨i + 1, by omega, by go_num, (eqb_dn hb _).trans (hb2.mono hsz)⟩
    case measure => simp [intOf]; omega
  ·have hlt' : decide ((i : Int) < (l.length : Int)) = false := by simp; omega
   go_wp2
   go_ret
   exact ⟨rfl, hb⟩
set_option maxRecDepth 100000 in
set_option maxHeartbeats 1000000 in
theorem eqE_Frame (x : Frm) (a1 a2 : Option Addr) (c1 c2 : Nat) (aq1 aq2 : Option Addr) (cq1 cq2 : Nat) (w : World) (hs : x.small) (h1 : FrmRows w (fun b => b < w.heap.size) a1 a2 c1 c2 x) (h2 : FrmRows w (fun b => b < w.heap.size) aq1 aq2 cq1 cq2 x) :
  Calls Tryz.prog 65 #[.agg #[.int .i64 x.unit, .int .i64 x.node, .slice a1 x.vals.length c1, .slice a2 x.env.length c2], .agg #[.int .i64 x.unit, .int .i64 x.node, .slice aq1 x.vals.length cq1, .slice aq2 x.env.length cq2]] w fun e w' => Ans w (.bool true) e w' := by
 obtain ⟨u0, u1, u2, u3⟩ := hs
 obtain ⟨⟨r1, rt1⟩, ⟨r2, rt2⟩⟩ := h1
 obtain ⟨⟨s1, st1⟩, ⟨s2, st2⟩⟩ := h2
 have hb : Below w.heap.size w ((w.alloc (Obj.cells #[.int .i64 x.unit, .int .i64 x.node, .slice a1 x.vals.length c1, .slice a2 x.env.length c2] 104)).alloc (Obj.cells #[.int .i64 x.unit, .int .i64 x.node, .slice aq1 x.vals.length cq1, .slice aq2 x.env.length cq2] 104)) := (bR _ _).alloc (by simp) _
 have k0 : ((w.alloc (Obj.cells #[.int .i64 x.unit, .int .i64 x.node, .slice a1 x.vals.length c1, .slice a2 x.env.length c2] 104)).alloc (Obj.cells #[.int .i64 x.unit, .int .i64 x.node, .slice aq1 x.vals.length cq1, .slice aq2 x.env.length cq2] 104)).heap[w.heap.size]? = some (Obj.cells #[.int .i64 x.unit, .int .i64 x.node, .slice a1 x.vals.length c1, .slice a2 x.env.length c2] 104) := blk_past (blk_at _ _ _ rfl)
 have k1 : ((w.alloc (Obj.cells #[.int .i64 x.unit, .int .i64 x.node, .slice a1 x.vals.length c1, .slice a2 x.env.length c2] 104)).alloc (Obj.cells #[.int .i64 x.unit, .int .i64 x.node, .slice aq1 x.vals.length cq1, .slice aq2 x.env.length cq2] 104)).heap[w.heap.size + 1]? = some (Obj.cells #[.int .i64 x.unit, .int .i64 x.node, .slice aq1 x.vals.length cq1, .slice aq2 x.env.length cq2] 104) := blk_at _ _ _ (by simp)
 have HC0 : Hid (∀ w2, Below w.heap.size w w2 → Calls Tryz.prog 94 #[.slice a1 x.vals.length c1, .slice aq1 x.vals.length cq1] w2 fun e w' => Ans w2 (.bool true) e w') := fun w2 hh => eq_Value a1 aq1 x.vals c1 cq1 w2 u2.1 u2.2 (r1.keep fun b h => ⟨by have := hh.size; omega, hh.block b h⟩) (s1.keep fun b h => ⟨by have := hh.size; omega, hh.block b h⟩)
 have HC1 : Hid (∀ w2, Below w.heap.size w w2 → Calls Tryz.prog 35 #[.slice a2 x.env.length c2, .slice aq2 x.env.length cq2] w2 fun e w' => Ans w2 (.bool true) e w') := fun w2 hh => eq_Bind a2 aq2 x.env c2 cq2 w2 u3.1 u3.2 (r2.keep fun b h => ⟨by have := hh.size; omega, hh.block b h⟩) (s2.keep fun b h => ⟨by have := hh.size; omega, hh.block b h⟩)
 clear r1 s1 r2 s2
 go_enter Tryz.func65, Tryz.ntmps65
 go_wp2_with fail
 refine (HC0.out _ hb).mono ?_
 rintro e v0 ⟨rfl, hv⟩
 have hb0 : Below w.heap.size w v0 := bT hb hv
 have k0 := bK k0 hv
 have k1 := bK k1 hv
 clear hv
 have p0_0 := zB 0 k0 rfl
 have q0_0 := zB 0 k1 rfl
 have p0_1 := zB 1 k0 rfl
 have q0_1 := zB 1 k1 rfl
 have p0_2 := zB 2 k0 rfl
 have q0_2 := zB 2 k1 rfl
 have p0_3 := zB 3 k0 rfl
 have q0_3 := zB 3 k1 rfl
 go_wp2_with fail
 refine (HC1.out _ hb0).mono ?_
 rintro e v1 ⟨rfl, hv⟩
 have hb1 : Below w.heap.size w v1 := bT hb0 hv
 have k0 := bK k0 hv
 have k1 := bK k1 hv
 clear hv
 have p1_0 := zB 0 k0 rfl
 have q1_0 := zB 0 k1 rfl
 have p1_1 := zB 1 k0 rfl
 have q1_1 := zB 1 k1 rfl
 have p1_2 := zB 2 k0 rfl
 have q1_2 := zB 2 k1 rfl
 have p1_3 := zB 3 k0 rfl
 have q1_3 := zB 3 k1 rfl
 go_wp2
 go_ret
 exact ⟨rfl, hb1⟩
set_option maxRecDepth 100000 in
set_option maxHeartbeats 1000000 in
theorem eq_Frame (a b : Option Addr) (l : List Frm) (ca cb : Nat) (w : World) (hn : l.length ≤ 1048576) (hsm : ∀ d ∈ l, Frm.small d) (hr : rgF.Row w (fun b => b < w.heap.size) a l) (hr' : rgF.Row w (fun b => b < w.heap.size) b l) :
  Calls Tryz.prog 37 #[.slice a l.length ca, .slice b l.length cb] w fun e w' => Ans w (.bool true) e w' := by
 have HR : Hid (rgF.Row w (fun b => b < w.heap.size) a l) := hr
 have HR' : Hid (rgF.Row w (fun b => b < w.heap.size) b l) := hr'
 have HS : Hid (∀ d ∈ l, Frm.small d) := hsm
 clear hr hr' hsm
 go_enter Tryz.func37, Tryz.ntmps37
 go_wp2
 go_loopw [5] (fun o wr => ∃ (i : Nat), i ≤ l.length ∧ o = .int .i64 i ∧ Below w.heap.size w wr)
  (fun o _ => l.length - (intOf o).toNat)
 case atStart => exact ⟨0, by omega, rfl, Below.refl _ _⟩
 case round =>
  obtain ⟨i, hi, rfl, hb⟩ := hrel
  by_cases hlt : i < l.length
  ·obtain ⟨d, hd⟩ : ∃ d, l[i]? = some d := ⟨_, List.getElem?_eq_getElem hlt⟩
   have hsz := hb.size
   obtain ⟨b1, o1, cs1, rfl, hbb, hat, hl1⟩ := (HR.out.below hb) i d hd
   obtain ⟨b2, o2, cs2, rfl, hbb', hat', hl2⟩ := (HR'.out.below hb) i d hd
   obtain ⟨a1, a2, c1, c2, rfl, hrows⟩ := hat
   obtain ⟨aq1, aq2, cq1, cq2, rfl, hrowsq⟩ := hat'
   have cx0 : wr.cell? ⟨b1, o1 + i * 4, none⟩ = some (.int .i64 d.unit) := hl1 0 _ rfl
   have cy0 : wr.cell? ⟨b2, o2 + i * 4, none⟩ = some (.int .i64 d.unit) := hl2 0 _ rfl
   have cx1 : wr.cell? ⟨b1, o1 + i * 4 + 1, none⟩ = some (.int .i64 d.node) := hl1 1 _ rfl
   have cy1 : wr.cell? ⟨b2, o2 + i * 4 + 1, none⟩ = some (.int .i64 d.node) := hl2 1 _ rfl
   have cx2 : wr.cell? ⟨b1, o1 + i * 4 + 2, none⟩ = some (.slice a1 d.vals.length c1) := hl1 2 _ rfl
   have cy2 : wr.cell? ⟨b2, o2 + i * 4 + 2, none⟩ = some (.slice aq1 d.vals.length cq1) := hl2 2 _ rfl
   have cx3 : wr.cell? ⟨b1, o1 + i * 4 + 3, none⟩ = some (.slice a2 d.env.length c2) := hl1 3 _ rfl
   have cy3 : wr.cell? ⟨b2, o2 + i * 4 + 3, none⟩ = some (.slice aq2 d.env.length cq2) := hl2 3 _ rfl
   have HE : Hid (∀ w1, Below w.heap.size wr w1 → Calls Tryz.prog 65 #[.agg #[.int .i64 d.unit, .int .i64 d.node, .slice a1 d.vals.length c1, .slice a2 d.env.length c2], .agg #[.int .i64 d.unit, .int .i64 d.node, .slice aq1 d.vals.length cq1, .slice aq2 d.env.length cq2]] w1 fun e w' => Ans w1 (.bool true) e w') := fun w1 h => eqE_Frame d a1 a2 c1 c2 aq1 aq2 cq1 cq2 w1 (HS.out d (List.mem_of_getElem? hd)) (hrows.keep fun b hb' => ⟨by have := h.size; omega, h.block b hb'⟩) (hrowsq.keep fun b hb' => ⟨by have := h.size; omega, h.block b hb'⟩)
   clear hd hl1 hl2 hrows hrowsq
   go_wp2_with fail
   go_region_with (go_at_call 65; refine (HE.out _ (eqb_dn (Below.refl _ _) 1)).mono ?_; rintro e w2 ⟨rfl, hb2⟩)
   all_goals
    go_wp2
    go_roundw
    case rel => exact ⟨i + 1, by omega, by go_num, (eqb_dn hb _).trans (hb2.mono hsz)⟩
    case measure => simp [intOf]; omega
  ·have hlt' : decide ((i : Int) < (l.length : Int)) = false := by simp; omega
   go_wp2
   go_ret
   exact ⟨rfl, hb⟩
set_option maxRecDepth 100000 in
set_option maxHeartbeats 1000000 in
theorem eqE_Machine (x : Mac) (a1 a2 : Option Addr) (c1 c2 : Nat) (aq1 aq2 : Option Addr) (cq1 cq2 : Nat) (w : World) (hs : x.small) (h1 : MacRows w (fun b => b < w.heap.size) a1 a2 c1 c2 x) (h2 : MacRows w (fun b => b < w.heap.size) aq1 aq2 cq1 cq2 x) :
  Calls Tryz.prog 11 #[.agg #[.int .i64 x.mode, .int .i64 x.unit, .int .i64 x.node, .slice a1 x.env.length c1, .int .i64 x.val.k, .int .i64 x.val.n, .string x.val.s, .slice a2 x.stack.length c2, .int .i64 x.end_], .agg #[.int .i64 x.mode, .int .i64 x.unit, .int .i64 x.node, .slice aq1 x.env.length cq1, .int .i64 x.val.k, .int .i64 x.val.n, .string x.val.s, .slice aq2 x.stack.length cq2, .int .i64 x.end_]] w fun e w' => Ans w (.bool true) e w' := by
 obtain ⟨u0, u1, u2, u3, u4, u5, u6⟩ := hs
 obtain ⟨⟨r1, rt1⟩, ⟨r2, rt2⟩⟩ := h1
 obtain ⟨⟨s1, st1⟩, ⟨s2, st2⟩⟩ := h2
 have hb : Below w.heap.size w ((w.alloc (Obj.cells #[.int .i64 x.mode, .int .i64 x.unit, .int .i64 x.node, .slice a1 x.env.length c1, .int .i64 x.val.k, .int .i64 x.val.n, .string x.val.s, .slice a2 x.stack.length c2, .int .i64 x.end_] 47)).alloc (Obj.cells #[.int .i64 x.mode, .int .i64 x.unit, .int .i64 x.node, .slice aq1 x.env.length cq1, .int .i64 x.val.k, .int .i64 x.val.n, .string x.val.s, .slice aq2 x.stack.length cq2, .int .i64 x.end_] 47)) := (bR _ _).alloc (by simp) _
 have k0 : ((w.alloc (Obj.cells #[.int .i64 x.mode, .int .i64 x.unit, .int .i64 x.node, .slice a1 x.env.length c1, .int .i64 x.val.k, .int .i64 x.val.n, .string x.val.s, .slice a2 x.stack.length c2, .int .i64 x.end_] 47)).alloc (Obj.cells #[.int .i64 x.mode, .int .i64 x.unit, .int .i64 x.node, .slice aq1 x.env.length cq1, .int .i64 x.val.k, .int .i64 x.val.n, .string x.val.s, .slice aq2 x.stack.length cq2, .int .i64 x.end_] 47)).heap[w.heap.size]? = some (Obj.cells #[.int .i64 x.mode, .int .i64 x.unit, .int .i64 x.node, .slice a1 x.env.length c1, .int .i64 x.val.k, .int .i64 x.val.n, .string x.val.s, .slice a2 x.stack.length c2, .int .i64 x.end_] 47) := blk_past (blk_at _ _ _ rfl)
 have k1 : ((w.alloc (Obj.cells #[.int .i64 x.mode, .int .i64 x.unit, .int .i64 x.node, .slice a1 x.env.length c1, .int .i64 x.val.k, .int .i64 x.val.n, .string x.val.s, .slice a2 x.stack.length c2, .int .i64 x.end_] 47)).alloc (Obj.cells #[.int .i64 x.mode, .int .i64 x.unit, .int .i64 x.node, .slice aq1 x.env.length cq1, .int .i64 x.val.k, .int .i64 x.val.n, .string x.val.s, .slice aq2 x.stack.length cq2, .int .i64 x.end_] 47)).heap[w.heap.size + 1]? = some (Obj.cells #[.int .i64 x.mode, .int .i64 x.unit, .int .i64 x.node, .slice aq1 x.env.length cq1, .int .i64 x.val.k, .int .i64 x.val.n, .string x.val.s, .slice aq2 x.stack.length cq2, .int .i64 x.end_] 47) := blk_at _ _ _ (by simp)
 have HC0 : Hid (∀ w2, Below w.heap.size w w2 → Calls Tryz.prog 35 #[.slice a1 x.env.length c1, .slice aq1 x.env.length cq1] w2 fun e w' => Ans w2 (.bool true) e w') := fun w2 hh => eq_Bind a1 aq1 x.env c1 cq1 w2 u3.1 u3.2 (r1.keep fun b h => ⟨by have := hh.size; omega, hh.block b h⟩) (s1.keep fun b h => ⟨by have := hh.size; omega, hh.block b h⟩)
 have HC1 : Hid (∀ w2, Below w.heap.size w w2 → Calls Tryz.prog 36 #[.agg #[.int .i64 x.val.k, .int .i64 x.val.n, .string x.val.s], .agg #[.int .i64 x.val.k, .int .i64 x.val.n, .string x.val.s]] w2 fun e w' => Ans w2 (.bool true) e w') := fun w2 hh => eqE_Value x.val w2 u4
 have HC2 : Hid (∀ w2, Below w.heap.size w w2 → Calls Tryz.prog 37 #[.slice a2 x.stack.length c2, .slice aq2 x.stack.length cq2] w2 fun e w' => Ans w2 (.bool true) e w') := fun w2 hh => eq_Frame a2 aq2 x.stack c2 cq2 w2 u5.1 u5.2 (r2.keep fun b h => ⟨by have := hh.size; omega, hh.block b h⟩) (s2.keep fun b h => ⟨by have := hh.size; omega, hh.block b h⟩)
 clear r1 s1 r2 s2
 go_enter Tryz.func11, Tryz.ntmps11
 go_wp2_with fail
 refine (HC0.out _ hb).mono ?_
 rintro e v0 ⟨rfl, hv⟩
 have hb0 : Below w.heap.size w v0 := bT hb hv
 have k0 := bK k0 hv
 have k1 := bK k1 hv
 clear hv
 have p0_0 := zB 0 k0 rfl
 have q0_0 := zB 0 k1 rfl
 have p0_1 := zB 1 k0 rfl
 have q0_1 := zB 1 k1 rfl
 have p0_2 := zB 2 k0 rfl
 have q0_2 := zB 2 k1 rfl
 have p0_3 := zB 3 k0 rfl
 have q0_3 := zB 3 k1 rfl
 have p0_4 := zB 4 k0 rfl
 have q0_4 := zB 4 k1 rfl
 have p0_5 := zB 5 k0 rfl
 have q0_5 := zB 5 k1 rfl
 have p0_6 := zB 6 k0 rfl
 have q0_6 := zB 6 k1 rfl
 have p0_7 := zB 7 k0 rfl
 have q0_7 := zB 7 k1 rfl
 have p0_8 := zB 8 k0 rfl
 have q0_8 := zB 8 k1 rfl
 go_wp2_with fail
 refine (HC1.out _ hb0).mono ?_
 rintro e v1 ⟨rfl, hv⟩
 have hb1 : Below w.heap.size w v1 := bT hb0 hv
 have k0 := bK k0 hv
 have k1 := bK k1 hv
 clear hv
 have p1_0 := zB 0 k0 rfl
 have q1_0 := zB 0 k1 rfl
 have p1_1 := zB 1 k0 rfl
 have q1_1 := zB 1 k1 rfl
 have p1_2 := zB 2 k0 rfl
 have q1_2 := zB 2 k1 rfl
 have p1_3 := zB 3 k0 rfl
 have q1_3 := zB 3 k1 rfl
 have p1_4 := zB 4 k0 rfl
 have q1_4 := zB 4 k1 rfl
 have p1_5 := zB 5 k0 rfl
 have q1_5 := zB 5 k1 rfl
 have p1_6 := zB 6 k0 rfl
 have q1_6 := zB 6 k1 rfl
 have p1_7 := zB 7 k0 rfl
 have q1_7 := zB 7 k1 rfl
 have p1_8 := zB 8 k0 rfl
 have q1_8 := zB 8 k1 rfl
 go_wp2_with fail
 refine (HC2.out _ hb1).mono ?_
 rintro e v2 ⟨rfl, hv⟩
 have hb2 : Below w.heap.size w v2 := bT hb1 hv
 have k0 := bK k0 hv
 have k1 := bK k1 hv
 clear hv
 have p2_0 := zB 0 k0 rfl
 have q2_0 := zB 0 k1 rfl
 have p2_1 := zB 1 k0 rfl
 have q2_1 := zB 1 k1 rfl
 have p2_2 := zB 2 k0 rfl
 have q2_2 := zB 2 k1 rfl
 have p2_3 := zB 3 k0 rfl
 have q2_3 := zB 3 k1 rfl
 have p2_4 := zB 4 k0 rfl
 have q2_4 := zB 4 k1 rfl
 have p2_5 := zB 5 k0 rfl
 have q2_5 := zB 5 k1 rfl
 have p2_6 := zB 6 k0 rfl
 have q2_6 := zB 6 k1 rfl
 have p2_7 := zB 7 k0 rfl
 have q2_7 := zB 7 k1 rfl
 have p2_8 := zB 8 k0 rfl
 have q2_8 := zB 8 k1 rfl
 go_wp2
 go_ret
 exact ⟨rfl, hb2⟩
end Go.Proofs.YtlacidojljilaaaGreatDoor
set_option linter.unusedVariables false
namespace Go.Proofs.YtlacidojljilaaaGreatDoor
open Go.ChangeShapes Go.WideShapes Go.ChangeAt Go.RowKit Go.Deep
variable {H : Type} {enc : TypeId × Value → H} {W : World}
theorem opE_Value {fuel : Nat} {cs' : List Value} {x : DataW H × List MemPlace} (h : DataW.trod enc Tryz.prog W 0 (fun _ => true) true fuel 30 cs' = some x) : ∃ d : Val, rgV.At W (fun b => b < W.heap.size) cs' d ∧ d.wf := open_val h
set_option maxRecDepth 100000 in
theorem opE_Bind {fuel : Nat} {cs' : List Value} {x : DataW H × List MemPlace} (h : DataW.trod enc Tryz.prog W 0 (fun _ => true) true fuel 93 cs' = some x) : ∃ d : Bnd, rgB.At W (fun b => b < W.heap.size) cs' d ∧ d.wf := by
 obtain ⟨xs, n, _, _, hlen, hxl, hf⟩ := DataW.trod_struct Tryz.underlying93 h
 have hlen' : cs'.length = 4 := hlen.trans (by kernel_rfl)
 have c9 : Tryz.prog.cellsOf 9 = 1 := by kernel_rfl
 have c56 : Tryz.prog.cellsOf 30 = 3 := by kernel_rfl
 match cs', hlen' with
 | [v0, v1, v2, v3], _ =>
  match xs, hxl with
  | [y0, y1], _ =>
   have g0 := hf 0 _ rfl
   have g1 := hf 1 _ rfl
   simp [c9, c56] at g0 g1
   obtain ⟨z0, e0, _, w0⟩ := DataW.trod_string Tryz.underlying9 g0
   obtain ⟨d1, hat1, w1⟩ := opE_Value g1
   have e1 := hat1
   simp [rgV] at e1
   obtain ⟨rfl, rfl, rfl⟩ := e1
   simp at e0
   subst e0
   exact ⟨⟨z0, d1⟩, rfl, ⟨w0, w1⟩⟩
instance : Inhabited Bnd := ⟨⟨⟨#[]⟩, ⟨0, 0, ⟨#[]⟩⟩⟩⟩
theorem opr_Bind {fuel : Nat} {c : Value} {x : DataW H × List MemPlace} (h : DataW.trod enc Tryz.prog W 0 (fun _ => true) true fuel 28 [c] = some x) :
  ∃ (a : Option Addr) (l : List Bnd) (cap : Nat), c = .slice a l.length cap ∧ l.length ≤ 9223372036854775807 ∧ l.length ≤ cap ∧ rgB.Row W (fun b => b < W.heap.size) a l ∧ ∀ d ∈ l, Bnd.wf d :=
 rgB.open_row Bnd.wf Tryz.underlying28 (by kernel_rfl) (by decide) opE_Bind h
set_option maxRecDepth 100000 in
theorem opE_Frame {fuel : Nat} {cs' : List Value} {x : DataW H × List MemPlace} (h : DataW.trod enc Tryz.prog W 0 (fun _ => true) true fuel 96 cs' = some x) : ∃ d : Frm, rgF.At W (fun b => b < W.heap.size) cs' d ∧ d.wf := by
 obtain ⟨xs, n, _, _, hlen, hxl, hf⟩ := DataW.trod_struct Tryz.underlying96 h
 have hlen' : cs'.length = 4 := hlen.trans (by kernel_rfl)
 have c3 : Tryz.prog.cellsOf 3 = 1 := by kernel_rfl
 have c55 : Tryz.prog.cellsOf 28 = 1 := by kernel_rfl
 have c119 : Tryz.prog.cellsOf 77 = 1 := by kernel_rfl
 match cs', hlen' with
 | [v0, v1, v2, v3], _ =>
  match xs, hxl with
  | [y0, y1, y2, y3], _ =>
   have g0 := hf 0 _ rfl
   have g1 := hf 1 _ rfl
   have g2 := hf 2 _ rfl
   have g3 := hf 3 _ rfl
   simp [c3, c55, c119] at g0 g1 g2 g3
   obtain ⟨z0, e0, _, w0⟩ := DataW.trod_int Tryz.underlying3 g0
   obtain ⟨z1, e1, _, w1⟩ := DataW.trod_int Tryz.underlying3 g1
   obtain ⟨a2, l2, p2, rfl, q2, r2, s2, t2⟩ := opr_Value g2
   obtain ⟨a3, l3, p3, rfl, q3, r3, s3, t3⟩ := opr_Bind g3
   simp at e0 e1
   subst e0 e1
   exact ⟨⟨z0, z1, l2, l3⟩, ⟨a2, a3, p2, p3, rfl, ⟨⟨s2, r2⟩, ⟨s3, r3⟩⟩⟩, ⟨i64_of_wf w0, i64_of_wf w1, ⟨q2, t2⟩, ⟨q3, t3⟩⟩⟩
instance : Inhabited Frm := ⟨⟨0, 0, [], []⟩⟩
theorem opr_Frame {fuel : Nat} {c : Value} {x : DataW H × List MemPlace} (h : DataW.trod enc Tryz.prog W 0 (fun _ => true) true fuel 31 [c] = some x) :
  ∃ (a : Option Addr) (l : List Frm) (cap : Nat), c = .slice a l.length cap ∧ l.length ≤ 9223372036854775807 ∧ l.length ≤ cap ∧ rgF.Row W (fun b => b < W.heap.size) a l ∧ ∀ d ∈ l, Frm.wf d :=
 rgF.open_row Frm.wf Tryz.underlying31 (by kernel_rfl) (by decide) opE_Frame h
set_option maxRecDepth 100000 in
theorem opE_Machine {fuel : Nat} {cs' : List Value} {x : DataW H × List MemPlace} (h : DataW.trod enc Tryz.prog W 0 (fun _ => true) true fuel 33 cs' = some x) : ∃ d : Mac, rgM.At W (fun b => b < W.heap.size) cs' d ∧ d.wf := by
 obtain ⟨xs, n, _, _, hlen, hxl, hf⟩ := DataW.trod_struct Tryz.underlying33 h
 have hlen' : cs'.length = 9 := hlen.trans (by kernel_rfl)
 have c3 : Tryz.prog.cellsOf 3 = 1 := by kernel_rfl
 have c55 : Tryz.prog.cellsOf 28 = 1 := by kernel_rfl
 have c56 : Tryz.prog.cellsOf 30 = 3 := by kernel_rfl
 have c57 : Tryz.prog.cellsOf 31 = 1 := by kernel_rfl
 match cs', hlen' with
 | [v0, v1, v2, v3, v4, v5, v6, v7, v8], _ =>
  match xs, hxl with
  | [y0, y1, y2, y3, y4, y5, y6], _ =>
   have g0 := hf 0 _ rfl
   have g1 := hf 1 _ rfl
   have g2 := hf 2 _ rfl
   have g3 := hf 3 _ rfl
   have g4 := hf 4 _ rfl
   have g5 := hf 5 _ rfl
   have g6 := hf 6 _ rfl
   simp [c3, c55, c56, c57] at g0 g1 g2 g3 g4 g5 g6
   obtain ⟨z0, e0, _, w0⟩ := DataW.trod_int Tryz.underlying3 g0
   obtain ⟨z1, e1, _, w1⟩ := DataW.trod_int Tryz.underlying3 g1
   obtain ⟨z2, e2, _, w2⟩ := DataW.trod_int Tryz.underlying3 g2
   obtain ⟨a3, l3, p3, rfl, q3, r3, s3, t3⟩ := opr_Bind g3
   obtain ⟨d4, hat4, w4⟩ := opE_Value g4
   have e4 := hat4
   simp [rgV] at e4
   obtain ⟨rfl, rfl, rfl⟩ := e4
   obtain ⟨a5, l5, p5, rfl, q5, r5, s5, t5⟩ := opr_Frame g5
   obtain ⟨z6, e6, _, w6⟩ := DataW.trod_int Tryz.underlying3 g6
   simp at e0 e1 e2 e6
   subst e0 e1 e2 e6
   exact ⟨⟨z0, z1, z2, l3, d4, l5, z6⟩, ⟨a3, a5, p3, p5, rfl, ⟨⟨s3, r3⟩, ⟨s5, r5⟩⟩⟩, ⟨i64_of_wf w0, i64_of_wf w1, i64_of_wf w2, ⟨q3, t3⟩, w4, ⟨q5, t5⟩, i64_of_wf w6⟩⟩
set_option maxRecDepth 100000 in
theorem op_Machine {v : Value} {d : DataW H} {p : List MemPlace} (hv : Value.okWide Tryz.prog W .any 0 33 v) (h : DataW.Trod enc Tryz.prog W 0 (fun _ => true) true 33 v d p) :
  ∃ (x : Mac) (cs : List Value), v = .agg cs.toArray ∧ rgM.At W (fun b => b < W.heap.size) cs x ∧ x.wf := by
 obtain ⟨vs, rfl, hsz⟩ := okWide_struct Tryz.underlying33 hv
 obtain ⟨fuel, hf⟩ := h
 obtain ⟨x, h1, h2⟩ := opE_Machine hf
 obtain ⟨l⟩ := vs
 exact ⟨x, _, rfl, h1, h2⟩
end Go.Proofs.YtlacidojljilaaaGreatDoor
