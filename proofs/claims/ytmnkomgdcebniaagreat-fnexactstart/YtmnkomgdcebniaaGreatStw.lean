/- The law FnExactStart walked: for whatever system and number the program and the model say the same, the arguments stay as they were, and the answer owns its memory. -/
import Derived.Test.YtmnkomgdcebniaaGreatStx
import Derived.Test.YtmnkomgdcebniaaGreatSux
import Derived.Test.YtmnkomgdcebniaaGreatSyz
import Derived.Test.YtmnkomgdcebniaaGreatSye
import Derived.Test.YtmnkomgdcebniaaGreatSyf
import Derived.Test.YtmnkomgdcebniaaGreatHoy
import Derived.Deep.RegionWith
import Derived.OrdersHeld
set_option linter.unusedVariables false
namespace Go.Proofs.YtmnkomgdcebniaaGreat
open Go.ChangeShapes Go.WideShapes Go.ChangeAt Go.RowKit
theorem cnt_le {α : Type} {c f : α → Nat} (h : ∀ x, c x ≤ 6 * (1 + f x)) : ∀ l : List α, cnt c l ≤ 6 * bulkOf f l
 | [] => by simp [cnt, bulkOf]
 | x :: t => by
  have h1 := cnt_le h t
  have h2 := h x
  have h3 : cnt c (x :: t) = c x + cnt c t := by simp [cnt]
  have h4 : bulkOf f (x :: t) = 1 + f x + bulkOf f t := rfl
  omega
theorem cntSN : ∀ l : List ByteArray, cnt c_string l ≤ 6 * bulkSN l
 | [] => by simp [cnt, bulkSN]
 | x :: t => by
  have h1 := cntSN t
  have h3 : cnt c_string (x :: t) = 1 + cnt c_string t := by simp [cnt, c_string]
  have h4 : bulkSN (x :: t) = 1 + x.size + bulkSN t := rfl
  omega
theorem cntI : ∀ l : List Int, cnt c_int l = l.length
 | [] => rfl
 | x :: t => by
  have h1 := cntI t
  have h3 : cnt c_int (x :: t) = 1 + cnt c_int t := by simp [cnt, c_int]
  simp only [List.length_cons]
  omega
theorem cntN : ∀ l : List Nod, cnt c_Node l ≤ 6 * bulkN l
 | [] => by simp [cnt, bulkN]
 | x :: t => by
  have h1 := cntN t
  have h3 : cnt c_Node (x :: t) = c_Node x + cnt c_Node t := by simp [cnt]
  have h4 : bulkN (x :: t) = 1 + x.bulk + bulkN t := rfl
  have h5 : c_Node x = 3 + cnt c_string x.names + cnt c_int x.args := rfl
  have h6 := cntSN x.names
  have h7 := cntI x.args
  have h8 : x.bulk = x.s.size + bulkSN x.names + x.args.length := rfl
  omega
theorem cSys_le (y : Sy) : c_Sys y ≤ 6 * y.bulk := by
 have hS : ∀ l, cnt c_string l ≤ 6 * bulkS l := fun l => cnt_le (fun x => by show 1 ≤ _; omega) l
 have hV : ∀ l, cnt c_Value l ≤ 6 * bulkV l := fun l => cnt_le (fun x => by show 3 ≤ _; omega) l
 have hC : ∀ l, cnt c_Cell l ≤ 6 * bulkC l := fun l => cnt_le (f := Cel.bulk) (fun x => by
  have h1 : c_Cell x = 4 + cnt c_string x.names + cnt c_Value x.vals := rfl
  have h2 := hS x.names
  have h3 := hV x.vals
  have h4 : x.bulk = x.s.size + bulkS x.names + bulkV x.vals := rfl
  omega) l
 have hL : ∀ l, cnt c_Link l ≤ 6 * bulkOf Lnk.bulk l := fun l => cnt_le (fun x => by show 3 ≤ _; omega) l
 have hT : ∀ l, cnt c_Type l ≤ 6 * bulkOf Typ.bulk l := fun l => cnt_le (fun x => by show 2 ≤ _; omega) l
 have hI : ∀ l, cnt c_Inst l ≤ 6 * bulkOf Ins.bulk l := fun l => cnt_le (fun x => by
  have h1 : c_Inst x = 2 + cnt c_string x.names + cnt c_Value x.vals + cnt c_Link x.links + cnt c_Type x.types := rfl
  have h2 := hS x.names
  have h3 := hV x.vals
  have h4 := hL x.links
  have h5 := hT x.types
  have h6 : x.bulk = x.lib.size + (bulkS x.names + (bulkV x.vals + (bulkOf Lnk.bulk x.links + (bulkOf Typ.bulk x.types)))) := rfl
  omega) l
 have hU : ∀ l, cnt c_Unit l ≤ 6 * bulkOf Unt.bulk l := fun l => cnt_le (fun x => by
  have h1 : c_Unit x = 2 + cnt c_Node x.prog.nodes := rfl
  have h2 := cntN x.prog.nodes
  have h3 : x.bulk = bulkN x.prog.nodes := rfl
  omega) l
 have h1 : c_Sys y = cnt c_Cell y.heap + cnt c_Inst y.insts + cnt c_Unit y.units + cnt c_string y.out := rfl
 have h2 : y.bulk = bulkC y.heap + (bulkOf Ins.bulk y.insts + (bulkOf Unt.bulk y.units + (bulkS y.out))) := rfl
 have := hC y.heap
 have := hI y.insts
 have := hU y.units
 have := hS y.out
 omega
theorem Ks.below {B C W : Nat} {w w' : World} (h : Ks B C w w') (h1 : W ≤ B) (h2 : W ≤ w.heap.size) : Below W w w' :=
 ⟨h.os, h.tape, h.output, h.size, fun k hk => h.same k (by omega) (.inl (by omega))⟩
theorem i64B0 : i64B 0 := by constructor <;> decide
theorem i64B1 : i64B 1 := by constructor <;> decide
theorem unfU {w w' : World} {b : Nat} (h : Unf w b) (e : w'.heap[b]? = w.heap[b]?) : Unf w' b := h.keep e
namespace fnExactStart
theorem ldR {a : Act} {o : Oper} {t : TypeId} {x : Operand} {p v : Value} {w : World} (ho : o.op = .load t x) (hx : a.eval x = p) (h : (Instr.loadAt t p).run Tryz.prog w = .ok v w) : (execOp a.eval o).run Tryz.prog w = .ok (.value v) w := by
 simp [execOp, ho, hx, h, Result.andThen]
set_option maxRecDepth 100000 in
set_option maxHeartbeats 8000000 in
theorem walk (y : Sy) (a1 a2 a3 a4 : Option Addr) (c1 c2 c3 c4 : Nat) (u : Int) (w : World) (hu : i64B u) (hwf : y.wf) (hr : SyRows w (fun b => b < w.heap.size) a1 a2 a3 a4 c1 c2 c3 c4 y) :
  Calls Tryz.prog 6 #[.agg #[.slice a1 y.heap.length c1, .slice a2 y.insts.length c2, .slice a3 y.units.length c3, .slice a4 y.out.length c4], .int .i64 u] w fun e w' => Ans w (.bool true) e w' := by
 have hb0 : Below w.heap.size w (w.alloc (Obj.cells #[.slice a1 y.heap.length c1, .slice a2 y.insts.length c2, .slice a3 y.units.length c3, .slice a4 y.out.length c4] 27)) := (Below.refl _ _).alloc (Nat.le_refl _) _
 have K_a : (w.alloc (Obj.cells #[.slice a1 y.heap.length c1, .slice a2 y.insts.length c2, .slice a3 y.units.length c3, .slice a4 y.out.length c4] 27)).heap[w.heap.size]? = some (Obj.cells #[.slice a1 y.heap.length c1, .slice a2 y.insts.length c2, .slice a3 y.units.length c3, .slice a4 y.out.length c4] 27) := blk_at _ _ _ rfl
 have HZS : Hid (∀ w1, Below w.heap.size w w1 → Calls Tryz.prog 8 #[.agg #[.slice a1 y.heap.length c1, .slice a2 y.insts.length c2, .slice a3 y.units.length c3, .slice a4 y.out.length c4], .int .i64 1048576] w1 fun e w' => Ans w1 (.int .i64 (leftOf 1048576 y.bulk)) e w') := fun w1 h1 => szE_Sys y a1 a2 a3 a4 c1 c2 c3 c4 1048576 w1 (by omega) hwf (hr.keep fun b hb => ⟨Nat.lt_of_lt_of_le hb h1.size, h1.block b hb⟩)
 by_cases hbk : 1048576 < y.bulk
 ·rw [leftOf_neg hbk] at HZS
  clear hr hwf
  go_enter Tryz.func6, Tryz.ntmps6
  go_wp2_with fail
  refine (HZS.out _ hb0).mono ?_
  rintro e w1 ⟨rfl, hb1⟩
  go_wp2
  go_ret
  exact ⟨rfl, hb0.trans (hb1.mono hb0.size)⟩
 ·have hsy := Sy.small_of hwf (by omega)
  have hfl := Sy.flat_of (y := y) (by omega)
  rw [leftOf_nat hbk] at HZS
  generalize 1048576 - y.bulk = q9 at HZS
  have hcn : 1 + c_Sys y ≤ 9000000 := by have := cSys_le y; omega
  have HTS : Hid (∀ w1, Below w.heap.size w w1 → Calls Tryz.prog 10 #[.agg #[.slice a1 y.heap.length c1, .slice a2 y.insts.length c2, .slice a3 y.units.length c3, .slice a4 y.out.length c4]] w1 fun e w' => MadeEU rgY y w1 e w') := fun w1 h1 => tuE_Sys y a1 a2 a3 a4 c1 c2 c3 c4 w1 hsy (hr.keep fun b hb => ⟨Nat.lt_of_lt_of_le hb h1.size, h1.block b hb⟩)
  have hi1 : i64B (stP y u).1 := by
   cases h : stB y u
   ·rw [stP_no h]; exact i64B0
   ·rw [stP_yes h]; exact i64B1
  have hi2 : i64B (stP y u).2.1 := by
   cases h : stB y u
   ·rw [stP_no h]; exact i64B0
   ·rw [stP_yes h]; exact hu
  have hi3 : i64B (stP y u).2.2 := by
   cases h : stB y u
   ·rw [stP_no h]; exact i64B0
   ·rw [stP_yes h]
    show i64B (stR y u)
    unfold stR
    split
    ·exact i64B0
    ·rename_i x hx
     exact (hsy.2.2.1.2 x (List.mem_of_getElem? hx)).2.2
  have HSP : Hid (∀ (ap1 ap2 ap3 ap4 : Option Addr) (cp1 cp2 cp3 cp4 : Nat) (w1 : World), SyRows w1 (fun b => b < w1.heap.size) ap1 ap2 ap3 ap4 cp1 cp2 cp3 cp4 y → Calls Tryz.prog 18 #[.agg #[.slice ap1 y.heap.length cp1, .slice ap2 y.insts.length cp2, .slice ap3 y.units.length cp3, .slice ap4 y.out.length cp4], .int .i64 u] w1 fun e w' => Ans w1 (.tuple #[.agg #[.int .i64 (stP y u).1, .int .i64 (stP y u).2.1, .int .i64 (stP y u).2.2, .slice none 0 0, .int .i64 0, .int .i64 0, .string ⟨#[]⟩, .slice none 0 0, .int .i64 0], .bool (stB y u)]) e w') := fun ap1 ap2 ap3 ap4 cp1 cp2 cp3 cp4 w1 h1 => specStart_any y ap1 ap2 ap3 ap4 cp1 cp2 cp3 cp4 u w1 hsy h1 hfl
  have HIM : Hid (∀ (ap1 ap2 ap3 ap4 : Option Addr) (cp1 cp2 cp3 cp4 : Nat) (w1 : World), SyRows w1 (fun b => b < w1.heap.size) ap1 ap2 ap3 ap4 cp1 cp2 cp3 cp4 y → Calls Tryz.prog 19 #[.agg #[.slice ap1 y.heap.length cp1, .slice ap2 y.insts.length cp2, .slice ap3 y.units.length cp3, .slice ap4 y.out.length cp4], .int .i64 u] w1 fun e w' => Ans w1 (.tuple #[.agg #[.int .i64 (stP y u).1, .int .i64 (stP y u).2.1, .int .i64 (stP y u).2.2, .slice none 0 0, .int .i64 0, .int .i64 0, .string ⟨#[]⟩, .slice none 0 0, .int .i64 0], .bool (stB y u)]) e w') := fun ap1 ap2 ap3 ap4 cp1 cp2 cp3 cp4 w1 h1 => implStart_any y ap1 ap2 ap3 ap4 cp1 cp2 cp3 cp4 u w1 hsy h1
  have HES : Hid (∀ (ap1 ap2 ap3 ap4 : Option Addr) (cp1 cp2 cp3 cp4 : Nat) (aq1 aq2 aq3 aq4 : Option Addr) (cq1 cq2 cq3 cq4 : Nat) (w1 : World), SyRows w1 (fun b => b < w1.heap.size) ap1 ap2 ap3 ap4 cp1 cp2 cp3 cp4 y → SyRows w1 (fun b => b < w1.heap.size) aq1 aq2 aq3 aq4 cq1 cq2 cq3 cq4 y → Calls Tryz.prog 12 #[.agg #[.slice ap1 y.heap.length cp1, .slice ap2 y.insts.length cp2, .slice ap3 y.units.length cp3, .slice ap4 y.out.length cp4], .agg #[.slice aq1 y.heap.length cq1, .slice aq2 y.insts.length cq2, .slice aq3 y.units.length cq3, .slice aq4 y.out.length cq4]] w1 fun e w' => Ans w1 (.bool true) e w') := fun ap1 ap2 ap3 ap4 cp1 cp2 cp3 cp4 aq1 aq2 aq3 aq4 cq1 cq2 cq3 cq4 w1 h1 h2 => eqE_Sys y ap1 ap2 ap3 ap4 cp1 cp2 cp3 cp4 aq1 aq2 aq3 aq4 cq1 cq2 cq3 cq4 w1 hsy h1 h2
  have HMS : Hid (∀ (B C : Nat) (ap1 ap2 ap3 ap4 : Option Addr) (cp1 cp2 cp3 cp4 : Nat) (w1 : World), SyRows w1 (fun b => B ≤ b ∧ b < C ∧ Unf w1 b) ap1 ap2 ap3 ap4 cp1 cp2 cp3 cp4 y → C ≤ w1.heap.size → Calls Tryz.prog 21 #[.agg #[.slice ap1 y.heap.length cp1, .slice ap2 y.insts.length cp2, .slice ap3 y.units.length cp3, .slice ap4 y.out.length cp4], .int .i64 1] w1 fun e w' => Mk B C w1 1 (c_Sys y) e w') := fun B C ap1 ap2 ap3 ap4 cp1 cp2 cp3 cp4 w1 h1 h2 => mark_Sys B C y ap1 ap2 ap3 ap4 cp1 cp2 cp3 cp4 1 w1 hsy h1 h2 (by omega) hcn
  generalize (stP y u).1 = p at *
  generalize (stP y u).2.1 = q at *
  generalize (stP y u).2.2 = r at *
  generalize stB y u = sb at *
  have HEM : Hid (∀ w1, Calls Tryz.prog 20 #[.agg #[.int .i64 p, .int .i64 q, .int .i64 r, .slice none 0 0, .int .i64 0, .int .i64 0, .string ⟨#[]⟩, .slice none 0 0, .int .i64 0], .agg #[.int .i64 p, .int .i64 q, .int .i64 r, .slice none 0 0, .int .i64 0, .int .i64 0, .string ⟨#[]⟩, .slice none 0 0, .int .i64 0]] w1 fun e w' => Ans w1 (.bool true) e w') := fun w1 => eqE_Machine ⟨p, q, r, [], ⟨0, 0, ⟨#[]⟩⟩, [], 0⟩ none none 0 0 none none 0 0 w1 ⟨hi1, hi2, hi3, ⟨by simp, by simp⟩, ⟨i64B0, i64B0, by show (0 : Nat) ≤ 1048576; omega⟩, ⟨by simp, by simp⟩, i64B0⟩ ⟨⟨fun i x h => by simp at h, by simp⟩, ⟨fun i x h => by simp at h, by simp⟩⟩ ⟨⟨fun i x h => by simp at h, by simp⟩, ⟨fun i x h => by simp at h, by simp⟩⟩
  have HMM : Hid (∀ w1, Calls Tryz.prog 22 #[.agg #[.int .i64 p, .int .i64 q, .int .i64 r, .slice none 0 0, .int .i64 0, .int .i64 0, .string ⟨#[]⟩, .slice none 0 0, .int .i64 0], .int .i64 1] w1 fun e w' => Ans w1 (.int .i64 1) e w') := fun w1 => mkM_nil p q r 1 w1 (by omega)
  have HHM : Hid (∀ w1, Calls Tryz.prog 23 #[.agg #[.int .i64 p, .int .i64 q, .int .i64 r, .slice none 0 0, .int .i64 0, .int .i64 0, .string ⟨#[]⟩, .slice none 0 0, .int .i64 0], .int .i64 1] w1 fun e w' => Ans w1 (.int .i64 1) e w') := fun w1 => hdM_nil p q r 1 w1 (by omega)
  have gb : (sb != sb) = false := by simp
  have gk : decide (((1 + c_Sys y : Nat) : Int) < 0) = false := by simp; omega
  clear hr hwf hsy hfl hbk hi1 hi2 hi3 hu
  go_enter Tryz.func6, Tryz.ntmps6
  go_wp2_with fail
  refine (HZS.out _ hb0).mono ?_
  rintro e w1 ⟨rfl, hv⟩
  have hc := hb0.trans (hv.mono hb0.size)
  have K_a := blk_keep K_a hv (Array.getElem?_eq_some_iff.1 K_a).1
  have z_a0 := cell_blk (j := 0) K_a rfl
  have z_a1 := cell_blk (j := 1) K_a rfl
  have z_a2 := cell_blk (j := 2) K_a rfl
  have z_a3 := cell_blk (j := 3) K_a rfl
  clear hv hb0 HZS
  go_wp2_with fail
  refine (HTS.out _ hc).mono ?_
  rintro e u1 ⟨cs, rfl, ⟨ap1, ap2, ap3, ap4, cp1, cp2, cp3, cp4, rfl, hy1⟩, hv⟩
  clear z_a0 z_a1 z_a2 z_a3
  have hy1' : SyRows u1 (fun b => b < u1.heap.size) ap1 ap2 ap3 ap4 cp1 cp2 cp3 cp4 y := hy1.keep fun b hb => ⟨hb.2.1, rfl⟩
  have hc := hc.trans (hv.mono hc.size)
  have K_a := blk_keep K_a hv (Array.getElem?_eq_some_iff.1 K_a).1
  have z_a0 := cell_blk (j := 0) K_a rfl
  have z_a1 := cell_blk (j := 1) K_a rfl
  have z_a2 := cell_blk (j := 2) K_a rfl
  have z_a3 := cell_blk (j := 3) K_a rfl
  clear hv hy1
  go_wp2_with fail
  refine (HSP.out _ _ _ _ _ _ _ _ _ hy1').mono ?_
  rintro e u2 ⟨rfl, hv⟩
  clear z_a0 z_a1 z_a2 z_a3
  have hc := hc.trans (hv.mono hc.size)
  have K_a := blk_keep K_a hv (Array.getElem?_eq_some_iff.1 K_a).1
  clear hv hy1'
  have hzw : w.heap.size < u2.heap.size := (Array.getElem?_eq_some_iff.1 K_a).1
  have K_a : (u2.alloc (Obj.cells #[.int .i64 p, .int .i64 q, .int .i64 r, .slice none 0 0, .int .i64 0, .int .i64 0, .string ⟨#[]⟩, .slice none 0 0, .int .i64 0] 48)).heap[w.heap.size]? = some (Obj.cells #[.slice a1 y.heap.length c1, .slice a2 y.insts.length c2, .slice a3 y.units.length c3, .slice a4 y.out.length c4] 27) := blk_past K_a
  have K_w : (u2.alloc (Obj.cells #[.int .i64 p, .int .i64 q, .int .i64 r, .slice none 0 0, .int .i64 0, .int .i64 0, .string ⟨#[]⟩, .slice none 0 0, .int .i64 0] 48)).heap[u2.heap.size]? = some (Obj.cells #[.int .i64 p, .int .i64 q, .int .i64 r, .slice none 0 0, .int .i64 0, .int .i64 0, .string ⟨#[]⟩, .slice none 0 0, .int .i64 0] 48) := blk_at _ _ _ rfl
  have hc : Below w.heap.size w (u2.alloc (Obj.cells #[.int .i64 p, .int .i64 q, .int .i64 r, .slice none 0 0, .int .i64 0, .int .i64 0, .string ⟨#[]⟩, .slice none 0 0, .int .i64 0] 48)) := hc.alloc hc.size _
  have hz2 : (u2.alloc (Obj.cells #[.int .i64 p, .int .i64 q, .int .i64 r, .slice none 0 0, .int .i64 0, .int .i64 0, .string ⟨#[]⟩, .slice none 0 0, .int .i64 0] 48)).heap.size = u2.heap.size + 1 := by simp
  have z_a0 := cell_blk (j := 0) K_a rfl
  have z_a1 := cell_blk (j := 1) K_a rfl
  have z_a2 := cell_blk (j := 2) K_a rfl
  have z_a3 := cell_blk (j := 3) K_a rfl
  have z_w0 := cell_blk (j := 0) K_w rfl
  have z_w1 := cell_blk (j := 1) K_w rfl
  have z_w2 := cell_blk (j := 2) K_w rfl
  have z_w3 := cell_blk (j := 3) K_w rfl
  have z_w4 := cell_blk (j := 4) K_w rfl
  have z_w5 := cell_blk (j := 5) K_w rfl
  have z_w6 := cell_blk (j := 6) K_w rfl
  have z_w7 := cell_blk (j := 7) K_w rfl
  have z_w8 := cell_blk (j := 8) K_w rfl
  go_wp2_with fail
  refine (HTS.out _ hc).mono ?_
  rintro e u3 ⟨cs, rfl, ⟨ar1, ar2, ar3, ar4, cr1, cr2, cr3, cr4, rfl, hy3⟩, hv⟩
  clear z_a0 z_a1 z_a2 z_a3 z_w0 z_w1 z_w2 z_w3 z_w4 z_w5 z_w6 z_w7 z_w8
  have hza : w.heap.size ≤ u2.heap.size + 1 := by have := hc.size; omega
  have HX : Hid (SyRows u3 (fun b => u2.heap.size + 1 ≤ b ∧ b < u3.heap.size ∧ Unf u3 b) ar1 ar2 ar3 ar4 cr1 cr2 cr3 cr4 y) := hy3.keep fun b hb => ⟨⟨by have := hb.1; omega, hb.2⟩, rfl⟩
  have hz3 : u2.heap.size + 1 ≤ u3.heap.size := by have := hv.size; omega
  have hc := hc.trans (hv.mono hc.size)
  have K_a := blk_keep K_a hv (Array.getElem?_eq_some_iff.1 K_a).1
  have K_w := blk_keep K_w hv (Array.getElem?_eq_some_iff.1 K_w).1
  clear hv hy3 hz2
  have K_a : (u3.alloc (Obj.cells #[.slice ar1 y.heap.length cr1, .slice ar2 y.insts.length cr2, .slice ar3 y.units.length cr3, .slice ar4 y.out.length cr4] 34)).heap[w.heap.size]? = some (Obj.cells #[.slice a1 y.heap.length c1, .slice a2 y.insts.length c2, .slice a3 y.units.length c3, .slice a4 y.out.length c4] 27) := blk_past K_a
  have K_w : (u3.alloc (Obj.cells #[.slice ar1 y.heap.length cr1, .slice ar2 y.insts.length cr2, .slice ar3 y.units.length cr3, .slice ar4 y.out.length cr4] 34)).heap[u2.heap.size]? = some (Obj.cells #[.int .i64 p, .int .i64 q, .int .i64 r, .slice none 0 0, .int .i64 0, .int .i64 0, .string ⟨#[]⟩, .slice none 0 0, .int .i64 0] 48) := blk_past K_w
  have K_x : (u3.alloc (Obj.cells #[.slice ar1 y.heap.length cr1, .slice ar2 y.insts.length cr2, .slice ar3 y.units.length cr3, .slice ar4 y.out.length cr4] 34)).heap[u3.heap.size]? = some (Obj.cells #[.slice ar1 y.heap.length cr1, .slice ar2 y.insts.length cr2, .slice ar3 y.units.length cr3, .slice ar4 y.out.length cr4] 34) := blk_at _ _ _ rfl
  have hc : Below w.heap.size w (u3.alloc (Obj.cells #[.slice ar1 y.heap.length cr1, .slice ar2 y.insts.length cr2, .slice ar3 y.units.length cr3, .slice ar4 y.out.length cr4] 34)) := hc.alloc hc.size _
  have HX : Hid (SyRows (u3.alloc (Obj.cells #[.slice ar1 y.heap.length cr1, .slice ar2 y.insts.length cr2, .slice ar3 y.units.length cr3, .slice ar4 y.out.length cr4] 34)) (fun b => u2.heap.size + 1 ≤ b ∧ b < u3.heap.size ∧ Unf (u3.alloc (Obj.cells #[.slice ar1 y.heap.length cr1, .slice ar2 y.insts.length cr2, .slice ar3 y.units.length cr3, .slice ar4 y.out.length cr4] 34)) b) ar1 ar2 ar3 ar4 cr1 cr2 cr3 cr4 y) := HX.out.keep fun b hb => ⟨⟨hb.1, hb.2.1, hb.2.2.keep (Below.heap_alloc _ _ _ hb.2.1)⟩, Below.heap_alloc _ _ _ hb.2.1⟩
  have hz4 : u3.heap.size < (u3.alloc (Obj.cells #[.slice ar1 y.heap.length cr1, .slice ar2 y.insts.length cr2, .slice ar3 y.units.length cr3, .slice ar4 y.out.length cr4] 34)).heap.size := by simp
  have z_a0 := cell_blk (j := 0) K_a rfl
  have z_a1 := cell_blk (j := 1) K_a rfl
  have z_a2 := cell_blk (j := 2) K_a rfl
  have z_a3 := cell_blk (j := 3) K_a rfl
  have z_w0 := cell_blk (j := 0) K_w rfl
  have z_w1 := cell_blk (j := 1) K_w rfl
  have z_w2 := cell_blk (j := 2) K_w rfl
  have z_w3 := cell_blk (j := 3) K_w rfl
  have z_w4 := cell_blk (j := 4) K_w rfl
  have z_w5 := cell_blk (j := 5) K_w rfl
  have z_w6 := cell_blk (j := 6) K_w rfl
  have z_w7 := cell_blk (j := 7) K_w rfl
  have z_w8 := cell_blk (j := 8) K_w rfl
  have z_x0 := cell_blk (j := 0) K_x rfl
  have z_x1 := cell_blk (j := 1) K_x rfl
  have z_x2 := cell_blk (j := 2) K_x rfl
  have z_x3 := cell_blk (j := 3) K_x rfl
  go_wp2_with fail
  refine (HIM.out _ _ _ _ _ _ _ _ _ (HX.out.keep fun b hb => ⟨by have := hb.2.1; omega, rfl⟩)).mono ?_
  rintro e u4 ⟨rfl, hv⟩
  clear z_a0 z_a1 z_a2 z_a3 z_w0 z_w1 z_w2 z_w3 z_w4 z_w5 z_w6 z_w7 z_w8 z_x0 z_x1 z_x2 z_x3
  have hc := hc.trans (hv.mono hc.size)
  have K_a := blk_keep K_a hv (Array.getElem?_eq_some_iff.1 K_a).1
  have K_w := blk_keep K_w hv (Array.getElem?_eq_some_iff.1 K_w).1
  have K_x := blk_keep K_x hv (Array.getElem?_eq_some_iff.1 K_x).1
  have HX : Hid (SyRows u4 (fun b => u2.heap.size + 1 ≤ b ∧ b < u3.heap.size ∧ Unf u4 b) ar1 ar2 ar3 ar4 cr1 cr2 cr3 cr4 y) := HX.out.keep fun b hb => ⟨⟨hb.1, hb.2.1, hb.2.2.keep (hv.block b (by have := hb.2.1; omega))⟩, hv.block b (by have := hb.2.1; omega)⟩
  have hz4 : u3.heap.size < u4.heap.size := by have := hv.size; omega
  clear hv
  have K_a : (u4.alloc (Obj.cells #[.int .i64 p, .int .i64 q, .int .i64 r, .slice none 0 0, .int .i64 0, .int .i64 0, .string ⟨#[]⟩, .slice none 0 0, .int .i64 0] 48)).heap[w.heap.size]? = some (Obj.cells #[.slice a1 y.heap.length c1, .slice a2 y.insts.length c2, .slice a3 y.units.length c3, .slice a4 y.out.length c4] 27) := blk_past K_a
  have K_w : (u4.alloc (Obj.cells #[.int .i64 p, .int .i64 q, .int .i64 r, .slice none 0 0, .int .i64 0, .int .i64 0, .string ⟨#[]⟩, .slice none 0 0, .int .i64 0] 48)).heap[u2.heap.size]? = some (Obj.cells #[.int .i64 p, .int .i64 q, .int .i64 r, .slice none 0 0, .int .i64 0, .int .i64 0, .string ⟨#[]⟩, .slice none 0 0, .int .i64 0] 48) := blk_past K_w
  have K_x : (u4.alloc (Obj.cells #[.int .i64 p, .int .i64 q, .int .i64 r, .slice none 0 0, .int .i64 0, .int .i64 0, .string ⟨#[]⟩, .slice none 0 0, .int .i64 0] 48)).heap[u3.heap.size]? = some (Obj.cells #[.slice ar1 y.heap.length cr1, .slice ar2 y.insts.length cr2, .slice ar3 y.units.length cr3, .slice ar4 y.out.length cr4] 34) := blk_past K_x
  have K_g : (u4.alloc (Obj.cells #[.int .i64 p, .int .i64 q, .int .i64 r, .slice none 0 0, .int .i64 0, .int .i64 0, .string ⟨#[]⟩, .slice none 0 0, .int .i64 0] 48)).heap[u4.heap.size]? = some (Obj.cells #[.int .i64 p, .int .i64 q, .int .i64 r, .slice none 0 0, .int .i64 0, .int .i64 0, .string ⟨#[]⟩, .slice none 0 0, .int .i64 0] 48) := blk_at _ _ _ rfl
  have hc : Below w.heap.size w (u4.alloc (Obj.cells #[.int .i64 p, .int .i64 q, .int .i64 r, .slice none 0 0, .int .i64 0, .int .i64 0, .string ⟨#[]⟩, .slice none 0 0, .int .i64 0] 48)) := hc.alloc hc.size _
  have hz5 : u3.heap.size < u4.heap.size := hz4
  have HX : Hid (SyRows (u4.alloc (Obj.cells #[.int .i64 p, .int .i64 q, .int .i64 r, .slice none 0 0, .int .i64 0, .int .i64 0, .string ⟨#[]⟩, .slice none 0 0, .int .i64 0] 48)) (fun b => u2.heap.size + 1 ≤ b ∧ b < u3.heap.size ∧ Unf (u4.alloc (Obj.cells #[.int .i64 p, .int .i64 q, .int .i64 r, .slice none 0 0, .int .i64 0, .int .i64 0, .string ⟨#[]⟩, .slice none 0 0, .int .i64 0] 48)) b) ar1 ar2 ar3 ar4 cr1 cr2 cr3 cr4 y) := HX.out.keep fun b hb => ⟨⟨hb.1, hb.2.1, hb.2.2.keep (Below.heap_alloc _ _ _ (by have := hb.2.1; omega))⟩, Below.heap_alloc _ _ _ (by have := hb.2.1; omega)⟩
  have hz4 : u3.heap.size < (u4.alloc (Obj.cells #[.int .i64 p, .int .i64 q, .int .i64 r, .slice none 0 0, .int .i64 0, .int .i64 0, .string ⟨#[]⟩, .slice none 0 0, .int .i64 0] 48)).heap.size := by simp; omega
  have z_a0 := cell_blk (j := 0) K_a rfl
  have z_a1 := cell_blk (j := 1) K_a rfl
  have z_a2 := cell_blk (j := 2) K_a rfl
  have z_a3 := cell_blk (j := 3) K_a rfl
  have z_w0 := cell_blk (j := 0) K_w rfl
  have z_w1 := cell_blk (j := 1) K_w rfl
  have z_w2 := cell_blk (j := 2) K_w rfl
  have z_w3 := cell_blk (j := 3) K_w rfl
  have z_w4 := cell_blk (j := 4) K_w rfl
  have z_w5 := cell_blk (j := 5) K_w rfl
  have z_w6 := cell_blk (j := 6) K_w rfl
  have z_w7 := cell_blk (j := 7) K_w rfl
  have z_w8 := cell_blk (j := 8) K_w rfl
  have z_x0 := cell_blk (j := 0) K_x rfl
  have z_x1 := cell_blk (j := 1) K_x rfl
  have z_x2 := cell_blk (j := 2) K_x rfl
  have z_x3 := cell_blk (j := 3) K_x rfl
  have z_g0 := cell_blk (j := 0) K_g rfl
  have z_g1 := cell_blk (j := 1) K_g rfl
  have z_g2 := cell_blk (j := 2) K_g rfl
  have z_g3 := cell_blk (j := 3) K_g rfl
  have z_g4 := cell_blk (j := 4) K_g rfl
  have z_g5 := cell_blk (j := 5) K_g rfl
  have z_g6 := cell_blk (j := 6) K_g rfl
  have z_g7 := cell_blk (j := 7) K_g rfl
  have z_g8 := cell_blk (j := 8) K_g rfl
  go_wp2_with fail
  refine (HEM.out _).mono ?_
  rintro e u5 ⟨rfl, hv⟩
  clear z_a0 z_a1 z_a2 z_a3 z_w0 z_w1 z_w2 z_w3 z_w4 z_w5 z_w6 z_w7 z_w8 z_x0 z_x1 z_x2 z_x3 z_g0 z_g1 z_g2 z_g3 z_g4 z_g5 z_g6 z_g7 z_g8
  have hc := hc.trans (hv.mono hc.size)
  have K_a := blk_keep K_a hv (Array.getElem?_eq_some_iff.1 K_a).1
  have K_w := blk_keep K_w hv (Array.getElem?_eq_some_iff.1 K_w).1
  have K_x := blk_keep K_x hv (Array.getElem?_eq_some_iff.1 K_x).1
  have K_g := blk_keep K_g hv (Array.getElem?_eq_some_iff.1 K_g).1
  have HX : Hid (SyRows u5 (fun b => u2.heap.size + 1 ≤ b ∧ b < u3.heap.size ∧ Unf u5 b) ar1 ar2 ar3 ar4 cr1 cr2 cr3 cr4 y) := HX.out.keep fun b hb => ⟨⟨hb.1, hb.2.1, hb.2.2.keep (hv.block b (by have := hb.2.1; omega))⟩, hv.block b (by have := hb.2.1; omega)⟩
  have hz4 : u3.heap.size < u5.heap.size := by have := hv.size; omega
  clear hv
  have KS4 : ∀ u v : World, (fun X : World => (X.heap[w.heap.size]? = some (Obj.cells #[.slice a1 y.heap.length c1, .slice a2 y.insts.length c2, .slice a3 y.units.length c3, .slice a4 y.out.length c4] 27)) ∧ (X.heap[u2.heap.size]? = some (Obj.cells #[.int .i64 p, .int .i64 q, .int .i64 r, .slice none 0 0, .int .i64 0, .int .i64 0, .string ⟨#[]⟩, .slice none 0 0, .int .i64 0] 48)) ∧ (X.heap[u3.heap.size]? = some (Obj.cells #[.slice ar1 y.heap.length cr1, .slice ar2 y.insts.length cr2, .slice ar3 y.units.length cr3, .slice ar4 y.out.length cr4] 34)) ∧ (X.heap[u4.heap.size]? = some (Obj.cells #[.int .i64 p, .int .i64 q, .int .i64 r, .slice none 0 0, .int .i64 0, .int .i64 0, .string ⟨#[]⟩, .slice none 0 0, .int .i64 0] 48))) u → Below u.heap.size u v → (fun X : World => (X.heap[w.heap.size]? = some (Obj.cells #[.slice a1 y.heap.length c1, .slice a2 y.insts.length c2, .slice a3 y.units.length c3, .slice a4 y.out.length c4] 27)) ∧ (X.heap[u2.heap.size]? = some (Obj.cells #[.int .i64 p, .int .i64 q, .int .i64 r, .slice none 0 0, .int .i64 0, .int .i64 0, .string ⟨#[]⟩, .slice none 0 0, .int .i64 0] 48)) ∧ (X.heap[u3.heap.size]? = some (Obj.cells #[.slice ar1 y.heap.length cr1, .slice ar2 y.insts.length cr2, .slice ar3 y.units.length cr3, .slice ar4 y.out.length cr4] 34)) ∧ (X.heap[u4.heap.size]? = some (Obj.cells #[.int .i64 p, .int .i64 q, .int .i64 r, .slice none 0 0, .int .i64 0, .int .i64 0, .string ⟨#[]⟩, .slice none 0 0, .int .i64 0] 48))) v := fun u v ⟨h0, h1, h2, h3⟩ hb9 => ⟨blk_keep h0 hb9 (Array.getElem?_eq_some_iff.1 h0).1, blk_keep h1 hb9 (Array.getElem?_eq_some_iff.1 h1).1, blk_keep h2 hb9 (Array.getElem?_eq_some_iff.1 h2).1, blk_keep h3 hb9 (Array.getElem?_eq_some_iff.1 h3).1⟩
  obtain ⟨WD, hWD⟩ : ∃ WD : World, WD = { u5 with drawn := u5.drawn + 1 } := ⟨_, rfl⟩
  have HSD : Hid ((fun X : World => (X.heap[w.heap.size]? = some (Obj.cells #[.slice a1 y.heap.length c1, .slice a2 y.insts.length c2, .slice a3 y.units.length c3, .slice a4 y.out.length c4] 27)) ∧ (X.heap[u2.heap.size]? = some (Obj.cells #[.int .i64 p, .int .i64 q, .int .i64 r, .slice none 0 0, .int .i64 0, .int .i64 0, .string ⟨#[]⟩, .slice none 0 0, .int .i64 0] 48)) ∧ (X.heap[u3.heap.size]? = some (Obj.cells #[.slice ar1 y.heap.length cr1, .slice ar2 y.insts.length cr2, .slice ar3 y.units.length cr3, .slice ar4 y.out.length cr4] 34)) ∧ (X.heap[u4.heap.size]? = some (Obj.cells #[.int .i64 p, .int .i64 q, .int .i64 r, .slice none 0 0, .int .i64 0, .int .i64 0, .string ⟨#[]⟩, .slice none 0 0, .int .i64 0] 48))) WD) := by rw [hWD]; exact ⟨K_a, K_w, K_x, K_g⟩
  have HBD : Hid (Below w.heap.size w WD) := by rw [hWD]; exact ⟨hc.os, hc.tape, hc.output, hc.size, hc.block⟩
  have HWE : Hid (WD = { u5 with drawn := u5.drawn + 1 }) := hWD
  have HX : Hid (SyRows WD (fun b => u2.heap.size + 1 ≤ b ∧ b < u3.heap.size ∧ Unf WD b) ar1 ar2 ar3 ar4 cr1 cr2 cr3 cr4 y) := by rw [hWD]; exact HX.out.keep fun b hb => ⟨⟨hb.1, hb.2.1, hb.2.2.keep rfl⟩, rfl⟩
  have HZ4 : Hid (u3.heap.size < WD.heap.size) := by rw [hWD]; exact hz4
  have K_w5 := K_w
  have K_g5 := K_g
  clear hWD K_a K_w K_x K_g
  go_wp2_with fail
  refine wp_region_held (S := (fun X : World => (X.heap[w.heap.size]? = some (Obj.cells #[.slice a1 y.heap.length c1, .slice a2 y.insts.length c2, .slice a3 y.units.length c3, .slice a4 y.out.length c4] 27)) ∧ (X.heap[u2.heap.size]? = some (Obj.cells #[.int .i64 p, .int .i64 q, .int .i64 r, .slice none 0 0, .int .i64 0, .int .i64 0, .string ⟨#[]⟩, .slice none 0 0, .int .i64 0] 48)) ∧ (X.heap[u3.heap.size]? = some (Obj.cells #[.slice ar1 y.heap.length cr1, .slice ar2 y.insts.length cr2, .slice ar3 y.units.length cr3, .slice ar4 y.out.length cr4] 34)) ∧ (X.heap[u4.heap.size]? = some (Obj.cells #[.int .i64 p, .int .i64 q, .int .i64 r, .slice none 0 0, .int .i64 0, .int .i64 0, .string ⟨#[]⟩, .slice none 0 0, .int .i64 0] 48)))) (by kernel_rfl) ?_
  rw [← HWE.out]
  have hS : (fun X : World => (X.heap[w.heap.size]? = some (Obj.cells #[.slice a1 y.heap.length c1, .slice a2 y.insts.length c2, .slice a3 y.units.length c3, .slice a4 y.out.length c4] 27)) ∧ (X.heap[u2.heap.size]? = some (Obj.cells #[.int .i64 p, .int .i64 q, .int .i64 r, .slice none 0 0, .int .i64 0, .int .i64 0, .string ⟨#[]⟩, .slice none 0 0, .int .i64 0] 48)) ∧ (X.heap[u3.heap.size]? = some (Obj.cells #[.slice ar1 y.heap.length cr1, .slice ar2 y.insts.length cr2, .slice ar3 y.units.length cr3, .slice ar4 y.out.length cr4] 34)) ∧ (X.heap[u4.heap.size]? = some (Obj.cells #[.int .i64 p, .int .i64 q, .int .i64 r, .slice none 0 0, .int .i64 0, .int .i64 0, .string ⟨#[]⟩, .slice none 0 0, .int .i64 0] 48))) WD := HSD.out
  refine wpAnyH_take (i := 0) (v := .agg #[.slice ar1 y.heap.length cr1, .slice ar2 y.insts.length cr2, .slice ar3 y.units.length cr3, .slice ar4 y.out.length cr4]) rfl (by kernel_rfl) (by kernel_rfl) (by kernel_rfl) (fun _ _ _ h => h) (.inl ⟨by kernel_rfl, fun w' hS' => ldR (p := .pointer (some ⟨u3.heap.size, 0, none⟩)) rfl (by kernel_rfl) (by obtain ⟨k_a, k_w, k_x, k_g⟩ := hS'; simp [go_sem, cell_blk (j := 0) k_x rfl, cell_blk (j := 1) k_x rfl, cell_blk (j := 2) k_x rfl, cell_blk (j := 3) k_x rfl])⟩) hS ?_
  refine wpAnyH_take (i := 1) (v := .agg #[.slice a1 y.heap.length c1, .slice a2 y.insts.length c2, .slice a3 y.units.length c3, .slice a4 y.out.length c4]) rfl (by kernel_rfl) (by kernel_rfl) (by kernel_rfl) (fun _ _ _ h => h) (.inl ⟨by kernel_rfl, fun w' hS' => ldR (p := .pointer (some ⟨w.heap.size, 0, none⟩)) rfl (by kernel_rfl) (by obtain ⟨k_a, k_w, k_x, k_g⟩ := hS'; simp [go_sem, cell_blk (j := 0) k_a rfl, cell_blk (j := 1) k_a rfl, cell_blk (j := 2) k_a rfl, cell_blk (j := 3) k_a rfl])⟩) hS ?_
  refine wpAnyH_eq (l' := #[true, true, false, false, false]) (a' := ⟨#[.agg #[.slice a1 y.heap.length c1, .slice a2 y.insts.length c2, .slice a3 y.units.length c3, .slice a4 y.out.length c4], .int .i64 u, .pointer (some ⟨w.heap.size, 0, none⟩), undef, .bool false, .int .i64 ↑q9, .pointer (some ⟨u2.heap.size, 0, none⟩), .bool sb, .pointer (some ⟨u3.heap.size, 0, none⟩), .pointer (some ⟨u4.heap.size, 0, none⟩), .bool sb, undef, undef, undef, undef, undef, .agg #[.slice a1 y.heap.length c1, .slice a2 y.insts.length c2, .slice a3 y.units.length c3, .slice a4 y.out.length c4], .int .i64 1048576, .int .i64 ↑q9, .int .i64 ↑q9, .bool (decide (↑q9 < 0)), Value.tuple #[.agg #[.int .i64 p, .int .i64 q, .int .i64 r, .slice none 0 0, .int .i64 0, .int .i64 0, .string { data := #[] }, .slice none 0 0, .int .i64 0], .bool sb], .agg #[.slice a1 y.heap.length c1, .slice a2 y.insts.length c2, .slice a3 y.units.length c3, .slice a4 y.out.length c4], .agg #[.slice ap1 y.heap.length cp1, .slice ap2 y.insts.length cp2, .slice ap3 y.units.length cp3, .slice ap4 y.out.length cp4], .int .i64 u, Value.tuple #[.agg #[.int .i64 p, .int .i64 q, .int .i64 r, .slice none 0 0, .int .i64 0, .int .i64 0, .string { data := #[] }, .slice none 0 0, .int .i64 0], .bool sb], .agg #[.int .i64 p, .int .i64 q, .int .i64 r, .slice none 0 0, .int .i64 0, .int .i64 0, .string { data := #[] }, .slice none 0 0, .int .i64 0], .bool sb, .agg #[.slice a1 y.heap.length c1, .slice a2 y.insts.length c2, .slice a3 y.units.length c3, .slice a4 y.out.length c4], .agg #[.slice ar1 y.heap.length cr1, .slice ar2 y.insts.length cr2, .slice ar3 y.units.length cr3, .slice ar4 y.out.length cr4], Value.tuple #[.agg #[.int .i64 p, .int .i64 q, .int .i64 r, .slice none 0 0, .int .i64 0, .int .i64 0, .string { data := #[] }, .slice none 0 0, .int .i64 0], .bool sb], .agg #[.slice ar1 y.heap.length cr1, .slice ar2 y.insts.length cr2, .slice ar3 y.units.length cr3, .slice ar4 y.out.length cr4], .int .i64 u, Value.tuple #[.agg #[.int .i64 p, .int .i64 q, .int .i64 r, .slice none 0 0, .int .i64 0, .int .i64 0, .string { data := #[] }, .slice none 0 0, .int .i64 0], .bool sb], .agg #[.int .i64 p, .int .i64 q, .int .i64 r, .slice none 0 0, .int .i64 0, .int .i64 0, .string { data := #[] }, .slice none 0 0, .int .i64 0], .bool sb, .agg #[.int .i64 p, .int .i64 q, .int .i64 r, .slice none 0 0, .int .i64 0, .int .i64 0, .string { data := #[] }, .slice none 0 0, .int .i64 0], .agg #[.int .i64 p, .int .i64 q, .int .i64 r, .slice none 0 0, .int .i64 0, .int .i64 0, .string { data := #[] }, .slice none 0 0, .int .i64 0], .bool true, .bool false, .bool false, .bool sb, .bool sb, .bool false, .bool false, .agg #[.slice ar1 y.heap.length cr1, .slice ar2 y.insts.length cr2, .slice ar3 y.units.length cr3, .slice ar4 y.out.length cr4], .agg #[.slice a1 y.heap.length c1, .slice a2 y.insts.length c2, .slice a3 y.units.length c3, .slice a4 y.out.length c4], undef, undef, undef, undef, undef, undef, undef, undef, undef, undef, undef, undef, undef, undef, undef, undef, undef, undef, undef, undef, undef, undef, undef, undef, undef, undef, undef, undef, undef, undef, undef, undef, undef, undef, undef, undef, undef, undef, undef, undef, undef, undef, undef, undef, undef, undef, undef, undef, undef, undef, undef, undef, undef, undef], []⟩) (by kernel_rfl) (by kernel_rfl) ?_
  refine wpAnyH_all (rs := [2]) (by kernel_rfl) (by simp) fun jj hjj => ?_
  obtain rfl : jj = 2 := by simpa using hjj
  refine opw_call (f := 10) (args := #[.agg #[.slice a1 y.heap.length c1, .slice a2 y.insts.length c2, .slice a3 y.units.length c3, .slice a4 y.out.length c4]]) rfl (by kernel_rfl) (by kernel_rfl) ((HTS.out _ HBD.out).mono ?_)
  rintro e u6 ⟨cs, rfl, ⟨at1, at2, at3, at4, ct1, ct2, ct3, ct4, rfl, hy6⟩, hv6⟩
  have hS := KS4 WD u6 hS hv6
  have hc6 := HBD.out.trans (hv6.mono HBD.out.size)
  have hyF : SyRows u6 (fun b => b < u6.heap.size) at1 at2 at3 at4 ct1 ct2 ct3 ct4 y := hy6.keep fun b hb => ⟨hb.2.1, rfl⟩
  have hyG : SyRows u6 (fun b => b < u6.heap.size) ar1 ar2 ar3 ar4 cr1 cr2 cr3 cr4 y := HX.out.keep fun b hb => ⟨by have := hb.2.1; have := hv6.size; have := HZ4.out; omega, hv6.block b (by have := hb.2.1; have := HZ4.out; omega)⟩
  refine ⟨_, rfl, hS, ?_⟩
  refine wpAnyH_eq (l' := #[true, true, true, false, false]) (a' := ⟨#[.agg #[.slice a1 y.heap.length c1, .slice a2 y.insts.length c2, .slice a3 y.units.length c3, .slice a4 y.out.length c4], .int .i64 u, .pointer (some ⟨w.heap.size, 0, none⟩), undef, .bool false, .int .i64 ↑q9, .pointer (some ⟨u2.heap.size, 0, none⟩), .bool sb, .pointer (some ⟨u3.heap.size, 0, none⟩), .pointer (some ⟨u4.heap.size, 0, none⟩), .bool sb, undef, undef, undef, undef, undef, .agg #[.slice a1 y.heap.length c1, .slice a2 y.insts.length c2, .slice a3 y.units.length c3, .slice a4 y.out.length c4], .int .i64 1048576, .int .i64 ↑q9, .int .i64 ↑q9, .bool (decide (↑q9 < 0)), Value.tuple #[.agg #[.int .i64 p, .int .i64 q, .int .i64 r, .slice none 0 0, .int .i64 0, .int .i64 0, .string { data := #[] }, .slice none 0 0, .int .i64 0], .bool sb], .agg #[.slice a1 y.heap.length c1, .slice a2 y.insts.length c2, .slice a3 y.units.length c3, .slice a4 y.out.length c4], .agg #[.slice ap1 y.heap.length cp1, .slice ap2 y.insts.length cp2, .slice ap3 y.units.length cp3, .slice ap4 y.out.length cp4], .int .i64 u, Value.tuple #[.agg #[.int .i64 p, .int .i64 q, .int .i64 r, .slice none 0 0, .int .i64 0, .int .i64 0, .string { data := #[] }, .slice none 0 0, .int .i64 0], .bool sb], .agg #[.int .i64 p, .int .i64 q, .int .i64 r, .slice none 0 0, .int .i64 0, .int .i64 0, .string { data := #[] }, .slice none 0 0, .int .i64 0], .bool sb, .agg #[.slice a1 y.heap.length c1, .slice a2 y.insts.length c2, .slice a3 y.units.length c3, .slice a4 y.out.length c4], .agg #[.slice ar1 y.heap.length cr1, .slice ar2 y.insts.length cr2, .slice ar3 y.units.length cr3, .slice ar4 y.out.length cr4], Value.tuple #[.agg #[.int .i64 p, .int .i64 q, .int .i64 r, .slice none 0 0, .int .i64 0, .int .i64 0, .string { data := #[] }, .slice none 0 0, .int .i64 0], .bool sb], .agg #[.slice ar1 y.heap.length cr1, .slice ar2 y.insts.length cr2, .slice ar3 y.units.length cr3, .slice ar4 y.out.length cr4], .int .i64 u, Value.tuple #[.agg #[.int .i64 p, .int .i64 q, .int .i64 r, .slice none 0 0, .int .i64 0, .int .i64 0, .string { data := #[] }, .slice none 0 0, .int .i64 0], .bool sb], .agg #[.int .i64 p, .int .i64 q, .int .i64 r, .slice none 0 0, .int .i64 0, .int .i64 0, .string { data := #[] }, .slice none 0 0, .int .i64 0], .bool sb, .agg #[.int .i64 p, .int .i64 q, .int .i64 r, .slice none 0 0, .int .i64 0, .int .i64 0, .string { data := #[] }, .slice none 0 0, .int .i64 0], .agg #[.int .i64 p, .int .i64 q, .int .i64 r, .slice none 0 0, .int .i64 0, .int .i64 0, .string { data := #[] }, .slice none 0 0, .int .i64 0], .bool true, .bool false, .bool false, .bool sb, .bool sb, .bool false, .bool false, .agg #[.slice ar1 y.heap.length cr1, .slice ar2 y.insts.length cr2, .slice ar3 y.units.length cr3, .slice ar4 y.out.length cr4], .agg #[.slice a1 y.heap.length c1, .slice a2 y.insts.length c2, .slice a3 y.units.length c3, .slice a4 y.out.length c4], .agg #[.slice at1 y.heap.length ct1, .slice at2 y.insts.length ct2, .slice at3 y.units.length ct3, .slice at4 y.out.length ct4], undef, undef, undef, undef, undef, undef, undef, undef, undef, undef, undef, undef, undef, undef, undef, undef, undef, undef, undef, undef, undef, undef, undef, undef, undef, undef, undef, undef, undef, undef, undef, undef, undef, undef, undef, undef, undef, undef, undef, undef, undef, undef, undef, undef, undef, undef, undef, undef, undef, undef, undef, undef, undef], []⟩) (by kernel_rfl) (by kernel_rfl) ?_
  refine wpAnyH_all (rs := [3]) (by kernel_rfl) (by simp) fun jj hjj => ?_
  obtain rfl : jj = 3 := by simpa using hjj
  refine opw_call (f := 12) (args := #[.agg #[.slice ar1 y.heap.length cr1, .slice ar2 y.insts.length cr2, .slice ar3 y.units.length cr3, .slice ar4 y.out.length cr4], .agg #[.slice at1 y.heap.length ct1, .slice at2 y.insts.length ct2, .slice at3 y.units.length ct3, .slice at4 y.out.length ct4]]) rfl (by kernel_rfl) (by kernel_rfl) ((HES.out _ _ _ _ _ _ _ _ _ _ _ _ _ _ _ _ _ hyG hyF).mono ?_)
  rintro e u7 ⟨rfl, hv7⟩
  have hS := KS4 u6 u7 hS hv7
  have hc7 := hc6.trans (hv7.mono hc6.size)
  refine ⟨_, rfl, hS, ?_⟩
  refine wpAnyH_eq (l' := #[true, true, true, true, false]) (a' := ⟨#[.agg #[.slice a1 y.heap.length c1, .slice a2 y.insts.length c2, .slice a3 y.units.length c3, .slice a4 y.out.length c4], .int .i64 u, .pointer (some ⟨w.heap.size, 0, none⟩), undef, .bool false, .int .i64 ↑q9, .pointer (some ⟨u2.heap.size, 0, none⟩), .bool sb, .pointer (some ⟨u3.heap.size, 0, none⟩), .pointer (some ⟨u4.heap.size, 0, none⟩), .bool sb, undef, undef, undef, undef, undef, .agg #[.slice a1 y.heap.length c1, .slice a2 y.insts.length c2, .slice a3 y.units.length c3, .slice a4 y.out.length c4], .int .i64 1048576, .int .i64 ↑q9, .int .i64 ↑q9, .bool (decide (↑q9 < 0)), Value.tuple #[.agg #[.int .i64 p, .int .i64 q, .int .i64 r, .slice none 0 0, .int .i64 0, .int .i64 0, .string { data := #[] }, .slice none 0 0, .int .i64 0], .bool sb], .agg #[.slice a1 y.heap.length c1, .slice a2 y.insts.length c2, .slice a3 y.units.length c3, .slice a4 y.out.length c4], .agg #[.slice ap1 y.heap.length cp1, .slice ap2 y.insts.length cp2, .slice ap3 y.units.length cp3, .slice ap4 y.out.length cp4], .int .i64 u, Value.tuple #[.agg #[.int .i64 p, .int .i64 q, .int .i64 r, .slice none 0 0, .int .i64 0, .int .i64 0, .string { data := #[] }, .slice none 0 0, .int .i64 0], .bool sb], .agg #[.int .i64 p, .int .i64 q, .int .i64 r, .slice none 0 0, .int .i64 0, .int .i64 0, .string { data := #[] }, .slice none 0 0, .int .i64 0], .bool sb, .agg #[.slice a1 y.heap.length c1, .slice a2 y.insts.length c2, .slice a3 y.units.length c3, .slice a4 y.out.length c4], .agg #[.slice ar1 y.heap.length cr1, .slice ar2 y.insts.length cr2, .slice ar3 y.units.length cr3, .slice ar4 y.out.length cr4], Value.tuple #[.agg #[.int .i64 p, .int .i64 q, .int .i64 r, .slice none 0 0, .int .i64 0, .int .i64 0, .string { data := #[] }, .slice none 0 0, .int .i64 0], .bool sb], .agg #[.slice ar1 y.heap.length cr1, .slice ar2 y.insts.length cr2, .slice ar3 y.units.length cr3, .slice ar4 y.out.length cr4], .int .i64 u, Value.tuple #[.agg #[.int .i64 p, .int .i64 q, .int .i64 r, .slice none 0 0, .int .i64 0, .int .i64 0, .string { data := #[] }, .slice none 0 0, .int .i64 0], .bool sb], .agg #[.int .i64 p, .int .i64 q, .int .i64 r, .slice none 0 0, .int .i64 0, .int .i64 0, .string { data := #[] }, .slice none 0 0, .int .i64 0], .bool sb, .agg #[.int .i64 p, .int .i64 q, .int .i64 r, .slice none 0 0, .int .i64 0, .int .i64 0, .string { data := #[] }, .slice none 0 0, .int .i64 0], .agg #[.int .i64 p, .int .i64 q, .int .i64 r, .slice none 0 0, .int .i64 0, .int .i64 0, .string { data := #[] }, .slice none 0 0, .int .i64 0], .bool true, .bool false, .bool false, .bool sb, .bool sb, .bool false, .bool false, .agg #[.slice ar1 y.heap.length cr1, .slice ar2 y.insts.length cr2, .slice ar3 y.units.length cr3, .slice ar4 y.out.length cr4], .agg #[.slice a1 y.heap.length c1, .slice a2 y.insts.length c2, .slice a3 y.units.length c3, .slice a4 y.out.length c4], .agg #[.slice at1 y.heap.length ct1, .slice at2 y.insts.length ct2, .slice at3 y.units.length ct3, .slice at4 y.out.length ct4], .bool true, undef, undef, undef, undef, undef, undef, undef, undef, undef, undef, undef, undef, undef, undef, undef, undef, undef, undef, undef, undef, undef, undef, undef, undef, undef, undef, undef, undef, undef, undef, undef, undef, undef, undef, undef, undef, undef, undef, undef, undef, undef, undef, undef, undef, undef, undef, undef, undef, undef, undef, undef, undef], []⟩) (by kernel_rfl) (by kernel_rfl) ?_
  refine wpAnyH_take (i := 4) (v := .bool false) rfl (by kernel_rfl) (by kernel_rfl) (by kernel_rfl) (fun _ _ _ h => h) (.inl ⟨by kernel_rfl, fun w' hS' => by kernel_rfl⟩) hS ?_
  refine wpAnyH_eq (l' := #[true, true, true, true, true]) (a' := ⟨#[.agg #[.slice a1 y.heap.length c1, .slice a2 y.insts.length c2, .slice a3 y.units.length c3, .slice a4 y.out.length c4], .int .i64 u, .pointer (some ⟨w.heap.size, 0, none⟩), undef, .bool false, .int .i64 ↑q9, .pointer (some ⟨u2.heap.size, 0, none⟩), .bool sb, .pointer (some ⟨u3.heap.size, 0, none⟩), .pointer (some ⟨u4.heap.size, 0, none⟩), .bool sb, undef, undef, undef, undef, undef, .agg #[.slice a1 y.heap.length c1, .slice a2 y.insts.length c2, .slice a3 y.units.length c3, .slice a4 y.out.length c4], .int .i64 1048576, .int .i64 ↑q9, .int .i64 ↑q9, .bool (decide (↑q9 < 0)), Value.tuple #[.agg #[.int .i64 p, .int .i64 q, .int .i64 r, .slice none 0 0, .int .i64 0, .int .i64 0, .string { data := #[] }, .slice none 0 0, .int .i64 0], .bool sb], .agg #[.slice a1 y.heap.length c1, .slice a2 y.insts.length c2, .slice a3 y.units.length c3, .slice a4 y.out.length c4], .agg #[.slice ap1 y.heap.length cp1, .slice ap2 y.insts.length cp2, .slice ap3 y.units.length cp3, .slice ap4 y.out.length cp4], .int .i64 u, Value.tuple #[.agg #[.int .i64 p, .int .i64 q, .int .i64 r, .slice none 0 0, .int .i64 0, .int .i64 0, .string { data := #[] }, .slice none 0 0, .int .i64 0], .bool sb], .agg #[.int .i64 p, .int .i64 q, .int .i64 r, .slice none 0 0, .int .i64 0, .int .i64 0, .string { data := #[] }, .slice none 0 0, .int .i64 0], .bool sb, .agg #[.slice a1 y.heap.length c1, .slice a2 y.insts.length c2, .slice a3 y.units.length c3, .slice a4 y.out.length c4], .agg #[.slice ar1 y.heap.length cr1, .slice ar2 y.insts.length cr2, .slice ar3 y.units.length cr3, .slice ar4 y.out.length cr4], Value.tuple #[.agg #[.int .i64 p, .int .i64 q, .int .i64 r, .slice none 0 0, .int .i64 0, .int .i64 0, .string { data := #[] }, .slice none 0 0, .int .i64 0], .bool sb], .agg #[.slice ar1 y.heap.length cr1, .slice ar2 y.insts.length cr2, .slice ar3 y.units.length cr3, .slice ar4 y.out.length cr4], .int .i64 u, Value.tuple #[.agg #[.int .i64 p, .int .i64 q, .int .i64 r, .slice none 0 0, .int .i64 0, .int .i64 0, .string { data := #[] }, .slice none 0 0, .int .i64 0], .bool sb], .agg #[.int .i64 p, .int .i64 q, .int .i64 r, .slice none 0 0, .int .i64 0, .int .i64 0, .string { data := #[] }, .slice none 0 0, .int .i64 0], .bool sb, .agg #[.int .i64 p, .int .i64 q, .int .i64 r, .slice none 0 0, .int .i64 0, .int .i64 0, .string { data := #[] }, .slice none 0 0, .int .i64 0], .agg #[.int .i64 p, .int .i64 q, .int .i64 r, .slice none 0 0, .int .i64 0, .int .i64 0, .string { data := #[] }, .slice none 0 0, .int .i64 0], .bool true, .bool false, .bool false, .bool sb, .bool sb, .bool false, .bool false, .agg #[.slice ar1 y.heap.length cr1, .slice ar2 y.insts.length cr2, .slice ar3 y.units.length cr3, .slice ar4 y.out.length cr4], .agg #[.slice a1 y.heap.length c1, .slice a2 y.insts.length c2, .slice a3 y.units.length c3, .slice a4 y.out.length c4], .agg #[.slice at1 y.heap.length ct1, .slice at2 y.insts.length ct2, .slice at3 y.units.length ct3, .slice at4 y.out.length ct4], .bool true, .bool false, undef, undef, undef, undef, undef, undef, undef, undef, undef, undef, undef, undef, undef, undef, undef, undef, undef, undef, undef, undef, undef, undef, undef, undef, undef, undef, undef, undef, undef, undef, undef, undef, undef, undef, undef, undef, undef, undef, undef, undef, undef, undef, undef, undef, undef, undef, undef, undef, undef, undef, undef], []⟩) (by kernel_rfl) (by kernel_rfl) ?_
  refine wpAnyH_done (by kernel_rfl) ?_ _
  dsimp only []
  obtain ⟨K_a, K_w, K_x, K_g⟩ := hS
  have hc := hc7
  have hz7 := hv7.size
  have hz6 := hv6.size
  have hz4 := HZ4.out
  have HX : Hid (SyRows u7 (fun b => u2.heap.size + 1 ≤ b ∧ b < u3.heap.size ∧ Unf u7 b) ar1 ar2 ar3 ar4 cr1 cr2 cr3 cr4 y) := HX.out.keep fun b hb => by
   have e : u7.heap[b]? = WD.heap[b]? := (hv7.block b (by have := hb.2.1; omega)).trans (hv6.block b (by have := hb.2.1; omega))
   exact ⟨⟨hb.1, hb.2.1, hb.2.2.keep e⟩, e⟩
  have hz8 : u3.heap.size < u7.heap.size := by omega
  clear hv6 hv7 hc6 hc7 hyF hyG hy6 HSD HBD HWE HZ4 hz6 hz7 hz4 K_w5 K_g5 KS4
  have z_a0 := cell_blk (j := 0) K_a rfl
  have z_a1 := cell_blk (j := 1) K_a rfl
  have z_a2 := cell_blk (j := 2) K_a rfl
  have z_a3 := cell_blk (j := 3) K_a rfl
  have z_w0 := cell_blk (j := 0) K_w rfl
  have z_w1 := cell_blk (j := 1) K_w rfl
  have z_w2 := cell_blk (j := 2) K_w rfl
  have z_w3 := cell_blk (j := 3) K_w rfl
  have z_w4 := cell_blk (j := 4) K_w rfl
  have z_w5 := cell_blk (j := 5) K_w rfl
  have z_w6 := cell_blk (j := 6) K_w rfl
  have z_w7 := cell_blk (j := 7) K_w rfl
  have z_w8 := cell_blk (j := 8) K_w rfl
  have z_x0 := cell_blk (j := 0) K_x rfl
  have z_x1 := cell_blk (j := 1) K_x rfl
  have z_x2 := cell_blk (j := 2) K_x rfl
  have z_x3 := cell_blk (j := 3) K_x rfl
  have z_g0 := cell_blk (j := 0) K_g rfl
  have z_g1 := cell_blk (j := 1) K_g rfl
  have z_g2 := cell_blk (j := 2) K_g rfl
  have z_g3 := cell_blk (j := 3) K_g rfl
  have z_g4 := cell_blk (j := 4) K_g rfl
  have z_g5 := cell_blk (j := 5) K_g rfl
  have z_g6 := cell_blk (j := 6) K_g rfl
  have z_g7 := cell_blk (j := 7) K_g rfl
  have z_g8 := cell_blk (j := 8) K_g rfl
  go_wp2_with fail
  refine (HMS.out (u2.heap.size + 1) u3.heap.size _ _ _ _ _ _ _ _ _ HX.out (by omega)).mono ?_
  rintro e u8 ⟨rfl, hv⟩
  clear z_a0 z_a1 z_a2 z_a3 z_w0 z_w1 z_w2 z_w3 z_w4 z_w5 z_w6 z_w7 z_w8 z_x0 z_x1 z_x2 z_x3 z_g0 z_g1 z_g2 z_g3 z_g4 z_g5 z_g6 z_g7 z_g8
  have hc : Below w.heap.size w u8 := hc.trans (hv.below hza hc.size)
  have K_a := (hv.same _ (Array.getElem?_eq_some_iff.1 K_a).1 (.inl (by omega))).trans K_a
  have K_w := (hv.same _ (Array.getElem?_eq_some_iff.1 K_w).1 (.inl (by omega))).trans K_w
  have K_x := (hv.same _ (Array.getElem?_eq_some_iff.1 K_x).1 (.inr (Nat.le_refl _))).trans K_x
  have K_g := (hv.same _ (Array.getElem?_eq_some_iff.1 K_g).1 (.inr (by omega))).trans K_g
  clear hv HX
  have z_a0 := cell_blk (j := 0) K_a rfl
  have z_a1 := cell_blk (j := 1) K_a rfl
  have z_a2 := cell_blk (j := 2) K_a rfl
  have z_a3 := cell_blk (j := 3) K_a rfl
  have z_w0 := cell_blk (j := 0) K_w rfl
  have z_w1 := cell_blk (j := 1) K_w rfl
  have z_w2 := cell_blk (j := 2) K_w rfl
  have z_w3 := cell_blk (j := 3) K_w rfl
  have z_w4 := cell_blk (j := 4) K_w rfl
  have z_w5 := cell_blk (j := 5) K_w rfl
  have z_w6 := cell_blk (j := 6) K_w rfl
  have z_w7 := cell_blk (j := 7) K_w rfl
  have z_w8 := cell_blk (j := 8) K_w rfl
  have z_x0 := cell_blk (j := 0) K_x rfl
  have z_x1 := cell_blk (j := 1) K_x rfl
  have z_x2 := cell_blk (j := 2) K_x rfl
  have z_x3 := cell_blk (j := 3) K_x rfl
  have z_g0 := cell_blk (j := 0) K_g rfl
  have z_g1 := cell_blk (j := 1) K_g rfl
  have z_g2 := cell_blk (j := 2) K_g rfl
  have z_g3 := cell_blk (j := 3) K_g rfl
  have z_g4 := cell_blk (j := 4) K_g rfl
  have z_g5 := cell_blk (j := 5) K_g rfl
  have z_g6 := cell_blk (j := 6) K_g rfl
  have z_g7 := cell_blk (j := 7) K_g rfl
  have z_g8 := cell_blk (j := 8) K_g rfl
  go_wp2_with fail
  refine (HEM.out _).mono ?_
  rintro e u9 ⟨rfl, hv⟩
  clear z_a0 z_a1 z_a2 z_a3 z_w0 z_w1 z_w2 z_w3 z_w4 z_w5 z_w6 z_w7 z_w8 z_x0 z_x1 z_x2 z_x3 z_g0 z_g1 z_g2 z_g3 z_g4 z_g5 z_g6 z_g7 z_g8
  have hc := hc.trans (hv.mono hc.size)
  have K_a := blk_keep K_a hv (Array.getElem?_eq_some_iff.1 K_a).1
  have K_w := blk_keep K_w hv (Array.getElem?_eq_some_iff.1 K_w).1
  have K_x := blk_keep K_x hv (Array.getElem?_eq_some_iff.1 K_x).1
  have K_g := blk_keep K_g hv (Array.getElem?_eq_some_iff.1 K_g).1
  have z_a0 := cell_blk (j := 0) K_a rfl
  have z_a1 := cell_blk (j := 1) K_a rfl
  have z_a2 := cell_blk (j := 2) K_a rfl
  have z_a3 := cell_blk (j := 3) K_a rfl
  have z_w0 := cell_blk (j := 0) K_w rfl
  have z_w1 := cell_blk (j := 1) K_w rfl
  have z_w2 := cell_blk (j := 2) K_w rfl
  have z_w3 := cell_blk (j := 3) K_w rfl
  have z_w4 := cell_blk (j := 4) K_w rfl
  have z_w5 := cell_blk (j := 5) K_w rfl
  have z_w6 := cell_blk (j := 6) K_w rfl
  have z_w7 := cell_blk (j := 7) K_w rfl
  have z_w8 := cell_blk (j := 8) K_w rfl
  have z_x0 := cell_blk (j := 0) K_x rfl
  have z_x1 := cell_blk (j := 1) K_x rfl
  have z_x2 := cell_blk (j := 2) K_x rfl
  have z_x3 := cell_blk (j := 3) K_x rfl
  have z_g0 := cell_blk (j := 0) K_g rfl
  have z_g1 := cell_blk (j := 1) K_g rfl
  have z_g2 := cell_blk (j := 2) K_g rfl
  have z_g3 := cell_blk (j := 3) K_g rfl
  have z_g4 := cell_blk (j := 4) K_g rfl
  have z_g5 := cell_blk (j := 5) K_g rfl
  have z_g6 := cell_blk (j := 6) K_g rfl
  have z_g7 := cell_blk (j := 7) K_g rfl
  have z_g8 := cell_blk (j := 8) K_g rfl
  clear hv
  go_wp2_with fail
  refine (HMM.out _).mono ?_
  rintro e u10 ⟨rfl, hv⟩
  clear z_a0 z_a1 z_a2 z_a3 z_w0 z_w1 z_w2 z_w3 z_w4 z_w5 z_w6 z_w7 z_w8 z_x0 z_x1 z_x2 z_x3 z_g0 z_g1 z_g2 z_g3 z_g4 z_g5 z_g6 z_g7 z_g8
  have hc := hc.trans (hv.mono hc.size)
  have K_a := blk_keep K_a hv (Array.getElem?_eq_some_iff.1 K_a).1
  have K_w := blk_keep K_w hv (Array.getElem?_eq_some_iff.1 K_w).1
  have K_x := blk_keep K_x hv (Array.getElem?_eq_some_iff.1 K_x).1
  have K_g := blk_keep K_g hv (Array.getElem?_eq_some_iff.1 K_g).1
  have z_a0 := cell_blk (j := 0) K_a rfl
  have z_a1 := cell_blk (j := 1) K_a rfl
  have z_a2 := cell_blk (j := 2) K_a rfl
  have z_a3 := cell_blk (j := 3) K_a rfl
  have z_w0 := cell_blk (j := 0) K_w rfl
  have z_w1 := cell_blk (j := 1) K_w rfl
  have z_w2 := cell_blk (j := 2) K_w rfl
  have z_w3 := cell_blk (j := 3) K_w rfl
  have z_w4 := cell_blk (j := 4) K_w rfl
  have z_w5 := cell_blk (j := 5) K_w rfl
  have z_w6 := cell_blk (j := 6) K_w rfl
  have z_w7 := cell_blk (j := 7) K_w rfl
  have z_w8 := cell_blk (j := 8) K_w rfl
  have z_x0 := cell_blk (j := 0) K_x rfl
  have z_x1 := cell_blk (j := 1) K_x rfl
  have z_x2 := cell_blk (j := 2) K_x rfl
  have z_x3 := cell_blk (j := 3) K_x rfl
  have z_g0 := cell_blk (j := 0) K_g rfl
  have z_g1 := cell_blk (j := 1) K_g rfl
  have z_g2 := cell_blk (j := 2) K_g rfl
  have z_g3 := cell_blk (j := 3) K_g rfl
  have z_g4 := cell_blk (j := 4) K_g rfl
  have z_g5 := cell_blk (j := 5) K_g rfl
  have z_g6 := cell_blk (j := 6) K_g rfl
  have z_g7 := cell_blk (j := 7) K_g rfl
  have z_g8 := cell_blk (j := 8) K_g rfl
  clear hv
  go_wp2_with fail
  refine (HHM.out _).mono ?_
  rintro e u11 ⟨rfl, hv⟩
  clear z_a0 z_a1 z_a2 z_a3 z_w0 z_w1 z_w2 z_w3 z_w4 z_w5 z_w6 z_w7 z_w8 z_x0 z_x1 z_x2 z_x3 z_g0 z_g1 z_g2 z_g3 z_g4 z_g5 z_g6 z_g7 z_g8
  have hc := hc.trans (hv.mono hc.size)
  have K_a := blk_keep K_a hv (Array.getElem?_eq_some_iff.1 K_a).1
  have K_w := blk_keep K_w hv (Array.getElem?_eq_some_iff.1 K_w).1
  have K_x := blk_keep K_x hv (Array.getElem?_eq_some_iff.1 K_x).1
  have K_g := blk_keep K_g hv (Array.getElem?_eq_some_iff.1 K_g).1
  have z_a0 := cell_blk (j := 0) K_a rfl
  have z_a1 := cell_blk (j := 1) K_a rfl
  have z_a2 := cell_blk (j := 2) K_a rfl
  have z_a3 := cell_blk (j := 3) K_a rfl
  have z_w0 := cell_blk (j := 0) K_w rfl
  have z_w1 := cell_blk (j := 1) K_w rfl
  have z_w2 := cell_blk (j := 2) K_w rfl
  have z_w3 := cell_blk (j := 3) K_w rfl
  have z_w4 := cell_blk (j := 4) K_w rfl
  have z_w5 := cell_blk (j := 5) K_w rfl
  have z_w6 := cell_blk (j := 6) K_w rfl
  have z_w7 := cell_blk (j := 7) K_w rfl
  have z_w8 := cell_blk (j := 8) K_w rfl
  have z_x0 := cell_blk (j := 0) K_x rfl
  have z_x1 := cell_blk (j := 1) K_x rfl
  have z_x2 := cell_blk (j := 2) K_x rfl
  have z_x3 := cell_blk (j := 3) K_x rfl
  have z_g0 := cell_blk (j := 0) K_g rfl
  have z_g1 := cell_blk (j := 1) K_g rfl
  have z_g2 := cell_blk (j := 2) K_g rfl
  have z_g3 := cell_blk (j := 3) K_g rfl
  have z_g4 := cell_blk (j := 4) K_g rfl
  have z_g5 := cell_blk (j := 5) K_g rfl
  have z_g6 := cell_blk (j := 6) K_g rfl
  have z_g7 := cell_blk (j := 7) K_g rfl
  have z_g8 := cell_blk (j := 8) K_g rfl
  clear hv
  go_wp2_with fail
  refine (HTS.out _ hc).mono ?_
  rintro e u12 ⟨cs, rfl, ⟨as1, as2, as3, as4, cs1, cs2, cs3, cs4, rfl, hy12⟩, hv⟩
  clear z_a0 z_a1 z_a2 z_a3 z_w0 z_w1 z_w2 z_w3 z_w4 z_w5 z_w6 z_w7 z_w8 z_x0 z_x1 z_x2 z_x3 z_g0 z_g1 z_g2 z_g3 z_g4 z_g5 z_g6 z_g7 z_g8
  have hy12' : SyRows u12 (fun b => b < u12.heap.size) as1 as2 as3 as4 cs1 cs2 cs3 cs4 y := hy12.keep fun b hb => ⟨hb.2.1, rfl⟩
  have hc := hc.trans (hv.mono hc.size)
  have K_a := blk_keep K_a hv (Array.getElem?_eq_some_iff.1 K_a).1
  have K_w := blk_keep K_w hv (Array.getElem?_eq_some_iff.1 K_w).1
  have K_x := blk_keep K_x hv (Array.getElem?_eq_some_iff.1 K_x).1
  have K_g := blk_keep K_g hv (Array.getElem?_eq_some_iff.1 K_g).1
  have z_a0 := cell_blk (j := 0) K_a rfl
  have z_a1 := cell_blk (j := 1) K_a rfl
  have z_a2 := cell_blk (j := 2) K_a rfl
  have z_a3 := cell_blk (j := 3) K_a rfl
  have z_w0 := cell_blk (j := 0) K_w rfl
  have z_w1 := cell_blk (j := 1) K_w rfl
  have z_w2 := cell_blk (j := 2) K_w rfl
  have z_w3 := cell_blk (j := 3) K_w rfl
  have z_w4 := cell_blk (j := 4) K_w rfl
  have z_w5 := cell_blk (j := 5) K_w rfl
  have z_w6 := cell_blk (j := 6) K_w rfl
  have z_w7 := cell_blk (j := 7) K_w rfl
  have z_w8 := cell_blk (j := 8) K_w rfl
  have z_x0 := cell_blk (j := 0) K_x rfl
  have z_x1 := cell_blk (j := 1) K_x rfl
  have z_x2 := cell_blk (j := 2) K_x rfl
  have z_x3 := cell_blk (j := 3) K_x rfl
  have z_g0 := cell_blk (j := 0) K_g rfl
  have z_g1 := cell_blk (j := 1) K_g rfl
  have z_g2 := cell_blk (j := 2) K_g rfl
  have z_g3 := cell_blk (j := 3) K_g rfl
  have z_g4 := cell_blk (j := 4) K_g rfl
  have z_g5 := cell_blk (j := 5) K_g rfl
  have z_g6 := cell_blk (j := 6) K_g rfl
  have z_g7 := cell_blk (j := 7) K_g rfl
  have z_g8 := cell_blk (j := 8) K_g rfl
  clear hv hy12
  go_wp2_with fail
  refine (HIM.out _ _ _ _ _ _ _ _ _ hy12').mono ?_
  rintro e u13 ⟨rfl, hv⟩
  clear z_a0 z_a1 z_a2 z_a3 z_w0 z_w1 z_w2 z_w3 z_w4 z_w5 z_w6 z_w7 z_w8 z_x0 z_x1 z_x2 z_x3 z_g0 z_g1 z_g2 z_g3 z_g4 z_g5 z_g6 z_g7 z_g8
  have hc := hc.trans (hv.mono hc.size)
  have K_a := blk_keep K_a hv (Array.getElem?_eq_some_iff.1 K_a).1
  have K_w := blk_keep K_w hv (Array.getElem?_eq_some_iff.1 K_w).1
  have K_x := blk_keep K_x hv (Array.getElem?_eq_some_iff.1 K_x).1
  have K_g := blk_keep K_g hv (Array.getElem?_eq_some_iff.1 K_g).1
  clear hv hy12'
  have K_a : (u13.alloc (Obj.cells #[.int .i64 p, .int .i64 q, .int .i64 r, .slice none 0 0, .int .i64 0, .int .i64 0, .string ⟨#[]⟩, .slice none 0 0, .int .i64 0] 48)).heap[w.heap.size]? = some (Obj.cells #[.slice a1 y.heap.length c1, .slice a2 y.insts.length c2, .slice a3 y.units.length c3, .slice a4 y.out.length c4] 27) := blk_past K_a
  have K_w : (u13.alloc (Obj.cells #[.int .i64 p, .int .i64 q, .int .i64 r, .slice none 0 0, .int .i64 0, .int .i64 0, .string ⟨#[]⟩, .slice none 0 0, .int .i64 0] 48)).heap[u2.heap.size]? = some (Obj.cells #[.int .i64 p, .int .i64 q, .int .i64 r, .slice none 0 0, .int .i64 0, .int .i64 0, .string ⟨#[]⟩, .slice none 0 0, .int .i64 0] 48) := blk_past K_w
  have K_x : (u13.alloc (Obj.cells #[.int .i64 p, .int .i64 q, .int .i64 r, .slice none 0 0, .int .i64 0, .int .i64 0, .string ⟨#[]⟩, .slice none 0 0, .int .i64 0] 48)).heap[u3.heap.size]? = some (Obj.cells #[.slice ar1 y.heap.length cr1, .slice ar2 y.insts.length cr2, .slice ar3 y.units.length cr3, .slice ar4 y.out.length cr4] 34) := blk_past K_x
  have K_g : (u13.alloc (Obj.cells #[.int .i64 p, .int .i64 q, .int .i64 r, .slice none 0 0, .int .i64 0, .int .i64 0, .string ⟨#[]⟩, .slice none 0 0, .int .i64 0] 48)).heap[u4.heap.size]? = some (Obj.cells #[.int .i64 p, .int .i64 q, .int .i64 r, .slice none 0 0, .int .i64 0, .int .i64 0, .string ⟨#[]⟩, .slice none 0 0, .int .i64 0] 48) := blk_past K_g
  have K_h : (u13.alloc (Obj.cells #[.int .i64 p, .int .i64 q, .int .i64 r, .slice none 0 0, .int .i64 0, .int .i64 0, .string ⟨#[]⟩, .slice none 0 0, .int .i64 0] 48)).heap[u13.heap.size]? = some (Obj.cells #[.int .i64 p, .int .i64 q, .int .i64 r, .slice none 0 0, .int .i64 0, .int .i64 0, .string ⟨#[]⟩, .slice none 0 0, .int .i64 0] 48) := blk_at _ _ _ rfl
  have hc : Below w.heap.size w (u13.alloc (Obj.cells #[.int .i64 p, .int .i64 q, .int .i64 r, .slice none 0 0, .int .i64 0, .int .i64 0, .string ⟨#[]⟩, .slice none 0 0, .int .i64 0] 48)) := hc.alloc hc.size _
  have z_a0 := cell_blk (j := 0) K_a rfl
  have z_a1 := cell_blk (j := 1) K_a rfl
  have z_a2 := cell_blk (j := 2) K_a rfl
  have z_a3 := cell_blk (j := 3) K_a rfl
  have z_w0 := cell_blk (j := 0) K_w rfl
  have z_w1 := cell_blk (j := 1) K_w rfl
  have z_w2 := cell_blk (j := 2) K_w rfl
  have z_w3 := cell_blk (j := 3) K_w rfl
  have z_w4 := cell_blk (j := 4) K_w rfl
  have z_w5 := cell_blk (j := 5) K_w rfl
  have z_w6 := cell_blk (j := 6) K_w rfl
  have z_w7 := cell_blk (j := 7) K_w rfl
  have z_w8 := cell_blk (j := 8) K_w rfl
  have z_x0 := cell_blk (j := 0) K_x rfl
  have z_x1 := cell_blk (j := 1) K_x rfl
  have z_x2 := cell_blk (j := 2) K_x rfl
  have z_x3 := cell_blk (j := 3) K_x rfl
  have z_g0 := cell_blk (j := 0) K_g rfl
  have z_g1 := cell_blk (j := 1) K_g rfl
  have z_g2 := cell_blk (j := 2) K_g rfl
  have z_g3 := cell_blk (j := 3) K_g rfl
  have z_g4 := cell_blk (j := 4) K_g rfl
  have z_g5 := cell_blk (j := 5) K_g rfl
  have z_g6 := cell_blk (j := 6) K_g rfl
  have z_g7 := cell_blk (j := 7) K_g rfl
  have z_g8 := cell_blk (j := 8) K_g rfl
  have z_h0 := cell_blk (j := 0) K_h rfl
  have z_h1 := cell_blk (j := 1) K_h rfl
  have z_h2 := cell_blk (j := 2) K_h rfl
  have z_h3 := cell_blk (j := 3) K_h rfl
  have z_h4 := cell_blk (j := 4) K_h rfl
  have z_h5 := cell_blk (j := 5) K_h rfl
  have z_h6 := cell_blk (j := 6) K_h rfl
  have z_h7 := cell_blk (j := 7) K_h rfl
  have z_h8 := cell_blk (j := 8) K_h rfl
  go_wp2_with fail
  refine (HEM.out _).mono ?_
  rintro e u14 ⟨rfl, hv⟩
  clear z_a0 z_a1 z_a2 z_a3 z_w0 z_w1 z_w2 z_w3 z_w4 z_w5 z_w6 z_w7 z_w8 z_x0 z_x1 z_x2 z_x3 z_g0 z_g1 z_g2 z_g3 z_g4 z_g5 z_g6 z_g7 z_g8 z_h0 z_h1 z_h2 z_h3 z_h4 z_h5 z_h6 z_h7 z_h8
  have hc := hc.trans (hv.mono hc.size)
  have K_a := blk_keep K_a hv (Array.getElem?_eq_some_iff.1 K_a).1
  have K_w := blk_keep K_w hv (Array.getElem?_eq_some_iff.1 K_w).1
  have K_x := blk_keep K_x hv (Array.getElem?_eq_some_iff.1 K_x).1
  have K_g := blk_keep K_g hv (Array.getElem?_eq_some_iff.1 K_g).1
  have K_h := blk_keep K_h hv (Array.getElem?_eq_some_iff.1 K_h).1
  have z_a0 := cell_blk (j := 0) K_a rfl
  have z_a1 := cell_blk (j := 1) K_a rfl
  have z_a2 := cell_blk (j := 2) K_a rfl
  have z_a3 := cell_blk (j := 3) K_a rfl
  have z_w0 := cell_blk (j := 0) K_w rfl
  have z_w1 := cell_blk (j := 1) K_w rfl
  have z_w2 := cell_blk (j := 2) K_w rfl
  have z_w3 := cell_blk (j := 3) K_w rfl
  have z_w4 := cell_blk (j := 4) K_w rfl
  have z_w5 := cell_blk (j := 5) K_w rfl
  have z_w6 := cell_blk (j := 6) K_w rfl
  have z_w7 := cell_blk (j := 7) K_w rfl
  have z_w8 := cell_blk (j := 8) K_w rfl
  have z_x0 := cell_blk (j := 0) K_x rfl
  have z_x1 := cell_blk (j := 1) K_x rfl
  have z_x2 := cell_blk (j := 2) K_x rfl
  have z_x3 := cell_blk (j := 3) K_x rfl
  have z_g0 := cell_blk (j := 0) K_g rfl
  have z_g1 := cell_blk (j := 1) K_g rfl
  have z_g2 := cell_blk (j := 2) K_g rfl
  have z_g3 := cell_blk (j := 3) K_g rfl
  have z_g4 := cell_blk (j := 4) K_g rfl
  have z_g5 := cell_blk (j := 5) K_g rfl
  have z_g6 := cell_blk (j := 6) K_g rfl
  have z_g7 := cell_blk (j := 7) K_g rfl
  have z_g8 := cell_blk (j := 8) K_g rfl
  have z_h0 := cell_blk (j := 0) K_h rfl
  have z_h1 := cell_blk (j := 1) K_h rfl
  have z_h2 := cell_blk (j := 2) K_h rfl
  have z_h3 := cell_blk (j := 3) K_h rfl
  have z_h4 := cell_blk (j := 4) K_h rfl
  have z_h5 := cell_blk (j := 5) K_h rfl
  have z_h6 := cell_blk (j := 6) K_h rfl
  have z_h7 := cell_blk (j := 7) K_h rfl
  have z_h8 := cell_blk (j := 8) K_h rfl
  clear hv
  go_wp2_with fail
  refine (HHM.out _).mono ?_
  rintro e u15 ⟨rfl, hv⟩
  clear z_a0 z_a1 z_a2 z_a3 z_w0 z_w1 z_w2 z_w3 z_w4 z_w5 z_w6 z_w7 z_w8 z_x0 z_x1 z_x2 z_x3 z_g0 z_g1 z_g2 z_g3 z_g4 z_g5 z_g6 z_g7 z_g8 z_h0 z_h1 z_h2 z_h3 z_h4 z_h5 z_h6 z_h7 z_h8
  have hc := hc.trans (hv.mono hc.size)
  have K_a := blk_keep K_a hv (Array.getElem?_eq_some_iff.1 K_a).1
  have K_w := blk_keep K_w hv (Array.getElem?_eq_some_iff.1 K_w).1
  have K_x := blk_keep K_x hv (Array.getElem?_eq_some_iff.1 K_x).1
  have K_g := blk_keep K_g hv (Array.getElem?_eq_some_iff.1 K_g).1
  have K_h := blk_keep K_h hv (Array.getElem?_eq_some_iff.1 K_h).1
  clear hv
  go_wp2
  go_ret
  exact ⟨rfl, hc⟩
end fnExactStart
end Go.Proofs.YtmnkomgdcebniaaGreat
