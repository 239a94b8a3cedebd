/- The law FnExactCompare walked: for whatever two sources the program and the model say the same, the arguments stay as they were, and the answer owns its memory. -/
import Derived.Test.YtamjofdgikifnaaGreatScm
import Derived.Test.YtamjofdgikifnaaGreatMkx
import Derived.Test.YtamjofdgikifnaaGreatOhm
import Derived.Test.YtamjofdgikifnaaGreatSyz
import Derived.Test.YtamjofdgikifnaaGreatSye
import Derived.Test.YtamjofdgikifnaaGreatEqn
set_option linter.unusedVariables false
namespace Go.Proofs.YtamjofdgikifnaaGreat
open Go.ChangeShapes Go.WideShapes Go.ChangeAt Go.RowKit
theorem Srx.flat_of {y : Srx} (h : y.bulk ≤ 1048576) : (∀ u ∈ y.defs, (flat u.prog.nodes).length ≤ 1048576) ∧ ∀ u ∈ y.convs, (flat u.prog.nodes).length ≤ 1048576 := by
 unfold Srx.bulk at h
 refine ⟨fun u hu => ?_, fun u hu => ?_⟩
 ·have h1 := bulkOf_mem Dfn.bulk hu
  have h2 := bulkN_flat u.prog.nodes
  have h3 : u.bulk = u.name.size + bulkN u.prog.nodes := rfl
  omega
 ·have h1 := bulkOf_mem Dfn.bulk hu
  have h2 := bulkN_flat u.prog.nodes
  have h3 : u.bulk = u.name.size + bulkN u.prog.nodes := rfl
  omega
theorem cnt_le {α : Type} {c f : α → Nat} (h : ∀ x, c x ≤ 6 * (1 + f x)) : ∀ l : List α, cnt c l ≤ 6 * bulkOf f l
 | [] => by simp [cnt, bulkOf]
 | x :: t => by
  have h1 := cnt_le h t
  have h2 := h x
  have h3 : cnt c (x :: t) = c x + cnt c t := by simp [cnt]
  have h4 : bulkOf f (x :: t) = 1 + f x + bulkOf f t := rfl
  omega
theorem cntSN : ∀ l : List ByteArray, cnt c_string l ≤ 6 * bulkSN l
 | [] => by simp [cnt, bulkSN]
 | x :: t => by
  have h1 := cntSN t
  have h3 : cnt c_string (x :: t) = 1 + cnt c_string t := by simp [cnt, c_string]
  have h4 : bulkSN (x :: t) = 1 + x.size + bulkSN t := rfl
  omega
theorem cntI : ∀ l : List Int, cnt c_int l = l.length
 | [] => rfl
 | x :: t => by
  have h1 := cntI t
  have h3 : cnt c_int (x :: t) = 1 + cnt c_int t := by simp [cnt, c_int]
  simp only [List.length_cons]
  omega
theorem cntN : ∀ l : List Nod, cnt c_Node l ≤ 6 * bulkN l
 | [] => by simp [cnt, bulkN]
 | x :: t => by
  have h1 := cntN t
  have h3 : cnt c_Node (x :: t) = c_Node x + cnt c_Node t := by simp [cnt]
  have h4 : bulkN (x :: t) = 1 + x.bulk + bulkN t := rfl
  have h5 : c_Node x = 3 + cnt c_string x.names + cnt c_int x.args := rfl
  have h6 := cntSN x.names
  have h7 := cntI x.args
  have h8 : x.bulk = x.s.size + bulkSN x.names + x.args.length := rfl
  omega
theorem cSrcE_le (x : Srx) : c_SrcE x ≤ 6 * x.bulk := by
 have hS : ∀ l, cnt c_string l ≤ 6 * bulkS l := fun l => cnt_le (fun x => by show 1 ≤ _; omega) l
 have hT : ∀ l, cnt c_Type l ≤ 6 * bulkOf Typ.bulk l := fun l => cnt_le (fun x => by show 2 ≤ _; omega) l
 have hD : ∀ l, cnt c_Def l ≤ 6 * bulkOf Dfn.bulk l := fun l => cnt_le (fun x => by
  have h1 : c_Def x = 2 + cnt c_Node x.prog.nodes := rfl
  have h2 := cntN x.prog.nodes
  have h3 : x.bulk = x.name.size + bulkN x.prog.nodes := rfl
  omega) l
 have h1 : c_SrcE x = cnt c_string x.imps + cnt c_string x.exps + cnt c_Type x.types + cnt c_Def x.defs + cnt c_Def x.convs := rfl
 have h2 := hS x.imps
 have h3 := hS x.exps
 have h4 := hT x.types
 have h5 := hD x.defs
 have h6 := hD x.convs
 have h7 : x.bulk = x.name.size + (bulkS x.imps + (bulkS x.exps + (bulkOf Typ.bulk x.types + (bulkOf Dfn.bulk x.defs + (bulkOf Dfn.bulk x.convs))))) := rfl
 omega
theorem ok_many {x : Srx} (h : x.ok = true) : x.exps.length ≤ 30 ∧ x.types.length ≤ 8 := by
 unfold Srx.ok at h
 cases hm : x.many
 ·unfold Srx.many at hm
  simp only [Bool.or_eq_false_iff, decide_eq_false_iff_not] at hm
  omega
 ·rw [hm] at h
  simp at h
theorem cmpL_len (x y : Srx) : (cmpL x y).length ≤ 100 := by
 rw [cmpL_eq]
 cases hx : x.ok
 ·simp
 ·cases hy : y.ok
  ·simp
  ·simp only [Bool.and_true, if_true]
   unfold cmpM
   have h1 := nin_len x.exps y.exps
   have h2 := nin_len y.exps x.exps
   have h3 := rsq_len y.types x.types
   unfold rsq at h3
   have e1 := ok_many hx
   have e2 := ok_many hy
   simp only [List.length_append, List.length_map] at h3 ⊢
   omega
theorem bel_undr {W w' : World} (h : Below W.drew.heap.size W.drew w') : Below W.heap.size W w' := ⟨h.os, h.tape, h.output, h.size, h.block⟩
def MadX (x : Srx) (W : World) (e : Ending) (w' : World) : Prop := ∃ r1 r2 r3 r4 r5 kr1 kr2 kr3 kr4 kr5, e = .returned (.agg #[.string x.name, .slice r1 x.imps.length kr1, .slice r2 x.exps.length kr2, .slice r3 x.types.length kr3, .slice r4 x.defs.length kr4, .slice r5 x.convs.length kr5]) ∧ SrxRows w' (fun b => W.heap.size ≤ b ∧ b < w'.heap.size ∧ Unf w' b) r1 r2 r3 r4 r5 kr1 kr2 kr3 kr4 kr5 x ∧ Below W.heap.size W w'
theorem madX_of {x : Srx} {W w' : World} {e : Ending} (h : MadeEU rgX x W e w') : MadX x W e w' := by
 obtain ⟨cs, rfl, ⟨r1, r2, r3, r4, r5, kr1, kr2, kr3, kr4, kr5, rfl, hr⟩, hb⟩ := h
 exact ⟨r1, r2, r3, r4, r5, kr1, kr2, kr3, kr4, kr5, rfl, hr, hb⟩
theorem madX_undr {x : Srx} {W w' : World} {e : Ending} (h : MadX x W.drew e w') : MadX x W e w' := by
 obtain ⟨r1, r2, r3, r4, r5, kr1, kr2, kr3, kr4, kr5, rfl, hr, hb⟩ := h
 exact ⟨r1, r2, r3, r4, r5, kr1, kr2, kr3, kr4, kr5, rfl, hr, bel_undr hb⟩
namespace fnExactCompare
set_option maxRecDepth 100000 in
set_option maxHeartbeats 4000000 in
theorem walk (x y : Srx) (a1 a2 a3 a4 a5 b1 b2 b3 b4 b5 : Option Addr) (ka1 ka2 ka3 ka4 ka5 kb1 kb2 kb3 kb4 kb5 : Nat) (w : World) (hwx : x.wf) (hwy : y.wf) (hr : SrxRows w (fun b => b < w.heap.size) a1 a2 a3 a4 a5 ka1 ka2 ka3 ka4 ka5 x) (hq : SrxRows w (fun b => b < w.heap.size) b1 b2 b3 b4 b5 kb1 kb2 kb3 kb4 kb5 y) :
  Calls Tryz.prog 4 #[.agg #[.string x.name, .slice a1 x.imps.length ka1, .slice a2 x.exps.length ka2, .slice a3 x.types.length ka3, .slice a4 x.defs.length ka4, .slice a5 x.convs.length ka5], .agg #[.string y.name, .slice b1 y.imps.length kb1, .slice b2 y.exps.length kb2, .slice b3 y.types.length kb3, .slice b4 y.defs.length kb4, .slice b5 y.convs.length kb5]] w fun e w' => Ans w (.bool true) e w' := by
 have HR : Hid (SrxRows w (fun b => b < w.heap.size) a1 a2 a3 a4 a5 ka1 ka2 ka3 ka4 ka5 x) := hr
 have HQ : Hid (SrxRows w (fun b => b < w.heap.size) b1 b2 b3 b4 b5 kb1 kb2 kb3 kb4 kb5 y) := hq
 have nowx : Hid (∀ w2, Below w.heap.size w w2 → SrxRows w2 (fun b => b < w2.heap.size) a1 a2 a3 a4 a5 ka1 ka2 ka3 ka4 ka5 x) := fun w2 h2 => HR.out.keep fun b hb => ⟨Nat.lt_of_lt_of_le hb h2.size, h2.block b hb⟩
 have nowy : Hid (∀ w2, Below w.heap.size w w2 → SrxRows w2 (fun b => b < w2.heap.size) b1 b2 b3 b4 b5 kb1 kb2 kb3 kb4 kb5 y) := fun w2 h2 => HQ.out.keep fun b hb => ⟨Nat.lt_of_lt_of_le hb h2.size, h2.block b hb⟩
 have HZ1 : Hid (∀ w1, Below w.heap.size w w1 → Calls Tryz.prog 5 #[.agg #[.string x.name, .slice a1 x.imps.length ka1, .slice a2 x.exps.length ka2, .slice a3 x.types.length ka3, .slice a4 x.defs.length ka4, .slice a5 x.convs.length ka5], .int .i64 1048576] w1 fun e w' => Ans w1 (.int .i64 (leftOf 1048576 x.bulk)) e w') := fun w1 h => szE_Src x a1 a2 a3 a4 a5 ka1 ka2 ka3 ka4 ka5 1048576 w1 (by omega) hwx (nowx.out w1 h)
 have HZ2 : Hid (∀ (q : Nat) w1, q ≤ 1048576 → Below w.heap.size w w1 → Calls Tryz.prog 5 #[.agg #[.string y.name, .slice b1 y.imps.length kb1, .slice b2 y.exps.length kb2, .slice b3 y.types.length kb3, .slice b4 y.defs.length kb4, .slice b5 y.convs.length kb5], .int .i64 q] w1 fun e w' => Ans w1 (.int .i64 (leftOf q y.bulk)) e w') := fun q w1 hq h => szE_Src y b1 b2 b3 b4 b5 kb1 kb2 kb3 kb4 kb5 q w1 hq hwy (nowy.out w1 h)
 obtain ⟨w0, hw0⟩ : ∃ w0, w0 = (w.alloc (Obj.cells #[.string x.name, .slice a1 x.imps.length ka1, .slice a2 x.exps.length ka2, .slice a3 x.types.length ka3, .slice a4 x.defs.length ka4, .slice a5 x.convs.length ka5] 26)).alloc (Obj.cells #[.string y.name, .slice b1 y.imps.length kb1, .slice b2 y.exps.length kb2, .slice b3 y.types.length kb3, .slice b4 y.defs.length kb4, .slice b5 y.convs.length kb5] 26) := ⟨_, rfl⟩
 have HW : Hid (w0 = _) := hw0
 have HBw0 : Hid (Below w.heap.size w w0) := by show Below _ _ _; rw [hw0]; exact ((Below.refl _ _).alloc (Nat.le_refl _) _).alloc (by simp) _
 have KAw0 : Hid (w0.heap[w.heap.size]? = some (Obj.cells #[.string x.name, .slice a1 x.imps.length ka1, .slice a2 x.exps.length ka2, .slice a3 x.types.length ka3, .slice a4 x.defs.length ka4, .slice a5 x.convs.length ka5] 26)) := by show _ = _; rw [hw0]; exact blk_past (blk_at _ _ _ rfl)
 have KBw0 : Hid (w0.heap[w.heap.size + 1]? = some (Obj.cells #[.string y.name, .slice b1 y.imps.length kb1, .slice b2 y.exps.length kb2, .slice b3 y.types.length kb3, .slice b4 y.defs.length kb4, .slice b5 y.convs.length kb5] 26)) := by show _ = _; rw [hw0]; exact blk_at _ _ _ (by simp)
 have HSZ : Hid (w.heap.size + 2 ≤ w0.heap.size) := (Array.getElem?_eq_some_iff.1 KBw0.out).1
 clear hr hq hw0
 have p0 := cell_blk (j := 0) KAw0.out rfl
 have p1 := cell_blk (j := 1) KAw0.out rfl
 have p2 := cell_blk (j := 2) KAw0.out rfl
 have p3 := cell_blk (j := 3) KAw0.out rfl
 have p4 := cell_blk (j := 4) KAw0.out rfl
 have p5 := cell_blk (j := 5) KAw0.out rfl
 rw [HW.out] at p0
 rw [HW.out] at p1
 rw [HW.out] at p2
 rw [HW.out] at p3
 rw [HW.out] at p4
 rw [HW.out] at p5
 by_cases hbx : 1048576 < x.bulk
 ·rw [leftOf_neg hbx] at HZ1
  clear HZ2 hwx hwy
  go_enter Tryz.func4, Tryz.ntmps4
  go_wp2_with fail
  rw [← HW.out]
  refine (HZ1.out _ HBw0.out).mono ?_
  rintro e w1 ⟨rfl, hb1⟩
  have HB1 : Hid (Below w.heap.size w w1) := HBw0.out.trans (hb1.mono HBw0.out.size)
  clear hb1 p0 p1 p2 p3 p4 p5
  go_wp2
  go_ret
  exact ⟨rfl, HB1.out⟩
 ·have hbx' : x.bulk ≤ 1048576 := by omega
  have hsx := Srx.small_of hwx hbx'
  have hfx := Srx.flat_of hbx'
  rw [leftOf_nat hbx] at HZ1
  obtain ⟨q, hqq⟩ : ∃ q, q = 1048576 - x.bulk := ⟨_, rfl⟩
  have hq1 : q ≤ 1048576 := by omega
  rw [← hqq] at HZ1
  have HQQ : Hid (q = 1048576 - x.bulk) := hqq
  clear hqq
  have hqn : decide ((q : Int) < 0) = false := by simp
  go_enter Tryz.func4, Tryz.ntmps4
  go_wp2_with fail
  rw [← HW.out]
  refine (HZ1.out _ HBw0.out).mono ?_
  rintro e w1 ⟨rfl, hb1⟩
  clear p0 p1 p2 p3 p4 p5
  have hsw1 : w0.heap.size ≤ w1.heap.size := hb1.size
  have HBw1 : Hid (Below w.heap.size w w1) := HBw0.out.trans (hb1.mono HBw0.out.size)
  have KAw1 : Hid (w1.heap[w.heap.size]? = some (Obj.cells #[.string x.name, .slice a1 x.imps.length ka1, .slice a2 x.exps.length ka2, .slice a3 x.types.length ka3, .slice a4 x.defs.length ka4, .slice a5 x.convs.length ka5] 26)) := blk_keep KAw0.out hb1 (Array.getElem?_eq_some_iff.1 KAw0.out).1
  have KBw1 : Hid (w1.heap[w.heap.size + 1]? = some (Obj.cells #[.string y.name, .slice b1 y.imps.length kb1, .slice b2 y.exps.length kb2, .slice b3 y.types.length kb3, .slice b4 y.defs.length kb4, .slice b5 y.convs.length kb5] 26)) := blk_keep KBw0.out hb1 (Array.getElem?_eq_some_iff.1 KBw0.out).1
  clear KAw0 KBw0 hb1 HBw0
  have p0 := cell_blk (j := 0) KBw1.out rfl
  have p1 := cell_blk (j := 1) KBw1.out rfl
  have p2 := cell_blk (j := 2) KBw1.out rfl
  have p3 := cell_blk (j := 3) KBw1.out rfl
  have p4 := cell_blk (j := 4) KBw1.out rfl
  have p5 := cell_blk (j := 5) KBw1.out rfl
  by_cases hby : q < y.bulk
  ·have HZ2' : Hid (∀ w1, Below w.heap.size w w1 → Calls Tryz.prog 5 #[.agg #[.string y.name, .slice b1 y.imps.length kb1, .slice b2 y.exps.length kb2, .slice b3 y.types.length kb3, .slice b4 y.defs.length kb4, .slice b5 y.convs.length kb5], .int .i64 q] w1 fun e w' => Ans w1 (.int .i64 (-1)) e w') := fun w1 h => by have := HZ2.out q w1 hq1 h; rw [leftOf_neg hby] at this; exact this
   clear HZ2 hwx hwy hsx hfx
   go_wp2_with fail
   refine (HZ2'.out _ HBw1.out).mono ?_
   rintro e w2 ⟨rfl, hb2⟩
   have HB2 : Hid (Below w.heap.size w w2) := HBw1.out.trans (hb2.mono HBw1.out.size)
   clear hb2 p0 p1 p2 p3 p4 p5
   go_wp2
   go_ret
   exact ⟨rfl, HB2.out⟩
  ·have hby' : y.bulk ≤ 1048576 := by omega
   have hsy := Srx.small_of hwy hby'
   have hfy := Srx.flat_of hby'
   have HZ2' : Hid (∀ w1, Below w.heap.size w w1 → Calls Tryz.prog 5 #[.agg #[.string y.name, .slice b1 y.imps.length kb1, .slice b2 y.exps.length kb2, .slice b3 y.types.length kb3, .slice b4 y.defs.length kb4, .slice b5 y.convs.length kb5], .int .i64 q] w1 fun e w' => Ans w1 (.int .i64 ((q - y.bulk : Nat) : Int)) e w') := fun w1 h => by have := HZ2.out q w1 hq1 h; rw [leftOf_nat hby] at this; exact this
   have hkm : 1 + c_SrcE x + c_SrcE y ≤ 9000000 := by
    have h1 := cSrcE_le x
    have h2 := cSrcE_le y
    have h3 := HQQ.out
    omega
   have hLl := cmpL_len x y
   have HTX : Hid (∀ W, Below w.heap.size w W → Calls Tryz.prog 8 #[.agg #[.string x.name, .slice a1 x.imps.length ka1, .slice a2 x.exps.length ka2, .slice a3 x.types.length ka3, .slice a4 x.defs.length ka4, .slice a5 x.convs.length ka5]] W fun e w' => MadX x W e w') := fun W h => (tuE_Src x a1 a2 a3 a4 a5 ka1 ka2 ka3 ka4 ka5 W hsx (nowx.out W h)).mono fun _ _ => madX_of
   have HTY : Hid (∀ W, Below w.heap.size w W → Calls Tryz.prog 8 #[.agg #[.string y.name, .slice b1 y.imps.length kb1, .slice b2 y.exps.length kb2, .slice b3 y.types.length kb3, .slice b4 y.defs.length kb4, .slice b5 y.convs.length kb5]] W fun e w' => MadX y W e w') := fun W h => (tuE_Src y b1 b2 b3 b4 b5 kb1 kb2 kb3 kb4 kb5 W hsy (nowy.out W h)).mono fun _ _ => madX_of
   have HSP : Hid (∀ r1 r2 r3 r4 r5 kr1 kr2 kr3 kr4 kr5 s1 s2 s3 s4 s5 ks1 ks2 ks3 ks4 ks5 W, SrxRows W (fun b => b < W.heap.size) r1 r2 r3 r4 r5 kr1 kr2 kr3 kr4 kr5 x → SrxRows W (fun b => b < W.heap.size) s1 s2 s3 s4 s5 ks1 ks2 ks3 ks4 ks5 y → Calls Tryz.prog 18 #[.agg #[.string x.name, .slice r1 x.imps.length kr1, .slice r2 x.exps.length kr2, .slice r3 x.types.length kr3, .slice r4 x.defs.length kr4, .slice r5 x.convs.length kr5], .agg #[.string y.name, .slice s1 y.imps.length ks1, .slice s2 y.exps.length ks2, .slice s3 y.types.length ks3, .slice s4 y.defs.length ks4, .slice s5 y.convs.length ks5]] W fun e w' => TellP (cmpL x y) W e w') := fun r1 r2 r3 r4 r5 kr1 kr2 kr3 kr4 kr5 s1 s2 s3 s4 s5 ks1 ks2 ks3 ks4 ks5 W h1 h2 => specCmp_any x y r1 r2 r3 r4 r5 s1 s2 s3 s4 s5 kr1 kr2 kr3 kr4 kr5 ks1 ks2 ks3 ks4 ks5 W hsx hsy h1 h2 hfx.1 hfx.2 hfy.1 hfy.2
   have HIM : Hid (∀ r1 r2 r3 r4 r5 kr1 kr2 kr3 kr4 kr5 s1 s2 s3 s4 s5 ks1 ks2 ks3 ks4 ks5 W, SrxRows W (fun b => b < W.heap.size) r1 r2 r3 r4 r5 kr1 kr2 kr3 kr4 kr5 x → SrxRows W (fun b => b < W.heap.size) s1 s2 s3 s4 s5 ks1 ks2 ks3 ks4 ks5 y → Calls Tryz.prog 19 #[.agg #[.string x.name, .slice r1 x.imps.length kr1, .slice r2 x.exps.length kr2, .slice r3 x.types.length kr3, .slice r4 x.defs.length kr4, .slice r5 x.convs.length kr5], .agg #[.string y.name, .slice s1 y.imps.length ks1, .slice s2 y.exps.length ks2, .slice s3 y.types.length ks3, .slice s4 y.defs.length ks4, .slice s5 y.convs.length ks5]] W fun e w' => TellP (cmpL x y) W e w') := fun r1 r2 r3 r4 r5 kr1 kr2 kr3 kr4 kr5 s1 s2 s3 s4 s5 ks1 ks2 ks3 ks4 ks5 W h1 h2 => implCmp_any x y r1 r2 r3 r4 r5 s1 s2 s3 s4 s5 kr1 kr2 kr3 kr4 kr5 ks1 ks2 ks3 ks4 ks5 W hsx hsy h1 h2
   have HEX : Hid (∀ r1 r2 r3 r4 r5 kr1 kr2 kr3 kr4 kr5 s1 s2 s3 s4 s5 ks1 ks2 ks3 ks4 ks5 W, SrxRows W (fun b => b < W.heap.size) r1 r2 r3 r4 r5 kr1 kr2 kr3 kr4 kr5 x → SrxRows W (fun b => b < W.heap.size) s1 s2 s3 s4 s5 ks1 ks2 ks3 ks4 ks5 x → Calls Tryz.prog 12 #[.agg #[.string x.name, .slice r1 x.imps.length kr1, .slice r2 x.exps.length kr2, .slice r3 x.types.length kr3, .slice r4 x.defs.length kr4, .slice r5 x.convs.length kr5], .agg #[.string x.name, .slice s1 x.imps.length ks1, .slice s2 x.exps.length ks2, .slice s3 x.types.length ks3, .slice s4 x.defs.length ks4, .slice s5 x.convs.length ks5]] W fun e w' => Ans W (.bool true) e w') := fun r1 r2 r3 r4 r5 kr1 kr2 kr3 kr4 kr5 s1 s2 s3 s4 s5 ks1 ks2 ks3 ks4 ks5 W h1 h2 => eqE_Src x r1 r2 r3 r4 r5 kr1 kr2 kr3 kr4 kr5 s1 s2 s3 s4 s5 ks1 ks2 ks3 ks4 ks5 W hsx h1 h2
   have HEY : Hid (∀ r1 r2 r3 r4 r5 kr1 kr2 kr3 kr4 kr5 s1 s2 s3 s4 s5 ks1 ks2 ks3 ks4 ks5 W, SrxRows W (fun b => b < W.heap.size) r1 r2 r3 r4 r5 kr1 kr2 kr3 kr4 kr5 y → SrxRows W (fun b => b < W.heap.size) s1 s2 s3 s4 s5 ks1 ks2 ks3 ks4 ks5 y → Calls Tryz.prog 12 #[.agg #[.string y.name, .slice r1 y.imps.length kr1, .slice r2 y.exps.length kr2, .slice r3 y.types.length kr3, .slice r4 y.defs.length kr4, .slice r5 y.convs.length kr5], .agg #[.string y.name, .slice s1 y.imps.length ks1, .slice s2 y.exps.length ks2, .slice s3 y.types.length ks3, .slice s4 y.defs.length ks4, .slice s5 y.convs.length ks5]] W fun e w' => Ans W (.bool true) e w') := fun r1 r2 r3 r4 r5 kr1 kr2 kr3 kr4 kr5 s1 s2 s3 s4 s5 ks1 ks2 ks3 ks4 ks5 W h1 h2 => eqE_Src y r1 r2 r3 r4 r5 kr1 kr2 kr3 kr4 kr5 s1 s2 s3 s4 s5 ks1 ks2 ks3 ks4 ks5 W hsy h1 h2
   have HMX : Hid (∀ B C r1 r2 r3 r4 r5 kr1 kr2 kr3 kr4 kr5 W, SrxRows W (fun b => B ≤ b ∧ b < C ∧ Unf W b) r1 r2 r3 r4 r5 kr1 kr2 kr3 kr4 kr5 x → C ≤ W.heap.size → Calls Tryz.prog 14 #[.agg #[.string x.name, .slice r1 x.imps.length kr1, .slice r2 x.exps.length kr2, .slice r3 x.types.length kr3, .slice r4 x.defs.length kr4, .slice r5 x.convs.length kr5], .int .i64 1] W fun e w' => Mk B C W 1 (c_SrcE x) e w') := fun B C r1 r2 r3 r4 r5 kr1 kr2 kr3 kr4 kr5 W h hC => markSrc_any B C x r1 r2 r3 r4 r5 kr1 kr2 kr3 kr4 kr5 1 W hsx (fitX_of h) hC (Nat.le_refl _) (by omega)
   have HMY : Hid (∀ B C r1 r2 r3 r4 r5 kr1 kr2 kr3 kr4 kr5 W, SrxRows W (fun b => B ≤ b ∧ b < C ∧ Unf W b) r1 r2 r3 r4 r5 kr1 kr2 kr3 kr4 kr5 y → C ≤ W.heap.size → Calls Tryz.prog 14 #[.agg #[.string y.name, .slice r1 y.imps.length kr1, .slice r2 y.exps.length kr2, .slice r3 y.types.length kr3, .slice r4 y.defs.length kr4, .slice r5 y.convs.length kr5], .int .i64 ((1 + c_SrcE x : Nat) : Int)] W fun e w' => Mk B C W (1 + c_SrcE x) (c_SrcE y) e w') := fun B C r1 r2 r3 r4 r5 kr1 kr2 kr3 kr4 kr5 W h hC => markSrc_any B C y r1 r2 r3 r4 r5 kr1 kr2 kr3 kr4 kr5 (1 + c_SrcE x) W hsy (fitX_of h) hC (by omega) hkm
   obtain ⟨L, hL⟩ : ∃ L, cmpL x y = L := ⟨_, rfl⟩
   rw [hL] at HSP HIM hLl
   have HES : Hid (∀ W b b' cb cb', RowS W W.heap.size b L → RowS W W.heap.size b' L → Calls Tryz.prog 13 #[.slice b L.length cb, .slice b' L.length cb'] W fun e w' => Ans W (.bool true) e w') := fun W b b' cb cb' h1 h2 => eqStringS_same b b' L cb cb' W (by omega) h1 h2
   clear hL HZ2 hwx hwy hsx hsy hfx hfy HZ1
   generalize hq2 : q - y.bulk = q' at *
   generalize hcx : c_SrcE x = cx at *
   generalize hcy : c_SrcE y = cy at *
   clear hq2 hcx hcy HQQ hbx hbx' hby hby' hq1 HR HQ nowx nowy
   have hqn2 : decide ((q' : Int) < 0) = false := by simp
   go_wp2_with fail
   refine (HZ2'.out _ HBw1.out).mono ?_
   rintro e w2 ⟨rfl, hb2⟩
   clear p0 p1 p2 p3 p4 p5 HZ2'
   have hsw2 : w1.heap.size ≤ w2.heap.size := hb2.size
   have HBw2 : Hid (Below w.heap.size w w2) := HBw1.out.trans (hb2.mono HBw1.out.size)
   have KAw2 : Hid (w2.heap[w.heap.size]? = some (Obj.cells #[.string x.name, .slice a1 x.imps.length ka1, .slice a2 x.exps.length ka2, .slice a3 x.types.length ka3, .slice a4 x.defs.length ka4, .slice a5 x.convs.length ka5] 26)) := blk_keep KAw1.out hb2 (Array.getElem?_eq_some_iff.1 KAw1.out).1
   have KBw2 : Hid (w2.heap[w.heap.size + 1]? = some (Obj.cells #[.string y.name, .slice b1 y.imps.length kb1, .slice b2 y.exps.length kb2, .slice b3 y.types.length kb3, .slice b4 y.defs.length kb4, .slice b5 y.convs.length kb5] 26)) := blk_keep KBw1.out hb2 (Array.getElem?_eq_some_iff.1 KBw1.out).1
   clear KAw1 KBw1 hb2 HBw1
   have HX : Hid (∀ W, Below w2.heap.size w2 W → W.cell? ⟨w.heap.size, 0, none⟩ = some (.string x.name) ∧ W.cell? ⟨w.heap.size, 1, none⟩ = some (.slice a1 x.imps.length ka1) ∧ W.cell? ⟨w.heap.size, 2, none⟩ = some (.slice a2 x.exps.length ka2) ∧ W.cell? ⟨w.heap.size, 3, none⟩ = some (.slice a3 x.types.length ka3) ∧ W.cell? ⟨w.heap.size, 4, none⟩ = some (.slice a4 x.defs.length ka4) ∧ W.cell? ⟨w.heap.size, 5, none⟩ = some (.slice a5 x.convs.length ka5) ∧ W.cell? ⟨w.heap.size + 1, 0, none⟩ = some (.string y.name) ∧ W.cell? ⟨w.heap.size + 1, 1, none⟩ = some (.slice b1 y.imps.length kb1) ∧ W.cell? ⟨w.heap.size + 1, 2, none⟩ = some (.slice b2 y.exps.length kb2) ∧ W.cell? ⟨w.heap.size + 1, 3, none⟩ = some (.slice b3 y.types.length kb3) ∧ W.cell? ⟨w.heap.size + 1, 4, none⟩ = some (.slice b4 y.defs.length kb4) ∧ W.cell? ⟨w.heap.size + 1, 5, none⟩ = some (.slice b5 y.convs.length kb5)) := fun W hb => ⟨cell_blk (j := 0) (blk_keep KAw2.out hb (Array.getElem?_eq_some_iff.1 KAw2.out).1) rfl, cell_blk (j := 1) (blk_keep KAw2.out hb (Array.getElem?_eq_some_iff.1 KAw2.out).1) rfl, cell_blk (j := 2) (blk_keep KAw2.out hb (Array.getElem?_eq_some_iff.1 KAw2.out).1) rfl, cell_blk (j := 3) (blk_keep KAw2.out hb (Array.getElem?_eq_some_iff.1 KAw2.out).1) rfl, cell_blk (j := 4) (blk_keep KAw2.out hb (Array.getElem?_eq_some_iff.1 KAw2.out).1) rfl, cell_blk (j := 5) (blk_keep KAw2.out hb (Array.getElem?_eq_some_iff.1 KAw2.out).1) rfl, cell_blk (j := 0) (blk_keep KBw2.out hb (Array.getElem?_eq_some_iff.1 KBw2.out).1) rfl, cell_blk (j := 1) (blk_keep KBw2.out hb (Array.getElem?_eq_some_iff.1 KBw2.out).1) rfl, cell_blk (j := 2) (blk_keep KBw2.out hb (Array.getElem?_eq_some_iff.1 KBw2.out).1) rfl, cell_blk (j := 3) (blk_keep KBw2.out hb (Array.getElem?_eq_some_iff.1 KBw2.out).1) rfl, cell_blk (j := 4) (blk_keep KBw2.out hb (Array.getElem?_eq_some_iff.1 KBw2.out).1) rfl, cell_blk (j := 5) (blk_keep KBw2.out hb (Array.getElem?_eq_some_iff.1 KBw2.out).1) rfl⟩
   obtain ⟨z0, z1, z2, z3, z4, z5, z6, z7, z8, z9, z10, z11⟩ := HX.out _ (Below.refl _ _)
   go_wp2_with fail
   go_region_held3 (fun W => W.cell? ⟨w.heap.size, 0, none⟩ = some (.string x.name) ∧ W.cell? ⟨w.heap.size, 1, none⟩ = some (.slice a1 x.imps.length ka1) ∧ W.cell? ⟨w.heap.size, 2, none⟩ = some (.slice a2 x.exps.length ka2) ∧ W.cell? ⟨w.heap.size, 3, none⟩ = some (.slice a3 x.types.length ka3) ∧ W.cell? ⟨w.heap.size, 4, none⟩ = some (.slice a4 x.defs.length ka4) ∧ W.cell? ⟨w.heap.size, 5, none⟩ = some (.slice a5 x.convs.length ka5) ∧ W.cell? ⟨w.heap.size + 1, 0, none⟩ = some (.string y.name) ∧ W.cell? ⟨w.heap.size + 1, 1, none⟩ = some (.slice b1 y.imps.length kb1) ∧ W.cell? ⟨w.heap.size + 1, 2, none⟩ = some (.slice b2 y.exps.length kb2) ∧ W.cell? ⟨w.heap.size + 1, 3, none⟩ = some (.slice b3 y.types.length kb3) ∧ W.cell? ⟨w.heap.size + 1, 4, none⟩ = some (.slice b4 y.defs.length kb4) ∧ W.cell? ⟨w.heap.size + 1, 5, none⟩ = some (.slice b5 y.convs.length kb5))
    (first | exact HX.out _ (by assumption) | exact HX.out _ (Below.refl _ _) | exact HX.out _ (below_drewN (Below.refl _ _) 1))
    (first
    | (go_at_call_of 8 (Value.slice a1 x.imps.length ka1); refine Calls.mono (HTX.out _ ?_) ?_; (focus (first | exact HBw2.out | exact below_drewN HBw2.out 1)); intro e w3 hh; obtain ⟨p1, p2, p3, p4, p5, kp1, kp2, kp3, kp4, kp5, rfl, hrr1, hbw3⟩ := (show MadX x w2 e w3 by first | exact hh | exact madX_undr hh); have hbBw3 := HBw2.out.trans (hbw3.mono HBw2.out.size))
    | (go_at_call_of 8 (Value.slice b1 y.imps.length kb1); refine Calls.mono (HTY.out _ hbBw3) ?_; rintro e w4 ⟨q1, q2, q3, q4, q5, kq1, kq2, kq3, kq4, kq5, rfl, hrr2, hbw4⟩; have hcw4 : Below w2.heap.size w2 w4 := hbw3.trans (hbw4.mono hbw3.size))
    | (go_at_call 18; refine Calls.mono (HSP.out _ _ _ _ _ _ _ _ _ _ _ _ _ _ _ _ _ _ _ _ _ (hrr1.keep fun b h => ⟨Nat.lt_of_lt_of_le h.2.1 hbw4.size, hbw4.block b h.2.1⟩) (hrr2.keep fun b h => ⟨h.2.1, rfl⟩)) ?_; rintro e w5 ⟨vw5, rfl, how5, hbw5⟩; have hcw5 : Below w2.heap.size w2 w5 := hcw4.trans (hbw5.mono hcw4.size)))
   obtain ⟨ow5, kw5, rfl, _⟩ := how5.slice
   have hs2w5 : w2.heap.size ≤ w4.heap.size := hcw4.size
   clear hrr1 hrr2 hbw3 hbw4 hbw5 hcw4 hbBw3 HX z0 z1 z2 z3 z4 z5 z6 z7 z8 z9 z10 z11
   have hsw5 : w2.heap.size ≤ w5.heap.size := hcw5.size
   have HBw5 : Hid (Below w.heap.size w w5) := HBw2.out.trans (hcw5.mono HBw2.out.size)
   have KAw5 : Hid (w5.heap[w.heap.size]? = some (Obj.cells #[.string x.name, .slice a1 x.imps.length ka1, .slice a2 x.exps.length ka2, .slice a3 x.types.length ka3, .slice a4 x.defs.length ka4, .slice a5 x.convs.length ka5] 26)) := blk_keep KAw2.out hcw5 (Array.getElem?_eq_some_iff.1 KAw2.out).1
   have KBw5 : Hid (w5.heap[w.heap.size + 1]? = some (Obj.cells #[.string y.name, .slice b1 y.imps.length kb1, .slice b2 y.exps.length kb2, .slice b3 y.types.length kb3, .slice b4 y.defs.length kb4, .slice b5 y.convs.length kb5] 26)) := blk_keep KBw2.out hcw5 (Array.getElem?_eq_some_iff.1 KBw2.out).1
   clear KAw2 KBw2 hcw5 HBw2
   have OSw5 : Hid (OwnS w5 w4.heap.size (.slice ow5 L.length kw5) L) := how5
   have OSB : Hid (∀ b, (Value.slice ow5 L.length kw5).ownBlock = some b → b < w5.heap.size) := fun b h => (how5.blk h).2.1
   clear how5
   have z0 := cell_blk (j := 0) KAw5.out rfl
   have z1 := cell_blk (j := 1) KAw5.out rfl
   have z2 := cell_blk (j := 2) KAw5.out rfl
   have z3 := cell_blk (j := 3) KAw5.out rfl
   have z4 := cell_blk (j := 4) KAw5.out rfl
   have z5 := cell_blk (j := 5) KAw5.out rfl
   go_wp2_with fail
   refine (HTX.out _ HBw5.out).mono ?_
   rintro e w6 ⟨r1, r2, r3, r4, r5, kr1, kr2, kr3, kr4, kr5, rfl, hrr, hbw6⟩
   clear z0 z1 z2 z3 z4 z5
   have hsw6 : w5.heap.size ≤ w6.heap.size := hbw6.size
   have HBw6 : Hid (Below w.heap.size w w6) := HBw5.out.trans (hbw6.mono HBw5.out.size)
   have KAw6 : Hid (w6.heap[w.heap.size]? = some (Obj.cells #[.string x.name, .slice a1 x.imps.length ka1, .slice a2 x.exps.length ka2, .slice a3 x.types.length ka3, .slice a4 x.defs.length ka4, .slice a5 x.convs.length ka5] 26)) := blk_keep KAw5.out hbw6 (Array.getElem?_eq_some_iff.1 KAw5.out).1
   have KBw6 : Hid (w6.heap[w.heap.size + 1]? = some (Obj.cells #[.string y.name, .slice b1 y.imps.length kb1, .slice b2 y.exps.length kb2, .slice b3 y.types.length kb3, .slice b4 y.defs.length kb4, .slice b5 y.convs.length kb5] 26)) := blk_keep KBw5.out hbw6 (Array.getElem?_eq_some_iff.1 KBw5.out).1
   have OSw6 : Hid (OwnS w6 w4.heap.size (.slice ow5 L.length kw5) L) := OSw5.out.keep fun b h => hbw6.block b (OSw5.out.blk h).2.1
   clear KAw5 KBw5 OSw5 hbw6 HBw5
   have RXw6 : Hid (SrxRows w6 (fun b => w5.heap.size ≤ b ∧ b < w6.heap.size ∧ Unf w6 b) r1 r2 r3 r4 r5 kr1 kr2 kr3 kr4 kr5 x) := hrr
   clear hrr
   obtain ⟨w7, hw7⟩ : ∃ w7, w7 = w6.alloc (Obj.cells #[.string x.name, .slice r1 x.imps.length kr1, .slice r2 x.exps.length kr2, .slice r3 x.types.length kr3, .slice r4 x.defs.length kr4, .slice r5 x.convs.length kr5] 34) := ⟨_, rfl⟩
   have HW7 : Hid (w7 = _) := hw7
   have hbw7 : Below w6.heap.size w6 w7 := by rw [hw7]; exact (Below.refl _ _).alloc (Nat.le_refl _) _
   have KXw7 : Hid (w7.heap[w6.heap.size]? = some (Obj.cells #[.string x.name, .slice r1 x.imps.length kr1, .slice r2 x.exps.length kr2, .slice r3 x.types.length kr3, .slice r4 x.defs.length kr4, .slice r5 x.convs.length kr5] 34)) := by show _ = _; rw [hw7]; exact blk_at _ _ _ rfl
   clear hw7
   have hsw7 : w6.heap.size ≤ w7.heap.size := hbw7.size
   have HBw7 : Hid (Below w.heap.size w w7) := HBw6.out.trans (hbw7.mono HBw6.out.size)
   have KAw7 : Hid (w7.heap[w.heap.size]? = some (Obj.cells #[.string x.name, .slice a1 x.imps.length ka1, .slice a2 x.exps.length ka2, .slice a3 x.types.length ka3, .slice a4 x.defs.length ka4, .slice a5 x.convs.length ka5] 26)) := blk_keep KAw6.out hbw7 (Array.getElem?_eq_some_iff.1 KAw6.out).1
   have KBw7 : Hid (w7.heap[w.heap.size + 1]? = some (Obj.cells #[.string y.name, .slice b1 y.imps.length kb1, .slice b2 y.exps.length kb2, .slice b3 y.types.length kb3, .slice b4 y.defs.length kb4, .slice b5 y.convs.length kb5] 26)) := blk_keep KBw6.out hbw7 (Array.getElem?_eq_some_iff.1 KBw6.out).1
   have OSw7 : Hid (OwnS w7 w4.heap.size (.slice ow5 L.length kw5) L) := OSw6.out.keep fun b h => hbw7.block b (OSw6.out.blk h).2.1
   have RXw7 : Hid (SrxRows w7 (fun b => w5.heap.size ≤ b ∧ b < w6.heap.size ∧ Unf w7 b) r1 r2 r3 r4 r5 kr1 kr2 kr3 kr4 kr5 x) := RXw6.out.keep fun b h => ⟨⟨h.1, h.2.1, h.2.2.keep (hbw7.block b (by have := h.2.1; omega))⟩, hbw7.block b (by have := h.2.1; omega)⟩
   clear KAw6 KBw6 OSw6 RXw6 hbw7 HBw6
   have hs67 : w6.heap.size < w7.heap.size := (Array.getElem?_eq_some_iff.1 KXw7.out).1
   have z0 := cell_blk (j := 0) KBw7.out rfl
   have z1 := cell_blk (j := 1) KBw7.out rfl
   have z2 := cell_blk (j := 2) KBw7.out rfl
   have z3 := cell_blk (j := 3) KBw7.out rfl
   have z4 := cell_blk (j := 4) KBw7.out rfl
   have z5 := cell_blk (j := 5) KBw7.out rfl
   rw [HW7.out] at z0
   rw [HW7.out] at z1
   rw [HW7.out] at z2
   rw [HW7.out] at z3
   rw [HW7.out] at z4
   rw [HW7.out] at z5
   go_wp2_with fail
   rw [← HW7.out]
   clear HW7
   refine (HTY.out _ HBw7.out).mono ?_
   rintro e w8 ⟨s1, s2, s3, s4, s5, ks1, ks2, ks3, ks4, ks5, rfl, hrr, hbw8⟩
   clear z0 z1 z2 z3 z4 z5
   have hsw8 : w7.heap.size ≤ w8.heap.size := hbw8.size
   have HBw8 : Hid (Below w.heap.size w w8) := HBw7.out.trans (hbw8.mono HBw7.out.size)
   have KAw8 : Hid (w8.heap[w.heap.size]? = some (Obj.cells #[.string x.name, .slice a1 x.imps.length ka1, .slice a2 x.exps.length ka2, .slice a3 x.types.length ka3, .slice a4 x.defs.length ka4, .slice a5 x.convs.length ka5] 26)) := blk_keep KAw7.out hbw8 (Array.getElem?_eq_some_iff.1 KAw7.out).1
   have KBw8 : Hid (w8.heap[w.heap.size + 1]? = some (Obj.cells #[.string y.name, .slice b1 y.imps.length kb1, .slice b2 y.exps.length kb2, .slice b3 y.types.length kb3, .slice b4 y.defs.length kb4, .slice b5 y.convs.length kb5] 26)) := blk_keep KBw7.out hbw8 (Array.getElem?_eq_some_iff.1 KBw7.out).1
   have OSw8 : Hid (OwnS w8 w4.heap.size (.slice ow5 L.length kw5) L) := OSw7.out.keep fun b h => hbw8.block b (OSw7.out.blk h).2.1
   have RXw8 : Hid (SrxRows w8 (fun b => w5.heap.size ≤ b ∧ b < w6.heap.size ∧ Unf w8 b) r1 r2 r3 r4 r5 kr1 kr2 kr3 kr4 kr5 x) := RXw7.out.keep fun b h => ⟨⟨h.1, h.2.1, h.2.2.keep (hbw8.block b (by have := h.2.1; omega))⟩, hbw8.block b (by have := h.2.1; omega)⟩
   have KXw8 : Hid (w8.heap[w6.heap.size]? = some (Obj.cells #[.string x.name, .slice r1 x.imps.length kr1, .slice r2 x.exps.length kr2, .slice r3 x.types.length kr3, .slice r4 x.defs.length kr4, .slice r5 x.convs.length kr5] 34)) := blk_keep KXw7.out hbw8 (Array.getElem?_eq_some_iff.1 KXw7.out).1
   clear KAw7 KBw7 OSw7 RXw7 KXw7 hbw8 HBw7
   have RYw8 : Hid (SrxRows w8 (fun b => w7.heap.size ≤ b ∧ b < w8.heap.size ∧ Unf w8 b) s1 s2 s3 s4 s5 ks1 ks2 ks3 ks4 ks5 y) := hrr
   clear hrr
   obtain ⟨w9, hw9⟩ : ∃ w9, w9 = w8.alloc (Obj.cells #[.string y.name, .slice s1 y.imps.length ks1, .slice s2 y.exps.length ks2, .slice s3 y.types.length ks3, .slice s4 y.defs.length ks4, .slice s5 y.convs.length ks5] 34) := ⟨_, rfl⟩
   have HW9 : Hid (w9 = _) := hw9
   have hbw9 : Below w8.heap.size w8 w9 := by rw [hw9]; exact (Below.refl _ _).alloc (Nat.le_refl _) _
   have KYw9 : Hid (w9.heap[w8.heap.size]? = some (Obj.cells #[.string y.name, .slice s1 y.imps.length ks1, .slice s2 y.exps.length ks2, .slice s3 y.types.length ks3, .slice s4 y.defs.length ks4, .slice s5 y.convs.length ks5] 34)) := by show _ = _; rw [hw9]; exact blk_at _ _ _ rfl
   clear hw9
   have hsw9 : w8.heap.size ≤ w9.heap.size := hbw9.size
   have HBw9 : Hid (Below w.heap.size w w9) := HBw8.out.trans (hbw9.mono HBw8.out.size)
   have KAw9 : Hid (w9.heap[w.heap.size]? = some (Obj.cells #[.string x.name, .slice a1 x.imps.length ka1, .slice a2 x.exps.length ka2, .slice a3 x.types.length ka3, .slice a4 x.defs.length ka4, .slice a5 x.convs.length ka5] 26)) := blk_keep KAw8.out hbw9 (Array.getElem?_eq_some_iff.1 KAw8.out).1
   have KBw9 : Hid (w9.heap[w.heap.size + 1]? = some (Obj.cells #[.string y.name, .slice b1 y.imps.length kb1, .slice b2 y.exps.length kb2, .slice b3 y.types.length kb3, .slice b4 y.defs.length kb4, .slice b5 y.convs.length kb5] 26)) := blk_keep KBw8.out hbw9 (Array.getElem?_eq_some_iff.1 KBw8.out).1
   have OSw9 : Hid (OwnS w9 w4.heap.size (.slice ow5 L.length kw5) L) := OSw8.out.keep fun b h => hbw9.block b (OSw8.out.blk h).2.1
   have RXw9 : Hid (SrxRows w9 (fun b => w5.heap.size ≤ b ∧ b < w6.heap.size ∧ Unf w9 b) r1 r2 r3 r4 r5 kr1 kr2 kr3 kr4 kr5 x) := RXw8.out.keep fun b h => ⟨⟨h.1, h.2.1, h.2.2.keep (hbw9.block b (by have := h.2.1; omega))⟩, hbw9.block b (by have := h.2.1; omega)⟩
   have KXw9 : Hid (w9.heap[w6.heap.size]? = some (Obj.cells #[.string x.name, .slice r1 x.imps.length kr1, .slice r2 x.exps.length kr2, .slice r3 x.types.length kr3, .slice r4 x.defs.length kr4, .slice r5 x.convs.length kr5] 34)) := blk_keep KXw8.out hbw9 (Array.getElem?_eq_some_iff.1 KXw8.out).1
   have RYw9 : Hid (SrxRows w9 (fun b => w7.heap.size ≤ b ∧ b < w8.heap.size ∧ Unf w9 b) s1 s2 s3 s4 s5 ks1 ks2 ks3 ks4 ks5 y) := RYw8.out.keep fun b h => ⟨⟨h.1, h.2.1, h.2.2.keep (hbw9.block b (by have := h.2.1; omega))⟩, hbw9.block b (by have := h.2.1; omega)⟩
   clear KAw8 KBw8 OSw8 RXw8 KXw8 RYw8 hbw9 HBw8
   have hs89 : w8.heap.size < w9.heap.size := (Array.getElem?_eq_some_iff.1 KYw9.out).1
   have z0 := cell_blk (j := 0) KXw9.out rfl
   have z1 := cell_blk (j := 1) KXw9.out rfl
   have z2 := cell_blk (j := 2) KXw9.out rfl
   have z3 := cell_blk (j := 3) KXw9.out rfl
   have z4 := cell_blk (j := 4) KXw9.out rfl
   have z5 := cell_blk (j := 5) KXw9.out rfl
   have t0 := cell_blk (j := 0) KYw9.out rfl
   have t1 := cell_blk (j := 1) KYw9.out rfl
   have t2 := cell_blk (j := 2) KYw9.out rfl
   have t3 := cell_blk (j := 3) KYw9.out rfl
   have t4 := cell_blk (j := 4) KYw9.out rfl
   have t5 := cell_blk (j := 5) KYw9.out rfl
   rw [HW9.out] at z0 t0
   rw [HW9.out] at z1 t1
   rw [HW9.out] at z2 t2
   rw [HW9.out] at z3 t3
   rw [HW9.out] at z4 t4
   rw [HW9.out] at z5 t5
   go_wp2_with fail
   rw [← HW9.out]
   clear HW9
   refine (HIM.out _ _ _ _ _ _ _ _ _ _ _ _ _ _ _ _ _ _ _ _ _ (RXw9.out.keep fun b h => ⟨by have := h.2.1; omega, rfl⟩) (RYw9.out.keep fun b h => ⟨by have := h.2.1; omega, rfl⟩)).mono ?_
   rintro e w10 ⟨v10, rfl, how10, hbw10⟩
   obtain ⟨og, kg, rfl, _⟩ := how10.slice
   clear z0 z1 z2 z3 z4 z5
   clear t0 t1 t2 t3 t4 t5
   have hsw10 : w9.heap.size ≤ w10.heap.size := hbw10.size
   have HBw10 : Hid (Below w.heap.size w w10) := HBw9.out.trans (hbw10.mono HBw9.out.size)
   have KAw10 : Hid (w10.heap[w.heap.size]? = some (Obj.cells #[.string x.name, .slice a1 x.imps.length ka1, .slice a2 x.exps.length ka2, .slice a3 x.types.length ka3, .slice a4 x.defs.length ka4, .slice a5 x.convs.length ka5] 26)) := blk_keep KAw9.out hbw10 (Array.getElem?_eq_some_iff.1 KAw9.out).1
   have KBw10 : Hid (w10.heap[w.heap.size + 1]? = some (Obj.cells #[.string y.name, .slice b1 y.imps.length kb1, .slice b2 y.exps.length kb2, .slice b3 y.types.length kb3, .slice b4 y.defs.length kb4, .slice b5 y.convs.length kb5] 26)) := blk_keep KBw9.out hbw10 (Array.getElem?_eq_some_iff.1 KBw9.out).1
   have OSw10 : Hid (OwnS w10 w4.heap.size (.slice ow5 L.length kw5) L) := OSw9.out.keep fun b h => hbw10.block b (OSw9.out.blk h).2.1
   have RXw10 : Hid (SrxRows w10 (fun b => w5.heap.size ≤ b ∧ b < w6.heap.size ∧ Unf w10 b) r1 r2 r3 r4 r5 kr1 kr2 kr3 kr4 kr5 x) := RXw9.out.keep fun b h => ⟨⟨h.1, h.2.1, h.2.2.keep (hbw10.block b (by have := h.2.1; omega))⟩, hbw10.block b (by have := h.2.1; omega)⟩
   have KXw10 : Hid (w10.heap[w6.heap.size]? = some (Obj.cells #[.string x.name, .slice r1 x.imps.length kr1, .slice r2 x.exps.length kr2, .slice r3 x.types.length kr3, .slice r4 x.defs.length kr4, .slice r5 x.convs.length kr5] 34)) := blk_keep KXw9.out hbw10 (Array.getElem?_eq_some_iff.1 KXw9.out).1
   have RYw10 : Hid (SrxRows w10 (fun b => w7.heap.size ≤ b ∧ b < w8.heap.size ∧ Unf w10 b) s1 s2 s3 s4 s5 ks1 ks2 ks3 ks4 ks5 y) := RYw9.out.keep fun b h => ⟨⟨h.1, h.2.1, h.2.2.keep (hbw10.block b (by have := h.2.1; omega))⟩, hbw10.block b (by have := h.2.1; omega)⟩
   have KYw10 : Hid (w10.heap[w8.heap.size]? = some (Obj.cells #[.string y.name, .slice s1 y.imps.length ks1, .slice s2 y.exps.length ks2, .slice s3 y.types.length ks3, .slice s4 y.defs.length ks4, .slice s5 y.convs.length ks5] 34)) := blk_keep KYw9.out hbw10 (Array.getElem?_eq_some_iff.1 KYw9.out).1
   clear KAw9 KBw9 OSw9 RXw9 KXw9 RYw9 KYw9 hbw10 HBw9
   have OGw10 : Hid (OwnS w10 w9.heap.size (.slice og L.length kg) L) := how10
   clear how10
   go_wp2_with fail
   refine (HES.out w10 _ _ _ _ OGw10.out.rowS OSw10.out.rowS).mono ?_
   rintro e w11 ⟨rfl, hbw11⟩
   have hsw11 : w10.heap.size ≤ w11.heap.size := hbw11.size
   have HBw11 : Hid (Below w.heap.size w w11) := HBw10.out.trans (hbw11.mono HBw10.out.size)
   have KAw11 : Hid (w11.heap[w.heap.size]? = some (Obj.cells #[.string x.name, .slice a1 x.imps.length ka1, .slice a2 x.exps.length ka2, .slice a3 x.types.length ka3, .slice a4 x.defs.length ka4, .slice a5 x.convs.length ka5] 26)) := blk_keep KAw10.out hbw11 (Array.getElem?_eq_some_iff.1 KAw10.out).1
   have KBw11 : Hid (w11.heap[w.heap.size + 1]? = some (Obj.cells #[.string y.name, .slice b1 y.imps.length kb1, .slice b2 y.exps.length kb2, .slice b3 y.types.length kb3, .slice b4 y.defs.length kb4, .slice b5 y.convs.length kb5] 26)) := blk_keep KBw10.out hbw11 (Array.getElem?_eq_some_iff.1 KBw10.out).1
   have OSw11 : Hid (OwnS w11 w4.heap.size (.slice ow5 L.length kw5) L) := OSw10.out.keep fun b h => hbw11.block b (OSw10.out.blk h).2.1
   have RXw11 : Hid (SrxRows w11 (fun b => w5.heap.size ≤ b ∧ b < w6.heap.size ∧ Unf w11 b) r1 r2 r3 r4 r5 kr1 kr2 kr3 kr4 kr5 x) := RXw10.out.keep fun b h => ⟨⟨h.1, h.2.1, h.2.2.keep (hbw11.block b (by have := h.2.1; omega))⟩, hbw11.block b (by have := h.2.1; omega)⟩
   have KXw11 : Hid (w11.heap[w6.heap.size]? = some (Obj.cells #[.string x.name, .slice r1 x.imps.length kr1, .slice r2 x.exps.length kr2, .slice r3 x.types.length kr3, .slice r4 x.defs.length kr4, .slice r5 x.convs.length kr5] 34)) := blk_keep KXw10.out hbw11 (Array.getElem?_eq_some_iff.1 KXw10.out).1
   have RYw11 : Hid (SrxRows w11 (fun b => w7.heap.size ≤ b ∧ b < w8.heap.size ∧ Unf w11 b) s1 s2 s3 s4 s5 ks1 ks2 ks3 ks4 ks5 y) := RYw10.out.keep fun b h => ⟨⟨h.1, h.2.1, h.2.2.keep (hbw11.block b (by have := h.2.1; omega))⟩, hbw11.block b (by have := h.2.1; omega)⟩
   have KYw11 : Hid (w11.heap[w8.heap.size]? = some (Obj.cells #[.string y.name, .slice s1 y.imps.length ks1, .slice s2 y.exps.length ks2, .slice s3 y.types.length ks3, .slice s4 y.defs.length ks4, .slice s5 y.convs.length ks5] 34)) := blk_keep KYw10.out hbw11 (Array.getElem?_eq_some_iff.1 KYw10.out).1
   have OGw11 : Hid (OwnS w11 w9.heap.size (.slice og L.length kg) L) := OGw10.out.keep fun b h => hbw11.block b (OGw10.out.blk h).2.1
   clear KAw10 KBw10 OSw10 RXw10 KXw10 RYw10 KYw10 OGw10 hbw11 HBw10
   have HX : Hid (∀ W, Below w11.heap.size w11 W → W.cell? ⟨w.heap.size, 0, none⟩ = some (.string x.name) ∧ W.cell? ⟨w.heap.size, 1, none⟩ = some (.slice a1 x.imps.length ka1) ∧ W.cell? ⟨w.heap.size, 2, none⟩ = some (.slice a2 x.exps.length ka2) ∧ W.cell? ⟨w.heap.size, 3, none⟩ = some (.slice a3 x.types.length ka3) ∧ W.cell? ⟨w.heap.size, 4, none⟩ = some (.slice a4 x.defs.length ka4) ∧ W.cell? ⟨w.heap.size, 5, none⟩ = some (.slice a5 x.convs.length ka5) ∧ W.cell? ⟨w6.heap.size, 0, none⟩ = some (.string x.name) ∧ W.cell? ⟨w6.heap.size, 1, none⟩ = some (.slice r1 x.imps.length kr1) ∧ W.cell? ⟨w6.heap.size, 2, none⟩ = some (.slice r2 x.exps.length kr2) ∧ W.cell? ⟨w6.heap.size, 3, none⟩ = some (.slice r3 x.types.length kr3) ∧ W.cell? ⟨w6.heap.size, 4, none⟩ = some (.slice r4 x.defs.length kr4) ∧ W.cell? ⟨w6.heap.size, 5, none⟩ = some (.slice r5 x.convs.length kr5)) := fun W hb => ⟨cell_blk (j := 0) (blk_keep KAw11.out hb (Array.getElem?_eq_some_iff.1 KAw11.out).1) rfl, cell_blk (j := 1) (blk_keep KAw11.out hb (Array.getElem?_eq_some_iff.1 KAw11.out).1) rfl, cell_blk (j := 2) (blk_keep KAw11.out hb (Array.getElem?_eq_some_iff.1 KAw11.out).1) rfl, cell_blk (j := 3) (blk_keep KAw11.out hb (Array.getElem?_eq_some_iff.1 KAw11.out).1) rfl, cell_blk (j := 4) (blk_keep KAw11.out hb (Array.getElem?_eq_some_iff.1 KAw11.out).1) rfl, cell_blk (j := 5) (blk_keep KAw11.out hb (Array.getElem?_eq_some_iff.1 KAw11.out).1) rfl, cell_blk (j := 0) (blk_keep KXw11.out hb (Array.getElem?_eq_some_iff.1 KXw11.out).1) rfl, cell_blk (j := 1) (blk_keep KXw11.out hb (Array.getElem?_eq_some_iff.1 KXw11.out).1) rfl, cell_blk (j := 2) (blk_keep KXw11.out hb (Array.getElem?_eq_some_iff.1 KXw11.out).1) rfl, cell_blk (j := 3) (blk_keep KXw11.out hb (Array.getElem?_eq_some_iff.1 KXw11.out).1) rfl, cell_blk (j := 4) (blk_keep KXw11.out hb (Array.getElem?_eq_some_iff.1 KXw11.out).1) rfl, cell_blk (j := 5) (blk_keep KXw11.out hb (Array.getElem?_eq_some_iff.1 KXw11.out).1) rfl⟩
   obtain ⟨z0, z1, z2, z3, z4, z5, z6, z7, z8, z9, z10, z11⟩ := HX.out _ (Below.refl _ _)
   go_wp2_with fail
   go_region_held3 (fun W => W.cell? ⟨w.heap.size, 0, none⟩ = some (.string x.name) ∧ W.cell? ⟨w.heap.size, 1, none⟩ = some (.slice a1 x.imps.length ka1) ∧ W.cell? ⟨w.heap.size, 2, none⟩ = some (.slice a2 x.exps.length ka2) ∧ W.cell? ⟨w.heap.size, 3, none⟩ = some (.slice a3 x.types.length ka3) ∧ W.cell? ⟨w.heap.size, 4, none⟩ = some (.slice a4 x.defs.length ka4) ∧ W.cell? ⟨w.heap.size, 5, none⟩ = some (.slice a5 x.convs.length ka5) ∧ W.cell? ⟨w6.heap.size, 0, none⟩ = some (.string x.name) ∧ W.cell? ⟨w6.heap.size, 1, none⟩ = some (.slice r1 x.imps.length kr1) ∧ W.cell? ⟨w6.heap.size, 2, none⟩ = some (.slice r2 x.exps.length kr2) ∧ W.cell? ⟨w6.heap.size, 3, none⟩ = some (.slice r3 x.types.length kr3) ∧ W.cell? ⟨w6.heap.size, 4, none⟩ = some (.slice r4 x.defs.length kr4) ∧ W.cell? ⟨w6.heap.size, 5, none⟩ = some (.slice r5 x.convs.length kr5))
    (first | exact HX.out _ (by assumption) | exact HX.out _ (Below.refl _ _) | exact HX.out _ (below_drewN (Below.refl _ _) 1))
    (first
    | (go_at_call 8; refine Calls.mono (HTX.out _ ?_) ?_; (focus (first | exact HBw11.out | exact below_drewN HBw11.out 1)); intro e w12 hh; obtain ⟨u1, u2, u3, u4, u5, ku1, ku2, ku3, ku4, ku5, rfl, hrr1, hbw12⟩ := (show MadX x w11 e w12 by first | exact hh | exact madX_undr hh))
    | (go_at_call 12; refine Calls.mono (HEX.out _ _ _ _ _ _ _ _ _ _ _ _ _ _ _ _ _ _ _ _ _ (RXw11.out.keep fun b h => ⟨by have := h.2.1; have := hbw12.size; omega, hbw12.block b (by have := h.2.1; omega)⟩) (hrr1.keep fun b h => ⟨h.2.1, rfl⟩)) ?_; rintro e w13 ⟨rfl, hbw13⟩; have hcw13 : Below w11.heap.size w11 w13 := hbw12.trans (hbw13.mono hbw12.size)))
   clear hrr1 hbw12 hbw13 HX z0 z1 z2 z3 z4 z5 z6 z7 z8 z9 z10 z11
   have hsw13 : w11.heap.size ≤ w13.heap.size := hcw13.size
   have HBw13 : Hid (Below w.heap.size w w13) := HBw11.out.trans (hcw13.mono HBw11.out.size)
   have KAw13 : Hid (w13.heap[w.heap.size]? = some (Obj.cells #[.string x.name, .slice a1 x.imps.length ka1, .slice a2 x.exps.length ka2, .slice a3 x.types.length ka3, .slice a4 x.defs.length ka4, .slice a5 x.convs.length ka5] 26)) := blk_keep KAw11.out hcw13 (Array.getElem?_eq_some_iff.1 KAw11.out).1
   have KBw13 : Hid (w13.heap[w.heap.size + 1]? = some (Obj.cells #[.string y.name, .slice b1 y.imps.length kb1, .slice b2 y.exps.length kb2, .slice b3 y.types.length kb3, .slice b4 y.defs.length kb4, .slice b5 y.convs.length kb5] 26)) := blk_keep KBw11.out hcw13 (Array.getElem?_eq_some_iff.1 KBw11.out).1
   have OSw13 : Hid (OwnS w13 w4.heap.size (.slice ow5 L.length kw5) L) := OSw11.out.keep fun b h => hcw13.block b (OSw11.out.blk h).2.1
   have RXw13 : Hid (SrxRows w13 (fun b => w5.heap.size ≤ b ∧ b < w6.heap.size ∧ Unf w13 b) r1 r2 r3 r4 r5 kr1 kr2 kr3 kr4 kr5 x) := RXw11.out.keep fun b h => ⟨⟨h.1, h.2.1, h.2.2.keep (hcw13.block b (by have := h.2.1; omega))⟩, hcw13.block b (by have := h.2.1; omega)⟩
   have KXw13 : Hid (w13.heap[w6.heap.size]? = some (Obj.cells #[.string x.name, .slice r1 x.imps.length kr1, .slice r2 x.exps.length kr2, .slice r3 x.types.length kr3, .slice r4 x.defs.length kr4, .slice r5 x.convs.length kr5] 34)) := blk_keep KXw11.out hcw13 (Array.getElem?_eq_some_iff.1 KXw11.out).1
   have RYw13 : Hid (SrxRows w13 (fun b => w7.heap.size ≤ b ∧ b < w8.heap.size ∧ Unf w13 b) s1 s2 s3 s4 s5 ks1 ks2 ks3 ks4 ks5 y) := RYw11.out.keep fun b h => ⟨⟨h.1, h.2.1, h.2.2.keep (hcw13.block b (by have := h.2.1; omega))⟩, hcw13.block b (by have := h.2.1; omega)⟩
   have KYw13 : Hid (w13.heap[w8.heap.size]? = some (Obj.cells #[.string y.name, .slice s1 y.imps.length ks1, .slice s2 y.exps.length ks2, .slice s3 y.types.length ks3, .slice s4 y.defs.length ks4, .slice s5 y.convs.length ks5] 34)) := blk_keep KYw11.out hcw13 (Array.getElem?_eq_some_iff.1 KYw11.out).1
   have OGw13 : Hid (OwnS w13 w9.heap.size (.slice og L.length kg) L) := OGw11.out.keep fun b h => hcw13.block b (OGw11.out.blk h).2.1
   clear KAw11 KBw11 OSw11 RXw11 KXw11 RYw11 KYw11 OGw11 hcw13 HBw11
   have HX : Hid (∀ W, Below w13.heap.size w13 W → W.cell? ⟨w.heap.size + 1, 0, none⟩ = some (.string y.name) ∧ W.cell? ⟨w.heap.size + 1, 1, none⟩ = some (.slice b1 y.imps.length kb1) ∧ W.cell? ⟨w.heap.size + 1, 2, none⟩ = some (.slice b2 y.exps.length kb2) ∧ W.cell? ⟨w.heap.size + 1, 3, none⟩ = some (.slice b3 y.types.length kb3) ∧ W.cell? ⟨w.heap.size + 1, 4, none⟩ = some (.slice b4 y.defs.length kb4) ∧ W.cell? ⟨w.heap.size + 1, 5, none⟩ = some (.slice b5 y.convs.length kb5) ∧ W.cell? ⟨w8.heap.size, 0, none⟩ = some (.string y.name) ∧ W.cell? ⟨w8.heap.size, 1, none⟩ = some (.slice s1 y.imps.length ks1) ∧ W.cell? ⟨w8.heap.size, 2, none⟩ = some (.slice s2 y.exps.length ks2) ∧ W.cell? ⟨w8.heap.size, 3, none⟩ = some (.slice s3 y.types.length ks3) ∧ W.cell? ⟨w8.heap.size, 4, none⟩ = some (.slice s4 y.defs.length ks4) ∧ W.cell? ⟨w8.heap.size, 5, none⟩ = some (.slice s5 y.convs.length ks5)) := fun W hb => ⟨cell_blk (j := 0) (blk_keep KBw13.out hb (Array.getElem?_eq_some_iff.1 KBw13.out).1) rfl, cell_blk (j := 1) (blk_keep KBw13.out hb (Array.getElem?_eq_some_iff.1 KBw13.out).1) rfl, cell_blk (j := 2) (blk_keep KBw13.out hb (Array.getElem?_eq_some_iff.1 KBw13.out).1) rfl, cell_blk (j := 3) (blk_keep KBw13.out hb (Array.getElem?_eq_some_iff.1 KBw13.out).1) rfl, cell_blk (j := 4) (blk_keep KBw13.out hb (Array.getElem?_eq_some_iff.1 KBw13.out).1) rfl, cell_blk (j := 5) (blk_keep KBw13.out hb (Array.getElem?_eq_some_iff.1 KBw13.out).1) rfl, cell_blk (j := 0) (blk_keep KYw13.out hb (Array.getElem?_eq_some_iff.1 KYw13.out).1) rfl, cell_blk (j := 1) (blk_keep KYw13.out hb (Array.getElem?_eq_some_iff.1 KYw13.out).1) rfl, cell_blk (j := 2) (blk_keep KYw13.out hb (Array.getElem?_eq_some_iff.1 KYw13.out).1) rfl, cell_blk (j := 3) (blk_keep KYw13.out hb (Array.getElem?_eq_some_iff.1 KYw13.out).1) rfl, cell_blk (j := 4) (blk_keep KYw13.out hb (Array.getElem?_eq_some_iff.1 KYw13.out).1) rfl, cell_blk (j := 5) (blk_keep KYw13.out hb (Array.getElem?_eq_some_iff.1 KYw13.out).1) rfl⟩
   obtain ⟨z0, z1, z2, z3, z4, z5, z6, z7, z8, z9, z10, z11⟩ := HX.out _ (Below.refl _ _)
   go_wp2_with fail
   go_region_held3 (fun W => W.cell? ⟨w.heap.size + 1, 0, none⟩ = some (.string y.name) ∧ W.cell? ⟨w.heap.size + 1, 1, none⟩ = some (.slice b1 y.imps.length kb1) ∧ W.cell? ⟨w.heap.size + 1, 2, none⟩ = some (.slice b2 y.exps.length kb2) ∧ W.cell? ⟨w.heap.size + 1, 3, none⟩ = some (.slice b3 y.types.length kb3) ∧ W.cell? ⟨w.heap.size + 1, 4, none⟩ = some (.slice b4 y.defs.length kb4) ∧ W.cell? ⟨w.heap.size + 1, 5, none⟩ = some (.slice b5 y.convs.length kb5) ∧ W.cell? ⟨w8.heap.size, 0, none⟩ = some (.string y.name) ∧ W.cell? ⟨w8.heap.size, 1, none⟩ = some (.slice s1 y.imps.length ks1) ∧ W.cell? ⟨w8.heap.size, 2, none⟩ = some (.slice s2 y.exps.length ks2) ∧ W.cell? ⟨w8.heap.size, 3, none⟩ = some (.slice s3 y.types.length ks3) ∧ W.cell? ⟨w8.heap.size, 4, none⟩ = some (.slice s4 y.defs.length ks4) ∧ W.cell? ⟨w8.heap.size, 5, none⟩ = some (.slice s5 y.convs.length ks5))
    (first | exact HX.out _ (by assumption) | exact HX.out _ (Below.refl _ _) | exact HX.out _ (below_drewN (Below.refl _ _) 1))
    (first
    | (go_at_call 8; refine Calls.mono (HTY.out _ ?_) ?_; (focus (first | exact HBw13.out | exact below_drewN HBw13.out 1)); intro e w14 hh; obtain ⟨t1, t2, t3, t4, t5, kt1, kt2, kt3, kt4, kt5, rfl, hrr1, hbw14⟩ := (show MadX y w13 e w14 by first | exact hh | exact madX_undr hh))
    | (go_at_call 12; refine Calls.mono (HEY.out _ _ _ _ _ _ _ _ _ _ _ _ _ _ _ _ _ _ _ _ _ (RYw13.out.keep fun b h => ⟨by have := h.2.1; have := hbw14.size; omega, hbw14.block b (by have := h.2.1; omega)⟩) (hrr1.keep fun b h => ⟨h.2.1, rfl⟩)) ?_; rintro e w15 ⟨rfl, hbw15⟩; have hcw15 : Below w13.heap.size w13 w15 := hbw14.trans (hbw15.mono hbw14.size)))
   clear hrr1 hbw14 hbw15 HX z0 z1 z2 z3 z4 z5 z6 z7 z8 z9 z10 z11
   have hsw15 : w13.heap.size ≤ w15.heap.size := hcw15.size
   have HBw15 : Hid (Below w.heap.size w w15) := HBw13.out.trans (hcw15.mono HBw13.out.size)
   have KAw15 : Hid (w15.heap[w.heap.size]? = some (Obj.cells #[.string x.name, .slice a1 x.imps.length ka1, .slice a2 x.exps.length ka2, .slice a3 x.types.length ka3, .slice a4 x.defs.length ka4, .slice a5 x.convs.length ka5] 26)) := blk_keep KAw13.out hcw15 (Array.getElem?_eq_some_iff.1 KAw13.out).1
   have KBw15 : Hid (w15.heap[w.heap.size + 1]? = some (Obj.cells #[.string y.name, .slice b1 y.imps.length kb1, .slice b2 y.exps.length kb2, .slice b3 y.types.length kb3, .slice b4 y.defs.length kb4, .slice b5 y.convs.length kb5] 26)) := blk_keep KBw13.out hcw15 (Array.getElem?_eq_some_iff.1 KBw13.out).1
   have OSw15 : Hid (OwnS w15 w4.heap.size (.slice ow5 L.length kw5) L) := OSw13.out.keep fun b h => hcw15.block b (OSw13.out.blk h).2.1
   have RXw15 : Hid (SrxRows w15 (fun b => w5.heap.size ≤ b ∧ b < w6.heap.size ∧ Unf w15 b) r1 r2 r3 r4 r5 kr1 kr2 kr3 kr4 kr5 x) := RXw13.out.keep fun b h => ⟨⟨h.1, h.2.1, h.2.2.keep (hcw15.block b (by have := h.2.1; omega))⟩, hcw15.block b (by have := h.2.1; omega)⟩
   have KXw15 : Hid (w15.heap[w6.heap.size]? = some (Obj.cells #[.string x.name, .slice r1 x.imps.length kr1, .slice r2 x.exps.length kr2, .slice r3 x.types.length kr3, .slice r4 x.defs.length kr4, .slice r5 x.convs.length kr5] 34)) := blk_keep KXw13.out hcw15 (Array.getElem?_eq_some_iff.1 KXw13.out).1
   have RYw15 : Hid (SrxRows w15 (fun b => w7.heap.size ≤ b ∧ b < w8.heap.size ∧ Unf w15 b) s1 s2 s3 s4 s5 ks1 ks2 ks3 ks4 ks5 y) := RYw13.out.keep fun b h => ⟨⟨h.1, h.2.1, h.2.2.keep (hcw15.block b (by have := h.2.1; omega))⟩, hcw15.block b (by have := h.2.1; omega)⟩
   have KYw15 : Hid (w15.heap[w8.heap.size]? = some (Obj.cells #[.string y.name, .slice s1 y.imps.length ks1, .slice s2 y.exps.length ks2, .slice s3 y.types.length ks3, .slice s4 y.defs.length ks4, .slice s5 y.convs.length ks5] 34)) := blk_keep KYw13.out hcw15 (Array.getElem?_eq_some_iff.1 KYw13.out).1
   have OGw15 : Hid (OwnS w15 w9.heap.size (.slice og L.length kg) L) := OGw13.out.keep fun b h => hcw15.block b (OGw13.out.blk h).2.1
   clear KAw13 KBw13 OSw13 RXw13 KXw13 RYw13 KYw13 OGw13 hcw15 HBw13
   have z0 := cell_blk (j := 0) KXw15.out rfl
   have z1 := cell_blk (j := 1) KXw15.out rfl
   have z2 := cell_blk (j := 2) KXw15.out rfl
   have z3 := cell_blk (j := 3) KXw15.out rfl
   have z4 := cell_blk (j := 4) KXw15.out rfl
   have z5 := cell_blk (j := 5) KXw15.out rfl
   go_wp2_with fail
   refine (HMX.out w5.heap.size w6.heap.size _ _ _ _ _ _ _ _ _ _ _ RXw15.out (by omega)).mono ?_
   rintro e w16 ⟨rfl, hk16⟩
   clear z0 z1 z2 z3 z4 z5
   have hsw16 : w15.heap.size ≤ w16.heap.size := hk16.size
   have HBw16 : Hid (Below w.heap.size w w16) := ⟨hk16.os.trans HBw15.out.os, hk16.tape.trans HBw15.out.tape, hk16.output.trans HBw15.out.output, Nat.le_trans HBw15.out.size hk16.size, fun b hb => (hk16.same b (by have := HBw15.out.size; omega) (.inl (by have := HBw15.out.size; have := HSZ.out; omega))).trans (HBw15.out.block b hb)⟩
   have KAw16 : Hid (w16.heap[w.heap.size]? = some (Obj.cells #[.string x.name, .slice a1 x.imps.length ka1, .slice a2 x.exps.length ka2, .slice a3 x.types.length ka3, .slice a4 x.defs.length ka4, .slice a5 x.convs.length ka5] 26)) := (hk16.same _ (Array.getElem?_eq_some_iff.1 KAw15.out).1 (.inl (by have := HSZ.out; omega))).trans KAw15.out
   have KBw16 : Hid (w16.heap[w.heap.size + 1]? = some (Obj.cells #[.string y.name, .slice b1 y.imps.length kb1, .slice b2 y.exps.length kb2, .slice b3 y.types.length kb3, .slice b4 y.defs.length kb4, .slice b5 y.convs.length kb5] 26)) := (hk16.same _ (Array.getElem?_eq_some_iff.1 KBw15.out).1 (.inl (by have := HSZ.out; omega))).trans KBw15.out
   have OSw16 : Hid (OwnS w16 w4.heap.size (.slice ow5 L.length kw5) L) := OSw15.out.keep fun b h => hk16.same b (OSw15.out.blk h).2.1 (.inl (by have := OSB.out b h; omega))
   have RYw16 : Hid (SrxRows w16 (fun b => w7.heap.size ≤ b ∧ b < w8.heap.size ∧ Unf w16 b) s1 s2 s3 s4 s5 ks1 ks2 ks3 ks4 ks5 y) := RYw15.out.keep fun b h => ⟨⟨h.1, h.2.1, h.2.2.keep (hk16.same b (by have := h.2.1; omega) (.inr (by have := h.1; omega)))⟩, hk16.same b (by have := h.2.1; omega) (.inr (by have := h.1; omega))⟩
   have KYw16 : Hid (w16.heap[w8.heap.size]? = some (Obj.cells #[.string y.name, .slice s1 y.imps.length ks1, .slice s2 y.exps.length ks2, .slice s3 y.types.length ks3, .slice s4 y.defs.length ks4, .slice s5 y.convs.length ks5] 34)) := (hk16.same _ (Array.getElem?_eq_some_iff.1 KYw15.out).1 (.inr (by omega))).trans KYw15.out
   have OGw16 : Hid (OwnS w16 w9.heap.size (.slice og L.length kg) L) := OGw15.out.keep fun b h => hk16.same b (OGw15.out.blk h).2.1 (.inr (by have := (OGw15.out.blk h).1; omega))
   clear KAw15 KBw15 OSw15 RYw15 KYw15 OGw15 KXw15 RXw15 hk16 HBw15
   have z0 := cell_blk (j := 0) KYw16.out rfl
   have z1 := cell_blk (j := 1) KYw16.out rfl
   have z2 := cell_blk (j := 2) KYw16.out rfl
   have z3 := cell_blk (j := 3) KYw16.out rfl
   have z4 := cell_blk (j := 4) KYw16.out rfl
   have z5 := cell_blk (j := 5) KYw16.out rfl
   go_wp2_with fail
   refine (HMY.out w7.heap.size w8.heap.size _ _ _ _ _ _ _ _ _ _ _ RYw16.out (by omega)).mono ?_
   rintro e w17 ⟨rfl, hk17⟩
   clear z0 z1 z2 z3 z4 z5
   have hsw17 : w16.heap.size ≤ w17.heap.size := hk17.size
   have HBw17 : Hid (Below w.heap.size w w17) := ⟨hk17.os.trans HBw16.out.os, hk17.tape.trans HBw16.out.tape, hk17.output.trans HBw16.out.output, Nat.le_trans HBw16.out.size hk17.size, fun b hb => (hk17.same b (by have := HBw16.out.size; omega) (.inl (by have := HBw16.out.size; have := HSZ.out; omega))).trans (HBw16.out.block b hb)⟩
   have KAw17 : Hid (w17.heap[w.heap.size]? = some (Obj.cells #[.string x.name, .slice a1 x.imps.length ka1, .slice a2 x.exps.length ka2, .slice a3 x.types.length ka3, .slice a4 x.defs.length ka4, .slice a5 x.convs.length ka5] 26)) := (hk17.same _ (Array.getElem?_eq_some_iff.1 KAw16.out).1 (.inl (by have := HSZ.out; omega))).trans KAw16.out
   have KBw17 : Hid (w17.heap[w.heap.size + 1]? = some (Obj.cells #[.string y.name, .slice b1 y.imps.length kb1, .slice b2 y.exps.length kb2, .slice b3 y.types.length kb3, .slice b4 y.defs.length kb4, .slice b5 y.convs.length kb5] 26)) := (hk17.same _ (Array.getElem?_eq_some_iff.1 KBw16.out).1 (.inl (by have := HSZ.out; omega))).trans KBw16.out
   have OSw17 : Hid (OwnS w17 w4.heap.size (.slice ow5 L.length kw5) L) := OSw16.out.keep fun b h => hk17.same b (OSw16.out.blk h).2.1 (.inl (by have := OSB.out b h; omega))
   have OGw17 : Hid (OwnS w17 w9.heap.size (.slice og L.length kg) L) := OGw16.out.keep fun b h => hk17.same b (OGw16.out.blk h).2.1 (.inr (by have := (OGw16.out.blk h).1; omega))
   clear KAw16 KBw16 OSw16 OGw16 KYw16 RYw16 hk17 HBw16
   have hkn : decide (((1 + cx + cy : Nat) : Int) < 0) = false := by simp; omega
   go_wp2_with fail
   refine (HES.out w17 _ _ _ _ OGw17.out.rowS OSw17.out.rowS).mono ?_
   rintro e w18 ⟨rfl, hbw18⟩
   have hsw18 : w17.heap.size ≤ w18.heap.size := hbw18.size
   have HBw18 : Hid (Below w.heap.size w w18) := HBw17.out.trans (hbw18.mono HBw17.out.size)
   have KAw18 : Hid (w18.heap[w.heap.size]? = some (Obj.cells #[.string x.name, .slice a1 x.imps.length ka1, .slice a2 x.exps.length ka2, .slice a3 x.types.length ka3, .slice a4 x.defs.length ka4, .slice a5 x.convs.length ka5] 26)) := blk_keep KAw17.out hbw18 (Array.getElem?_eq_some_iff.1 KAw17.out).1
   have KBw18 : Hid (w18.heap[w.heap.size + 1]? = some (Obj.cells #[.string y.name, .slice b1 y.imps.length kb1, .slice b2 y.exps.length kb2, .slice b3 y.types.length kb3, .slice b4 y.defs.length kb4, .slice b5 y.convs.length kb5] 26)) := blk_keep KBw17.out hbw18 (Array.getElem?_eq_some_iff.1 KBw17.out).1
   have OSw18 : Hid (OwnS w18 w4.heap.size (.slice ow5 L.length kw5) L) := OSw17.out.keep fun b h => hbw18.block b (OSw17.out.blk h).2.1
   have OGw18 : Hid (OwnS w18 w9.heap.size (.slice og L.length kg) L) := OGw17.out.keep fun b h => hbw18.block b (OGw17.out.blk h).2.1
   clear KAw17 KBw17 OSw17 OGw17 hbw18 HBw17
   have OGB : Hid (∀ b, (Value.slice og L.length kg).ownBlock = some b → w9.heap.size ≤ b ∧ b < w18.heap.size) := fun b h => ⟨(OGw18.out.blk h).1, (OGw18.out.blk h).2.1⟩
   have HOM : Hid (Calls Tryz.prog 15 #[.slice og L.length kg, .int .i64 1] w18 fun e w' => e = .returned (.int .i64 (1 + (L.length : Int))) ∧ OwnS w' w9.heap.size (.slice og L.length kg) (marksS 1 L.length) ∧ w18.grownBy w' (Value.slice og L.length kg).ownBlock) := (markStringS_o w9.heap.size og L kg 1 w18 OGw18.out (Nat.le_refl _) (by omega)).mono fun e w' h => ⟨by rw [h.1]; congr 2, h.2⟩
   go_wp2_with fail
   refine HOM.out.mono ?_
   rintro e w19 ⟨rfl, how19, hgw19⟩
   have hml : (marksS 1 L.length).length = L.length := marksS_len _ _
   have hbw19 : Below w9.heap.size w18 w19 := gb_bel (Below.refl _ _) (by omega) (fun b hb => (OGB.out b hb).1) hgw19
   have hs19 : w18.heap.size ≤ w19.heap.size := hgw19.size
   have HBw19 : Hid (Below w.heap.size w w19) := HBw18.out.trans (hbw19.mono (by have := HBw18.out.size; have := HSZ.out; omega))
   have KAw19 : Hid (w19.heap[w.heap.size]? = some (Obj.cells #[.string x.name, .slice a1 x.imps.length ka1, .slice a2 x.exps.length ka2, .slice a3 x.types.length ka3, .slice a4 x.defs.length ka4, .slice a5 x.convs.length ka5] 26)) := (hbw19.block _ (by have := HSZ.out; omega)).trans KAw18.out
   have KBw19 : Hid (w19.heap[w.heap.size + 1]? = some (Obj.cells #[.string y.name, .slice b1 y.imps.length kb1, .slice b2 y.exps.length kb2, .slice b3 y.types.length kb3, .slice b4 y.defs.length kb4, .slice b5 y.convs.length kb5] 26)) := (hbw19.block _ (by have := HSZ.out; omega)).trans KBw18.out
   have OSw19 : Hid (OwnS w19 w4.heap.size (.slice ow5 L.length kw5) L) := OSw18.out.keep fun b h => hbw19.block b (by have := OSB.out b h; omega)
   have HHS : Hid (∀ W, RowS W W.heap.size og (marksS 1 L.length) → Calls Tryz.prog 20 #[.slice og L.length kg, .int .i64 1] W fun e w' => Ans W (.int .i64 (1 + (L.length : Int))) e w') := fun W h => by
    have h1 := heldStringS_o og L.length kg 1 W (Nat.le_refl _) (by omega) h
    rw [show (((1 + L.length : Nat) : Int)) = 1 + (L.length : Int) by omega] at h1
    exact h1
   have hrg : RowS w19 w19.heap.size og (marksS 1 L.length) := by
    have h1 := how19
    rw [show (Value.slice og L.length kg) = Value.slice og (marksS 1 L.length).length kg by rw [hml]] at h1
    exact h1.rowS
   generalize hmk : marksS 1 L.length = mk at *
   clear hmk hml
   have RGw19 : Hid (RowS w19 w19.heap.size og mk) := hrg
   have hmn : decide ((1 + (L.length : Int)) < 0) = false := by simp; omega
   have hmm : ((1 + (L.length : Int)) != (1 + (L.length : Int))) = false := by simp
   clear hrg how19 hgw19 hbw19 HBw18 KAw18 KBw18 OSw18 OGw18 HOM OGB
   go_wp2_with fail
   refine (HHS.out w19 RGw19.out).mono ?_
   rintro e w20 ⟨rfl, hbw20⟩
   have hsw20 : w19.heap.size ≤ w20.heap.size := hbw20.size
   have HBw20 : Hid (Below w.heap.size w w20) := HBw19.out.trans (hbw20.mono HBw19.out.size)
   have KAw20 : Hid (w20.heap[w.heap.size]? = some (Obj.cells #[.string x.name, .slice a1 x.imps.length ka1, .slice a2 x.exps.length ka2, .slice a3 x.types.length ka3, .slice a4 x.defs.length ka4, .slice a5 x.convs.length ka5] 26)) := blk_keep KAw19.out hbw20 (Array.getElem?_eq_some_iff.1 KAw19.out).1
   have KBw20 : Hid (w20.heap[w.heap.size + 1]? = some (Obj.cells #[.string y.name, .slice b1 y.imps.length kb1, .slice b2 y.exps.length kb2, .slice b3 y.types.length kb3, .slice b4 y.defs.length kb4, .slice b5 y.convs.length kb5] 26)) := blk_keep KBw19.out hbw20 (Array.getElem?_eq_some_iff.1 KBw19.out).1
   have OSw20 : Hid (OwnS w20 w4.heap.size (.slice ow5 L.length kw5) L) := OSw19.out.keep fun b h => hbw20.block b (OSw19.out.blk h).2.1
   have RGw20 : Hid (RowS w20 w19.heap.size og mk) := RGw19.out.below (hbw20.mono (by omega))
   clear KAw19 KBw19 OSw19 RGw19 hbw20 HBw19
   have HX : Hid (∀ W, Below w20.heap.size w20 W → W.cell? ⟨w.heap.size, 0, none⟩ = some (.string x.name) ∧ W.cell? ⟨w.heap.size, 1, none⟩ = some (.slice a1 x.imps.length ka1) ∧ W.cell? ⟨w.heap.size, 2, none⟩ = some (.slice a2 x.exps.length ka2) ∧ W.cell? ⟨w.heap.size, 3, none⟩ = some (.slice a3 x.types.length ka3) ∧ W.cell? ⟨w.heap.size, 4, none⟩ = some (.slice a4 x.defs.length ka4) ∧ W.cell? ⟨w.heap.size, 5, none⟩ = some (.slice a5 x.convs.length ka5) ∧ W.cell? ⟨w.heap.size + 1, 0, none⟩ = some (.string y.name) ∧ W.cell? ⟨w.heap.size + 1, 1, none⟩ = some (.slice b1 y.imps.length kb1) ∧ W.cell? ⟨w.heap.size + 1, 2, none⟩ = some (.slice b2 y.exps.length kb2) ∧ W.cell? ⟨w.heap.size + 1, 3, none⟩ = some (.slice b3 y.types.length kb3) ∧ W.cell? ⟨w.heap.size + 1, 4, none⟩ = some (.slice b4 y.defs.length kb4) ∧ W.cell? ⟨w.heap.size + 1, 5, none⟩ = some (.slice b5 y.convs.length kb5)) := fun W hb => ⟨cell_blk (j := 0) (blk_keep KAw20.out hb (Array.getElem?_eq_some_iff.1 KAw20.out).1) rfl, cell_blk (j := 1) (blk_keep KAw20.out hb (Array.getElem?_eq_some_iff.1 KAw20.out).1) rfl, cell_blk (j := 2) (blk_keep KAw20.out hb (Array.getElem?_eq_some_iff.1 KAw20.out).1) rfl, cell_blk (j := 3) (blk_keep KAw20.out hb (Array.getElem?_eq_some_iff.1 KAw20.out).1) rfl, cell_blk (j := 4) (blk_keep KAw20.out hb (Array.getElem?_eq_some_iff.1 KAw20.out).1) rfl, cell_blk (j := 5) (blk_keep KAw20.out hb (Array.getElem?_eq_some_iff.1 KAw20.out).1) rfl, cell_blk (j := 0) (blk_keep KBw20.out hb (Array.getElem?_eq_some_iff.1 KBw20.out).1) rfl, cell_blk (j := 1) (blk_keep KBw20.out hb (Array.getElem?_eq_some_iff.1 KBw20.out).1) rfl, cell_blk (j := 2) (blk_keep KBw20.out hb (Array.getElem?_eq_some_iff.1 KBw20.out).1) rfl, cell_blk (j := 3) (blk_keep KBw20.out hb (Array.getElem?_eq_some_iff.1 KBw20.out).1) rfl, cell_blk (j := 4) (blk_keep KBw20.out hb (Array.getElem?_eq_some_iff.1 KBw20.out).1) rfl, cell_blk (j := 5) (blk_keep KBw20.out hb (Array.getElem?_eq_some_iff.1 KBw20.out).1) rfl⟩
   obtain ⟨z0, z1, z2, z3, z4, z5, z6, z7, z8, z9, z10, z11⟩ := HX.out _ (Below.refl _ _)
   go_wp2_with fail
   go_region_held3 (fun W => W.cell? ⟨w.heap.size, 0, none⟩ = some (.string x.name) ∧ W.cell? ⟨w.heap.size, 1, none⟩ = some (.slice a1 x.imps.length ka1) ∧ W.cell? ⟨w.heap.size, 2, none⟩ = some (.slice a2 x.exps.length ka2) ∧ W.cell? ⟨w.heap.size, 3, none⟩ = some (.slice a3 x.types.length ka3) ∧ W.cell? ⟨w.heap.size, 4, none⟩ = some (.slice a4 x.defs.length ka4) ∧ W.cell? ⟨w.heap.size, 5, none⟩ = some (.slice a5 x.convs.length ka5) ∧ W.cell? ⟨w.heap.size + 1, 0, none⟩ = some (.string y.name) ∧ W.cell? ⟨w.heap.size + 1, 1, none⟩ = some (.slice b1 y.imps.length kb1) ∧ W.cell? ⟨w.heap.size + 1, 2, none⟩ = some (.slice b2 y.exps.length kb2) ∧ W.cell? ⟨w.heap.size + 1, 3, none⟩ = some (.slice b3 y.types.length kb3) ∧ W.cell? ⟨w.heap.size + 1, 4, none⟩ = some (.slice b4 y.defs.length kb4) ∧ W.cell? ⟨w.heap.size + 1, 5, none⟩ = some (.slice b5 y.convs.length kb5))
    (first | exact HX.out _ (by assumption) | exact HX.out _ (Below.refl _ _) | exact HX.out _ (below_drewN (Below.refl _ _) 1))
    (first
    | (go_at_call_of 8 (Value.slice a1 x.imps.length ka1); refine Calls.mono (HTX.out _ ?_) ?_; (focus (first | exact HBw20.out | exact below_drewN HBw20.out 1)); intro e w21 hh; obtain ⟨p1, p2, p3, p4, p5, kp1, kp2, kp3, kp4, kp5, rfl, hrr1, hbw21⟩ := (show MadX x w20 e w21 by first | exact hh | exact madX_undr hh); have hbBw21 := HBw20.out.trans (hbw21.mono HBw20.out.size))
    | (go_at_call_of 8 (Value.slice b1 y.imps.length kb1); refine Calls.mono (HTY.out _ hbBw21) ?_; rintro e w22 ⟨q1, q2, q3, q4, q5, kq1, kq2, kq3, kq4, kq5, rfl, hrr2, hbw22⟩; have hcw22 : Below w20.heap.size w20 w22 := hbw21.trans (hbw22.mono hbw21.size))
    | (go_at_call 19; refine Calls.mono (HIM.out _ _ _ _ _ _ _ _ _ _ _ _ _ _ _ _ _ _ _ _ _ (hrr1.keep fun b h => ⟨Nat.lt_of_lt_of_le h.2.1 hbw22.size, hbw22.block b h.2.1⟩) (hrr2.keep fun b h => ⟨h.2.1, rfl⟩)) ?_; rintro e w23 ⟨vw23, rfl, how23, hbw23⟩; have hcw23 : Below w20.heap.size w20 w23 := hcw22.trans (hbw23.mono hcw22.size)))
   obtain ⟨ow23, kw23, rfl, _⟩ := how23.slice
   have hs2w23 : w20.heap.size ≤ w22.heap.size := hcw22.size
   clear hrr1 hrr2 hbw21 hbw22 hbw23 hcw22 hbBw21 HX z0 z1 z2 z3 z4 z5 z6 z7 z8 z9 z10 z11
   have hsw23 : w20.heap.size ≤ w23.heap.size := hcw23.size
   have HBw23 : Hid (Below w.heap.size w w23) := HBw20.out.trans (hcw23.mono HBw20.out.size)
   have KAw23 : Hid (w23.heap[w.heap.size]? = some (Obj.cells #[.string x.name, .slice a1 x.imps.length ka1, .slice a2 x.exps.length ka2, .slice a3 x.types.length ka3, .slice a4 x.defs.length ka4, .slice a5 x.convs.length ka5] 26)) := blk_keep KAw20.out hcw23 (Array.getElem?_eq_some_iff.1 KAw20.out).1
   have KBw23 : Hid (w23.heap[w.heap.size + 1]? = some (Obj.cells #[.string y.name, .slice b1 y.imps.length kb1, .slice b2 y.exps.length kb2, .slice b3 y.types.length kb3, .slice b4 y.defs.length kb4, .slice b5 y.convs.length kb5] 26)) := blk_keep KBw20.out hcw23 (Array.getElem?_eq_some_iff.1 KBw20.out).1
   have OSw23 : Hid (OwnS w23 w4.heap.size (.slice ow5 L.length kw5) L) := OSw20.out.keep fun b h => hcw23.block b (OSw20.out.blk h).2.1
   have RGw23 : Hid (RowS w23 w19.heap.size og mk) := RGw20.out.below (hcw23.mono (by omega))
   clear KAw20 KBw20 OSw20 RGw20 hcw23 HBw20
   have OHw23 : Hid (OwnS w23 w22.heap.size (.slice ow23 L.length kw23) L) := how23
   clear how23
   go_wp2_with fail
   refine (HES.out w23 _ _ _ _ OHw23.out.rowS OSw23.out.rowS).mono ?_
   rintro e w24 ⟨rfl, hbw24⟩
   have hsw24 : w23.heap.size ≤ w24.heap.size := hbw24.size
   have HBw24 : Hid (Below w.heap.size w w24) := HBw23.out.trans (hbw24.mono HBw23.out.size)
   have KAw24 : Hid (w24.heap[w.heap.size]? = some (Obj.cells #[.string x.name, .slice a1 x.imps.length ka1, .slice a2 x.exps.length ka2, .slice a3 x.types.length ka3, .slice a4 x.defs.length ka4, .slice a5 x.convs.length ka5] 26)) := blk_keep KAw23.out hbw24 (Array.getElem?_eq_some_iff.1 KAw23.out).1
   have KBw24 : Hid (w24.heap[w.heap.size + 1]? = some (Obj.cells #[.string y.name, .slice b1 y.imps.length kb1, .slice b2 y.exps.length kb2, .slice b3 y.types.length kb3, .slice b4 y.defs.length kb4, .slice b5 y.convs.length kb5] 26)) := blk_keep KBw23.out hbw24 (Array.getElem?_eq_some_iff.1 KBw23.out).1
   have OSw24 : Hid (OwnS w24 w4.heap.size (.slice ow5 L.length kw5) L) := OSw23.out.keep fun b h => hbw24.block b (OSw23.out.blk h).2.1
   have RGw24 : Hid (RowS w24 w19.heap.size og mk) := RGw23.out.below (hbw24.mono (by omega))
   have OHw24 : Hid (OwnS w24 w22.heap.size (.slice ow23 L.length kw23) L) := OHw23.out.keep fun b h => hbw24.block b (OHw23.out.blk h).2.1
   clear KAw23 KBw23 OSw23 RGw23 OHw23 hbw24 HBw23
   go_wp2_with fail
   refine (HHS.out w24 (RGw24.out.mono (by omega))).mono ?_
   rintro e w25 ⟨rfl, hbw25⟩
   have hsw25 : w24.heap.size ≤ w25.heap.size := hbw25.size
   have HBw25 : Hid (Below w.heap.size w w25) := HBw24.out.trans (hbw25.mono HBw24.out.size)
   have KAw25 : Hid (w25.heap[w.heap.size]? = some (Obj.cells #[.string x.name, .slice a1 x.imps.length ka1, .slice a2 x.exps.length ka2, .slice a3 x.types.length ka3, .slice a4 x.defs.length ka4, .slice a5 x.convs.length ka5] 26)) := blk_keep KAw24.out hbw25 (Array.getElem?_eq_some_iff.1 KAw24.out).1
   have KBw25 : Hid (w25.heap[w.heap.size + 1]? = some (Obj.cells #[.string y.name, .slice b1 y.imps.length kb1, .slice b2 y.exps.length kb2, .slice b3 y.types.length kb3, .slice b4 y.defs.length kb4, .slice b5 y.convs.length kb5] 26)) := blk_keep KBw24.out hbw25 (Array.getElem?_eq_some_iff.1 KBw24.out).1
   have OSw25 : Hid (OwnS w25 w4.heap.size (.slice ow5 L.length kw5) L) := OSw24.out.keep fun b h => hbw25.block b (OSw24.out.blk h).2.1
   have RGw25 : Hid (RowS w25 w19.heap.size og mk) := RGw24.out.below (hbw25.mono (by omega))
   have OHw25 : Hid (OwnS w25 w22.heap.size (.slice ow23 L.length kw23) L) := OHw24.out.keep fun b h => hbw25.block b (OHw24.out.blk h).2.1
   clear KAw24 KBw24 OSw24 RGw24 OHw24 hbw25 HBw24
   go_wp2
   go_ret
   exact ⟨rfl, HBw25.out⟩
end fnExactCompare
end Go.Proofs.YtamjofdgikifnaaGreat
