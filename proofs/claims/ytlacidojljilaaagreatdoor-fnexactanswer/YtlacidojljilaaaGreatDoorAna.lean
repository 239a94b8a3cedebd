/- What has come of a machine, in a word: the model's Answer and the program's. -/
import Derived.Test.YtlacidojljilaaaGreatDoorTxh
import Derived.Test.YtlacidojljilaaaGreatDoorMcv
set_option linter.unusedVariables false
set_option maxRecDepth 100000
set_option maxHeartbeats 8000000
namespace Go.Proofs.YtlacidojljilaaaGreatDoor
open Go.ChangeShapes Go.WideShapes Go.ChangeAt Go.RowKit
def wordL (e : Int) : List UInt8 := if e = 1 then [117, 110, 98, 111, 117, 110, 100] else if e = 2 then [116, 121, 112, 101] else if e = 3 then [114, 97, 110, 103, 101] else if e = 5 then [97, 114, 105, 116, 121] else if e = 6 then [100, 101, 112, 116, 104] else [102, 117, 108, 108]
def endIs (h : List Cel) (m : Mac) (s : List UInt8) : Prop :=
 if m.mode = 3 then (if m.end_ = 0 then TextIs h m.val s else if m.end_ = 4 then ∃ t, TextIs h m.val t ∧ s = [101, 114, 114, 111, 114, 32] ++ t else s = wordL m.end_) else s = [114, 117, 110, 110, 105, 110, 103]
def AnsIs (y : Sy) (m : Mac) (s : List UInt8) : Prop := if m.ok y = true then endIs y.heap m s else s = []
theorem bytes_eq {a b : ByteArray} (h : a.data.toList = b.data.toList) : a = b := by
 obtain ⟨⟨a⟩⟩ := a
 obtain ⟨⟨b⟩⟩ := b
 exact congrArg (fun l : List UInt8 => (⟨⟨l⟩⟩ : ByteArray)) h
theorem app_err (s : List UInt8) : ((⟨#[101, 114, 114, 111, 114, 32]⟩ ++ ⟨s.toArray⟩ : ByteArray)).data.toList = [101, 114, 114, 111, 114, 32] ++ s := congrArg (fun z : ByteArray => z.data.toList) (ByteArray.mk_append_mk [101, 114, 114, 111, 114, 32] s)
theorem TextIs.len {h : List Cel} {v : Val} {s : List UInt8} (h1 : TextIs h v s) : s.length ≤ 100000 := by
 by_cases hq : HeapP h ∧ v.ok h = true
 ·obtain ⟨t, _, rfl⟩ := h1.1 hq; rw [List.length_take]; omega
 ·rw [h1.2 hq]; simp
theorem endIs.unique {h : List Cel} {m : Mac} {s s' : List UInt8} (h1 : endIs h m s) (h2 : endIs h m s') : s = s' := by
 unfold endIs at h1 h2
 split at h1
 ·split at h1
  ·rw [if_pos ‹_›, if_pos ‹_›] at h2; exact h1.unique h2
  ·split at h1
   ·rw [if_pos ‹_›, if_neg ‹_›, if_pos ‹_›] at h2
    obtain ⟨t, h3, rfl⟩ := h1
    obtain ⟨t', h4, rfl⟩ := h2
    rw [h3.unique h4]
   ·rw [if_pos ‹_›, if_neg ‹_›, if_neg ‹_›] at h2; rw [h1, h2]
 ·rw [if_neg ‹_›] at h2; rw [h1, h2]
theorem AnsIs.unique {y : Sy} {m : Mac} {s s' : List UInt8} (h1 : AnsIs y m s) (h2 : AnsIs y m s') : s = s' := by
 unfold AnsIs at h1 h2
 split at h1
 ·rw [if_pos ‹_›] at h2; exact h1.unique h2
 ·rw [if_neg ‹_›] at h2; rw [h1, h2]
def AnPost (P : List UInt8 → Prop) (w : World) (e : Ending) (w' : World) : Prop := ∃ s : ByteArray, e = .returned (.string s) ∧ P s.data.toList ∧ Below w.heap.size w w'
theorem ok_parts {y : Sy} {m : Mac} (h : m.ok y = true) : HeapP y.heap ∧ (m.mode = 3 → m.val.okz y.heap = true) := by
 unfold Mac.ok at h
 simp only [Bool.and_eq_true] at h
 obtain ⟨_, _, _, _, h5, h6, _⟩ := h
 refine ⟨?_, fun h3 => ?_⟩
 ·unfold Sy.ok at h5
  simp only [Bool.and_eq_true] at h5
  exact holds_iff.1 h5.1.1.1.1
 ·unfold valB at h6
  rw [h3] at h6
  exact h6
theorem endWord_any (e : Int) (w : World) : Calls Tryz.prog 30 #[.int .i64 e] w fun r w' => r = .returned (.string ⟨(wordL e).toArray⟩) ∧ w' = w := by
 by_cases q1 : e = 1
 ·subst q1
  go_enter Tryz.func30, Tryz.ntmps30
  go_wp2
  go_ret
  exact ⟨rfl, rfl⟩
 by_cases q2 : e = 2
 ·subst q2
  go_enter Tryz.func30, Tryz.ntmps30
  go_wp2
  go_ret
  exact ⟨rfl, rfl⟩
 by_cases q3 : e = 3
 ·subst q3
  go_enter Tryz.func30, Tryz.ntmps30
  go_wp2
  go_ret
  exact ⟨rfl, rfl⟩
 by_cases q5 : e = 5
 ·subst q5
  go_enter Tryz.func30, Tryz.ntmps30
  go_wp2
  go_ret
  exact ⟨rfl, rfl⟩
 by_cases q6 : e = 6
 ·subst q6
  go_enter Tryz.func30, Tryz.ntmps30
  go_wp2
  go_ret
  exact ⟨rfl, rfl⟩
 have g1 : (e == 1) = false := beq_eq_false_iff_ne.2 q1
 have g2 : (e == 2) = false := beq_eq_false_iff_ne.2 q2
 have g3 : (e == 3) = false := beq_eq_false_iff_ne.2 q3
 have g5 : (e == 5) = false := beq_eq_false_iff_ne.2 q5
 have g6 : (e == 6) = false := beq_eq_false_iff_ne.2 q6
 have HW : Hid (wordL e = [102, 117, 108, 108]) := by show _ = _; unfold wordL; rw [if_neg q1, if_neg q2, if_neg q3, if_neg q5, if_neg q6]
 clear q1 q2 q3 q5 q6
 go_enter Tryz.func30, Tryz.ntmps30
 go_wp2
 go_ret
 exact ⟨by rw [HW.out]; rfl, rfl⟩
theorem l10Answer_any (y : Sy) (y1 y2 y3 y4 : Option Addr) (d1 d2 d3 d4 : Nat) (m : Mac) (m1 m2 : Option Addr) (e1 e2 : Nat) (w : World) (hs : y.small) (hr : SyRows w (fun b => b < w.heap.size) y1 y2 y3 y4 d1 d2 d3 d4 y) (hsm : m.small) :
  Calls Tryz.prog 20 #[.agg #[.slice y1 y.heap.length d1, .slice y2 y.insts.length d2, .slice y3 y.units.length d3, .slice y4 y.out.length d4], .agg #[.int .i64 m.mode, .int .i64 m.unit, .int .i64 m.node, .slice m1 m.env.length e1, .int .i64 m.val.k, .int .i64 m.val.n, .string m.val.s, .slice m2 m.stack.length e2, .int .i64 m.end_]] w fun e w' => AnPost (endIs y.heap m) w e w' := by
 have hb0 : Below w.heap.size w ((w.alloc (Obj.cells #[.slice y1 y.heap.length d1, .slice y2 y.insts.length d2, .slice y3 y.units.length d3, .slice y4 y.out.length d4] 41)).alloc (Obj.cells #[.int .i64 m.mode, .int .i64 m.unit, .int .i64 m.node, .slice m1 m.env.length e1, .int .i64 m.val.k, .int .i64 m.val.n, .string m.val.s, .slice m2 m.stack.length e2, .int .i64 m.end_] 47)) := (bR _ _).alloc (by simp) _
 have k0 : ((w.alloc (Obj.cells #[.slice y1 y.heap.length d1, .slice y2 y.insts.length d2, .slice y3 y.units.length d3, .slice y4 y.out.length d4] 41)).alloc (Obj.cells #[.int .i64 m.mode, .int .i64 m.unit, .int .i64 m.node, .slice m1 m.env.length e1, .int .i64 m.val.k, .int .i64 m.val.n, .string m.val.s, .slice m2 m.stack.length e2, .int .i64 m.end_] 47)).heap[w.heap.size]? = some (Obj.cells #[.slice y1 y.heap.length d1, .slice y2 y.insts.length d2, .slice y3 y.units.length d3, .slice y4 y.out.length d4] 41) := blk_past (blk_alloc _ _)
 have k1 : ((w.alloc (Obj.cells #[.slice y1 y.heap.length d1, .slice y2 y.insts.length d2, .slice y3 y.units.length d3, .slice y4 y.out.length d4] 41)).alloc (Obj.cells #[.int .i64 m.mode, .int .i64 m.unit, .int .i64 m.node, .slice m1 m.env.length e1, .int .i64 m.val.k, .int .i64 m.val.n, .string m.val.s, .slice m2 m.stack.length e2, .int .i64 m.end_] 47)).heap[w.heap.size + 1]? = some (Obj.cells #[.int .i64 m.mode, .int .i64 m.unit, .int .i64 m.node, .slice m1 m.env.length e1, .int .i64 m.val.k, .int .i64 m.val.n, .string m.val.s, .slice m2 m.stack.length e2, .int .i64 m.end_] 47) := blk_at _ _ _ (by simp)
 have HTX : Hid (∀ w1, Below w.heap.size w w1 → Calls Tryz.prog 49 #[.slice y1 y.heap.length d1, .agg #[.int .i64 m.val.k, .int .i64 m.val.n, .string m.val.s]] w1 fun e w' => TxPost y.heap m.val w1 e w') := fun w1 h1 => specText_any y1 y.heap d1 m.val w1 hs.1.1 hs.1.2 hsm.2.2.2.2.1 (rowC_iff.1 (hr.1.1.keep fun b hb => ⟨Nat.lt_of_lt_of_le hb h1.size, h1.block b hb⟩))
 clear hr
 have c0 := zB 0 k0 rfl
 obtain ⟨x0, x4, x5, x6, x8⟩ := zj5 0 4 5 6 8 k1 rfl rfl rfl rfl rfl
 clear k0 k1
 by_cases q : m.mode = 3
 ·have g : (m.mode == 3) = true := beq_iff_eq.2 q
  by_cases p0 : m.end_ = 0
  ·have f0 : (m.end_ == 0) = true := beq_iff_eq.2 p0
   have HQ : Hid (∀ s, TextIs y.heap m.val s → endIs y.heap m s) := fun s h => by unfold endIs; rw [if_pos q, if_pos p0]; exact h
   clear q p0
   go_enter Tryz.func20, Tryz.ntmps20
   go_wp2_with fail
   refine (HTX.out _ hb0).mono ?_
   rintro e w1 ⟨s, rfl, hs1, hb1⟩
   go_wp2
   go_ret
   exact ⟨_, rfl, HQ.out _ hs1, bT hb0 hb1⟩
  have f0 : (m.end_ == 0) = false := beq_eq_false_iff_ne.2 p0
  by_cases p1 : m.end_ = 1
  ·have f1 : (m.end_ == 1) = true := beq_iff_eq.2 p1
   have HQ : Hid (endIs y.heap m [117, 110, 98, 111, 117, 110, 100]) := by show endIs _ _ _; unfold endIs; rw [if_pos q, if_neg p0, if_neg (by omega)]; rw [p1]; rfl
   clear q p0 p1
   go_enter Tryz.func20, Tryz.ntmps20
   go_wp2
   go_ret
   exact ⟨_, rfl, HQ.out, hb0⟩
  have f1 : (m.end_ == 1) = false := beq_eq_false_iff_ne.2 p1
  by_cases p2 : m.end_ = 2
  ·have f2 : (m.end_ == 2) = true := beq_iff_eq.2 p2
   have HQ : Hid (endIs y.heap m [116, 121, 112, 101]) := by show endIs _ _ _; unfold endIs; rw [if_pos q, if_neg p0, if_neg (by omega)]; rw [p2]; rfl
   clear q p0 p1 p2
   go_enter Tryz.func20, Tryz.ntmps20
   go_wp2
   go_ret
   exact ⟨_, rfl, HQ.out, hb0⟩
  have f2 : (m.end_ == 2) = false := beq_eq_false_iff_ne.2 p2
  by_cases p3 : m.end_ = 3
  ·have f3 : (m.end_ == 3) = true := beq_iff_eq.2 p3
   have HQ : Hid (endIs y.heap m [114, 97, 110, 103, 101]) := by show endIs _ _ _; unfold endIs; rw [if_pos q, if_neg p0, if_neg (by omega)]; rw [p3]; rfl
   clear q p0 p1 p2 p3
   go_enter Tryz.func20, Tryz.ntmps20
   go_wp2
   go_ret
   exact ⟨_, rfl, HQ.out, hb0⟩
  have f3 : (m.end_ == 3) = false := beq_eq_false_iff_ne.2 p3
  by_cases p4 : m.end_ = 4
  ·have f4 : (m.end_ == 4) = true := beq_iff_eq.2 p4
   have HQ : Hid (∀ s, TextIs y.heap m.val s → endIs y.heap m ([101, 114, 114, 111, 114, 32] ++ s)) := fun s h => by unfold endIs; rw [if_pos q, if_neg p0, if_pos p4]; exact ⟨s, h, rfl⟩
   clear q p0 p1 p2 p3 p4
   go_enter Tryz.func20, Tryz.ntmps20
   go_wp2_with fail
   refine (HTX.out _ hb0).mono ?_
   rintro e w1 ⟨s, rfl, hs1, hb1⟩
   have hnl : ¬ 9223372036854775807 < 6 + s.length := by have := hs1.len; omega
   go_wp2
   go_ret
   exact ⟨_, rfl, by rw [app_err]; exact HQ.out _ hs1, bT hb0 hb1⟩
  have f4 : (m.end_ == 4) = false := beq_eq_false_iff_ne.2 p4
  by_cases p5 : m.end_ = 5
  ·have f5 : (m.end_ == 5) = true := beq_iff_eq.2 p5
   have HQ : Hid (endIs y.heap m [97, 114, 105, 116, 121]) := by show endIs _ _ _; unfold endIs; rw [if_pos q, if_neg p0, if_neg p4]; rw [p5]; rfl
   clear q p0 p1 p2 p3 p4 p5
   go_enter Tryz.func20, Tryz.ntmps20
   go_wp2
   go_ret
   exact ⟨_, rfl, HQ.out, hb0⟩
  have f5 : (m.end_ == 5) = false := beq_eq_false_iff_ne.2 p5
  by_cases p6 : m.end_ = 6
  ·have f6 : (m.end_ == 6) = true := beq_iff_eq.2 p6
   have HQ : Hid (endIs y.heap m [100, 101, 112, 116, 104]) := by show endIs _ _ _; unfold endIs; rw [if_pos q, if_neg p0, if_neg p4]; rw [p6]; rfl
   clear q p0 p1 p2 p3 p4 p5 p6
   go_enter Tryz.func20, Tryz.ntmps20
   go_wp2
   go_ret
   exact ⟨_, rfl, HQ.out, hb0⟩
  have f6 : (m.end_ == 6) = false := beq_eq_false_iff_ne.2 p6
  have HQ : Hid (endIs y.heap m [102, 117, 108, 108]) := by show endIs _ _ _; unfold endIs; rw [if_pos q, if_neg p0, if_neg p4]; unfold wordL; rw [if_neg p1, if_neg p2, if_neg p3, if_neg p5, if_neg p6]
  clear q p0 p1 p2 p3 p4 p5 p6
  go_enter Tryz.func20, Tryz.ntmps20
  go_wp2
  go_ret
  exact ⟨_, rfl, HQ.out, hb0⟩
 ·have g : (m.mode == 3) = false := beq_eq_false_iff_ne.2 q
  have HQ : Hid (endIs y.heap m [114, 117, 110, 110, 105, 110, 103]) := by show endIs _ _ _; unfold endIs; rw [if_neg q]
  clear q
  go_enter Tryz.func20, Tryz.ntmps20
  go_wp2
  go_ret
  exact ⟨_, rfl, HQ.out, hb0⟩
theorem specAns_any (y : Sy) (y1 y2 y3 y4 : Option Addr) (d1 d2 d3 d4 : Nat) (m : Mac) (m1 m2 : Option Addr) (e1 e2 : Nat) (w : World) (hs : y.small) (hr : SyRows w (fun b => b < w.heap.size) y1 y2 y3 y4 d1 d2 d3 d4 y) (hsm : m.small) (hfl : ∀ u ∈ y.units, (flat u.prog.nodes).length ≤ 1048576) (hrm : MacRows w (fun b => b < w.heap.size) m1 m2 e1 e2 m) :
  Calls Tryz.prog 6 #[.agg #[.slice y1 y.heap.length d1, .slice y2 y.insts.length d2, .slice y3 y.units.length d3, .slice y4 y.out.length d4], .agg #[.int .i64 m.mode, .int .i64 m.unit, .int .i64 m.node, .slice m1 m.env.length e1, .int .i64 m.val.k, .int .i64 m.val.n, .string m.val.s, .slice m2 m.stack.length e2, .int .i64 m.end_]] w fun e w' => AnPost (AnsIs y m) w e w' := by
 have hb0 : Below w.heap.size w ((w.alloc (Obj.cells #[.slice y1 y.heap.length d1, .slice y2 y.insts.length d2, .slice y3 y.units.length d3, .slice y4 y.out.length d4] 41)).alloc (Obj.cells #[.int .i64 m.mode, .int .i64 m.unit, .int .i64 m.node, .slice m1 m.env.length e1, .int .i64 m.val.k, .int .i64 m.val.n, .string m.val.s, .slice m2 m.stack.length e2, .int .i64 m.end_] 47)) := (bR _ _).alloc (by simp) _
 have k0 : ((w.alloc (Obj.cells #[.slice y1 y.heap.length d1, .slice y2 y.insts.length d2, .slice y3 y.units.length d3, .slice y4 y.out.length d4] 41)).alloc (Obj.cells #[.int .i64 m.mode, .int .i64 m.unit, .int .i64 m.node, .slice m1 m.env.length e1, .int .i64 m.val.k, .int .i64 m.val.n, .string m.val.s, .slice m2 m.stack.length e2, .int .i64 m.end_] 47)).heap[w.heap.size]? = some (Obj.cells #[.slice y1 y.heap.length d1, .slice y2 y.insts.length d2, .slice y3 y.units.length d3, .slice y4 y.out.length d4] 41) := blk_past (blk_alloc _ _)
 have k1 : ((w.alloc (Obj.cells #[.slice y1 y.heap.length d1, .slice y2 y.insts.length d2, .slice y3 y.units.length d3, .slice y4 y.out.length d4] 41)).alloc (Obj.cells #[.int .i64 m.mode, .int .i64 m.unit, .int .i64 m.node, .slice m1 m.env.length e1, .int .i64 m.val.k, .int .i64 m.val.n, .string m.val.s, .slice m2 m.stack.length e2, .int .i64 m.end_] 47)).heap[w.heap.size + 1]? = some (Obj.cells #[.int .i64 m.mode, .int .i64 m.unit, .int .i64 m.node, .slice m1 m.env.length e1, .int .i64 m.val.k, .int .i64 m.val.n, .string m.val.s, .slice m2 m.stack.length e2, .int .i64 m.end_] 47) := blk_at _ _ _ (by simp)
 have HMO : Hid (∀ w1, Below w.heap.size w w1 → Calls Tryz.prog 19 #[.agg #[.slice y1 y.heap.length d1, .slice y2 y.insts.length d2, .slice y3 y.units.length d3, .slice y4 y.out.length d4], .agg #[.int .i64 m.mode, .int .i64 m.unit, .int .i64 m.node, .slice m1 m.env.length e1, .int .i64 m.val.k, .int .i64 m.val.n, .string m.val.s, .slice m2 m.stack.length e2, .int .i64 m.end_]] w1 fun e w' => Ans w1 (.bool (m.ok y)) e w') := fun w1 h1 => specMac_any y y1 y2 y3 y4 d1 d2 d3 d4 m m1 m2 e1 e2 w1 hs (hr.keep fun b hb => ⟨Nat.lt_of_lt_of_le hb h1.size, h1.block b hb⟩) hfl hsm (hrm.keep fun b hb => ⟨Nat.lt_of_lt_of_le hb h1.size, h1.block b hb⟩)
 have HLA : Hid (∀ w1, Below w.heap.size w w1 → Calls Tryz.prog 20 #[.agg #[.slice y1 y.heap.length d1, .slice y2 y.insts.length d2, .slice y3 y.units.length d3, .slice y4 y.out.length d4], .agg #[.int .i64 m.mode, .int .i64 m.unit, .int .i64 m.node, .slice m1 m.env.length e1, .int .i64 m.val.k, .int .i64 m.val.n, .string m.val.s, .slice m2 m.stack.length e2, .int .i64 m.end_]] w1 fun e w' => AnPost (endIs y.heap m) w1 e w') := fun w1 h1 => l10Answer_any y y1 y2 y3 y4 d1 d2 d3 d4 m m1 m2 e1 e2 w1 hs (hr.keep fun b hb => ⟨Nat.lt_of_lt_of_le hb h1.size, h1.block b hb⟩) hsm
 clear hr hrm hfl
 have HA : Hid (∀ s, endIs y.heap m s → m.ok y = true → AnsIs y m s) := fun s h h2 => by unfold AnsIs; rw [if_pos h2]; exact h
 have HB : Hid (m.ok y = false → AnsIs y m []) := fun h2 => by unfold AnsIs; rw [h2]; rfl
 obtain ⟨c0, c1, c2, c3⟩ := zn4 k0 rfl rfl rfl rfl
 obtain ⟨x0, x1, x2, x3, x4, x5, x6, x7, x8⟩ := zn9 k1 rfl rfl rfl rfl rfl rfl rfl rfl rfl
 cases hok : m.ok y
 ·rw [hok] at HMO
  have HK : Hid (m.ok y = false) := hok
  clear hok k0 k1
  go_enter Tryz.func6, Tryz.ntmps6
  go_wp2_with fail
  refine (HMO.out _ hb0).mono ?_
  rintro e w1 ⟨rfl, hb1⟩
  go_wp2
  go_ret
  exact ⟨_, rfl, HB.out HK.out, bT hb0 hb1⟩
 ·rw [hok] at HMO
  have HK : Hid (m.ok y = true) := hok
  clear hok
  go_enter Tryz.func6, Tryz.ntmps6
  go_wp2_with fail
  refine (HMO.out _ hb0).mono ?_
  rintro e w1 ⟨rfl, hb1⟩
  have hb2 := bT hb0 hb1
  have k2 := bK k0 hb1
  have k3 := bK k1 hb1
  clear c0 c1 c2 c3 x0 x1 x2 x3 x4 x5 x6 x7 x8 k0 k1
  obtain ⟨c0, c1, c2, c3⟩ := zn4 k2 rfl rfl rfl rfl
  obtain ⟨x0, x1, x2, x3, x4, x5, x6, x7, x8⟩ := zn9 k3 rfl rfl rfl rfl rfl rfl rfl rfl rfl
  clear k2 k3
  go_wp2_with fail
  refine (HLA.out _ hb2).mono ?_
  rintro e w2 ⟨s, rfl, hs2, hb3⟩
  go_wp2
  go_ret
  exact ⟨_, rfl, HA.out _ hs2 HK.out, bT hb2 hb3⟩
theorem implAns_any (y : Sy) (y1 y2 y3 y4 : Option Addr) (d1 d2 d3 d4 : Nat) (m : Mac) (m1 m2 : Option Addr) (e1 e2 : Nat) (w : World) (hs : y.small) (hr : SyRows w (fun b => b < w.heap.size) y1 y2 y3 y4 d1 d2 d3 d4 y) (hsm : m.small) (hrm : MacRows w (fun b => b < w.heap.size) m1 m2 e1 e2 m) (h0 : 0 < w.heap.size) (htab : Tab w) :
  Calls Tryz.prog 9 #[.agg #[.slice y1 y.heap.length d1, .slice y2 y.insts.length d2, .slice y3 y.units.length d3, .slice y4 y.out.length d4], .agg #[.int .i64 m.mode, .int .i64 m.unit, .int .i64 m.node, .slice m1 m.env.length e1, .int .i64 m.val.k, .int .i64 m.val.n, .string m.val.s, .slice m2 m.stack.length e2, .int .i64 m.end_]] w fun e w' => AnPost (AnsIs y m) w e w' := by
 have hb0 : Below w.heap.size w ((w.alloc (Obj.cells #[.slice y1 y.heap.length d1, .slice y2 y.insts.length d2, .slice y3 y.units.length d3, .slice y4 y.out.length d4] 41)).alloc (Obj.cells #[.int .i64 m.mode, .int .i64 m.unit, .int .i64 m.node, .slice m1 m.env.length e1, .int .i64 m.val.k, .int .i64 m.val.n, .string m.val.s, .slice m2 m.stack.length e2, .int .i64 m.end_] 47)) := (bR _ _).alloc (by simp) _
 have k0 : ((w.alloc (Obj.cells #[.slice y1 y.heap.length d1, .slice y2 y.insts.length d2, .slice y3 y.units.length d3, .slice y4 y.out.length d4] 41)).alloc (Obj.cells #[.int .i64 m.mode, .int .i64 m.unit, .int .i64 m.node, .slice m1 m.env.length e1, .int .i64 m.val.k, .int .i64 m.val.n, .string m.val.s, .slice m2 m.stack.length e2, .int .i64 m.end_] 47)).heap[w.heap.size]? = some (Obj.cells #[.slice y1 y.heap.length d1, .slice y2 y.insts.length d2, .slice y3 y.units.length d3, .slice y4 y.out.length d4] 41) := blk_past (blk_alloc _ _)
 have k1 : ((w.alloc (Obj.cells #[.slice y1 y.heap.length d1, .slice y2 y.insts.length d2, .slice y3 y.units.length d3, .slice y4 y.out.length d4] 41)).alloc (Obj.cells #[.int .i64 m.mode, .int .i64 m.unit, .int .i64 m.node, .slice m1 m.env.length e1, .int .i64 m.val.k, .int .i64 m.val.n, .string m.val.s, .slice m2 m.stack.length e2, .int .i64 m.end_] 47)).heap[w.heap.size + 1]? = some (Obj.cells #[.int .i64 m.mode, .int .i64 m.unit, .int .i64 m.node, .slice m1 m.env.length e1, .int .i64 m.val.k, .int .i64 m.val.n, .string m.val.s, .slice m2 m.stack.length e2, .int .i64 m.end_] 47) := blk_at _ _ _ (by simp)
 have HMO : Hid (∀ w1, Below w.heap.size w w1 → Calls Tryz.prog 28 #[.agg #[.slice y1 y.heap.length d1, .slice y2 y.insts.length d2, .slice y3 y.units.length d3, .slice y4 y.out.length d4], .agg #[.int .i64 m.mode, .int .i64 m.unit, .int .i64 m.node, .slice m1 m.env.length e1, .int .i64 m.val.k, .int .i64 m.val.n, .string m.val.s, .slice m2 m.stack.length e2, .int .i64 m.end_]] w1 fun e w' => Ans w1 (.bool (m.ok y)) e w') := fun w1 h1 => implMac_any y y1 y2 y3 y4 d1 d2 d3 d4 m m1 m2 e1 e2 w1 hs (hr.keep fun b hb => ⟨Nat.lt_of_lt_of_le hb h1.size, h1.block b hb⟩) hsm (hrm.keep fun b hb => ⟨Nat.lt_of_lt_of_le hb h1.size, h1.block b hb⟩)
 have HTX : Hid (m.ok y = true → m.mode = 3 → ∀ w1, Below w.heap.size w w1 → Calls Tryz.prog 29 #[.slice y1 y.heap.length d1, .agg #[.int .i64 m.val.k, .int .i64 m.val.n, .string m.val.s]] w1 fun e w' => TxPost y.heap m.val w1 e w') := fun ho h3 w1 h1 => textOf_any y1 y.heap d1 m.val w1 hs.1.1 hs.1.2 hsm.2.2.2.2.1 (ok_parts ho).1 ((ok_parts ho).2 h3) (rowC_iff.1 (hr.1.1.keep fun b hb => ⟨Nat.lt_of_lt_of_le hb h1.size, h1.block b hb⟩)) (Nat.lt_of_lt_of_le h0 h1.size) (var?_below h1 gPow h0 htab)
 have HEW : Hid (∀ w1, Calls Tryz.prog 30 #[.int .i64 m.end_] w1 fun e w' => e = .returned (.string ⟨(wordL m.end_).toArray⟩) ∧ w' = w1) := fun w1 => endWord_any m.end_ w1
 clear hr hrm htab
 have HA : Hid (∀ s, endIs y.heap m s → m.ok y = true → AnsIs y m s) := fun s h h2 => by unfold AnsIs; rw [if_pos h2]; exact h
 have HB : Hid (m.ok y = false → AnsIs y m []) := fun h2 => by unfold AnsIs; rw [h2]; rfl
 obtain ⟨c0, c1, c2, c3⟩ := zn4 k0 rfl rfl rfl rfl
 obtain ⟨x0, x1, x2, x3, x4, x5, x6, x7, x8⟩ := zn9 k1 rfl rfl rfl rfl rfl rfl rfl rfl rfl
 cases hok : m.ok y
 ·rw [hok] at HMO
  have HK : Hid (m.ok y = false) := hok
  clear hok k0 k1 HTX
  go_enter Tryz.func9, Tryz.ntmps9
  go_wp2_with fail
  refine (HMO.out _ hb0).mono ?_
  rintro e w1 ⟨rfl, hb1⟩
  go_wp2
  go_ret
  exact ⟨_, rfl, HB.out HK.out, bT hb0 hb1⟩
 ·rw [hok] at HMO
  have HK : Hid (m.ok y = true) := hok
  have HTY : Hid (m.mode = 3 → ∀ w1, Below w.heap.size w w1 → Calls Tryz.prog 29 #[.slice y1 y.heap.length d1, .agg #[.int .i64 m.val.k, .int .i64 m.val.n, .string m.val.s]] w1 fun e w' => TxPost y.heap m.val w1 e w') := HTX.out hok
  clear hok HTX
  by_cases q : m.mode = 3
  ·have g : (m.mode == 3) = true := beq_iff_eq.2 q
   have HTZ : Hid (∀ w1, Below w.heap.size w w1 → Calls Tryz.prog 29 #[.slice y1 y.heap.length d1, .agg #[.int .i64 m.val.k, .int .i64 m.val.n, .string m.val.s]] w1 fun e w' => TxPost y.heap m.val w1 e w') := HTY.out q
   by_cases p0 : m.end_ = 0
   ·have f0 : (m.end_ == 0) = true := beq_iff_eq.2 p0
    have HQ : Hid (∀ s, TextIs y.heap m.val s → endIs y.heap m s) := fun s h => by unfold endIs; rw [if_pos q, if_pos p0]; exact h
    clear q p0 HTY
    go_enter Tryz.func9, Tryz.ntmps9
    go_wp2_with fail
    refine (HMO.out _ hb0).mono ?_
    rintro e w1 ⟨rfl, hb1⟩
    have hb2 := bT hb0 hb1
    have k2 := bK k0 hb1
    have k3 := bK k1 hb1
    clear c0 c1 c2 c3 x0 x1 x2 x3 x4 x5 x6 x7 x8 k0 k1
    have c0 := zB 0 k2 rfl
    obtain ⟨x0, x4, x5, x6, x8⟩ := zj5 0 4 5 6 8 k3 rfl rfl rfl rfl rfl
    clear k2 k3
    go_wp2_with fail
    refine (HTZ.out _ hb2).mono ?_
    rintro e w2 ⟨s, rfl, hs2, hb3⟩
    go_wp2
    go_ret
    exact ⟨_, rfl, HA.out _ (HQ.out _ hs2) HK.out, bT hb2 hb3⟩
   have f0 : (m.end_ == 0) = false := beq_eq_false_iff_ne.2 p0
   by_cases p4 : m.end_ = 4
   ·have f4 : (m.end_ == 4) = true := beq_iff_eq.2 p4
    have HQ : Hid (∀ s, TextIs y.heap m.val s → endIs y.heap m ([101, 114, 114, 111, 114, 32] ++ s)) := fun s h => by unfold endIs; rw [if_pos q, if_neg p0, if_pos p4]; exact ⟨s, h, rfl⟩
    clear q p0 p4 HTY
    go_enter Tryz.func9, Tryz.ntmps9
    go_wp2_with fail
    refine (HMO.out _ hb0).mono ?_
    rintro e w1 ⟨rfl, hb1⟩
    have hb2 := bT hb0 hb1
    have k2 := bK k0 hb1
    have k3 := bK k1 hb1
    clear c0 c1 c2 c3 x0 x1 x2 x3 x4 x5 x6 x7 x8 k0 k1
    have c0 := zB 0 k2 rfl
    obtain ⟨x0, x4, x5, x6, x8⟩ := zj5 0 4 5 6 8 k3 rfl rfl rfl rfl rfl
    clear k2 k3
    go_wp2_with fail
    refine (HTZ.out _ hb2).mono ?_
    rintro e w2 ⟨s, rfl, hs2, hb3⟩
    have hnl : ¬ 9223372036854775807 < 6 + s.length := by have := hs2.len; omega
    go_wp2
    go_ret
    exact ⟨_, rfl, HA.out _ (by rw [app_err]; exact HQ.out _ hs2) HK.out, bT hb2 hb3⟩
   have f4 : (m.end_ == 4) = false := beq_eq_false_iff_ne.2 p4
   have HQ : Hid (endIs y.heap m (wordL m.end_)) := by show endIs _ _ _; unfold endIs; rw [if_pos q, if_neg p0, if_neg p4]
   clear q p0 p4 HTY HTZ
   go_enter Tryz.func9, Tryz.ntmps9
   go_wp2_with fail
   refine (HMO.out _ hb0).mono ?_
   rintro e w1 ⟨rfl, hb1⟩
   have hb2 := bT hb0 hb1
   have k2 := bK k0 hb1
   have k3 := bK k1 hb1
   clear c0 c1 c2 c3 x0 x1 x2 x3 x4 x5 x6 x7 x8 k0 k1
   have c0 := zB 0 k2 rfl
   obtain ⟨x0, x4, x5, x6, x8⟩ := zj5 0 4 5 6 8 k3 rfl rfl rfl rfl rfl
   clear k2 k3
   go_wp2_with fail
   refine (HEW.out _).mono ?_
   rintro e w2 ⟨rfl, rfl⟩
   go_wp2
   go_ret
   exact ⟨_, rfl, HA.out _ (by simpa using HQ.out) HK.out, hb2⟩
  ·have g : (m.mode == 3) = false := beq_eq_false_iff_ne.2 q
   have HQ : Hid (endIs y.heap m [114, 117, 110, 110, 105, 110, 103]) := by show endIs _ _ _; unfold endIs; rw [if_neg q]
   clear q HTY
   go_enter Tryz.func9, Tryz.ntmps9
   go_wp2_with fail
   refine (HMO.out _ hb0).mono ?_
   rintro e w1 ⟨rfl, hb1⟩
   have hb2 := bT hb0 hb1
   have k2 := bK k0 hb1
   have k3 := bK k1 hb1
   clear c0 c1 c2 c3 x0 x1 x2 x3 x4 x5 x6 x7 x8 k0 k1
   have c0 := zB 0 k2 rfl
   obtain ⟨x0, x4, x5, x6, x8⟩ := zj5 0 4 5 6 8 k3 rfl rfl rfl rfl rfl
   clear k2 k3
   go_wp2
   go_ret
   exact ⟨_, rfl, HA.out _ HQ.out HK.out, hb2⟩
end Go.Proofs.YtlacidojljilaaaGreatDoor
