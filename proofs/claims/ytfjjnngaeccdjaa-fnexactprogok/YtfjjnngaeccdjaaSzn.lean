/- The size of a program that comes in. -/
import Derived.Test.YtfjjnngaeccdjaaPrp
set_option linter.unusedVariables false
namespace Go.Proofs.Ytfjjnngaeccdjaa
open Go.ChangeShapes Go.WideShapes Go.ChangeAt Go.RowKit
/-- What is left of a number behind a bulk. -/
def leftOf (left b : Nat) : Int := if left < b then -1 else (left : Int) - b
theorem leftOf_nat {left b : Nat} (h : ¬ left < b) : leftOf left b = ((left - b : Nat) : Int) := by
  unfold leftOf
  rw [if_neg h]
  omega
theorem leftOf_neg {left b : Nat} (h : left < b) : leftOf left b = -1 := if_pos h
theorem leftOf_add {left b c : Nat} (h : ¬ left < b) : leftOf left (b + c) = leftOf (left - b) c := by
  unfold leftOf
  by_cases h2 : left - b < c
  · rw [if_pos (by omega), if_pos h2]
  · rw [if_neg (by omega), if_neg h2]; omega
/-- How much texts hold. -/
def bulkS : List ByteArray → Nat
  | [] => 0
  | x :: r => 1 + x.size + bulkS r
theorem bulkS_append : ∀ (a b : List ByteArray), bulkS (a ++ b) = bulkS a + bulkS b
  | [], b => by simp [bulkS]
  | d :: a, b => by simp [bulkS, bulkS_append a b]; omega
theorem bulkS_take_succ {cs : List ByteArray} {i : Nat} {d : ByteArray} (h : cs[i]? = some d) : bulkS (cs.take (i + 1)) = bulkS (cs.take i) + (1 + d.size) := by
  rw [List.take_add_one, h]
  simp [bulkS_append, bulkS]
theorem bulkS_len : ∀ (cs : List ByteArray), cs.length ≤ bulkS cs
  | [] => by simp [bulkS]
  | d :: cs => by have := bulkS_len cs; simp [bulkS]; omega
theorem bulkS_take_le (cs : List ByteArray) (i : Nat) : bulkS (cs.take i) + (cs.length - i) ≤ bulkS cs := by
  have := bulkS_len (cs.drop i)
  rw [List.length_drop] at this
  conv => rhs; rw [← List.take_append_drop i cs, bulkS_append]
  omega
theorem bulkS_mem {cs : List ByteArray} {x : ByteArray} (h : x ∈ cs) : x.size ≤ bulkS cs := by
  obtain ⟨a, b, rfl⟩ := List.append_of_mem h
  rw [bulkS_append]
  simp [bulkS]
  omega
set_option maxRecDepth 100000 in
theorem szStringS_any (a : Option Addr) (ts : List ByteArray) (cap : Nat) (left : Nat) (w : World) (hl : left ≤ 1048576) (hn : ts.length ≤ 9223372036854775807) (hr : RowS w w.heap.size a ts) (hsz : ∀ x ∈ ts, x.size ≤ 9223372036854775807) :
    Calls Try.prog 40 #[.slice a ts.length cap, .int .i64 left] w fun e w' => Ans w (.int .i64 (leftOf left (bulkS ts))) e w' := by
  by_cases h : left < ts.length
  · have HL : Hid (leftOf left (bulkS ts) = -1) := if_pos (by have := bulkS_len ts; omega)
    have hd : decide ((left : Int) - (ts.length : Int) < 0) = true := by simp; omega
    go_enter Try.func40, Try.ntmps40
    go_wp2
    all_goals go_ret
    all_goals exact ⟨by rw [HL.out]; rfl, Below.refl _ _⟩
  · have hd : decide ((left : Int) - (ts.length : Int) < 0) = false := by simp; omega
    have HR : Hid (RowS w w.heap.size a ts) := hr
    have HW : Hid (∀ x ∈ ts, x.size ≤ 9223372036854775807) := hsz
    clear hr hsz
    go_enter Try.func40, Try.ntmps40
    go_wp2
    go_loopw [1, 5] (fun t o wr => ∃ (i m : Nat), i ≤ ts.length ∧ m + bulkS (ts.take i) + (ts.length - i) = left ∧ t = .int .i64 m ∧ o = .int .i64 i ∧ Below w.heap.size w wr)
      (fun _ o _ => ts.length - (intOf o).toNat)
    case atStart => exact ⟨0, left - ts.length, by omega, by simp [bulkS]; omega, by go_num, rfl, Below.refl _ _⟩
    case round =>
      obtain ⟨i, m, hi, hm, rfl, rfl, hb⟩ := hrel
      by_cases hlt : i < ts.length
      · obtain ⟨d, hd⟩ : ∃ d, ts[i]? = some d := ⟨_, List.getElem?_eq_getElem hlt⟩
        obtain ⟨b, o, rfl, hbb, c0⟩ := (HR.out.below hb) i d hd
        have hdw := HW.out d (List.mem_of_getElem? hd)
        have HM : Hid (m + bulkS (ts.take i) + (ts.length - i) = left) := hm
        have hm' : m ≤ 1048576 := by omega
        have hbs := bulkS_take_succ hd
        have hle := bulkS_take_le ts (i + 1)
        clear hm
        by_cases hq : m < d.size
        · have HL : Hid (leftOf left (bulkS ts) = -1) := if_pos (by have := HM.out; omega)
          have g1 : decide ((m : Int) - (d.size : Int) < 0) = true := by simp; omega
          clear hbs hle
          go_wp2
          go_ret
          exact ⟨by rw [HL.out]; rfl, hb⟩
        · have g1 : decide ((m : Int) - (d.size : Int) < 0) = false := by simp; omega
          have HQ : Hid ((m - d.size) + bulkS (ts.take (i + 1)) + (ts.length - (i + 1)) = left) := by have := HM.out; show _ = _; omega
          clear hbs hle
          go_wp2
          go_roundw
          case rel => exact ⟨i + 1, m - d.size, by omega, HQ.out, by go_num, by go_num, hb⟩
          case measure => simp [intOf]; omega
      · have hlt' : decide ((i : Int) < (ts.length : Int)) = false := by simp; omega
        obtain rfl : i = ts.length := by omega
        rw [List.take_length] at hm
        have HL : Hid (leftOf left (bulkS ts) = m) := by show _ = _; rw [show leftOf left (bulkS ts) = (left : Int) - bulkS ts from if_neg (by omega)]; omega
        clear hm
        go_wp2
        go_ret
        exact ⟨by rw [HL.out]; rfl, hb⟩
theorem szIntS_any (a : Option Addr) (n cap : Nat) (left : Nat) (w : World) (hl : left ≤ 1048576) (hn : n ≤ 9223372036854775807) :
    Calls Try.prog 41 #[.slice a n cap, .int .i64 left] w fun e w' => Ans w (.int .i64 (leftOf left n)) e w' := by
  by_cases h : left < n
  · have HL : Hid (leftOf left n = -1) := if_pos h
    go_enter Try.func41, Try.ntmps41
    go_wp2
    all_goals go_ret
    all_goals exact ⟨by rw [HL.out]; rfl, Below.refl _ _⟩
  · have HL : Hid (leftOf left n = (left : Int) - n) := if_neg h
    go_enter Try.func41, Try.ntmps41
    go_wp2
    all_goals go_ret
    all_goals exact ⟨by rw [HL.out]; rfl, Below.refl _ _⟩
/-- The numbers of a node fit; its parts are no longer than any is. -/
def Nod.wf (d : Nod) : Prop := i64B d.k ∧ i64B d.n ∧ d.s.size ≤ 9223372036854775807 ∧ d.names.length ≤ 9223372036854775807 ∧ d.args.length ≤ 9223372036854775807 ∧ ∀ x ∈ d.names, x.size ≤ 9223372036854775807
def Nod.bulk (d : Nod) : Nat := d.s.size + bulkS d.names + d.args.length
set_option maxRecDepth 100000 in
theorem szNode_any (d : Nod) (an aa : Option Addr) (cn ca left : Nat) (w : World) (hl : left ≤ 1048576) (hw : d.wf) (hr : NodRows w (fun b => b < w.heap.size) an cn aa ca d) :
    Calls Try.prog 27 #[.agg #[.int .i64 d.k, .int .i64 d.n, .string d.s, .slice an d.names.length cn, .slice aa d.args.length ca], .int .i64 left] w fun e w' => Ans w (.int .i64 (leftOf left d.bulk)) e w' := by
  obtain ⟨_, _, w3, w4, w5, w6⟩ := hw
  obtain ⟨hrs, -, -, -⟩ := hr
  have hbB : Below w.heap.size w (w.alloc (Obj.cells #[.int .i64 d.k, .int .i64 d.n, .string d.s, .slice an d.names.length cn, .slice aa d.args.length ca] 48)) := (Below.refl _ _).alloc (Nat.le_refl _) _
  have k0 := blk_alloc w (Obj.cells #[.int .i64 d.k, .int .i64 d.n, .string d.s, .slice an d.names.length cn, .slice aa d.args.length ca] 48)
  by_cases h1 : left < d.s.size
  · have HL : Hid (leftOf left d.bulk = -1) := leftOf_neg (by unfold Nod.bulk; omega)
    have g1 : decide ((left : Int) - (d.s.size : Int) < 0) = true := by simp; omega
    clear hrs k0
    go_enter Try.func27, Try.ntmps27
    go_wp2
    go_ret
    exact ⟨by rw [HL.out]; rfl, hbB⟩
  · have g1 : decide ((left : Int) - (d.s.size : Int) < 0) = false := by simp; omega
    obtain ⟨q, hq⟩ : ∃ q, q = left - d.s.size := ⟨_, rfl⟩
    have eq1 : (left : Int) - (d.s.size : Int) = (q : Int) := by omega
    have HB1 : Hid (leftOf left d.bulk = leftOf q (bulkS d.names + d.args.length)) := by
      show _ = _
      unfold Nod.bulk
      rw [Nat.add_assoc, leftOf_add h1, hq]
    have HS : Hid (∀ w2, Below w.heap.size w w2 → Calls Try.prog 40 #[.slice an d.names.length cn, .int .i64 q] w2 fun e w' => Ans w2 (.int .i64 (leftOf q (bulkS d.names))) e w') := fun w2 h2 => szStringS_any an d.names cn q w2 (by omega) w4 (hrs.keep fun b h => ⟨by have := h2.size; omega, h2.block b h⟩) w6
    rw [HB1.out]
    clear hrs HB1 hq
    by_cases h2 : q < bulkS d.names
    · have HL : Hid (leftOf q (bulkS d.names + d.args.length) = -1) := leftOf_neg (by omega)
      rw [leftOf_neg h2] at HS
      rw [HL.out]
      clear HL h2
      go_enter Try.func27, Try.ntmps27
      go_wp2_with (go_at_call 40; first | rw [eq1] | skip; refine (HS.out _ hbB).mono ?_; rintro e w1 ⟨rfl, hb1⟩)
      go_ret
      exact ⟨rfl, hbB.trans (hb1.mono hbB.size)⟩
    · rw [leftOf_nat h2] at HS
      have HB2 : Hid (leftOf q (bulkS d.names + d.args.length) = leftOf (q - bulkS d.names) d.args.length) := leftOf_add h2
      rw [HB2.out]
      have hz : q - bulkS d.names ≤ 1048576 := by omega
      generalize q - bulkS d.names = z at *
      have HI : Hid (∀ w, Calls Try.prog 41 #[.slice aa d.args.length ca, .int .i64 z] w fun e w' => Ans w (.int .i64 (leftOf z d.args.length)) e w') := fun w => szIntS_any aa d.args.length ca z w hz w5
      clear HB2 h2
      by_cases h3 : z < d.args.length
      · rw [leftOf_neg h3] at HI ⊢
        clear h3
        go_enter Try.func27, Try.ntmps27
        go_wp2_with (first | (go_at_call 40; first | rw [eq1] | skip; refine (HS.out _ hbB).mono ?_; rintro e w1 ⟨rfl, hb1⟩; have e4 := cell_keep (cell_blk (j := 4) k0 rfl) hb1 (by simp)) | (go_at_call 41; refine (HI.out _).mono ?_; rintro e w2 ⟨rfl, hb2⟩))
        go_ret
        exact ⟨rfl, (hbB.trans (hb1.mono hbB.size)).trans (hb2.mono (by have := hbB.size; have := hb1.size; omega))⟩
      · rw [leftOf_nat h3] at HI ⊢
        generalize z - d.args.length = y at *
        clear h3
        go_enter Try.func27, Try.ntmps27
        go_wp2_with (first | (go_at_call 40; first | rw [eq1] | skip; refine (HS.out _ hbB).mono ?_; rintro e w1 ⟨rfl, hb1⟩; have e4 := cell_keep (cell_blk (j := 4) k0 rfl) hb1 (by simp)) | (go_at_call 41; refine (HI.out _).mono ?_; rintro e w2 ⟨rfl, hb2⟩))
        go_ret
        exact ⟨rfl, (hbB.trans (hb1.mono hbB.size)).trans (hb2.mono (by have := hbB.size; have := hb1.size; omega))⟩
end Go.Proofs.Ytfjjnngaeccdjaa
