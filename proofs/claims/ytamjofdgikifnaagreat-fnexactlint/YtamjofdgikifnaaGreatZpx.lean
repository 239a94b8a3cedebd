/- The size of a program that comes in. The size of a program that comes in: rows of nodes, and the whole. -/
import Derived.Test.YtamjofdgikifnaaGreatPrp
set_option linter.unusedVariables false
namespace Go.Proofs.YtamjofdgikifnaaGreat
open Go.ChangeShapes Go.WideShapes Go.ChangeAt Go.RowKit
def leftOfN (left b : Nat) : Int := if left < b then -1 else (left : Int) - b
theorem leftOf_natN {left b : Nat} (h : ¬ left < b) : leftOfN left b = ((left - b : Nat) : Int) := by
 unfold leftOfN
 rw [if_neg h]
 omega
theorem leftOf_negN {left b : Nat} (h : left < b) : leftOfN left b = -1 := if_pos h
theorem leftOf_addN {left b c : Nat} (h : ¬ left < b) : leftOfN left (b + c) = leftOfN (left - b) c := by
 unfold leftOfN
 by_cases h2 : left - b < c
 ·rw [if_pos (by omega), if_pos h2]
 ·rw [if_neg (by omega), if_neg h2]; omega
def bulkSN : List ByteArray → Nat
 | [] => 0
 | x :: r => 1 + x.size + bulkSN r
theorem bulkS_append : ∀ (a b : List ByteArray), bulkSN (a ++ b) = bulkSN a + bulkSN b
 | [], b => by simp [bulkSN]
 | d :: a, b => by simp [bulkSN, bulkS_append a b]; omega
theorem bulkS_take_succ {cs : List ByteArray} {i : Nat} {d : ByteArray} (h : cs[i]? = some d) : bulkSN (cs.take (i + 1)) = bulkSN (cs.take i) + (1 + d.size) := by
 rw [List.take_add_one, h]
 simp [bulkS_append, bulkSN]
theorem bulkS_len : ∀ (cs : List ByteArray), cs.length ≤ bulkSN cs
 | [] => by simp [bulkSN]
 | d :: cs => by have := bulkS_len cs; simp [bulkSN]; omega
theorem bulkS_take_le (cs : List ByteArray) (i : Nat) : bulkSN (cs.take i) + (cs.length - i) ≤ bulkSN cs := by
 have := bulkS_len (cs.drop i)
 rw [List.length_drop] at this
 conv => rhs; rw [← List.take_append_drop i cs, bulkS_append]
 omega
theorem bulkS_mem {cs : List ByteArray} {x : ByteArray} (h : x ∈ cs) : x.size ≤ bulkSN cs := by
 obtain ⟨a, b, rfl⟩ := List.append_of_mem h
 rw [bulkS_append]
 simp [bulkSN]
 omega
set_option maxRecDepth 100000 in
theorem szStringS_anyN (a : Option Addr) (ts : List ByteArray) (cap : Nat) (left : Nat) (w : World) (hl : left ≤ 1048576) (hn : ts.length ≤ 9223372036854775807) (hr : RowS w w.heap.size a ts) (hsz : ∀ x ∈ ts, x.size ≤ 9223372036854775807) :
  Calls Tryz.prog 6 #[.slice a ts.length cap, .int .i64 left] w fun e w' => Ans w (.int .i64 (leftOfN left (bulkSN ts))) e w' := by
 by_cases h : left < ts.length
 ·have HL : Hid (leftOfN left (bulkSN ts) = -1) := if_pos (by have := bulkS_len ts; omega)
  have hd : decide ((left : Int) - (ts.length : Int) < 0) = true := by simp; omega
  go_enter Tryz.func6, Tryz.ntmps6
  go_wp2
  all_goals go_ret
  all_goals exact ⟨by rw [HL.out]; rfl, Below.refl _ _⟩
 ·have hd : decide ((left : Int) - (ts.length : Int) < 0) = false := by simp; omega
  have HR : Hid (RowS w w.heap.size a ts) := hr
  have HW : Hid (∀ x ∈ ts, x.size ≤ 9223372036854775807) := hsz
  clear hr hsz
  go_enter Tryz.func6, Tryz.ntmps6
  go_wp2
  go_loopw [1, 5] (fun t o wr => ∃ (i m : Nat), i ≤ ts.length ∧ m + bulkSN (ts.take i) + (ts.length - i) = left ∧ t = .int .i64 m ∧ o = .int .i64 i ∧ Below w.heap.size w wr)
   (fun _ o _ => ts.length - (intOf o).toNat)
  case atStart => exact ⟨0, left - ts.length, by omega, by simp [bulkSN]; omega, by go_num, rfl, Below.refl _ _⟩
  case round =>
   obtain ⟨i, m, hi, hm, rfl, rfl, hb⟩ := hrel
   by_cases hlt : i < ts.length
   ·obtain ⟨d, hd⟩ : ∃ d, ts[i]? = some d := ⟨_, List.getElem?_eq_getElem hlt⟩
    obtain ⟨b, o, rfl, hbb, c0⟩ := (HR.out.below hb) i d hd
    have hdw := HW.out d (List.mem_of_getElem? hd)
    have HM : Hid (m + bulkSN (ts.take i) + (ts.length - i) = left) := hm
    have hm' : m ≤ 1048576 := by omega
    have hbs := bulkS_take_succ hd
    have hle := bulkS_take_le ts (i + 1)
    clear hm
    by_cases hq : m < d.size
    ·have HL : Hid (leftOfN left (bulkSN ts) = -1) := if_pos (by have := HM.out; omega)
     have g1 : decide ((m : Int) - (d.size : Int) < 0) = true := by simp; omega
     clear hbs hle
     go_wp2
     go_ret
     exact ⟨by rw [HL.out]; rfl, hb⟩
    ·have g1 : decide ((m : Int) - (d.size : Int) < 0) = false := by simp; omega
     have HQ : Hid ((m - d.size) + bulkSN (ts.take (i + 1)) + (ts.length - (i + 1)) = left) := by have := HM.out; show _ = _; omega
     clear hbs hle
     go_wp2
     go_roundw
     case rel => exact ⟨i + 1, m - d.size, by omega, HQ.out, by go_num, by go_num, hb⟩
     case measure => simp [intOf]; omega
   ·have hlt' : decide ((i : Int) < (ts.length : Int)) = false := by simp; omega
    obtain rfl : i = ts.length := by omega
    rw [List.take_length] at hm
    have HL : Hid (leftOfN left (bulkSN ts) = m) := by show _ = _; rw [show leftOfN left (bulkSN ts) = (left : Int) - bulkSN ts from if_neg (by omega)]; omega
    clear hm
    go_wp2
    go_ret
    exact ⟨by rw [HL.out]; rfl, hb⟩
theorem szIntS_any (a : Option Addr) (n cap : Nat) (left : Nat) (w : World) (hl : left ≤ 1048576) (hn : n ≤ 9223372036854775807) :
  Calls Tryz.prog 122 #[.slice a n cap, .int .i64 left] w fun e w' => Ans w (.int .i64 (leftOfN left n)) e w' := by
 by_cases h : left < n
 ·have HL : Hid (leftOfN left n = -1) := if_pos h
  go_enter Tryz.func122, Tryz.ntmps122
  go_wp2
  all_goals go_ret
  all_goals exact ⟨by rw [HL.out]; rfl, Below.refl _ _⟩
 ·have HL : Hid (leftOfN left n = (left : Int) - n) := if_neg h
  go_enter Tryz.func122, Tryz.ntmps122
  go_wp2
  all_goals go_ret
  all_goals exact ⟨by rw [HL.out]; rfl, Below.refl _ _⟩
def Nod.wf (d : Nod) : Prop := i64B d.k ∧ i64B d.n ∧ d.s.size ≤ 9223372036854775807 ∧ d.names.length ≤ 9223372036854775807 ∧ d.args.length ≤ 9223372036854775807 ∧ ∀ x ∈ d.names, x.size ≤ 9223372036854775807
def Nod.bulk (d : Nod) : Nat := d.s.size + bulkSN d.names + d.args.length
set_option maxRecDepth 100000 in
theorem szNode_any (d : Nod) (an aa : Option Addr) (cn ca left : Nat) (w : World) (hl : left ≤ 1048576) (hw : d.wf) (hr : NodRows w (fun b => b < w.heap.size) an cn aa ca d) :
  Calls Tryz.prog 113 #[.agg #[.int .i64 d.k, .int .i64 d.n, .string d.s, .slice an d.names.length cn, .slice aa d.args.length ca], .int .i64 left] w fun e w' => Ans w (.int .i64 (leftOfN left d.bulk)) e w' := by
 obtain ⟨_, _, w3, w4, w5, w6⟩ := hw
 obtain ⟨hrs, -, -, -⟩ := hr
 have hbB : Below w.heap.size w (w.alloc (Obj.cells #[.int .i64 d.k, .int .i64 d.n, .string d.s, .slice an d.names.length cn, .slice aa d.args.length ca] 146)) := (Below.refl _ _).alloc (Nat.le_refl _) _
 have k0 := blk_alloc w (Obj.cells #[.int .i64 d.k, .int .i64 d.n, .string d.s, .slice an d.names.length cn, .slice aa d.args.length ca] 146)
 by_cases h1 : left < d.s.size
 ·have HL : Hid (leftOfN left d.bulk = -1) := leftOf_negN (by unfold Nod.bulk; omega)
  have g1 : decide ((left : Int) - (d.s.size : Int) < 0) = true := by simp; omega
  clear hrs k0
  go_enter Tryz.func113, Tryz.ntmps113
  go_wp2
  go_ret
  exact ⟨by rw [HL.out]; rfl, hbB⟩
 ·have g1 : decide ((left : Int) - (d.s.size : Int) < 0) = false := by simp; omega
  obtain ⟨q, hq⟩ : ∃ q, q = left - d.s.size := ⟨_, rfl⟩
  have eq1 : (left : Int) - (d.s.size : Int) = (q : Int) := by omega
  have HB1 : Hid (leftOfN left d.bulk = leftOfN q (bulkSN d.names + d.args.length)) := by
   show _ = _
   unfold Nod.bulk
   rw [Nat.add_assoc, leftOf_addN h1, hq]
  have HS : Hid (∀ w2, Below w.heap.size w w2 → Calls Tryz.prog 6 #[.slice an d.names.length cn, .int .i64 q] w2 fun e w' => Ans w2 (.int .i64 (leftOfN q (bulkSN d.names))) e w') := fun w2 h2 => szStringS_anyN an d.names cn q w2 (by omega) w4 (hrs.keep fun b h => ⟨by have := h2.size; omega, h2.block b h⟩) w6
  rw [HB1.out]
  clear hrs HB1 hq
  by_cases h2 : q < bulkSN d.names
  ·have HL : Hid (leftOfN q (bulkSN d.names + d.args.length) = -1) := leftOf_negN (by omega)
   rw [leftOf_negN h2] at HS
   rw [HL.out]
   clear HL h2
   go_enter Tryz.func113, Tryz.ntmps113
   go_wp2_with (go_at_call 6; first | rw [eq1] | skip; refine (HS.out _ hbB).mono ?_; rintro e w1 ⟨rfl, hb1⟩)
   go_ret
   exact ⟨rfl, hbB.trans (hb1.mono hbB.size)⟩
  ·rw [leftOf_natN h2] at HS
   have HB2 : Hid (leftOfN q (bulkSN d.names + d.args.length) = leftOfN (q - bulkSN d.names) d.args.length) := leftOf_addN h2
   rw [HB2.out]
   have hz : q - bulkSN d.names ≤ 1048576 := by omega
   generalize q - bulkSN d.names = z at *
   have HI : Hid (∀ w, Calls Tryz.prog 122 #[.slice aa d.args.length ca, .int .i64 z] w fun e w' => Ans w (.int .i64 (leftOfN z d.args.length)) e w') := fun w => szIntS_any aa d.args.length ca z w hz w5
   clear HB2 h2
   by_cases h3 : z < d.args.length
   ·rw [leftOf_negN h3] at HI ⊢
    clear h3
    go_enter Tryz.func113, Tryz.ntmps113
    go_wp2_with (first | (go_at_call 6; first | rw [eq1] | skip; refine (HS.out _ hbB).mono ?_; rintro e w1 ⟨rfl, hb1⟩; have e4 := cell_keepN (cell_blk (j := 4) k0 rfl) hb1 (by simp)) | (go_at_call 122; refine (HI.out _).mono ?_; rintro e w2 ⟨rfl, hb2⟩))
    go_ret
    exact ⟨rfl, (hbB.trans (hb1.mono hbB.size)).trans (hb2.mono (by have := hbB.size; have := hb1.size; omega))⟩
   ·rw [leftOf_natN h3] at HI ⊢
    generalize z - d.args.length = y at *
    clear h3
    go_enter Tryz.func113, Tryz.ntmps113
    go_wp2_with (first | (go_at_call 6; first | rw [eq1] | skip; refine (HS.out _ hbB).mono ?_; rintro e w1 ⟨rfl, hb1⟩; have e4 := cell_keepN (cell_blk (j := 4) k0 rfl) hb1 (by simp)) | (go_at_call 122; refine (HI.out _).mono ?_; rintro e w2 ⟨rfl, hb2⟩))
    go_ret
    exact ⟨rfl, (hbB.trans (hb1.mono hbB.size)).trans (hb2.mono (by have := hbB.size; have := hb1.size; omega))⟩
end Go.Proofs.YtamjofdgikifnaaGreat
namespace Go.Proofs.YtamjofdgikifnaaGreat
open Go.ChangeShapes Go.WideShapes Go.ChangeAt Go.RowKit
def bulkN : List Nod → Nat
 | [] => 0
 | x :: r => 1 + x.bulk + bulkN r
theorem bulkN_append : ∀ (a b : List Nod), bulkN (a ++ b) = bulkN a + bulkN b
 | [], b => by simp [bulkN]
 | d :: a, b => by simp [bulkN, bulkN_append a b]; omega
theorem bulkN_take_succ {cs : List Nod} {i : Nat} {d : Nod} (h : cs[i]? = some d) : bulkN (cs.take (i + 1)) = bulkN (cs.take i) + (1 + d.bulk) := by
 rw [List.take_add_one, h]
 simp [bulkN_append, bulkN]
theorem bulkN_len : ∀ (cs : List Nod), cs.length ≤ bulkN cs
 | [] => by simp [bulkN]
 | d :: cs => by have := bulkN_len cs; simp [bulkN]; omega
theorem bulkN_take_le (cs : List Nod) (i : Nat) : bulkN (cs.take i) + (cs.length - i) ≤ bulkN cs := by
 have := bulkN_len (cs.drop i)
 rw [List.length_drop] at this
 conv => rhs; rw [← List.take_append_drop i cs, bulkN_append]
 omega
theorem bulkN_mem {cs : List Nod} {x : Nod} (h : x ∈ cs) : x.bulk ≤ bulkN cs := by
 obtain ⟨a, b, rfl⟩ := List.append_of_mem h
 rw [bulkN_append]
 simp [bulkN]
 omega
theorem bulkN_flat : ∀ (cs : List Nod), (flat cs).length ≤ bulkN cs
 | [] => by simp [flat, bulkN]
 | d :: cs => by
  have h := bulkN_flat cs
  have e : flat (d :: cs) = d.args ++ flat cs := by simp [flat]
  rw [e, List.length_append]
  simp [bulkN, Nod.bulk]
  omega
theorem small_ofN {cs : List Nod} (hw : ∀ d ∈ cs, d.wf) (h : bulkN cs ≤ 1048576) : ∀ d ∈ cs, d.small := by
 intro d hd
 obtain ⟨w1, w2, _⟩ := hw d hd
 have hb := bulkN_mem hd
 have hl := bulkS_len d.names
 unfold Nod.bulk at hb
 exact ⟨w1, w2, by omega, by omega, by omega, fun x hx => by have := bulkS_mem hx; omega⟩
set_option maxRecDepth 100000 in
set_option maxHeartbeats 1000000 in
theorem szNodeS_any (a : Option Addr) (cs : List Nod) (cap : Nat) (left : Nat) (w : World) (hl : left ≤ 1048576) (hn : cs.length ≤ 9223372036854775807) (hr : RowN w w.heap.size a cs) (hwf : ∀ d ∈ cs, d.wf) :
  Calls Tryz.prog 99 #[.slice a cs.length cap, .int .i64 left] w fun e w' => Ans w (.int .i64 (leftOfN left (bulkN cs))) e w' := by
 by_cases h : left < cs.length
 ·have HL : Hid (leftOfN left (bulkN cs) = -1) := if_pos (by have := bulkN_len cs; omega)
  have hd : decide ((left : Int) - (cs.length : Int) < 0) = true := by simp; omega
  go_enter Tryz.func99, Tryz.ntmps99
  go_wp2
  all_goals go_ret
  all_goals exact ⟨by rw [HL.out]; rfl, Below.refl _ _⟩
 ·have hd : decide ((left : Int) - (cs.length : Int) < 0) = false := by simp; omega
  have HR : Hid (RowN w w.heap.size a cs) := hr
  have HW : Hid (∀ d ∈ cs, d.wf) := hwf
  clear hr hwf
  go_enter Tryz.func99, Tryz.ntmps99
  go_wp2
  go_loopw [1, 5] (fun t o wr => ∃ (i m : Nat), i ≤ cs.length ∧ m + bulkN (cs.take i) + (cs.length - i) = left ∧ t = .int .i64 m ∧ o = .int .i64 i ∧ Below w.heap.size w wr)
   (fun _ o _ => cs.length - (intOf o).toNat)
  case atStart => exact ⟨0, left - cs.length, by omega, by simp [bulkN]; omega, by go_num, rfl, Below.refl _ _⟩
  case round =>
   obtain ⟨i, m, hi, hm, rfl, rfl, hb⟩ := hrel
   by_cases hlt : i < cs.length
   ·obtain ⟨d, hd⟩ : ∃ d, cs[i]? = some d := ⟨_, List.getElem?_eq_getElem hlt⟩
    obtain ⟨b1, o1, rfl, hbb, an, cn, aa, ca, v0, v1, v2, v3, v4, hrows⟩ := HR.out i d hd
    have c0 := cell_keepN v0 hb hbb
    have c1 := cell_keepN v1 hb hbb
    have c2 := cell_keepN v2 hb hbb
    have c3 := cell_keepN v3 hb hbb
    have c4 := cell_keepN v4 hb hbb
    have hsz := hb.size
    have HM : Hid (m + bulkN (cs.take i) + (cs.length - i) = left) := hm
    have hm' : m ≤ 1048576 := by omega
    have hbs := bulkN_take_succ hd
    have hle := bulkN_take_le cs (i + 1)
    have HZ : Hid (Calls Tryz.prog 113 #[.agg #[.int .i64 d.k, .int .i64 d.n, .string d.s, .slice an d.names.length cn, .slice aa d.args.length ca], .int .i64 m] wr fun e w' => Ans wr (.int .i64 (leftOfN m d.bulk)) e w') := szNode_any d an aa cn ca m wr hm' (HW.out d (List.mem_of_getElem? hd)) (hrows.keep fun b h => ⟨by omega, hb.block b h⟩)
    clear hm v0 v1 v2 v3 v4 hrows hd
    by_cases hq : m < d.bulk
    ·rw [leftOf_negN hq] at HZ
     have HL : Hid (leftOfN left (bulkN cs) = -1) := if_pos (by have := HM.out; omega)
     clear hbs hle
     go_wp2_with (go_at_call 113; refine HZ.out.mono ?_; rintro e w1 ⟨rfl, hb1⟩)
     go_ret
     exact ⟨by rw [HL.out]; rfl, hb.trans (hb1.mono hsz)⟩
    ·rw [leftOf_natN hq] at HZ
     have HQ : Hid ((m - d.bulk) + bulkN (cs.take (i + 1)) + (cs.length - (i + 1)) = left) := by have := HM.out; show _ = _; omega
     generalize m - d.bulk = q at *
     clear hbs hle hq
     go_wp2_with (go_at_call 113; refine HZ.out.mono ?_; rintro e w1 ⟨rfl, hb1⟩)
     go_roundw
     case rel => exact ⟨i + 1, q, by omega, HQ.out, rfl, by go_num, hb.trans (hb1.mono hsz)⟩
     case measure => simp [intOf]; omega
   ·have hlt' : decide ((i : Int) < (cs.length : Int)) = false := by simp; omega
    obtain rfl : i = cs.length := by omega
    rw [List.take_length] at hm
    have HL : Hid (leftOfN left (bulkN cs) = m) := by show _ = _; rw [show leftOfN left (bulkN cs) = (left : Int) - bulkN cs from if_neg (by omega)]; omega
    clear hm
    go_wp2
    go_ret
    exact ⟨by rw [HL.out]; rfl, hb⟩
end Go.Proofs.YtamjofdgikifnaaGreat
