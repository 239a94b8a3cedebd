/- The size of a heap that comes in. -/
import Derived.Test.YtamjofdgikifnaaGreatVlp
set_option linter.unusedVariables false
namespace Go.Proofs.YtamjofdgikifnaaGreat
open Go.ChangeShapes Go.WideShapes Go.ChangeAt Go.RowKit
/-- What is left of a number behind a bulk. -/
def leftOf (left b : Nat) : Int := if left < b then -1 else (left : Int) - b
theorem leftOf_nat {left b : Nat} (h : ¬ left < b) : leftOf left b = ((left - b : Nat) : Int) := by
  unfold leftOf
  rw [if_neg h]
  omega
theorem leftOf_neg {left b : Nat} (h : left < b) : leftOf left b = -1 := if_pos h
theorem leftOf_add {left b c : Nat} (h : ¬ left < b) : leftOf left (b + c) = leftOf (left - b) c := by
  unfold leftOf
  by_cases h2 : left - b < c
  · rw [if_pos (by omega), if_pos h2]
  · rw [if_neg (by omega), if_neg h2]; omega
/-- How much a row holds, each one of its size and one more. -/
def bulkOf {α : Type} (f : α → Nat) : List α → Nat
  | [] => 0
  | x :: r => 1 + f x + bulkOf f r
theorem bulkOf_append {α : Type} (f : α → Nat) : ∀ (a b : List α), bulkOf f (a ++ b) = bulkOf f a + bulkOf f b
  | [], b => by simp [bulkOf]
  | d :: a, b => by simp [bulkOf, bulkOf_append f a b]; omega
theorem bulkOf_take_succ {α : Type} (f : α → Nat) {cs : List α} {i : Nat} {d : α} (h : cs[i]? = some d) : bulkOf f (cs.take (i + 1)) = bulkOf f (cs.take i) + (1 + f d) := by
  rw [List.take_add_one, h]
  simp [bulkOf_append, bulkOf]
theorem bulkOf_len {α : Type} (f : α → Nat) : ∀ (cs : List α), cs.length ≤ bulkOf f cs
  | [] => by simp [bulkOf]
  | d :: cs => by have := bulkOf_len f cs; simp [bulkOf]; omega
theorem bulkOf_take_le {α : Type} (f : α → Nat) (cs : List α) (i : Nat) : bulkOf f (cs.take i) + (cs.length - i) ≤ bulkOf f cs := by
  have := bulkOf_len f (cs.drop i)
  rw [List.length_drop] at this
  conv => rhs; rw [← List.take_append_drop i cs, bulkOf_append]
  omega
theorem bulkOf_mem {α : Type} (f : α → Nat) {cs : List α} {x : α} (h : x ∈ cs) : f x ≤ bulkOf f cs := by
  obtain ⟨a, b, rfl⟩ := List.append_of_mem h
  rw [bulkOf_append]
  simp [bulkOf]
  omega
def bulkS (l : List ByteArray) : Nat := bulkOf ByteArray.size l
def bulkV (l : List Val) : Nat := bulkOf (fun v => v.s.size) l
def Cel.bulk (c : Cel) : Nat := c.s.size + bulkS c.names + bulkV c.vals
def bulkC (l : List Cel) : Nat := bulkOf Cel.bulk l
theorem small_of {cs : List Cel} (hw : ∀ d ∈ cs, d.wf) (h : bulkC cs ≤ 1048576) : ∀ d ∈ cs, d.small := by
  intro d hd
  obtain ⟨w1, w2, w3, w4, w5, w6, w7, w8⟩ := hw d hd
  have hb := bulkOf_mem Cel.bulk hd
  have hl := bulkOf_len ByteArray.size d.names
  have hv := bulkOf_len (fun v : Val => v.s.size) d.vals
  have hb' : d.s.size + bulkOf ByteArray.size d.names + bulkOf (fun v : Val => v.s.size) d.vals ≤ 1048576 := Nat.le_trans hb h
  exact ⟨w1, w2, w3, by omega, by omega, by omega, fun x hx => by have := bulkOf_mem ByteArray.size hx; omega, fun v hv => by
    have := bulkOf_mem (fun v : Val => v.s.size) hv
    obtain ⟨q1, q2, _⟩ := w8 v hv
    exact ⟨q1, q2, by omega⟩⟩
set_option maxRecDepth 100000 in
theorem szStringS_any (a : Option Addr) (ts : List ByteArray) (cap : Nat) (left : Nat) (w : World) (hl : left ≤ 1048576) (hn : ts.length ≤ 9223372036854775807) (hr : RowS w w.heap.size a ts) (hsz : ∀ x ∈ ts, x.size ≤ 9223372036854775807) :
    Calls Tryz.prog 6 #[.slice a ts.length cap, .int .i64 left] w fun e w' => Ans w (.int .i64 (leftOf left (bulkS ts))) e w' := by
  by_cases h : left < ts.length
  · have HL : Hid (leftOf left (bulkS ts) = -1) := if_pos (by have := bulkOf_len ByteArray.size ts; unfold bulkS; omega)
    have hd : decide ((left : Int) - (ts.length : Int) < 0) = true := by simp; omega
    go_enter Tryz.func6, Tryz.ntmps6
    go_wp2
    all_goals go_ret
    all_goals exact ⟨by rw [HL.out]; rfl, Below.refl _ _⟩
  · have hd : decide ((left : Int) - (ts.length : Int) < 0) = false := by simp; omega
    have HR : Hid (RowS w w.heap.size a ts) := hr
    have HW : Hid (∀ x ∈ ts, x.size ≤ 9223372036854775807) := hsz
    clear hr hsz
    unfold bulkS
    go_enter Tryz.func6, Tryz.ntmps6
    go_wp2
    go_loopw [1, 5] (fun t o wr => ∃ (i m : Nat), i ≤ ts.length ∧ m + bulkOf ByteArray.size (ts.take i) + (ts.length - i) = left ∧ t = .int .i64 m ∧ o = .int .i64 i ∧ Below w.heap.size w wr)
      (fun _ o _ => ts.length - (intOf o).toNat)
    case atStart => exact ⟨0, left - ts.length, by omega, by simp [bulkOf]; omega, by go_num, rfl, Below.refl _ _⟩
    case round =>
      obtain ⟨i, m, hi, hm, rfl, rfl, hb⟩ := hrel
      by_cases hlt : i < ts.length
      · obtain ⟨d, hd⟩ : ∃ d, ts[i]? = some d := ⟨_, List.getElem?_eq_getElem hlt⟩
        obtain ⟨b, o, rfl, hbb, c0⟩ := (HR.out.below hb) i d hd
        have hdw := HW.out d (List.mem_of_getElem? hd)
        have HM : Hid (m + bulkOf ByteArray.size (ts.take i) + (ts.length - i) = left) := hm
        have hm' : m ≤ 1048576 := by omega
        have hbs := bulkOf_take_succ ByteArray.size hd
        have hle := bulkOf_take_le ByteArray.size ts (i + 1)
        clear hm
        by_cases hq : m < d.size
        · have HL : Hid (leftOf left (bulkOf ByteArray.size ts) = -1) := if_pos (by have := HM.out; omega)
          have g1 : decide ((m : Int) - (d.size : Int) < 0) = true := by simp; omega
          clear hbs hle
          go_wp2
          go_ret
          exact ⟨by rw [HL.out]; rfl, hb⟩
        · have g1 : decide ((m : Int) - (d.size : Int) < 0) = false := by simp; omega
          have HQ : Hid ((m - d.size) + bulkOf ByteArray.size (ts.take (i + 1)) + (ts.length - (i + 1)) = left) := by have := HM.out; show _ = _; omega
          clear hbs hle
          go_wp2
          go_roundw
          case rel => exact ⟨i + 1, m - d.size, by omega, HQ.out, by go_num, by go_num, hb⟩
          case measure => simp [intOf]; omega
      · have hlt' : decide ((i : Int) < (ts.length : Int)) = false := by simp; omega
        obtain rfl : i = ts.length := by omega
        rw [List.take_length] at hm
        have HL : Hid (leftOf left (bulkOf ByteArray.size ts) = m) := by show _ = _; rw [show leftOf left (bulkOf ByteArray.size ts) = (left : Int) - bulkOf ByteArray.size ts from if_neg (by omega)]; omega
        clear hm
        go_wp2
        go_ret
        exact ⟨by rw [HL.out]; rfl, hb⟩
end Go.Proofs.YtamjofdgikifnaaGreat
