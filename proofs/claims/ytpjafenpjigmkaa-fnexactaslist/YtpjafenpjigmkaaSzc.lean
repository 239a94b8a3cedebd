/- The size of a heap that comes in. -/
import Derived.Test.YtpjafenpjigmkaaVlp
set_option linter.unusedVariables false
namespace Go.Proofs.Ytpjafenpjigmkaa
open Go.ChangeShapes Go.WideShapes Go.ChangeAt Go.RowKit
/-- What is left of a number behind a bulk. -/
def leftOf (left b : Nat) : Int := if left < b then -1 else (left : Int) - b
theorem leftOf_nat {left b : Nat} (h : ¬ left < b) : leftOf left b = ((left - b : Nat) : Int) := by
  unfold leftOf
  rw [if_neg h]
  omega
theorem leftOf_neg {left b : Nat} (h : left < b) : leftOf left b = -1 := if_pos h
theorem leftOf_add {left b c : Nat} (h : ¬ left < b) : leftOf left (b + c) = leftOf (left - b) c := by
  unfold leftOf
  by_cases h2 : left - b < c
  · rw [if_pos (by omega), if_pos h2]
  · rw [if_neg (by omega), if_neg h2]; omega
/-- How much a row holds, each one of its size and one more. -/
def bulkOf {α : Type} (f : α → Nat) : List α → Nat
  | [] => 0
  | x :: r => 1 + f x + bulkOf f r
theorem bulkOf_append {α : Type} (f : α → Nat) : ∀ (a b : List α), bulkOf f (a ++ b) = bulkOf f a + bulkOf f b
  | [], b => by simp [bulkOf]
  | d :: a, b => by simp [bulkOf, bulkOf_append f a b]; omega
theorem bulkOf_take_succ {α : Type} (f : α → Nat) {cs : List α} {i : Nat} {d : α} (h : cs[i]? = some d) : bulkOf f (cs.take (i + 1)) = bulkOf f (cs.take i) + (1 + f d) := by
  rw [List.take_add_one, h]
  simp [bulkOf_append, bulkOf]
theorem bulkOf_len {α : Type} (f : α → Nat) : ∀ (cs : List α), cs.length ≤ bulkOf f cs
  | [] => by simp [bulkOf]
  | d :: cs => by have := bulkOf_len f cs; simp [bulkOf]; omega
theorem bulkOf_take_le {α : Type} (f : α → Nat) (cs : List α) (i : Nat) : bulkOf f (cs.take i) + (cs.length - i) ≤ bulkOf f cs := by
  have := bulkOf_len f (cs.drop i)
  rw [List.length_drop] at this
  conv => rhs; rw [← List.take_append_drop i cs, bulkOf_append]
  omega
theorem bulkOf_mem {α : Type} (f : α → Nat) {cs : List α} {x : α} (h : x ∈ cs) : f x ≤ bulkOf f cs := by
  obtain ⟨a, b, rfl⟩ := List.append_of_mem h
  rw [bulkOf_append]
  simp [bulkOf]
  omega
def bulkS (l : List ByteArray) : Nat := bulkOf ByteArray.size l
def bulkV (l : List Val) : Nat := bulkOf (fun v => v.s.size) l
def Cel.bulk (c : Cel) : Nat := c.s.size + bulkS c.names + bulkV c.vals
def bulkC (l : List Cel) : Nat := bulkOf Cel.bulk l
theorem small_of {cs : List Cel} (hw : ∀ d ∈ cs, d.wf) (h : bulkC cs ≤ 1048576) : ∀ d ∈ cs, d.small := by
  intro d hd
  obtain ⟨w1, w2, w3, w4, w5, w6, w7, w8⟩ := hw d hd
  have hb := bulkOf_mem Cel.bulk hd
  have hl := bulkOf_len ByteArray.size d.names
  have hv := bulkOf_len (fun v : Val => v.s.size) d.vals
  have hb' : d.s.size + bulkOf ByteArray.size d.names + bulkOf (fun v : Val => v.s.size) d.vals ≤ 1048576 := Nat.le_trans hb h
  exact ⟨w1, w2, w3, by omega, by omega, by omega, fun x hx => by have := bulkOf_mem ByteArray.size hx; omega, fun v hv => by
    have := bulkOf_mem (fun v : Val => v.s.size) hv
    obtain ⟨q1, q2, _⟩ := w8 v hv
    exact ⟨q1, q2, by omega⟩⟩
set_option maxRecDepth 100000 in
theorem szStringS_any (a : Option Addr) (ts : List ByteArray) (cap : Nat) (left : Nat) (w : World) (hl : left ≤ 1048576) (hn : ts.length ≤ 9223372036854775807) (hr : RowS w w.heap.size a ts) (hsz : ∀ x ∈ ts, x.size ≤ 9223372036854775807) :
    Calls Try.prog 27 #[.slice a ts.length cap, .int .i64 left] w fun e w' => Ans w (.int .i64 (leftOf left (bulkS ts))) e w' := by
  by_cases h : left < ts.length
  · have HL : Hid (leftOf left (bulkS ts) = -1) := if_pos (by have := bulkOf_len ByteArray.size ts; unfold bulkS; omega)
    have hd : decide ((left : Int) - (ts.length : Int) < 0) = true := by simp; omega
    go_enter Try.func27, Try.ntmps27
    go_wp2
    all_goals go_ret
    all_goals exact ⟨by rw [HL.out]; rfl, Below.refl _ _⟩
  · have hd : decide ((left : Int) - (ts.length : Int) < 0) = false := by simp; omega
    have HR : Hid (RowS w w.heap.size a ts) := hr
    have HW : Hid (∀ x ∈ ts, x.size ≤ 9223372036854775807) := hsz
    clear hr hsz
    unfold bulkS
    go_enter Try.func27, Try.ntmps27
    go_wp2
    go_loopw [1, 5] (fun t o wr => ∃ (i m : Nat), i ≤ ts.length ∧ m + bulkOf ByteArray.size (ts.take i) + (ts.length - i) = left ∧ t = .int .i64 m ∧ o = .int .i64 i ∧ Below w.heap.size w wr)
      (fun _ o _ => ts.length - (intOf o).toNat)
    case atStart => exact ⟨0, left - ts.length, by omega, by simp [bulkOf]; omega, by go_num, rfl, Below.refl _ _⟩
    case round =>
      obtain ⟨i, m, hi, hm, rfl, rfl, hb⟩ := hrel
      by_cases hlt : i < ts.length
      · obtain ⟨d, hd⟩ : ∃ d, ts[i]? = some d := ⟨_, List.getElem?_eq_getElem hlt⟩
        obtain ⟨b, o, rfl, hbb, c0⟩ := (HR.out.below hb) i d hd
        have hdw := HW.out d (List.mem_of_getElem? hd)
        have HM : Hid (m + bulkOf ByteArray.size (ts.take i) + (ts.length - i) = left) := hm
        have hm' : m ≤ 1048576 := by omega
        have hbs := bulkOf_take_succ ByteArray.size hd
        have hle := bulkOf_take_le ByteArray.size ts (i + 1)
        clear hm
        by_cases hq : m < d.size
        · have HL : Hid (leftOf left (bulkOf ByteArray.size ts) = -1) := if_pos (by have := HM.out; omega)
          have g1 : decide ((m : Int) - (d.size : Int) < 0) = true := by simp; omega
          clear hbs hle
          go_wp2
          go_ret
          exact ⟨by rw [HL.out]; rfl, hb⟩
        · have g1 : decide ((m : Int) - (d.size : Int) < 0) = false := by simp; omega
          have HQ : Hid ((m - d.size) + bulkOf ByteArray.size (ts.take (i + 1)) + (ts.length - (i + 1)) = left) := by have := HM.out; show _ = _; omega
          clear hbs hle
          go_wp2
          go_roundw
          case rel => exact ⟨i + 1, m - d.size, by omega, HQ.out, by go_num, by go_num, hb⟩
          case measure => simp [intOf]; omega
      · have hlt' : decide ((i : Int) < (ts.length : Int)) = false := by simp; omega
        obtain rfl : i = ts.length := by omega
        rw [List.take_length] at hm
        have HL : Hid (leftOf left (bulkOf ByteArray.size ts) = m) := by show _ = _; rw [show leftOf left (bulkOf ByteArray.size ts) = (left : Int) - bulkOf ByteArray.size ts from if_neg (by omega)]; omega
        clear hm
        go_wp2
        go_ret
        exact ⟨by rw [HL.out]; rfl, hb⟩
theorem szValue_any (v : Val) (left : Nat) (w : World) (hl : left ≤ 1048576) (hw : v.s.size ≤ 9223372036854775807) :
    Calls Try.prog 5 #[.agg #[.int .i64 v.k, .int .i64 v.n, .string v.s], .int .i64 left] w fun e w' => Ans w (.int .i64 (leftOf left v.s.size)) e w' := by
  have hbB : Below w.heap.size w (w.alloc (Obj.cells #[.int .i64 v.k, .int .i64 v.n, .string v.s] 24)) := (Below.refl _ _).alloc (Nat.le_refl _) _
  by_cases h1 : left < v.s.size
  · have HL : Hid (leftOf left v.s.size = -1) := leftOf_neg h1
    have g1 : decide ((left : Int) - (v.s.size : Int) < 0) = true := by simp; omega
    go_enter Try.func5, Try.ntmps5
    go_wp2
    go_ret
    exact ⟨by rw [HL.out]; rfl, hbB⟩
  · have HL : Hid (leftOf left v.s.size = (left : Int) - v.s.size) := if_neg h1
    have g1 : decide ((left : Int) - (v.s.size : Int) < 0) = false := by simp; omega
    go_enter Try.func5, Try.ntmps5
    go_wp2
    go_ret
    exact ⟨by rw [HL.out]; rfl, hbB⟩
set_option maxRecDepth 100000 in
set_option maxHeartbeats 1000000 in
theorem szValueS_any (a : Option Addr) (cs : List Val) (cap : Nat) (left : Nat) (w : World) (hl : left ≤ 1048576) (hn : cs.length ≤ 9223372036854775807) (hr : RowV w w.heap.size a cs) (hwf : ∀ d ∈ cs, d.wf) :
    Calls Try.prog 28 #[.slice a cs.length cap, .int .i64 left] w fun e w' => Ans w (.int .i64 (leftOf left (bulkV cs))) e w' := by
  unfold bulkV
  by_cases h : left < cs.length
  · have HL : Hid (leftOf left (bulkOf (fun v : Val => v.s.size) cs) = -1) := if_pos (by have := bulkOf_len (fun v : Val => v.s.size) cs; omega)
    have hd : decide ((left : Int) - (cs.length : Int) < 0) = true := by simp; omega
    go_enter Try.func28, Try.ntmps28
    go_wp2
    all_goals go_ret
    all_goals exact ⟨by rw [HL.out]; rfl, Below.refl _ _⟩
  · have hd : decide ((left : Int) - (cs.length : Int) < 0) = false := by simp; omega
    have HR : Hid (RowV w w.heap.size a cs) := hr
    have HW : Hid (∀ d ∈ cs, d.wf) := hwf
    clear hr hwf
    go_enter Try.func28, Try.ntmps28
    go_wp2
    go_loopw [1, 5] (fun t o wr => ∃ (i m : Nat), i ≤ cs.length ∧ m + bulkOf (fun v : Val => v.s.size) (cs.take i) + (cs.length - i) = left ∧ t = .int .i64 m ∧ o = .int .i64 i ∧ Below w.heap.size w wr)
      (fun _ o _ => cs.length - (intOf o).toNat)
    case atStart => exact ⟨0, left - cs.length, by omega, by simp [bulkOf]; omega, by go_num, rfl, Below.refl _ _⟩
    case round =>
      obtain ⟨i, m, hi, hm, rfl, rfl, hb⟩ := hrel
      by_cases hlt : i < cs.length
      · obtain ⟨d, hd⟩ : ∃ d, cs[i]? = some d := ⟨_, List.getElem?_eq_getElem hlt⟩
        obtain ⟨b1, o1, rfl, hbb, v0, v1, v2⟩ := HR.out i d hd
        have c0 := cell_keep v0 hb hbb
        have c1 := cell_keep v1 hb hbb
        have c2 := cell_keep v2 hb hbb
        have hsz := hb.size
        have HM : Hid (m + bulkOf (fun v : Val => v.s.size) (cs.take i) + (cs.length - i) = left) := hm
        have hm' : m ≤ 1048576 := by omega
        have hbs : bulkOf (fun v : Val => v.s.size) (cs.take (i + 1)) = bulkOf (fun v : Val => v.s.size) (cs.take i) + (1 + d.s.size) := bulkOf_take_succ _ hd
        have hle := bulkOf_take_le (fun v : Val => v.s.size) cs (i + 1)
        have HZ : Hid (Calls Try.prog 5 #[.agg #[.int .i64 d.k, .int .i64 d.n, .string d.s], .int .i64 m] wr fun e w' => Ans wr (.int .i64 (leftOf m d.s.size)) e w') := szValue_any d m wr hm' (HW.out d (List.mem_of_getElem? hd)).2.2
        clear hm v0 v1 v2 hd
        by_cases hq : m < d.s.size
        · rw [leftOf_neg hq] at HZ
          have HL : Hid (leftOf left (bulkOf (fun v : Val => v.s.size) cs) = -1) := if_pos (by have := HM.out; omega)
          clear hbs hle
          go_wp2_with (go_at_call 5; refine HZ.out.mono ?_; rintro e w1 ⟨rfl, hb1⟩)
          go_ret
          exact ⟨by rw [HL.out]; rfl, hb.trans (hb1.mono hsz)⟩
        · rw [leftOf_nat hq] at HZ
          have HQ : Hid ((m - d.s.size) + bulkOf (fun v : Val => v.s.size) (cs.take (i + 1)) + (cs.length - (i + 1)) = left) := by have := HM.out; show _ = _; omega
          generalize m - d.s.size = q at *
          clear hbs hle hq
          go_wp2_with (go_at_call 5; refine HZ.out.mono ?_; rintro e w1 ⟨rfl, hb1⟩)
          go_roundw
          case rel => exact ⟨i + 1, q, by omega, HQ.out, rfl, by go_num, hb.trans (hb1.mono hsz)⟩
          case measure => simp [intOf]; omega
      · have hlt' : decide ((i : Int) < (cs.length : Int)) = false := by simp; omega
        obtain rfl : i = cs.length := by omega
        rw [List.take_length] at hm
        have HL : Hid (leftOf left (bulkOf (fun v : Val => v.s.size) cs) = m) := by show _ = _; rw [show leftOf left (bulkOf (fun v : Val => v.s.size) cs) = (left : Int) - bulkOf (fun v : Val => v.s.size) cs from if_neg (by omega)]; omega
        clear hm
        go_wp2
        go_ret
        exact ⟨by rw [HL.out]; rfl, hb⟩
set_option maxRecDepth 100000 in
set_option maxHeartbeats 1000000 in
theorem szCell_any (d : Cel) (an aa : Option Addr) (cn ca left : Nat) (w : World) (hl : left ≤ 1048576) (hw : d.wf) (hr : CelRows w (fun b => b < w.heap.size) an cn aa ca d) :
    Calls Try.prog 15 #[.agg #[.int .i64 d.k, .string d.s, .int .i64 d.a, .int .i64 d.b, .slice an d.names.length cn, .slice aa d.vals.length ca], .int .i64 left] w fun e w' => Ans w (.int .i64 (leftOf left d.bulk)) e w' := by
  obtain ⟨_, _, _, w3, w4, w5, w6, w7⟩ := hw
  obtain ⟨hrs, hrv, -, -⟩ := hr
  have hbB : Below w.heap.size w (w.alloc (Obj.cells #[.int .i64 d.k, .string d.s, .int .i64 d.a, .int .i64 d.b, .slice an d.names.length cn, .slice aa d.vals.length ca] 43)) := (Below.refl _ _).alloc (Nat.le_refl _) _
  have k0 := blk_alloc w (Obj.cells #[.int .i64 d.k, .string d.s, .int .i64 d.a, .int .i64 d.b, .slice an d.names.length cn, .slice aa d.vals.length ca] 43)
  by_cases h1 : left < d.s.size
  · have HL : Hid (leftOf left d.bulk = -1) := leftOf_neg (by unfold Cel.bulk; omega)
    have g1 : decide ((left : Int) - (d.s.size : Int) < 0) = true := by simp; omega
    clear hrs hrv k0
    go_enter Try.func15, Try.ntmps15
    go_wp2
    go_ret
    exact ⟨by rw [HL.out]; rfl, hbB⟩
  · have g1 : decide ((left : Int) - (d.s.size : Int) < 0) = false := by simp; omega
    obtain ⟨q, hq⟩ : ∃ q, q = left - d.s.size := ⟨_, rfl⟩
    have eq1 : (left : Int) - (d.s.size : Int) = (q : Int) := by omega
    have HB1 : Hid (leftOf left d.bulk = leftOf q (bulkS d.names + bulkV d.vals)) := by
      show _ = _
      unfold Cel.bulk
      rw [Nat.add_assoc, leftOf_add h1, hq]
    have HS : Hid (∀ w2, Below w.heap.size w w2 → Calls Try.prog 27 #[.slice an d.names.length cn, .int .i64 q] w2 fun e w' => Ans w2 (.int .i64 (leftOf q (bulkS d.names))) e w') := fun w2 h2 => szStringS_any an d.names cn q w2 (by omega) w4 (hrs.keep fun b h => ⟨by have := h2.size; omega, h2.block b h⟩) w6
    rw [HB1.out]
    clear hrs HB1 hq
    by_cases h2 : q < bulkS d.names
    · have HL : Hid (leftOf q (bulkS d.names + bulkV d.vals) = -1) := leftOf_neg (by omega)
      rw [leftOf_neg h2] at HS
      rw [HL.out]
      clear HL h2
      go_enter Try.func15, Try.ntmps15
      go_wp2_with (go_at_call 27; first | rw [eq1] | skip; refine (HS.out _ hbB).mono ?_; rintro e w1 ⟨rfl, hb1⟩)
      go_ret
      exact ⟨rfl, hbB.trans (hb1.mono hbB.size)⟩
    · rw [leftOf_nat h2] at HS
      have HB2 : Hid (leftOf q (bulkS d.names + bulkV d.vals) = leftOf (q - bulkS d.names) (bulkV d.vals)) := leftOf_add h2
      rw [HB2.out]
      have hz : q - bulkS d.names ≤ 1048576 := by omega
      generalize q - bulkS d.names = z at *
      have HI : Hid (∀ w2, Below w.heap.size w w2 → Calls Try.prog 28 #[.slice aa d.vals.length ca, .int .i64 z] w2 fun e w' => Ans w2 (.int .i64 (leftOf z (bulkV d.vals))) e w') := fun w2 h2 => szValueS_any aa d.vals ca z w2 hz w5 (hrv.keep fun b h => ⟨by have := h2.size; omega, h2.block b h⟩) w7
      clear HB2 h2 hrv
      by_cases h3 : z < bulkV d.vals
      · rw [leftOf_neg h3] at HI ⊢
        clear h3
        go_enter Try.func15, Try.ntmps15
        go_wp2_with (first | (go_at_call 27; first | rw [eq1] | skip; refine (HS.out _ hbB).mono ?_; rintro e w1 ⟨rfl, hb1⟩; have e4 := cell_keep (cell_blk (j := 5) k0 rfl) hb1 (by simp); have hb3 := hbB.trans (hb1.mono hbB.size)) | (go_at_call 28; refine (HI.out _ hb3).mono ?_; rintro e w2 ⟨rfl, hb2⟩))
        go_ret
        exact ⟨rfl, hb3.trans (hb2.mono hb3.size)⟩
      · rw [leftOf_nat h3] at HI ⊢
        generalize z - bulkV d.vals = y at *
        clear h3
        go_enter Try.func15, Try.ntmps15
        go_wp2_with (first | (go_at_call 27; first | rw [eq1] | skip; refine (HS.out _ hbB).mono ?_; rintro e w1 ⟨rfl, hb1⟩; have e4 := cell_keep (cell_blk (j := 5) k0 rfl) hb1 (by simp); have hb3 := hbB.trans (hb1.mono hbB.size)) | (go_at_call 28; refine (HI.out _ hb3).mono ?_; rintro e w2 ⟨rfl, hb2⟩))
        go_ret
        exact ⟨rfl, hb3.trans (hb2.mono hb3.size)⟩
set_option maxRecDepth 100000 in
set_option maxHeartbeats 1000000 in
theorem szCellS_any (a : Option Addr) (cs : List Cel) (cap : Nat) (left : Nat) (w : World) (hl : left ≤ 1048576) (hn : cs.length ≤ 9223372036854775807) (hr : RowC w w.heap.size a cs) (hwf : ∀ d ∈ cs, d.wf) :
    Calls Try.prog 4 #[.slice a cs.length cap, .int .i64 left] w fun e w' => Ans w (.int .i64 (leftOf left (bulkC cs))) e w' := by
  unfold bulkC
  by_cases h : left < cs.length
  · have HL : Hid (leftOf left (bulkOf Cel.bulk cs) = -1) := if_pos (by have := bulkOf_len Cel.bulk cs; omega)
    have hd : decide ((left : Int) - (cs.length : Int) < 0) = true := by simp; omega
    go_enter Try.func4, Try.ntmps4
    go_wp2
    all_goals go_ret
    all_goals exact ⟨by rw [HL.out]; rfl, Below.refl _ _⟩
  · have hd : decide ((left : Int) - (cs.length : Int) < 0) = false := by simp; omega
    have HR : Hid (RowC w w.heap.size a cs) := hr
    have HW : Hid (∀ d ∈ cs, d.wf) := hwf
    clear hr hwf
    go_enter Try.func4, Try.ntmps4
    go_wp2
    go_loopw [1, 5] (fun t o wr => ∃ (i m : Nat), i ≤ cs.length ∧ m + bulkOf Cel.bulk (cs.take i) + (cs.length - i) = left ∧ t = .int .i64 m ∧ o = .int .i64 i ∧ Below w.heap.size w wr)
      (fun _ o _ => cs.length - (intOf o).toNat)
    case atStart => exact ⟨0, left - cs.length, by omega, by simp [bulkOf]; omega, by go_num, rfl, Below.refl _ _⟩
    case round =>
      obtain ⟨i, m, hi, hm, rfl, rfl, hb⟩ := hrel
      by_cases hlt : i < cs.length
      · obtain ⟨d, hd⟩ : ∃ d, cs[i]? = some d := ⟨_, List.getElem?_eq_getElem hlt⟩
        obtain ⟨b1, o1, rfl, hbb, an, cn, aa, ca, v0, v1, v2, v3, v4, v5, hrows⟩ := HR.out i d hd
        have c0 := cell_keep v0 hb hbb
        have c1 := cell_keep v1 hb hbb
        have c2 := cell_keep v2 hb hbb
        have c3 := cell_keep v3 hb hbb
        have c4 := cell_keep v4 hb hbb
        have c5 := cell_keep v5 hb hbb
        have hsz := hb.size
        have HM : Hid (m + bulkOf Cel.bulk (cs.take i) + (cs.length - i) = left) := hm
        have hm' : m ≤ 1048576 := by omega
        have hbs := bulkOf_take_succ Cel.bulk hd
        have hle := bulkOf_take_le Cel.bulk cs (i + 1)
        have HZ : Hid (Calls Try.prog 15 #[.agg #[.int .i64 d.k, .string d.s, .int .i64 d.a, .int .i64 d.b, .slice an d.names.length cn, .slice aa d.vals.length ca], .int .i64 m] wr fun e w' => Ans wr (.int .i64 (leftOf m d.bulk)) e w') := szCell_any d an aa cn ca m wr hm' (HW.out d (List.mem_of_getElem? hd)) (hrows.keep fun b h => ⟨by omega, hb.block b h⟩)
        clear hm v0 v1 v2 v3 v4 v5 hrows hd
        by_cases hq : m < d.bulk
        · rw [leftOf_neg hq] at HZ
          have HL : Hid (leftOf left (bulkOf Cel.bulk cs) = -1) := if_pos (by have := HM.out; omega)
          clear hbs hle
          go_wp2_with (go_at_call 15; refine HZ.out.mono ?_; rintro e w1 ⟨rfl, hb1⟩)
          go_ret
          exact ⟨by rw [HL.out]; rfl, hb.trans (hb1.mono hsz)⟩
        · rw [leftOf_nat hq] at HZ
          have HQ : Hid ((m - d.bulk) + bulkOf Cel.bulk (cs.take (i + 1)) + (cs.length - (i + 1)) = left) := by have := HM.out; show _ = _; omega
          generalize m - d.bulk = q at *
          clear hbs hle hq
          go_wp2_with (go_at_call 15; refine HZ.out.mono ?_; rintro e w1 ⟨rfl, hb1⟩)
          go_roundw
          case rel => exact ⟨i + 1, q, by omega, HQ.out, rfl, by go_num, hb.trans (hb1.mono hsz)⟩
          case measure => simp [intOf]; omega
      · have hlt' : decide ((i : Int) < (cs.length : Int)) = false := by simp; omega
        obtain rfl : i = cs.length := by omega
        rw [List.take_length] at hm
        have HL : Hid (leftOf left (bulkOf Cel.bulk cs) = m) := by show _ = _; rw [show leftOf left (bulkOf Cel.bulk cs) = (left : Int) - bulkOf Cel.bulk cs from if_neg (by omega)]; omega
        clear hm
        go_wp2
        go_ret
        exact ⟨by rw [HL.out]; rfl, hb⟩
end Go.Proofs.Ytpjafenpjigmkaa
