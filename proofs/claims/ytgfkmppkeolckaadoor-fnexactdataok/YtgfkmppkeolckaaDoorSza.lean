/- The size of data that come in. -/
import Derived.Test.YtgfkmppkeolckaaDoorDat
namespace Go.Proofs.YtgfkmppkeolckaaDoor
open Go.ChangeShapes Go.WideShapes Go.ChangeAt Go.RowKit
theorem szDatum_any (d : Dat) (left : Nat) (w : World) (hs : d.s.size ≤ 9223372036854775807) (hl : left ≤ 1048576) :
    Calls Tryd.prog 69 #[.agg #[.int .i64 d.k, .int .i64 d.n, .string d.s, .int .i64 d.l, .int .i64 d.r], .int .i64 left] w fun e w' => Ans w (.int .i64 (leftOf left d.s.size)) e w' := by
  obtain ⟨k, n, s, l, r⟩ := d
  simp only at *
  by_cases h : left < s.size
  · have HL : Hid (leftOf left s.size = -1) := if_pos h
    go_enter Tryd.func69, Tryd.ntmps69
    go_wp2
    all_goals go_ret
    all_goals exact ⟨by rw [HL.out]; rfl, (Below.refl _ _).alloc (Nat.le_refl _) _⟩
  · have HL : Hid (leftOf left s.size = (left : Int) - s.size) := if_neg h
    go_enter Tryd.func69, Tryd.ntmps69
    go_wp2
    all_goals go_ret
    all_goals exact ⟨by rw [HL.out]; rfl, (Below.refl _ _).alloc (Nat.le_refl _) _⟩
set_option maxRecDepth 100000 in
set_option maxHeartbeats 1000000 in
theorem szDatumS_any (a : Option Addr) (cs : List Dat) (cap : Nat) (left : Nat) (w : World) (hl : left ≤ 1048576) (hn : cs.length ≤ 9223372036854775807) (hr : RowD w w.heap.size a cs) (hwf : ∀ d ∈ cs, d.wf) :
    Calls Tryd.prog 38 #[.slice a cs.length cap, .int .i64 left] w fun e w' => Ans w (.int .i64 (leftOf left (bulkD cs))) e w' := by
  by_cases h : left < cs.length
  · have HL : Hid (leftOf left (bulkD cs) = -1) := if_pos (by have := bulkD_len cs; omega)
    have hd : decide ((left : Int) - (cs.length : Int) < 0) = true := by simp; omega
    go_enter Tryd.func38, Tryd.ntmps38
    go_wp2
    all_goals go_ret
    all_goals exact ⟨by rw [HL.out]; rfl, Below.refl _ _⟩
  · have hd : decide ((left : Int) - (cs.length : Int) < 0) = false := by simp; omega
    have HR : Hid (RowD w w.heap.size a cs) := hr
    have HW : Hid (∀ d ∈ cs, d.wf) := hwf
    clear hr hwf
    go_enter Tryd.func38, Tryd.ntmps38
    go_wp2
    go_loopw [1, 5] (fun t o wr => ∃ (i m : Nat), i ≤ cs.length ∧ m + bulkD (cs.take i) + (cs.length - i) = left ∧ t = .int .i64 m ∧ o = .int .i64 i ∧ Below w.heap.size w wr)
      (fun _ o _ => cs.length - (intOf o).toNat)
    case atStart => exact ⟨0, left - cs.length, by omega, by simp [bulkD]; omega, by go_num, rfl, Below.refl _ _⟩
    case round =>
      obtain ⟨i, m, hi, hm, rfl, rfl, hb⟩ := hrel
      by_cases hlt : i < cs.length
      · obtain ⟨d, hd⟩ : ∃ d, cs[i]? = some d := ⟨_, List.getElem?_eq_getElem hlt⟩
        obtain ⟨b, o, rfl, hbb, c0, c1, c2, c3, c4⟩ := (HR.out.below hb) i d hd
        have hdw := HW.out d (List.mem_of_getElem? hd)
        have HM : Hid (m + bulkD (cs.take i) + (cs.length - i) = left) := hm
        have hm' : m ≤ 1048576 := by omega
        have hbs := bulkD_take_succ hd
        have hle := bulkD_take_le' cs (i + 1)
        clear hm
        by_cases hq : m < d.s.size
        · have HZ : Hid (∀ w, Calls Tryd.prog 69 #[.agg #[.int .i64 d.k, .int .i64 d.n, .string d.s, .int .i64 d.l, .int .i64 d.r], .int .i64 m] w fun e w' => Ans w (.int .i64 (-1)) e w') := fun w => by
            have := szDatum_any d m w hdw.2.2.2.2 hm'
            rwa [show leftOf m d.s.size = -1 from if_pos hq] at this
          have HL : Hid (leftOf left (bulkD cs) = -1) := if_pos (by have := HM.out; omega)
          clear hbs hle
          go_wp2_with fail
          refine (HZ.out _).mono ?_
          rintro e w1 ⟨rfl, hb1⟩
          have hsz := hb.size
          go_wp2
          go_ret
          exact ⟨by rw [HL.out]; rfl, hb.trans (hb1.mono hsz)⟩
        · have HZ : Hid (∀ w, Calls Tryd.prog 69 #[.agg #[.int .i64 d.k, .int .i64 d.n, .string d.s, .int .i64 d.l, .int .i64 d.r], .int .i64 m] w fun e w' => Ans w (.int .i64 ((m - d.s.size : Nat) : Int)) e w') := fun w => by
            have := szDatum_any d m w hdw.2.2.2.2 hm'
            rwa [show leftOf m d.s.size = ((m - d.s.size : Nat) : Int) by rw [show leftOf m d.s.size = (m : Int) - d.s.size from if_neg hq]; omega] at this
          obtain ⟨q, hq'⟩ : ∃ q, q = m - d.s.size := ⟨_, rfl⟩
          rw [← hq'] at HZ
          have HQ : Hid (q + bulkD (cs.take (i + 1)) + (cs.length - (i + 1)) = left) := by have := HM.out; show _ = _; omega
          clear hbs hle hq' hq
          go_wp2_with fail
          refine (HZ.out _).mono ?_
          rintro e w1 ⟨rfl, hb1⟩
          have hsz := hb.size
          go_wp2
          go_roundw
          case rel => exact ⟨i + 1, q, by omega, HQ.out, rfl, by go_num, hb.trans (hb1.mono hsz)⟩
          case measure => simp [intOf]; omega
      · have hlt' : decide ((i : Int) < (cs.length : Int)) = false := by simp; omega
        obtain rfl : i = cs.length := by omega
        rw [List.take_length] at hm
        have HL : Hid (leftOf left (bulkD cs) = m) := by show _ = _; rw [show leftOf left (bulkD cs) = (left : Int) - bulkD cs from if_neg (by omega)]; omega
        clear hm
        go_wp2
        go_ret
        exact ⟨by rw [HL.out]; rfl, hb⟩
/-- The size of a row of ints. -/
theorem szIntS_any (a : Option Addr) (n cap : Nat) (left : Nat) (w : World) (hl : left ≤ 1048576) (hn : n ≤ 9223372036854775807) :
    Calls Tryd.prog 39 #[.slice a n cap, .int .i64 left] w fun e w' => Ans w (.int .i64 (leftOf left n)) e w' := by
  by_cases h : left < n
  · have HL : Hid (leftOf left n = -1) := if_pos h
    go_enter Tryd.func39, Tryd.ntmps39
    go_wp2
    all_goals go_ret
    all_goals exact ⟨by rw [HL.out]; rfl, Below.refl _ _⟩
  · have HL : Hid (leftOf left n = (left : Int) - n) := if_neg h
    go_enter Tryd.func39, Tryd.ntmps39
    go_wp2
    all_goals go_ret
    all_goals exact ⟨by rw [HL.out]; rfl, Below.refl _ _⟩
theorem szData_any (a b : Option Addr) (cs : List Dat) (ca cb nt : Nat) (left : Nat) (w : World) (hl : left ≤ 1048576) (hn : cs.length ≤ 9223372036854775807) (hn' : nt ≤ 9223372036854775807) (hr : RowD w w.heap.size a cs) (hwf : ∀ d ∈ cs, d.wf) :
    Calls Tryd.prog 15 #[.agg #[.slice a cs.length ca, .slice b nt cb], .int .i64 left] w fun e w' => Ans w (.int .i64 (leftOf left (bulkD cs + nt))) e w' := by
  have HZ : Hid (∀ w1, Below w.heap.size w w1 → Calls Tryd.prog 38 #[.slice a cs.length ca, .int .i64 left] w1 fun e w' => Ans w1 (.int .i64 (leftOf left (bulkD cs))) e w') := fun w1 h => szDatumS_any a cs ca left w1 hl hn ((hr.below h).mono h.size) hwf
  clear hr hwf
  by_cases h : left < bulkD cs
  · have HL : Hid (leftOf left (bulkD cs + nt) = -1) := if_pos (by omega)
    rw [show leftOf left (bulkD cs) = -1 from if_pos h] at HZ
    go_enter Tryd.func15, Tryd.ntmps15
    go_wp2_with fail
    have hb0 : Below w.heap.size w (w.alloc (Obj.cells #[Value.slice a cs.length ca, Value.slice b nt cb] 37)) := (Below.refl _ _).alloc (Nat.le_refl _) _
    refine (HZ.out _ hb0).mono ?_
    rintro e w1 ⟨rfl, hb1⟩
    have hb2 : Below w.heap.size w w1 := hb0.trans (hb1.mono hb0.size)
    go_wp2
    go_ret
    exact ⟨by rw [HL.out]; rfl, hb2⟩
  · obtain ⟨q, hq⟩ : ∃ q, q = left - bulkD cs := ⟨_, rfl⟩
    have hq1 : q ≤ 1048576 := by omega
    rw [show leftOf left (bulkD cs) = (q : Int) by rw [show leftOf left (bulkD cs) = (left : Int) - bulkD cs from if_neg h]; omega] at HZ
    have HI : Hid (∀ w, Calls Tryd.prog 39 #[.slice b nt cb, .int .i64 q] w fun e w' => Ans w (.int .i64 (leftOf q nt)) e w') := fun w => szIntS_any b nt cb q w hq1 hn'
    have hlo : leftOf left (bulkD cs + nt) = leftOf q nt := by
      unfold leftOf
      by_cases h2 : q < nt
      · rw [if_pos (by omega), if_pos h2]
      · rw [if_neg (by omega), if_neg h2]; omega
    rw [hlo]
    clear hlo hq h
    by_cases h2 : q < nt
    · have HL : Hid (leftOf q nt = -1) := if_pos h2
      rw [HL.out]
      rw [HL.out] at HI
      clear HL h2
      go_enter Tryd.func15, Tryd.ntmps15
      go_wp2_with fail
      have hb0 : Below w.heap.size w (w.alloc (Obj.cells #[Value.slice a cs.length ca, Value.slice b nt cb] 37)) := (Below.refl _ _).alloc (Nat.le_refl _) _
      refine (HZ.out _ hb0).mono ?_
      rintro e w1 ⟨rfl, hb1⟩
      have hb2 : Below w.heap.size w w1 := hb0.trans (hb1.mono hb0.size)
      have hc1 := cell_blk (j := 1) (blk_keep (blk_alloc w (Obj.cells #[Value.slice a cs.length ca, Value.slice b nt cb] 37)) hb1 (by simp)) rfl
      go_wp2_with fail
      refine (HI.out _).mono ?_
      rintro e w2 ⟨rfl, hb3⟩
      go_wp2
      go_ret
      exact ⟨rfl, hb2.trans (hb3.mono hb2.size)⟩
    · have HL : Hid (leftOf q nt = ((q - nt : Nat) : Int)) := by show _ = _; rw [show leftOf q nt = (q : Int) - nt from if_neg h2]; omega
      rw [HL.out]
      rw [HL.out] at HI
      generalize q - nt = z at *
      clear HL h2
      go_enter Tryd.func15, Tryd.ntmps15
      go_wp2_with fail
      have hb0 : Below w.heap.size w (w.alloc (Obj.cells #[Value.slice a cs.length ca, Value.slice b nt cb] 37)) := (Below.refl _ _).alloc (Nat.le_refl _) _
      refine (HZ.out _ hb0).mono ?_
      rintro e w1 ⟨rfl, hb1⟩
      have hb2 : Below w.heap.size w w1 := hb0.trans (hb1.mono hb0.size)
      have hc1 := cell_blk (j := 1) (blk_keep (blk_alloc w (Obj.cells #[Value.slice a cs.length ca, Value.slice b nt cb] 37)) hb1 (by simp)) rfl
      go_wp2_with fail
      refine (HI.out _).mono ?_
      rintro e w2 ⟨rfl, hb3⟩
      go_wp2
      go_ret
      exact ⟨rfl, hb2.trans (hb3.mono hb2.size)⟩
end Go.Proofs.YtgfkmppkeolckaaDoor
