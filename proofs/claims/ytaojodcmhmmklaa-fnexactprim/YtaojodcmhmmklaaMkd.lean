/- The law's marks held in a heap. -/
import Derived.Test.YtaojodcmhmmklaaMkc
set_option linter.unusedVariables false
namespace Go.Proofs.Ytaojodcmhmmklaa
open Go.ChangeShapes Go.WideShapes Go.ChangeAt Go.RowKit
set_option maxRecDepth 100000 in
set_option maxHeartbeats 2000000 in
theorem heldCellS_o (a : Option Addr) (h : List Cel) (cap k : Nat) (w : World) (hk1 : 1 ≤ k) (hk : k + wtH h ≤ 1000000000000) (hr : RowC w w.heap.size a (marksH k h)) :
    Calls Try.prog 16 #[.slice a h.length cap, .int .i64 (k : Int)] w fun e w' => Ans w (.int .i64 ((k + wtH h : Nat) : Int)) e w' := by
  have HR : Hid (RowC w w.heap.size a (marksH k h)) := hr
  have hln : h.length ≤ wtH h := by
    have : ∀ l : List Cel, l.length ≤ wtH l := by
      intro l
      induction l with
      | nil => simp [wtH]
      | cons c r ih => simp [wtH, wtC] at ih ⊢; omega
    exact this h
  clear hr
  go_enter Try.func16, Try.ntmps16
  go_wp2
  go_loopw [1, 5] (fun kv iv wr => ∃ (i m : Nat), i ≤ h.length ∧ m = k + wtH (h.take i) ∧ kv = .int .i64 m ∧ iv = .int .i64 i ∧ Below w.heap.size w wr)
    (fun kv iv _ => h.length - (intOf iv).toNat)
  case atStart => exact ⟨0, k, Nat.zero_le _, by simp [wtH], rfl, rfl, Below.refl _ _⟩
  case round =>
    obtain ⟨i, m, hi, hm, rfl, rfl, hb⟩ := hrel
    have HM : Hid (m = k + wtH (h.take i)) := hm
    have hm6 : m ≤ 1000000000000 := by have := wtH_le h i; omega
    have hm1 : 1 ≤ m := by omega
    have HB : Hid (Below w.heap.size w wr) := hb
    have hsz := hb.size
    by_cases hlt : i < h.length
    · obtain ⟨c, hc⟩ : ∃ c, h[i]? = some c := ⟨_, List.getElem?_eq_getElem hlt⟩
      have HC : Hid (h[i]? = some c) := hc
      have hwt := wtH_take hc
      have hwl := wtH_le h (i + 1)
      have hcw : m + wtC c ≤ 1000000000000 := by omega
      unfold wtC at hcw
      obtain ⟨b, o, rfl, hbl, an, cn, av, cv, c0, c1, c2, c3, c4, c5, hrows⟩ := (HR.out.below hb) i _ (marksH_get k h i c hc)
      rw [← hm] at c0 c1 c2 c3 c4 c5 hrows
      have l1 : (markC m c).names.length = c.names.length := marksS_len _ _
      have l2 : (markC m c).vals.length = c.vals.length := marksV_len _ _
      rw [l1] at c4
      rw [l2] at c5
      obtain ⟨r1, r2, -, -⟩ := hrows
      have q0 : wr.cell? ⟨b, o + i * 6, none⟩ = some (.int .i64 m) := c0
      have q1 : wr.cell? ⟨b, o + i * 6 + 1, none⟩ = some (.string (mtx (m + 1))) := c1
      have q2 : wr.cell? ⟨b, o + i * 6 + 2, none⟩ = some (.int .i64 ((m : Int) + 2)) := c2
      have q3 : wr.cell? ⟨b, o + i * 6 + 3, none⟩ = some (.int .i64 ((m : Int) + 3)) := c3
      have HQ : Hid (wr.cell? ⟨b, o + i * 6 + 1, none⟩ = some (.string (mtx (m + 1))) ∧ wr.cell? ⟨b, o + i * 6 + 2, none⟩ = some (.int .i64 ((m : Int) + 2)) ∧ wr.cell? ⟨b, o + i * 6 + 3, none⟩ = some (.int .i64 ((m : Int) + 3)) ∧ wr.cell? ⟨b, o + i * 6 + 4, none⟩ = some (.slice an c.names.length cn) ∧ wr.cell? ⟨b, o + i * 6 + 5, none⟩ = some (.slice av c.vals.length cv)) := ⟨q1, q2, q3, c4, c5⟩
      have R1 : Hid (RowSP wr (fun b => b < w.heap.size) an (marksS (m + 4) c.names.length)) := r1
      have R2 : Hid (RowVP wr (fun b => b < w.heap.size) av (marksV (m + 4 + c.names.length) c.vals.length)) := r2
      have HT : Hid (∀ w, Calls Try.prog 34 #[.int .i64 ((m : Int) + 1)] w fun e w' => Ans w (.string (mtx (m + 1))) e w') := fun w => by
        have q := markText_any (m + 1) w (by omega) (by omega)
        rw [show ((m + 1 : Nat) : Int) = (m : Int) + 1 by omega] at q
        exact q
      have hqq : ((mtx (m + 1)).toList != (mtx (m + 1)).toList) = false := by simp
      have hq0 : ((m : Int) != (m : Int)) = false := by simp
      clear hb hm c0 c1 c2 c3 c4 c5 r1 r2 l1 l2 hc hwt hwl q2 q3
      go_wp2_with fail
      go_region_with (go_at_call 34; refine (HT.out _).mono ?_; rintro e w2 ⟨rfl, hb2⟩; have e3 : w2.cell? ⟨b, o + i * 6 + 1, none⟩ = some (.string (mtx (m + 1))) := (World.cell?_of_block (w := wr) (a := ⟨b, _, none⟩) (hb2.block b (by show b < wr.heap.size; omega))).trans q1)
      all_goals
        have hb3 : Below wr.heap.size wr w2 := (below_drewN (Below.refl _ wr) 1).trans hb2
        have hs2 := hb3.size
        have e4 := cell_keep HQ.out.2.1 hb3 (by omega)
        have e5 := cell_keep HQ.out.2.2.1 hb3 (by omega)
        have e6 := cell_keep HQ.out.2.2.2.1 hb3 (by omega)
        have HB2 : Hid (Below w.heap.size w w2) := HB.out.trans (hb3.mono hsz)
        have h2 : ((m : Int) + 2 != (m : Int) + 2) = false := by simp
        have h3 : ((m : Int) + 3 != (m : Int) + 3) = false := by simp
        have hS := heldStringS_o an c.names.length cn (m + 4) w2 (by omega) (by omega) (R1.out.keep fun b hb => ⟨by show b < w2.heap.size; omega, hb3.block b (by omega)⟩)
        obtain ⟨q, hq⟩ : ∃ q, q = m + 4 + c.names.length := ⟨_, rfl⟩
        rw [← hq, show ((m + 4 : Nat) : Int) = (m : Int) + 4 by omega] at hS
        have HS : Hid (Calls Try.prog 36 #[.slice an c.names.length cn, .int .i64 ((m : Int) + 4)] w2 fun e w' => Ans w2 (.int .i64 (q : Int)) e w') := hS
        have HQQ : Hid (q = m + 4 + c.names.length) := hq
        have hq6 : q ≤ 1000000000000 := by omega
        have hq3 : q + c.vals.length * 3 ≤ 1000000000000 := by omega
        have HB3 : Hid (Below wr.heap.size wr w2) := hb3
        have hqn : decide ((q : Int) < 0) = false := by simp
        clear hS hq hb2 hb3 e3 q0 q1
        go_wp2_with fail
        rw [show (m : Int) + 1 + 1 + 1 + 1 = (m : Int) + 4 by omega]
        refine HS.out.mono ?_
        rintro e w3 ⟨rfl, hb4⟩
        have hb5 := HB3.out.trans (hb4.mono hs2)
        have e7 := cell_keep HQ.out.2.2.2.2 hb5 (by omega)
        have HV : Hid (Calls Try.prog 37 #[.slice av c.vals.length cv, .int .i64 (q : Int)] w3 fun e w' => Ans w3 (.int .i64 ((q + c.vals.length * 3 : Nat) : Int)) e w') := heldValueS_o av c.vals.length cv q w3 (by have := HQQ.out; omega) hq3 (by have e := HQQ.out; rw [e]; exact R2.out.keep fun b hb => ⟨by show b < w3.heap.size; have := hb5.size; omega, hb5.block b (by omega)⟩)
        have HB4 : Hid (Below w.heap.size w w3) := HB2.out.trans (hb4.mono HB2.out.size)
        clear hb4 hb5 HS e4 e5 e6
        go_wp2_with fail
        refine HV.out.mono ?_
        rintro e w4 ⟨rfl, hb6⟩
        obtain ⟨r, hr⟩ : ∃ r, r = q + c.vals.length * 3 := ⟨_, rfl⟩
        rw [← hr]
        have HRR : Hid (r = q + c.vals.length * 3) := hr
        have hrn : decide ((r : Int) < 0) = false := by simp
        clear hr
        go_wp2
        go_roundw
        case rel =>
          refine ⟨i + 1, r, by omega, ?_, rfl, by go_num, HB4.out.trans (hb6.mono HB4.out.size)⟩
          have := HRR.out
          have := HQQ.out
          have := HM.out
          rw [wtH_take HC.out]
          unfold wtC
          omega
        case measure => simp [intOf]; omega
    · have hlt' : decide ((i : Int) < (h.length : Int)) = false := by simp; omega
      obtain rfl : i = h.length := by omega
      rw [List.take_length] at HM
      clear hlt hb hm
      go_wp2
      go_ret
      exact ⟨by rw [HM.out]; rfl, HB.out⟩
end Go.Proofs.Ytaojodcmhmmklaa
