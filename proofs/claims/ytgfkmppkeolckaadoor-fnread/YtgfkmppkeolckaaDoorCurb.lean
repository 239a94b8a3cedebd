/- Numbers below a bound, out of the cursor. -/
import Derived.Test.YtgfkmppkeolckaaDoorCura
namespace Go.Proofs.YtgfkmppkeolckaaDoor.Cu
open Go.ChangeShapes Go.WideShapes Go.ChangeAt Go.RowKit
/-- Where a cursor stands. -/
abbrev St := Nat × Int
def bS (d : Code1) (s : St) : St := (byI d s.1, nextH s.2)
def bX (d : Code1) (s : St) : Int := byX d s.1 s.2
theorem bX_bd (d : Code1) (s : St) : 0 ≤ bX d s ∧ bX d s ≤ 255 := byX_bd d s.1 s.2
def belX (d : Code1) (n : Int) (s : St) : Int :=
  if n ≤ 256 then bX d s % n else (bX d s * 16777216 + bX d (bS d s) * 65536 + bX d (bS d (bS d s)) * 256 + bX d (bS d (bS d (bS d s)))) % n
def belS (d : Code1) (n : Int) (s : St) : St := if n ≤ 256 then bS d s else bS d (bS d (bS d (bS d s)))
theorem belX_bd (d : Code1) (n : Int) (s : St) (h : 0 < n) : 0 ≤ belX d n s ∧ belX d n s < n := by
  unfold belX
  split
  · exact ⟨Int.emod_nonneg _ (by omega), Int.emod_lt_of_pos _ h⟩
  · exact ⟨Int.emod_nonneg _ (by omega), Int.emod_lt_of_pos _ h⟩
/-- The cursor at a state. -/
def CurS (w : World) (c : Nat) (d : Code1) (s : St) : Prop := CurAt w c d s.1 s.2
/-- What a function that draws leaves. -/
def DrewS (w : World) (c : Nat) (d : Code1) (v : Value) (s' : St) (e : Ending) (w' : World) : Prop :=
  e = .returned v ∧ CurS w' c d s' ∧ w.grownBy w' (some c)
/-- A function that draws: from a state to an answer and a state, in whatever world. -/
def DrC (f : Nat) (args : Array Value) (c : Nat) (d : Code1) (s : St) (v : Value) (s' : St) : Prop :=
  ∀ w, CurS w c d s → Calls Tryd.prog f args w fun e w' => DrewS w c d v s' e w'
theorem byte_st (c : Nat) (d : Code1) (s : St) : DrC 50 #[.pointer (some ⟨c, 0, none⟩)] c d s (.int .i64 (bX d s)) (bS d s) :=
  fun w hc => byte_any c d s.1 s.2 w hc
theorem below_small (c : Nat) (d : Code1) (n : Int) (s : St) (h0 : 0 < n) (h1 : n ≤ 256) :
    DrC 46 #[.pointer (some ⟨c, 0, none⟩), .int .i64 n] c d s (.int .i64 (belX d n s)) (belS d n s) := by
  intro w hc
  have HX : Hid (belX d n s = bX d s % n) := if_pos h1
  have HS : Hid (belS d n s = bS d s) := if_pos h1
  have K1 := byte_st c d s
  have HC : Hid _ := hc
  obtain ⟨x1, x2⟩ := bX_bd d s
  clear hc
  generalize bX d s = x at *
  have hd : decide (n ≤ 0) = false := by simp; omega
  have hz : (n == 0) = false := by rw [beq_eq_false_iff_ne]; omega
  go_enter Tryd.func46, Tryd.ntmps46
  go_wp2_with fail
  refine (K1 _ HC.out).mono ?_
  rintro e w1 ⟨rfl, hc1, hg1⟩
  go_wp2
  go_ret
  exact ⟨by rw [HX.out]; rfl, by rw [HS.out]; exact hc1, hg1⟩
set_option maxHeartbeats 400000 in
theorem below_big (c : Nat) (d : Code1) (n : Int) (s : St) (h1 : 256 < n) (h2 : n ≤ 1000000000) :
    DrC 46 #[.pointer (some ⟨c, 0, none⟩), .int .i64 n] c d s (.int .i64 (belX d n s)) (belS d n s) := by
  intro w hc
  have hn : ¬ n ≤ 256 := by omega
  have HX : Hid (belX d n s = (bX d s * 16777216 + bX d (bS d s) * 65536 + bX d (bS d (bS d s)) * 256 + bX d (bS d (bS d (bS d s)))) % n) := if_neg hn
  have HS : Hid (belS d n s = bS d (bS d (bS d (bS d s)))) := if_neg hn
  obtain ⟨x1, x2⟩ := bX_bd d s
  obtain ⟨y1, y2⟩ := bX_bd d (bS d s)
  obtain ⟨z1, z2⟩ := bX_bd d (bS d (bS d s))
  obtain ⟨u1, u2⟩ := bX_bd d (bS d (bS d (bS d s)))
  have K1 := byte_st c d s
  have K2 := byte_st c d (bS d s)
  have K3 := byte_st c d (bS d (bS d s))
  have K4 := byte_st c d (bS d (bS d (bS d s)))
  have HC : Hid (CurS w c d s) := hc
  clear hc hn
  generalize bX d s = x at *
  generalize bX d (bS d s) = y at *
  generalize bX d (bS d (bS d s)) = z at *
  generalize bX d (bS d (bS d (bS d s))) = u at *
  have hd : decide (n ≤ 0) = false := by simp; omega
  have hd2 : decide (n ≤ 256) = false := by simp; omega
  have hz : (n == 0) = false := by rw [beq_eq_false_iff_ne]; omega
  go_enter Tryd.func46, Tryd.ntmps46
  go_wp2_with fail
  refine (K1 _ HC.out).mono ?_
  rintro e w1 ⟨rfl, hc1, hg1⟩
  go_wp2_with fail
  refine (K2 _ hc1).mono ?_
  rintro e w2 ⟨rfl, hc2, hg2⟩
  go_wp2_with fail
  refine (K3 _ hc2).mono ?_
  rintro e w3 ⟨rfl, hc3, hg3⟩
  go_wp2_with fail
  refine (K4 _ hc3).mono ?_
  rintro e w4 ⟨rfl, hc4, hg4⟩
  go_wp2
  go_ret
  exact ⟨by rw [HX.out]; rfl, by rw [HS.out]; exact hc4, grownBy_trans hg1 (grownBy_trans hg2 (grownBy_trans hg3 hg4))⟩
theorem below_st (c : Nat) (d : Code1) (n : Int) (s : St) (h0 : 0 < n) (h2 : n ≤ 1000000000) :
    DrC 46 #[.pointer (some ⟨c, 0, none⟩), .int .i64 n] c d s (.int .i64 (belX d n s)) (belS d n s) := by
  by_cases h : n ≤ 256
  · exact below_small c d n s h0 h
  · exact below_big c d n s (by omega) h2
end Go.Proofs.YtgfkmppkeolckaaDoor.Cu
