/- What is drawn out of a code: a number, a text, a text that may be read as a number. -/
import Derived.Test.YtdbfifgblcmckacDoorCurf
namespace Go.Proofs.YtdbfifgblcmckacDoor
open Go.ChangeShapes Go.WideShapes Go.ChangeAt Go.RowKit
theorem once_st (c : Nat) (d : Code1) (s : St) : DrC 23 #[.pointer (some ⟨c, 0, none⟩), .int .i64 4] c d s (.bool (belX d 4 s == 0)) (belS d 4 s) := by
  intro w hc
  have K1 := below_st c d 4 s (by omega) (by omega)
  have HC : Hid (CurS w c d s) := hc
  clear hc
  generalize belX d 4 s = x at *
  go_enter Tryd.func23, Tryd.ntmps23
  go_wp2_with fail
  refine (K1 _ HC.out).mono ?_
  rintro e w1 ⟨rfl, hc1, hg1⟩
  go_wp2
  go_ret
  exact ⟨rfl, hc1, hg1⟩
theorem spoil_empty (c : Nat) (d : Code1) (t : ByteArray) (s : St) (ht : t.size = 0) : DrC 24 #[.pointer (some ⟨c, 0, none⟩), .string t] c d s (.string ⟨(textL d 3 s).toArray⟩) (textS d 3 s) := by
  intro w hc
  have K1 := text_st c d 3 s (by omega) (by omega)
  have HC : Hid (CurS w c d s) := hc
  clear hc
  generalize textL d 3 s = l at *
  go_enter Tryd.func24, Tryd.ntmps24
  go_wp2_with fail
  refine (K1 _ HC.out).mono ?_
  rintro e w1 ⟨rfl, hc1, hg1⟩
  go_wp2
  go_ret
  exact ⟨rfl, hc1, hg1⟩
/-- What a function leaves that draws out of a code: the answer, and nothing else that was there is changed. -/
def DrawsC (f : Nat) (d : Code1) (v : Value) : Prop :=
  ∀ w, CodeAt w w.heap.size d → Calls Tryd.prog f #[.slice d.a d.len d.cap] w fun e w' => e = .returned v ∧ Below w.heap.size w w'
theorem below_cur {w w1 w2 : World} (h1 : Below w.heap.size w w1) (h2 : w1.grownBy w2 (some w.heap.size)) : Below w.heap.size w w2 :=
  h1.grown h2 h1.size (fun k hk => by simp at hk; omega)
theorem drawVar_st (d : Code1) : DrawsC 5 d (.int .i64 (numX d (newS d))) := by
  intro w hc
  have HN : Hid _ := hc
  have K1 := num_st w.heap.size d (newS d)
  clear hc
  generalize numX d (newS d) = x at *
  have K0 : Hid (∀ w, CodeAt w w.heap.size d → Calls Tryd.prog 16 #[.slice d.a d.len d.cap] w fun e w' => e = .returned (.pointer (some ⟨w.heap.size, 0, none⟩)) ∧ CurS w' w.heap.size d (newS d) ∧ Below w.heap.size w w') := fun w h => new_st d w h
  go_enter Tryd.func5, Tryd.ntmps5
  go_wp2_with fail
  refine (K0.out _ HN.out).mono ?_
  rintro e w1 ⟨rfl, hc1, hb1⟩
  go_wp2_with fail
  refine (K1 _ hc1).mono ?_
  rintro e w2 ⟨rfl, hc2, hg2⟩
  go_wp2
  go_ret
  exact ⟨rfl, below_cur hb1 hg2⟩
theorem drawHex_st (d : Code1) : DrawsC 6 d (.string ⟨(textL d 40 (newS d)).toArray⟩) := by
  intro w hc
  have HN : Hid _ := hc
  have K1 := text_st w.heap.size d 40 (newS d) (by omega) (by omega)
  clear hc
  generalize textL d 40 (newS d) = l at *
  have K0 : Hid (∀ w, CodeAt w w.heap.size d → Calls Tryd.prog 16 #[.slice d.a d.len d.cap] w fun e w' => e = .returned (.pointer (some ⟨w.heap.size, 0, none⟩)) ∧ CurS w' w.heap.size d (newS d) ∧ Below w.heap.size w w') := fun w h => new_st d w h
  go_enter Tryd.func6, Tryd.ntmps6
  go_wp2_with fail
  refine (K0.out _ HN.out).mono ?_
  rintro e w1 ⟨rfl, hc1, hb1⟩
  go_wp2_with fail
  refine (K1 _ hc1).mono ?_
  rintro e w2 ⟨rfl, hc2, hg2⟩
  go_wp2
  go_ret
  exact ⟨rfl, below_cur hb1 hg2⟩
/-- What Var makes of whatever int. -/
def varR (x : Int) : List UInt8 := if 0 ≤ x ∧ x ≤ 562949953421311 then varL 7 x.toNat else []
theorem varL_length : ∀ f n, (varL f n).length ≤ f + 1
  | 0, n => by simp [varL]
  | f + 1, n => by
    by_cases h : n < 128
    · rw [varL_small _ _ h]; simp
    · rw [varL_big f n (by omega)]
      have := varL_length f (n / 128)
      simp; omega
theorem varR_length (x : Int) : (varR x).length ≤ 8 := by
  unfold varR
  split
  · exact varL_length 7 _
  · simp
theorem specVar_R (x : Int) (w : World) : Calls Tryd.prog 22 #[.int .i64 x] w fun e w' => e = .returned (.string ⟨(varR x).toArray⟩) ∧ Below w.heap.size w w' := by
  by_cases h1 : x < 0
  · have : varR x = [] := if_neg (by omega)
    rw [this]
    exact (specVar_low x w h1).mono fun e w' ⟨he, hw⟩ => ⟨he, hw ▸ Below.refl _ _⟩
  · by_cases h2 : 562949953421311 < x
    · have : varR x = [] := if_neg (by omega)
      rw [this]
      exact (specVar_high x w h2).mono fun e w' ⟨he, hw⟩ => ⟨he, hw ▸ Below.refl _ _⟩
    · obtain ⟨k, rfl⟩ := Int.eq_ofNat_of_zero_le (show 0 ≤ x by omega)
      have : varR k = varL 7 k := if_pos (by omega)
      rw [this]
      exact specVar_yes k w (by omega)
theorem implVar_R (x : Int) (w : World) : Calls Tryd.prog 7 #[.int .i64 x] w fun e w' => e = .returned (.string ⟨(varR x).toArray⟩) ∧ Below w.heap.size w w' := by
  by_cases h1 : x < 0
  · have : varR x = [] := if_neg (by omega)
    rw [this]
    exact (implVar_low x w h1).mono fun e w' ⟨he, hw⟩ => ⟨he, hw ▸ Below.refl _ _⟩
  · by_cases h2 : 562949953421311 < x
    · have : varR x = [] := if_neg (by omega)
      rw [this]
      exact (implVar_high x w h2).mono fun e w' ⟨he, hw⟩ => ⟨he, hw ▸ Below.refl _ _⟩
    · obtain ⟨k, rfl⟩ := Int.eq_ofNat_of_zero_le (show 0 ≤ x by omega)
      have : varR k = varL 7 k := if_pos (by omega)
      rw [this]
      exact implVar_yes k w (by omega)
/-- The text that is drawn for ReadVar. -/
def drT (d : Code1) : ByteArray := ⟨(varR (numX d (newS d)) ++ textL d 4 (numS d (newS d))).toArray⟩
def drX (d : Code1) : ByteArray :=
  if belX d 4 (textS d 4 (numS d (newS d))) = 0 then
    if (drT d).size = 0 then ⟨(textL d 3 (belS d 4 (textS d 4 (numS d (newS d))))).toArray⟩ else spX d (drT d) (belS d 4 (textS d 4 (numS d (newS d))))
  else drT d
theorem drT_size (d : Code1) : (drT d).size ≤ 12 := by
  have h1 := varR_length (numX d (newS d))
  have h2 := textL_length d 4 (numS d (newS d)) (by omega)
  have : (drT d).size = (varR (numX d (newS d))).length + (textL d 4 (numS d (newS d))).length := by simp [drT, ByteArray.size]
  omega
end Go.Proofs.YtdbfifgblcmckacDoor
