/- A number drawn: small, at a limit, or any. -/
import Derived.Test.YtdbfifgblcmckacDoorCurb
namespace Go.Proofs.YtdbfifgblcmckacDoor
open Go.ChangeShapes Go.WideShapes Go.ChangeAt Go.RowKit
theorem cur_blocks {w w' : World} {c : Nat} {d : Code1} {s : St} (h : CurS w c d s) (hk : ∀ k, k ≤ c → w'.heap[k]? = w.heap[k]?) : CurS w' c d s := by
  obtain ⟨c0, c1, c2, f1, f2, hi, hcode⟩ := h
  exact ⟨(World.cell?_of_block (w := w) (a := ⟨c, 0, none⟩) (hk c (Nat.le_refl _))).trans c0, (World.cell?_of_block (w := w) (a := ⟨c, 1, none⟩) (hk c (Nat.le_refl _))).trans c1, (World.cell?_of_block (w := w) (a := ⟨c, 2, none⟩) (hk c (Nat.le_refl _))).trans c2,
    (World.frozen?_of_block (w := w) (a := ⟨c, 1, none⟩) (hk c (Nat.le_refl _))).trans f1, (World.frozen?_of_block (w := w) (a := ⟨c, 2, none⟩) (hk c (Nat.le_refl _))).trans f2, hi, code_of_block hcode fun b hb => hk b (by omega)⟩
theorem cur_lt {w : World} {c : Nat} {d : Code1} {s : St} (h : CurS w c d s) : c < w.heap.size := cell_lt h.1
theorem cur_alloc {w : World} {c : Nat} {d : Code1} {s : St} (h : CurS w c d s) (o : Obj) : CurS (w.alloc o) c d s :=
  cur_blocks h fun k hk => Below.heap_alloc w o k (by have := cur_lt h; omega)
/-- The numbers at limits. -/
def limL : List Int := [-1, 0, 127, 128, 255, 256, 16383, 16384, 65535, 65536, 562949953421311, 562949953421312, 999999999, 1000000000, -999999999, 9223372036854775807, -9223372036854775808]
theorem pick_st (c g : Nat) (d : Code1) (s : St) (w : World) (hc : CurS w c d s) (hne : g ≠ c) (hcell : ∀ j, j < 17 → w.cell? ⟨g, j, none⟩ = some (.int .i64 (limL.getD j 0))) :
    Calls Tryd.prog 26 #[.pointer (some ⟨c, 0, none⟩), .slice (some ⟨g, 0, none⟩) 17 17] w fun e w' => DrewS w c d (.int .i64 (limL.getD (belX d 17 s).toNat 0)) (belS d 17 s) e w' := by
  have K1 := below_st c d 17 s (by omega) (by omega)
  obtain ⟨x1, x2⟩ := belX_bd d 17 s (by omega)
  obtain ⟨k, hk⟩ := Int.eq_ofNat_of_zero_le x1
  rw [hk] at K1 x2
  have hk17 : k < 17 := by omega
  have HV : Hid (limL.getD (belX d 17 s).toNat 0 = limL.getD k 0) := by show _ = _; rw [hk, Int.toNat_natCast]
  have hck := hcell k hk17
  have HK : Hid (w.cell? ⟨g, k, none⟩ = some (.int .i64 (limL.getD k 0))) := hck
  have HC : Hid (CurS w c d s) := hc
  clear hc hcell hck hk x1 x2
  generalize limL.getD k 0 = v at *
  go_enter Tryd.func26, Tryd.ntmps26
  go_wp2_with fail
  refine (K1 _ HC.out).mono ?_
  rintro e w1 ⟨rfl, hc1, hg1⟩
  have hcc : w1.cell? ⟨g, k, none⟩ = some (.int .i64 v) := hg1.cell HK.out (by simpa using hne)
  go_wp2
  go_ret
  exact ⟨by rw [HV.out]; rfl, hc1, hg1⟩
def numX (d : Code1) (s : St) : Int :=
  if belX d 8 s = 0 then limL.getD (belX d 17 (belS d 8 s)).toNat 0
  else if belX d 8 s = 1 then belX d 1000000000 (belS d 8 s) * belX d 1000000000 (belS d 1000000000 (belS d 8 s))
  else if belX d 8 s = 2 then -belX d 100000 (belS d 8 s)
  else belX d 70000 (belS d 8 s)
def numS (d : Code1) (s : St) : St :=
  if belX d 8 s = 0 then belS d 17 (belS d 8 s)
  else if belX d 8 s = 1 then belS d 1000000000 (belS d 1000000000 (belS d 8 s))
  else if belX d 8 s = 2 then belS d 100000 (belS d 8 s)
  else belS d 70000 (belS d 8 s)
theorem lim_bd : ∀ x ∈ limL, -9223372036854775808 ≤ x ∧ x ≤ 9223372036854775807 := by decide
theorem getD_mem0 (l : List Int) (k : Nat) : l.getD k 0 = 0 ∨ l.getD k 0 ∈ l := by
  by_cases h : k < l.length
  · right
    rw [List.getD_eq_getElem?_getD, List.getElem?_eq_getElem h]
    exact List.getElem_mem h
  · left
    rw [List.getD_eq_getElem?_getD, List.getElem?_eq_none (by omega)]; rfl
theorem prod_bd (a b : Int) (ha : 0 ≤ a ∧ a < 1000000000) (hb : 0 ≤ b ∧ b < 1000000000) : 0 ≤ a * b ∧ a * b ≤ 1000000000000000000 := by
  refine ⟨Int.mul_nonneg ha.1 hb.1, ?_⟩
  have := Int.mul_le_mul (show a ≤ 1000000000 by omega) (show b ≤ 1000000000 by omega) hb.1 (by omega)
  omega
theorem numX_bd (d : Code1) (s : St) : -9223372036854775808 ≤ numX d s ∧ numX d s ≤ 9223372036854775807 := by
  unfold numX
  split
  · rcases getD_mem0 limL (belX d 17 (belS d 8 s)).toNat with h | h
    · rw [h]; omega
    · exact lim_bd _ h
  · split
    · have := prod_bd _ _ (belX_bd d 1000000000 (belS d 8 s) (by omega)) (belX_bd d 1000000000 (belS d 1000000000 (belS d 8 s)) (by omega))
      omega
    · split
      · have := belX_bd d 100000 (belS d 8 s) (by omega); omega
      · have := belX_bd d 70000 (belS d 8 s) (by omega); omega
set_option maxRecDepth 100000 in
set_option maxHeartbeats 1000000 in
theorem num_st (c : Nat) (d : Code1) (s : St) : DrC 17 #[.pointer (some ⟨c, 0, none⟩)] c d s (.int .i64 (numX d s)) (numS d s) := by
  intro w hc
  have K1 := below_st c d 8 s (by omega) (by omega)
  obtain ⟨x1, x2⟩ := belX_bd d 8 s (by omega)
  have HC : Hid (CurS w c d s) := hc
  clear hc
  by_cases h0 : belX d 8 s = 0
  · have HX : Hid (numX d s = limL.getD (belX d 17 (belS d 8 s)).toNat 0) := if_pos h0
    have HS : Hid (numS d s = belS d 17 (belS d 8 s)) := if_pos h0
    rw [h0] at K1
    clear h0 x1 x2
    generalize belS d 8 s = s1 at *
    go_enter Tryd.func17, Tryd.ntmps17
    go_wp2_with fail
    refine (K1 _ HC.out).mono ?_
    rintro e w1 ⟨rfl, hc1, hg1⟩
    go_wp2_with fail
    have hlt := cur_lt hc1
    refine (pick_st c w1.heap.size d s1 _ (cur_alloc hc1 _) (by omega) ?_).mono ?_
    · intro j hj
      rcases (by omega : j = 0 ∨ j = 1 ∨ j = 2 ∨ j = 3 ∨ j = 4 ∨ j = 5 ∨ j = 6 ∨ j = 7 ∨ j = 8 ∨ j = 9 ∨ j = 10 ∨ j = 11 ∨ j = 12 ∨ j = 13 ∨ j = 14 ∨ j = 15 ∨ j = 16) with rfl | rfl | rfl | rfl | rfl | rfl | rfl | rfl | rfl | rfl | rfl | rfl | rfl | rfl | rfl | rfl | rfl
      all_goals (rw [World.cell?_alloc_mark]; rfl)
    rintro e w2 ⟨rfl, hc2, hg2⟩
    go_wp2
    go_ret
    exact ⟨by rw [HX.out]; rfl, by rw [HS.out]; exact hc2, grownBy_trans hg1 (grownBy_trans (World.grownBy_alloc _ _ _) hg2)⟩
  · by_cases h1 : belX d 8 s = 1
    · have HX : Hid (numX d s = belX d 1000000000 (belS d 8 s) * belX d 1000000000 (belS d 1000000000 (belS d 8 s))) := by show _ = _; unfold numX; rw [if_neg h0, if_pos h1]
      have HS : Hid (numS d s = belS d 1000000000 (belS d 1000000000 (belS d 8 s))) := by show _ = _; unfold numS; rw [if_neg h0, if_pos h1]
      rw [h1] at K1
      clear h0 h1 x1 x2
      generalize belS d 8 s = s1 at *
      have K2 := below_st c d 1000000000 s1 (by omega) (by omega)
      have K3 := below_st c d 1000000000 (belS d 1000000000 s1) (by omega) (by omega)
      have b1 := belX_bd d 1000000000 s1 (by omega)
      have b2 := belX_bd d 1000000000 (belS d 1000000000 s1) (by omega)
      have b3 := prod_bd _ _ b1 b2
      generalize belX d 1000000000 s1 = p at *
      generalize belX d 1000000000 (belS d 1000000000 s1) = q at *
      go_enter Tryd.func17, Tryd.ntmps17
      go_wp2_with fail
      refine (K1 _ HC.out).mono ?_
      rintro e w1 ⟨rfl, hc1, hg1⟩
      go_wp2_with fail
      refine (K2 _ hc1).mono ?_
      rintro e w2 ⟨rfl, hc2, hg2⟩
      go_wp2_with fail
      refine (K3 _ hc2).mono ?_
      rintro e w3 ⟨rfl, hc3, hg3⟩
      go_wp2
      go_ret
      exact ⟨by rw [HX.out]; rfl, by rw [HS.out]; exact hc3, grownBy_trans hg1 (grownBy_trans hg2 hg3)⟩
    · by_cases h2 : belX d 8 s = 2
      · have HX : Hid (numX d s = -belX d 100000 (belS d 8 s)) := by show _ = _; unfold numX; rw [if_neg h0, if_neg h1, if_pos h2]
        have HS : Hid (numS d s = belS d 100000 (belS d 8 s)) := by show _ = _; unfold numS; rw [if_neg h0, if_neg h1, if_pos h2]
        rw [h2] at K1
        clear h0 h1 h2 x1 x2
        generalize belS d 8 s = s1 at *
        have K2 := below_st c d 100000 s1 (by omega) (by omega)
        have b1 := belX_bd d 100000 s1 (by omega)
        generalize belX d 100000 s1 = p at *
        go_enter Tryd.func17, Tryd.ntmps17
        go_wp2_with fail
        refine (K1 _ HC.out).mono ?_
        rintro e w1 ⟨rfl, hc1, hg1⟩
        go_wp2_with fail
        refine (K2 _ hc1).mono ?_
        rintro e w2 ⟨rfl, hc2, hg2⟩
        go_wp2
        go_ret
        exact ⟨by rw [HX.out]; rfl, by rw [HS.out]; exact hc2, grownBy_trans hg1 hg2⟩
      · have HX : Hid (numX d s = belX d 70000 (belS d 8 s)) := by show _ = _; unfold numX; rw [if_neg h0, if_neg h1, if_neg h2]
        have HS : Hid (numS d s = belS d 70000 (belS d 8 s)) := by show _ = _; unfold numS; rw [if_neg h0, if_neg h1, if_neg h2]
        have e0 : (belX d 8 s == 0) = false := by rw [beq_eq_false_iff_ne]; exact h0
        have e1 : (belX d 8 s == 1) = false := by rw [beq_eq_false_iff_ne]; exact h1
        have e2 : (belX d 8 s == 2) = false := by rw [beq_eq_false_iff_ne]; exact h2
        clear h0 h1 h2 x1 x2
        generalize belX d 8 s = a at *
        generalize belS d 8 s = s1 at *
        have K2 := below_st c d 70000 s1 (by omega) (by omega)
        have b1 := belX_bd d 70000 s1 (by omega)
        generalize belX d 70000 s1 = p at *
        go_enter Tryd.func17, Tryd.ntmps17
        go_wp2_with fail
        refine (K1 _ HC.out).mono ?_
        rintro e w1 ⟨rfl, hc1, hg1⟩
        go_wp2_with fail
        refine (K2 _ hc1).mono ?_
        rintro e w2 ⟨rfl, hc2, hg2⟩
        go_wp2
        go_ret
        exact ⟨by rw [HX.out]; rfl, by rw [HS.out]; exact hc2, grownBy_trans hg1 hg2⟩
end Go.Proofs.YtdbfifgblcmckacDoor
