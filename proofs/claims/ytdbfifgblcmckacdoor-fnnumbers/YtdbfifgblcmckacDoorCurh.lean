/- The text that is drawn for ReadVar: one for a code, whenever it is drawn. -/
import Derived.Test.YtdbfifgblcmckacDoorCurg
import Derived.Laws.Concat
namespace Go.Proofs.YtdbfifgblcmckacDoor
open Go.ChangeShapes Go.WideShapes Go.ChangeAt Go.RowKit
theorem cur_below {w w' : World} {c : Nat} {d : Code1} {s : St} (h : CurS w c d s) (hb : Below w.heap.size w w') : CurS w' c d s :=
  cur_blocks h fun k hk => hb.block k (by have := cur_lt h; omega)
set_option maxRecDepth 100000 in
set_option maxHeartbeats 1000000 in
theorem drawReadVar_st (d : Code1) : DrawsC 15 d (.string (drX d)) := by
  intro w hc
  have HN : Hid _ := hc
  clear hc
  have K0 : Hid (∀ w, CodeAt w w.heap.size d → Calls Tryd.prog 16 #[.slice d.a d.len d.cap] w fun e w' => e = .returned (.pointer (some ⟨w.heap.size, 0, none⟩)) ∧ CurS w' w.heap.size d (newS d) ∧ Below w.heap.size w w') := fun w h => new_st d w h
  have K1 := num_st w.heap.size d (newS d)
  have K2 : Hid (∀ w, Calls Tryd.prog 22 #[.int .i64 (numX d (newS d))] w fun e w' => e = .returned (.string ⟨(varR (numX d (newS d))).toArray⟩) ∧ Below w.heap.size w w') := fun w => specVar_R _ w
  have K3 := text_st w.heap.size d 4 (numS d (newS d)) (by omega) (by omega)
  have K4 := once_st w.heap.size d (textS d 4 (numS d (newS d)))
  have hsz := drT_size d
  have HT : Hid ((⟨(varR (numX d (newS d))).toArray⟩ : ByteArray) ++ ⟨(textL d 4 (numS d (newS d))).toArray⟩ = drT d) := ByteArray.mk_append_mk _ _
  have hl1 := varR_length (numX d (newS d))
  have hl2 : (textL d 4 (numS d (newS d))).length ≤ 4 := by have := textL_length d 4 (numS d (newS d)) (by omega); omega
  by_cases h0 : belX d 4 (textS d 4 (numS d (newS d))) = 0
  · by_cases hz : (drT d).size = 0
    · have K5 := spoil_empty w.heap.size d (drT d) (belS d 4 (textS d 4 (numS d (newS d)))) hz
      have HX : Hid (drX d = ⟨(textL d 3 (belS d 4 (textS d 4 (numS d (newS d))))).toArray⟩) := by show _ = _; unfold drX; rw [if_pos h0, if_pos hz]
      rw [h0, show ((0 : Int) == 0) = true from rfl] at K4
      clear h0 hz hsz
      generalize textL d 3 (belS d 4 (textS d 4 (numS d (newS d)))) = r at *
      generalize varR (numX d (newS d)) = l1 at *
      generalize textL d 4 (numS d (newS d)) = l2 at *
      generalize numX d (newS d) = x at *
      generalize belS d 4 (textS d 4 (numS d (newS d))) = s4 at *
      generalize textS d 4 (numS d (newS d)) = s3 at *
      generalize numS d (newS d) = s2 at *
      generalize drT d = t at *
      go_enter Tryd.func15, Tryd.ntmps15
      go_wp2_with fail
      refine (K0.out _ HN.out).mono ?_
      rintro e w1 ⟨rfl, hc1, hb1⟩
      go_wp2_with fail
      refine (K1 _ hc1).mono ?_
      rintro e w2 ⟨rfl, hc2, hg2⟩
      go_wp2_with fail
      refine (K2.out _).mono ?_
      rintro e w3 ⟨rfl, hb3⟩
      have hc3 := cur_below hc2 hb3
      go_wp2_with fail
      refine (K3 _ hc3).mono ?_
      rintro e w4 ⟨rfl, hc4, hg4⟩
      go_wp2_with fail
      rw [HT.out]
      refine (K4 _ hc4).mono ?_
      rintro e w5 ⟨rfl, hc5, hg5⟩
      go_wp2_with fail
      refine (K5 _ hc5).mono ?_
      rintro e w6 ⟨rfl, hc6, hg6⟩
      go_wp2
      go_ret
      exact ⟨by rw [HX.out]; rfl, below_cur (below_cur (below_cur ((below_cur hb1 hg2).trans (hb3.mono (Nat.le_trans hb1.size hg2.size))) hg4) hg5) hg6⟩
    · have K5 := spoil_st w.heap.size d (drT d) (belS d 4 (textS d 4 (numS d (newS d)))) (by omega) (by omega)
      have HX : Hid (drX d = spX d (drT d) (belS d 4 (textS d 4 (numS d (newS d))))) := by show _ = _; unfold drX; rw [if_pos h0, if_neg hz]
      rw [h0, show ((0 : Int) == 0) = true from rfl] at K4
      clear h0 hz hsz
      generalize spX d (drT d) (belS d 4 (textS d 4 (numS d (newS d)))) = r at *
      generalize spS d (drT d) (belS d 4 (textS d 4 (numS d (newS d)))) = s5 at *
      generalize varR (numX d (newS d)) = l1 at *
      generalize textL d 4 (numS d (newS d)) = l2 at *
      generalize numX d (newS d) = x at *
      generalize belS d 4 (textS d 4 (numS d (newS d))) = s4 at *
      generalize textS d 4 (numS d (newS d)) = s3 at *
      generalize numS d (newS d) = s2 at *
      generalize drT d = t at *
      go_enter Tryd.func15, Tryd.ntmps15
      go_wp2_with fail
      refine (K0.out _ HN.out).mono ?_
      rintro e w1 ⟨rfl, hc1, hb1⟩
      go_wp2_with fail
      refine (K1 _ hc1).mono ?_
      rintro e w2 ⟨rfl, hc2, hg2⟩
      go_wp2_with fail
      refine (K2.out _).mono ?_
      rintro e w3 ⟨rfl, hb3⟩
      have hc3 := cur_below hc2 hb3
      go_wp2_with fail
      refine (K3 _ hc3).mono ?_
      rintro e w4 ⟨rfl, hc4, hg4⟩
      go_wp2_with fail
      rw [HT.out]
      refine (K4 _ hc4).mono ?_
      rintro e w5 ⟨rfl, hc5, hg5⟩
      go_wp2_with fail
      refine (K5 _ hc5).mono ?_
      rintro e w6 ⟨rfl, hc6, hg6⟩
      go_wp2
      go_ret
      exact ⟨by rw [HX.out]; rfl, below_cur (below_cur (below_cur ((below_cur hb1 hg2).trans (hb3.mono (Nat.le_trans hb1.size hg2.size))) hg4) hg5) hg6⟩
  · have HX : Hid (drX d = drT d) := if_neg h0
    rw [show (belX d 4 (textS d 4 (numS d (newS d))) == 0) = false by rw [beq_eq_false_iff_ne]; exact h0] at K4
    clear h0 hsz
    generalize varR (numX d (newS d)) = l1 at *
    generalize textL d 4 (numS d (newS d)) = l2 at *
    generalize numX d (newS d) = x at *
    generalize belS d 4 (textS d 4 (numS d (newS d))) = s4 at *
    generalize textS d 4 (numS d (newS d)) = s3 at *
    generalize numS d (newS d) = s2 at *
    generalize drT d = t at *
    go_enter Tryd.func15, Tryd.ntmps15
    go_wp2_with fail
    refine (K0.out _ HN.out).mono ?_
    rintro e w1 ⟨rfl, hc1, hb1⟩
    go_wp2_with fail
    refine (K1 _ hc1).mono ?_
    rintro e w2 ⟨rfl, hc2, hg2⟩
    go_wp2_with fail
    refine (K2.out _).mono ?_
    rintro e w3 ⟨rfl, hb3⟩
    have hc3 := cur_below hc2 hb3
    go_wp2_with fail
    refine (K3 _ hc3).mono ?_
    rintro e w4 ⟨rfl, hc4, hg4⟩
    go_wp2_with fail
    rw [HT.out]
    refine (K4 _ hc4).mono ?_
    rintro e w5 ⟨rfl, hc5, hg5⟩
    go_wp2
    go_ret
    exact ⟨by rw [HX.out]; rfl, below_cur (below_cur ((below_cur hb1 hg2).trans (hb3.mono (Nat.le_trans hb1.size hg2.size))) hg4) hg5⟩
end Go.Proofs.YtdbfifgblcmckacDoor
