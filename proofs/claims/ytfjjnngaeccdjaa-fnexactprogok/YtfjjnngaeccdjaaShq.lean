/- The map of shapes whole. -/
import Derived.Test.YtfjjnngaeccdjaaShp
namespace Go.Proofs.Ytfjjnngaeccdjaa
open Go.ChangeShapes Go.WideShapes Go.ChangeAt Go.RowKit
/-- Behind k rounds of the first loop. -/
def F1 (k : Int) : Says := fun a b c d => if a = 7 ∧ b = 0 ∧ d = 1 ∧ 0 ≤ c ∧ c < k then some (0, 0, 0) else FS (fun _ => true) a b c d
/-- Behind k rounds of the second loop. -/
def F2 (k : Int) : Says := fun a b c d =>
  if a = 8 ∧ b = 0 ∧ c = 0 ∧ 1 ≤ d ∧ d < 1 + k then some (0, 0, 0)
  else if a = 9 ∧ b = 3 ∧ c = 1 ∧ 0 ≤ d ∧ d < k then some (0, 0, 3) else F1 9 a b c d
theorem F1_step (k : Int) (h : 0 ≤ k) : upd (F1 k) 7 0 k 1 (0, 0, 0) = F1 (k + 1) := by
  funext a b c d
  unfold upd F1
  by_cases h1 : a = 7 ∧ b = 0 ∧ c = k ∧ d = 1
  · rw [if_pos h1, if_pos (by omega)]
  · rw [if_neg h1]
    by_cases h2 : a = 7 ∧ b = 0 ∧ d = 1 ∧ 0 ≤ c ∧ c < k
    · rw [if_pos h2, if_pos (by omega)]
    · rw [if_neg h2, if_neg (by omega)]
theorem F2_step (k : Int) (h : 0 ≤ k) : upd (upd (F2 k) 8 0 0 (1 + k) (0, 0, 0)) 9 3 1 k (0, 0, 3) = F2 (k + 1) := by
  funext a b c d
  unfold upd F2
  by_cases h1 : a = 9 ∧ b = 3 ∧ c = 1 ∧ d = k
  · rw [if_pos h1, if_neg (by omega), if_pos (by omega)]
  · rw [if_neg h1]
    by_cases h2 : a = 8 ∧ b = 0 ∧ c = 0 ∧ d = 1 + k
    · rw [if_pos h2, if_pos (by omega)]
    · rw [if_neg h2]
      by_cases h3 : a = 8 ∧ b = 0 ∧ c = 0 ∧ 1 ≤ d ∧ d < 1 + k
      · rw [if_pos h3, if_pos (by omega)]
      · rw [if_neg h3]
        by_cases h4 : a = 9 ∧ b = 3 ∧ c = 1 ∧ 0 ≤ d ∧ d < k
        · rw [if_pos h4, if_neg (by omega), if_pos (by omega)]
        · rw [if_neg h4, if_neg (by omega), if_neg (by omega)]
theorem F1_zero : FS (fun _ => true) = F1 0 := by
  funext a b c d
  unfold F1
  rw [if_neg (by omega)]
theorem F2_zero : F1 9 = F2 0 := by
  funext a b c d
  unfold F2
  rw [if_neg (by omega), if_neg (by omega)]
theorem wpList_store_m {w : World} {ops : Array Oper} {rest : List Oper} {o : Oper} {a : Act} {Q : Exit → Act → World → Prop}
    (hg : o.guard = none) (mo x v : Operand) (hop : o.op = Op.mapUpdate 44 mo x v) {m n : Nat} {F : Says}
    (hm : a.eval mo = .map (some m)) (hown : MapIs w m n F) (hn : n < maxLen) (a0 b0 c0 d0 l h t : Int) (hx : a.eval x = Kv a0 b0 c0 d0) (hv : a.eval v = Rv l h t)
    (ha : i64B a0) (hb : i64B b0) (hc : i64B c0) (hd : i64B d0)
    (hK : ∀ w', MapIs w' m (n + 1) (upd F a0 b0 c0 d0 (l, h, t)) → w.grownBy w' (some m) → wpList Try.prog ops Q rest (a.put o.dst undef) w') :
    wpList Try.prog ops Q (o :: rest) a w := by
  refine wpList_plain hg fun K' hK' => ?_
  obtain ⟨w', hrun, r1, r2⟩ := hown.store hn ha hb hc hd l h t
  unfold Oper.wp
  simp [execOp, hop, hm, hx, hv, hrun, Result.andThen]
  exact hK' _ _ (hK w' r1 r2)
/-- What nodeShapes leaves. -/
def ShPost (w : World) (e : Ending) (w' : World) : Prop := ∃ m, e = .returned (.map (some m)) ∧ MapIs w' m 39 (F2 9) ∧ w.heap.size ≤ m ∧ Below w.heap.size w w'
theorem MapIs.more {w : World} {m n n' : Nat} {F : Says} (h : MapIs w m n F) (hn : n ≤ n') : MapIs w m n' F := by
  obtain ⟨D, ho, hD⟩ := h
  exact ⟨D, ho.mono hn, hD⟩
set_option maxRecDepth 100000 in
set_option maxHeartbeats 1000000 in
theorem shapes_any (w : World) : Calls Try.prog 20 #[] w fun e w' => ShPost w e w' := by
  go_enter Try.func20, Try.ntmps20
  go_wp2
  refine wp_region_any (by kernel_rfl) ?_
  refine sh_lit (fun _ d _ _ _ h => by cases d <;> exact h) w _ (below_drewN (Below.refl _ _) 1) ?_
  intro m w1 hm hM hb
  unfold shA3
  dsimp only
  have hM1 : MapIs w1 m 12 (F1 0) := hM.congr F1_zero
  clear hM
  go_wp2
  go_loopw [30] (fun o wr => ∃ (i : Nat), i ≤ 9 ∧ o = .int .i64 i ∧ MapIs wr m (12 + i) (F1 i) ∧ Below w.heap.size w wr) (fun o _ => 9 - (intOf o).toNat)
  case atStart => exact ⟨0, by omega, rfl, hM1, hb⟩
  case round =>
    clear hM1 hb
    obtain ⟨i, hi, rfl, hM, hb⟩ := hrel
    by_cases hlt : i < 9
    · have hl := hM.lt
      go_wp2_with (at_mapUpdate; refine wpList_store_m rfl _ _ _ rfl rfl hM (by unfold maxLen; omega) 7 0 i 1 0 0 0 rfl rfl (by unfold i64B; omega) (by unfold i64B; omega) (by unfold i64B; omega) (by unfold i64B; omega) ?_; intro w2 hM2 hg2)
      go_roundw
      case rel => exact ⟨i + 1, by omega, by go_num, hM2.congr (F1_step i (by omega)), hb.grown hg2 (by omega) fun k hk => by cases hk; exact hm⟩
      case measure => simp [intOf]; omega
    · have hM1 : MapIs wr m 21 (F2 0) := by obtain rfl : i = 9 := (by omega); exact hM.congr F2_zero
      have e9 : (i : Int) = 9 := by omega
      rw [e9]
      clear hM hlt hi e9
      go_wp2
      go_loopw [38] (fun o wr => ∃ (i : Nat), i ≤ 9 ∧ o = .int .i64 i ∧ MapIs wr m (21 + 2 * i) (F2 i) ∧ Below w.heap.size w wr) (fun o _ => 9 - (intOf o).toNat)
      case atStart => exact ⟨0, by omega, rfl, hM1, hb⟩
      case round =>
        clear hM1 hb
        obtain ⟨i, hi, rfl, hM, hb⟩ := hrel
        by_cases hlt : i < 9
        · have hl := hM.lt
          go_wp2_with (first | (at_mapUpdate; refine wpList_store_m rfl _ _ _ rfl rfl hM (by unfold maxLen; omega) 8 0 0 (1 + i) 0 0 0 rfl rfl (by unfold i64B; omega) (by unfold i64B; omega) (by unfold i64B; omega) (by unfold i64B; omega) ?_; intro w2 hM2 hg2) | (at_mapUpdate; refine wpList_store_m rfl _ _ _ rfl rfl hM2 (by unfold maxLen; omega) 9 3 1 i 0 0 3 rfl rfl (by unfold i64B; omega) (by unfold i64B; omega) (by unfold i64B; omega) (by unfold i64B; omega) ?_; intro w3 hM3 hg3))
          have hl2 := hM2.lt
          go_roundw
          case rel => exact ⟨i + 1, by omega, by go_num, hM3.congr (F2_step i (by omega)), (hb.grown hg2 (by omega) fun k hk => by cases hk; exact hm).grown hg3 (by omega) fun k hk => by cases hk; exact hm⟩
          case measure => simp [intOf]; omega
        · have hlt' : decide ((i : Int) < 9) = false := by simp; omega
          obtain rfl : i = 9 := by omega
          go_wp2
          go_ret
          exact ⟨m, rfl, hM, hm, hb⟩
end Go.Proofs.Ytfjjnngaeccdjaa
