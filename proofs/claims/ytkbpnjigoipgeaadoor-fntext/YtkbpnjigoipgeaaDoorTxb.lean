/- The model's text of a value that is no pair. -/
import Derived.Test.YtkbpnjigoipgeaaDoorTxa
set_option linter.unusedVariables false
namespace Go.Proofs.YtkbpnjigoipgeaaDoor
open Go.ChangeShapes Go.WideShapes Go.ChangeAt Go.RowKit
/-- What l6Put leaves. -/
def PutPost (B : Nat) (ov : Value) (l t : List UInt8) (D : Nat) (w : World) (e : Ending) (w' : World) : Prop :=
  ∃ (ov' : Value) (l' : List UInt8), e = .returned ov' ∧ OwnB w' B ov' l' ∧ w.grownBy w' ov.ownBlock ∧ (ov'.ownBlock = ov.ownBlock ∨ ∀ k, ov'.ownBlock = some k → w.heap.size ≤ k) ∧ Cut l' (l ++ t) ∧ l'.length ≤ max l.length D
theorem put_end {B : Nat} {ov v' : Value} {l t : List UInt8} {D : Nat} {w w1 w2 : World} (hb : Below w.heap.size w w1) (ho : OwnB w2 B v' (l ++ t)) (hg : w1.grownBy w2 ov.ownBlock) (hn : v'.ownBlock = ov.ownBlock ∨ ∀ k, v'.ownBlock = some k → w1.heap.size ≤ k) (hD : (l ++ t).length ≤ D) :
    PutPost B ov l t D w (.returned v') w2 :=
  ⟨v', l ++ t, rfl, ho, gbt_trans (gbt_below _ hb) hg (.inl rfl), hn.imp id fun h k hk => Nat.le_trans hb.size (h k hk), Cut.refl _, Nat.le_trans hD (Nat.le_max_right _ _)⟩
/-- The bytes' slice in a later world of which they are kept. -/
theorem OwnB.keep {w w' : World} {B : Nat} {v : Value} {l : List UInt8} (h : OwnB w B v l) (hb : Below w.heap.size w w') : OwnB w' B v l := by
  unfold OwnB at *
  refine ⟨h.1, h.2.imp id ?_⟩
  rintro ⟨g, cap, cur, rfl, hbg, hg, rest⟩
  exact ⟨g, cap, cur, rfl, hbg, (hb.block g (Array.getElem?_eq_some_iff.1 hg).1).trans hg, rest⟩
theorem OwnB.slice {w : World} {B : Nat} {v : Value} {l : List UInt8} (h : OwnB w B v l) : ∃ a c, v = .slice a l.length c ∧ l.length ≤ c := by
  unfold OwnB at h
  rcases h.2 with ⟨rfl, h0⟩ | ⟨g, cap, cur, rfl, _, _, hle, _⟩
  · exact ⟨none, 0, by rw [h0], by omega⟩
  · exact ⟨_, cap, rfl, hle⟩
theorem OwnB.at {w : World} {B : Nat} {v : Value} {l : List UInt8} (h : OwnB w B v l) {k : Nat} (hk : v.ownBlock = some k) : B ≤ k ∧ k < w.heap.size := World.ownsRow.lt h k hk
/-- A frame's own block is not touched. -/
theorem fr_step {W W' : World} {v v' : Value} {b : Nat} {o : Obj} (hb : W.heap[b]? = some o) (hne : some b ≠ v.ownBlock) (hg : W.grownBy W' v.ownBlock) (hn : v'.ownBlock = v.ownBlock ∨ ∀ k, v'.ownBlock = some k → W.heap.size ≤ k) : W'.heap[b]? = some o ∧ some b ≠ v'.ownBlock := by
  have hlt := (Array.getElem?_eq_some_iff.1 hb).1
  refine ⟨(hg.block b hlt hne).trans hb, ?_⟩
  rcases hn with e | h
  · rw [e]; exact hne
  · intro e
    have := h b e.symm
    omega
/-- What lies below the bytes stays. -/
theorem low_step {W W' : World} {B : Nat} {v : Value} {l : List UInt8} (ho : OwnB W B v l) (hB : B ≤ W.heap.size) (hg : W.grownBy W' v.ownBlock) : Below B W W' :=
  (Below.refl B W).grown hg hB fun k hk => (ho.at hk).1
set_option maxRecDepth 100000 in
theorem l6Put_full (hv : Value) (d : Val) (B : Nat) (ov : Value) (l t : List UInt8) (D : Nat) (w : World) (ho : OwnB w B ov l) (hl : 100000 ≤ l.length) (hm : l.length ≤ 16777216) :
    Calls Tryd.prog 35 #[hv, .agg #[.int .i64 d.k, .int .i64 d.n, .string d.s], ov] w fun e w' => PutPost B ov l t D w e w' := by
  obtain ⟨a, c, rfl, _⟩ := ho.slice
  have HO : Hid (OwnB w B (.slice a l.length c) l) := ho
  clear ho
  have hbA : Below w.heap.size w (w.alloc (Obj.cells #[.int .i64 d.k, .int .i64 d.n, .string d.s] 26)) := (Below.refl _ _).alloc (Nat.le_refl _) _
  have g0 : decide ((100000 : Int) ≤ (l.length : Int)) = true := by simp; omega
  go_enter Tryd.func35, Tryd.ntmps35
  go_wp2
  go_ret
  refine ⟨_, l, rfl, HO.out.keep hbA, gbt_below _ hbA, .inl rfl, ?_, Nat.le_max_left _ _⟩
  have := Cut.over (Cut.refl l) hl [] t
  rwa [List.append_nil] at this
set_option maxRecDepth 100000 in
set_option maxHeartbeats 2000000 in
theorem l6Put_flat (a : Option Addr) (h : List Cel) (ca : Nat) (d : Val) (B : Nat) (ov : Value) (l : List UInt8) (w : World) (hh : h.length ≤ 1048576) (hsm : ∀ c ∈ h, c.small) (hd : d.small) (hok : d.ok h = true) (hk : d.k ≠ 5) (hr : RowC w B a h) (hB : B ≤ w.heap.size) (ho : OwnB w B ov l) (hl : l.length < 100000) :
    Calls Tryd.prog 35 #[.slice a h.length ca, .agg #[.int .i64 d.k, .int .i64 d.n, .string d.s], ov] w fun e w' => PutPost B ov l (flatT h d) 2197152 w e w' := by
  obtain ⟨ao, co, rfl, hco⟩ := ho.slice
  have hbA : Below w.heap.size w (w.alloc (Obj.cells #[.int .i64 d.k, .int .i64 d.n, .string d.s] 26)) := (Below.refl _ _).alloc (Nat.le_refl _) _
  have HO : Hid (OwnB w B (.slice ao l.length co) l) := ho
  have HA : Hid (OwnB (w.alloc (Obj.cells #[.int .i64 d.k, .int .i64 d.n, .string d.s] 26)) B (.slice ao l.length co) l) := ho.keep hbA
  have hBA : B ≤ (w.alloc (Obj.cells #[.int .i64 d.k, .int .i64 d.n, .string d.s] 26)).heap.size := Nat.le_trans hB hbA.size
  clear ho
  have g0 : decide ((100000 : Int) ≤ (l.length : Int)) = false := by simp; omega
  obtain ⟨k, n, s⟩ := d
  obtain ⟨d1, d2, d3⟩ := hd
  simp only at *
  by_cases h3 : k = 3
  · subst h3
    have HT : Hid (flatT h ⟨3, n, s⟩ = [40, 41]) := rfl
    rw [HT.out]
    go_enter Tryd.func35, Tryd.ntmps35
    go_wp2_with (at_builtin; refine wpList_append_b rfl _ _ 9 rfl B (.slice ao l.length co) l rfl HA.out (.string ⟨#[40, 41]⟩) [40, 41] rfl (src_str _ _) (by simp; omega) hBA ?_; intro v' w2 ho2 hg2 hn2)
    go_ret
    exact put_end hbA ho2 hg2 hn2 (by simp; omega)
  by_cases h6 : k = 6
  · subst h6
    have HT : Hid (flatT h ⟨6, n, s⟩ = [102, 110]) := rfl
    rw [HT.out]
    go_enter Tryd.func35, Tryd.ntmps35
    go_wp2_with (at_builtin; refine wpList_append_b rfl _ _ 9 rfl B (.slice ao l.length co) l rfl HA.out (.string ⟨#[102, 110]⟩) [102, 110] rfl (src_str _ _) (by simp; omega) hBA ?_; intro v' w2 ho2 hg2 hn2)
    go_ret
    exact put_end hbA ho2 hg2 hn2 (by simp; omega)
  by_cases h2 : k = 2
  · subst h2
    by_cases h1 : n = 1
    · subst h1
      have HT : Hid (flatT h ⟨2, 1, s⟩ = [35, 116]) := rfl
      rw [HT.out]
      go_enter Tryd.func35, Tryd.ntmps35
      go_wp2_with (at_builtin; refine wpList_append_b rfl _ _ 9 rfl B (.slice ao l.length co) l rfl HA.out (.string ⟨#[35, 116]⟩) [35, 116] rfl (src_str _ _) (by simp; omega) hBA ?_; intro v' w2 ho2 hg2 hn2)
      go_ret
      exact put_end hbA ho2 hg2 hn2 (by simp; omega)
    · have HT : Hid (flatT h ⟨2, n, s⟩ = [35, 102]) := by show _ = _; unfold flatT; simp [h1]
      rw [HT.out]
      go_enter Tryd.func35, Tryd.ntmps35
      go_wp2_with (at_builtin; refine wpList_append_b rfl _ _ 9 rfl B (.slice ao l.length co) l rfl HA.out (.string ⟨#[35, 102]⟩) [35, 102] rfl (src_str _ _) (by simp; omega) hBA ?_; intro v' w2 ho2 hg2 hn2)
      go_ret
      exact put_end hbA ho2 hg2 hn2 (by simp; omega)
  by_cases h4 : k = 4
  · subst h4
    have HT : Hid (flatT h ⟨4, n, s⟩ = s.data.toList) := rfl
    have hsl : s.data.toList.length = s.size := rfl
    rw [HT.out]
    go_enter Tryd.func35, Tryd.ntmps35
    go_wp2_with (at_builtin; refine wpList_append_b rfl _ _ 9 rfl B (.slice ao l.length co) l rfl HA.out (.string s) s.data.toList rfl (src_str _ _) (by rw [hsl]; omega) hBA ?_; intro v' w2 ho2 hg2 hn2)
    go_ret
    exact put_end hbA ho2 hg2 hn2 (by rw [List.length_append, hsl]; omega)
  by_cases h1 : k = 1
  · subst h1
    have HT : Hid (flatT h ⟨1, n, s⟩ = decL n) := rfl
    rw [HT.out]
    have hs0 : s.size = 0 := by
      by_cases hq : s.size = 0
      · exact hq
      · rw [vokS (by simp) hq] at hok; cases hok
    have hn := hok
    rw [vok1 rfl hs0] at hn
    simp only [Bool.and_eq_true, decide_eq_true_eq] at hn
    have hdl := (of_dec n (by omega) (by omega)).1
    have HD : Hid (∀ w, Calls Tryd.prog 49 #[.int .i64 n] w fun e w' => e = .returned (.string ⟨(decL n).toArray⟩) ∧ Below w.heap.size w w') := fun w => specDec_any n w d2.1 d2.2
    clear hok hn hs0
    go_enter Tryd.func35, Tryd.ntmps35
    go_wp2_with fail
    refine (HD.out _).mono ?_
    rintro e w1 ⟨rfl, hb1⟩
    have hb2 : Below w.heap.size w w1 := hbA.trans (hb1.mono hbA.size)
    have HB1 : Hid (OwnB w1 B (.slice ao l.length co) l) := HO.out.keep hb2
    have hB1 : B ≤ w1.heap.size := Nat.le_trans hB hb2.size
    go_wp2_with (at_builtin; refine wpList_append_b rfl _ _ 9 rfl B (.slice ao l.length co) l rfl HB1.out (.string ⟨(decL n).toArray⟩) (decL n) rfl (src_str _ _) (by omega) hB1 ?_; intro v' w2 ho2 hg2 hn2)
    go_ret
    exact put_end hb2 ho2 hg2 hn2 (by rw [List.length_append]; omega)
  by_cases h7 : k = 7
  · subst h7
    have hs0 : s.size = 0 := by
      by_cases hq : s.size = 0
      · exact hq
      · rw [vokS (by simp) hq] at hok; cases hok
    rw [vok7 rfl hs0] at hok
    unfold cellB at hok
    simp only [Bool.and_eq_true, decide_eq_true_eq, beq_iff_eq] at hok
    obtain ⟨hn0, hn1⟩ := hok
    obtain ⟨m, rfl⟩ : ∃ m : Nat, n = m := ⟨n.toNat, by omega⟩
    rw [Int.toNat_natCast] at hn1
    cases hc : h[m]? with
    | none => rw [hc] at hn1; cases hn1
    | some c =>
      have HT : Hid (flatT h ⟨7, (m : Int), s⟩ = 35 :: c.s.data.toList) := by show _ = _; unfold flatT; simp [hc]
      rw [HT.out]
      have hml : m < h.length := (List.getElem?_eq_some_iff.1 hc).1
      have hcs : c.s.size ≤ 1048576 := (hsm c (List.mem_of_getElem? hc)).2.2.2.1
      have hsl : c.s.data.toList.length = c.s.size := rfl
      obtain ⟨b1, o1, rfl, hbb, an, cn, av, cv, c0, c1, _⟩ := hr m c hc
      have i0 : (0 : Int) ≤ (m : Int) := by omega
      have i1 : (m : Int) < (h.length : Int) := by omega
      have HC1 : Hid (w.cell? ⟨b1, o1 + m * 6 + 1, none⟩ = some (.string c.s)) := c1
      clear hn1 hc hs0 hr hsm c0 c1
      have hbC : Below w.heap.size w ((w.alloc (Obj.cells #[.int .i64 7, .int .i64 (m : Int), .string s] 26)).alloc (Obj.cells #[.int .u8 35] 5)) := hbA.alloc hbA.size _
      have HB1 : Hid (OwnB ((w.alloc (Obj.cells #[.int .i64 7, .int .i64 (m : Int), .string s] 26)).alloc (Obj.cells #[.int .u8 35] 5)) B (.slice ao l.length co) l) := HO.out.keep hbC
      have HSB : Hid (Src Tryd.prog 1 22 (.slice (some ⟨w.heap.size + 1, 0, none⟩) 1 1) [(35 : UInt8)].length (bts [35]) ((w.alloc (Obj.cells #[.int .i64 7, .int .i64 (m : Int), .string s] 26)).alloc (Obj.cells #[.int .u8 35] 5))) := src_byte _ _ 35 35 5 rfl (blk_at _ _ _ (by simp))
      have k0 : ((w.alloc (Obj.cells #[.int .i64 7, .int .i64 (m : Int), .string s] 26)).alloc (Obj.cells #[.int .u8 35] 5)).heap[w.heap.size]? = some (Obj.cells #[.int .i64 7, .int .i64 (m : Int), .string s] 26) := blk_past (blk_at _ _ _ rfl)
      have hne0 : some w.heap.size ≠ (Value.slice ao l.length co).ownBlock := fun e => by have := (HO.out.at e.symm).2; omega
      have hBC : B ≤ ((w.alloc (Obj.cells #[.int .i64 7, .int .i64 (m : Int), .string s] 26)).alloc (Obj.cells #[.int .u8 35] 5)).heap.size := Nat.le_trans hB hbC.size
      have HK0 : Hid _ := k0
      clear k0
      go_enter Tryd.func35, Tryd.ntmps35
      go_wp2_with (first
        | (at_builtin; refine wpList_append_b rfl _ _ 22 rfl B (.slice ao l.length co) l rfl HB1.out _ [35] rfl HSB.out (by simp; omega) hBC ?_; intro v1 w1 ho1 hg1 hn1; obtain ⟨k1, hne1⟩ := fr_step HK0.out hne0 hg1 hn1; have x1 := cell_blk (j := 1) k1 rfl; have hlow1 := low_step HB1.out hBC hg1; have y1 := cell_keep (cell_keep HC1.out hbC (by omega)) hlow1 hbb; have HO1 : Hid (OwnB w1 B v1 (l ++ [35])) := ho1; clear ho1)
        | (at_builtin; refine wpList_append_b rfl _ _ 9 rfl B v1 (l ++ [35]) rfl HO1.out (.string c.s) c.s.data.toList rfl (src_str _ _) (by rw [List.length_append, hsl]; simp; omega) (Nat.le_trans hBC hg1.size) ?_; intro v2 w2 ho2 hg2 hn2))
      go_ret
      have hgw : w.grownBy w1 (Value.slice ao l.length co).ownBlock := gbt_trans (gbt_below _ hbC) hg1 (.inl rfl)
      have hn1' : v1.ownBlock = (Value.slice ao l.length co).ownBlock ∨ ∀ k, v1.ownBlock = some k → w.heap.size ≤ k := hn1.imp id fun h k hk => Nat.le_trans hbC.size (h k hk)
      refine ⟨v2, _, rfl, ho2, gbt_trans hgw hg2 hn1', ?_, ?_, ?_⟩
      · rcases hn2 with e | hq
        · rw [e]; exact hn1'
        · exact .inr fun k hk => Nat.le_trans hgw.size (hq k hk)
      · rw [List.append_assoc]; exact Cut.refl _
      · rw [List.length_append, List.length_append, hsl]
        simp
        omega
  · rw [vok0 h1 h2 h3 h4 hk h6 h7] at hok
    cases hok
end Go.Proofs.YtkbpnjigoipgeaaDoor
