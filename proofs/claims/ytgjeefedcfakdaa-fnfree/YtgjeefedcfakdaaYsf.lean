/- The model's expander: l4Binds walked. The model's expander: what stands between two steps of a frame. -/
import Derived.Test.YtgjeefedcfakdaaXbn
import Derived.Test.YtgjeefedcfakdaaNok
set_option linter.unusedVariables false
set_option maxRecDepth 100000
set_option maxHeartbeats 8000000
namespace Go.Proofs.Ytgjeefedcfakdaa
open Go.ChangeShapes Go.WideShapes Go.ChangeAt Go.RowKit
def Ap (v u : Value) : Prop := ∀ k, v.ownBlock = some k → u.ownBlock ≠ some k
theorem Ap.symm {v u : Value} (h : Ap v u) : Ap u v := fun k hk e => h k e hk
theorem gb_alloc_low {w W w5 : World} {B : Nat} {o : Obj} {r : Option Nat} (hb : Below B w W) (hB : B + 1 ≤ W.heap.size) (hg : (W.alloc o).grownBy w5 r) (hr : ∀ k, r = some k → B + 1 ≤ k) {ob : Obj} (hk : W.heap[B]? = some ob) : Below B w w5 ∧ w5.heap[B]? = some ob := by
 have hsame : ∀ j, j < B + 1 → w5.heap[j]? = W.heap[j]? := fun j hj => by
  rw [hg.block j (by simp; omega) (fun e => by have := hr j e.symm; omega)]
  exact ((Below.refl W.heap.size W).alloc (Nat.le_refl _) _).block j (by omega)
 refine ⟨⟨hg.os.trans hb.os, hg.tape.trans hb.tape, hg.output.trans hb.output, by have := hg.size; have := hb.size; simp at *; omega, fun j hj => (hsame j (by omega)).trans (hb.block j hj)⟩, (hsame B (by omega)).trans hk⟩
theorem ap_new {W : World} {B : Nat} {v u : Value} {l : List Int} {g n c : Nat} (hu : OwnI W B u l) (h : Ap v u) (hat : v.ownBlock = some g ∨ g = W.heap.size + 1) : Ap (.slice (some ⟨g, 0, none⟩) n c) u := by
 intro k hk e
 have hk : g = k := by simpa [Value.ownBlock] using hk
 subst hk
 rcases hat with h1 | h1
 ·exact h g h1 e
 ·have := (World.ownsRow.lt hu g e).2
  omega
theorem own_grow {W w5 : World} {B : Nat} {o : Obj} {v u : Value} {l : List Int} (hu : OwnI W B u l) (h : Ap v u) (hg : (W.alloc o).grownBy w5 v.ownBlock) : OwnI w5 B u l :=
 (hu.below (bR _ _)).apart hg fun k hk e => h k e hk
theorem l4Binds_any (b o : Nat) (cc : Nat) (st : Value) (i : Nat) (w : World) (cs : List Dat) (hi : i < cs.length) (hn : cs.length ≤ 1048576) (hrow : RowD w w.heap.size (some ⟨b, o, none⟩) cs) (ha : Ahead cs) :
  Calls Try.prog 90 #[.agg #[.slice (some ⟨b, o, none⟩) cs.length cc, st], .int .i64 i] w fun e w' => BEnd cs i w e w' := by
 have HROW : Hid (RowD w w.heap.size (some ⟨b, o, none⟩) cs) := hrow
 have HA : Hid (Ahead cs) := ha
 have HLI : Hid (∀ (j : Nat) (w1 : World), j < cs.length → Below w.heap.size w w1 → Calls Try.prog 81 #[.agg #[.slice (some ⟨b, o, none⟩) cs.length cc, st], .int .i64 j] w1 fun e w' => LEnd cs j w1 e w') := fun j w1 hj hb => l4List_any b o cc st j w1 cs hj hn ((hrow.below hb).mono hb.size) ha
 obtain ⟨i0, hi0, hz0, hz1, hz2⟩ := info_parts info3
 have HB0 : Hid (Below w.heap.size w (((w.alloc (Obj.cells #[.slice (some ⟨b, o, none⟩) cs.length cc, st] 66)).alloc (Obj.cells #[] 3)).alloc (Obj.cells #[] 3))) := ((bR _ _).alloc (by simp) _).alloc (by simp; omega) _
 have HP0 : Hid ((((w.alloc (Obj.cells #[.slice (some ⟨b, o, none⟩) cs.length cc, st] 66)).alloc (Obj.cells #[] 3)).alloc (Obj.cells #[] 3)).heap[w.heap.size]? = some (Obj.cells #[.slice (some ⟨b, o, none⟩) cs.length cc, st] 66)) := blk_past (blk_past (blk_at _ _ _ rfl))
 have HN0 : Hid (OwnI (((w.alloc (Obj.cells #[.slice (some ⟨b, o, none⟩) cs.length cc, st] 66)).alloc (Obj.cells #[] 3)).alloc (Obj.cells #[] 3)) (w.heap.size + 1) (.slice (some ⟨w.heap.size + 1, 0, none⟩) 0 0) []) := ownI_nil (blk_past (blk_at _ _ _ (by simp))) (Nat.le_refl _)
 have HF0 : Hid (OwnI (((w.alloc (Obj.cells #[.slice (some ⟨b, o, none⟩) cs.length cc, st] 66)).alloc (Obj.cells #[] 3)).alloc (Obj.cells #[] 3)) (w.heap.size + 1) (.slice (some ⟨w.heap.size + 1 + 1, 0, none⟩) 0 0) []) := ownI_nil (blk_at _ _ _ (by simp)) (Nat.le_succ _)
 have hz : (((w.alloc (Obj.cells #[.slice (some ⟨b, o, none⟩) cs.length cc, st] 66)).alloc (Obj.cells #[] 3)).alloc (Obj.cells #[] 3)).heap.size = w.heap.size + 3 := by simp
 clear hrow ha
 go_enter Try.func90, Try.ntmps90
 go_wp2_with fail
 refine (HLI.out i _ hi HB0.out).mono ?_
 rintro e w1 ⟨lv, L, ok, rfl, hol, hlen, hb1, hcond, HLT⟩
 obtain ⟨al, cl, rfl⟩ := hol.slice
 have HOL : Hid (OwnI w1 (w.heap.size + 1) (.slice al L.length cl) L) := hol.mono (by rw [hz]; omega)
 have HPN : Hid (Ap (.slice (some ⟨w.heap.size + 1, 0, none⟩) 0 0) (.slice al L.length cl)) := fun k hk e => by
  have h1 := (World.ownsRow.lt hol k e).1
  rw [hz] at h1
  have : w.heap.size + 1 = k := by simpa [Value.ownBlock] using hk
  omega
 have HPF : Hid (Ap (.slice (some ⟨w.heap.size + 1 + 1, 0, none⟩) 0 0) (.slice al L.length cl)) := fun k hk e => by
  have h1 := (World.ownsRow.lt hol k e).1
  rw [hz] at h1
  have : w.heap.size + 1 + 1 = k := by simpa [Value.ownBlock] using hk
  omega
 have HB1 : Hid (Below w.heap.size w w1) := bT HB0.out hb1
 have HP1 : Hid (w1.heap[w.heap.size]? = some (Obj.cells #[.slice (some ⟨b, o, none⟩) cs.length cc, st] 66)) := blk_keep HP0.out hb1 (by rw [hz]; omega)
 have HN1 : Hid (OwnI w1 (w.heap.size + 1) (.slice (some ⟨w.heap.size + 1, 0, none⟩) 0 0) []) := HN0.out.below hb1
 have HF1 : Hid (OwnI w1 (w.heap.size + 1) (.slice (some ⟨w.heap.size + 1 + 1, 0, none⟩) 0 0) []) := HF0.out.below hb1
 have HCO : Hid (if ok = true then lstOf cs (i : Int) = some L else lstOf cs (i : Int) = none) := hcond
 clear hol hb1 hcond HB0 HP0 HN0 HF0 hz
 cases ok
 ·have HQ : Hid (bndOf cs (i : Int) = none) := by
   show _ = _
   have := HCO.out
   simp at this
   unfold bndOf
   rw [this]
   rfl
  go_wp2_with fail
  go_loopw [7, 8, 11] (fun nv fv iv wr => nv = .slice (some ⟨w.heap.size + 1, 0, none⟩) 0 0 ∧ fv = .slice (some ⟨w.heap.size + 1 + 1, 0, none⟩) 0 0 ∧ iv = .int .i64 0 ∧ wr = w1) (fun _ _ _ _ => 0)
  case atStart => exact ⟨rfl, rfl, rfl, rfl⟩
  case round =>
   obtain ⟨rfl, rfl, rfl, rfl⟩ := hrel
   go_wp2
   all_goals
    go_ret3
    exact ⟨_, _, [], [], false, rfl, HN1.out.mono (Nat.le_succ _), HF1.out.mono (Nat.le_succ _), by simp, rfl, HB1.out, by simpa using HQ.out, ⟨fun x hx => (by cases hx), fun x hx => (by cases hx)⟩⟩
 ·have HLS : Hid (lstOf cs (i : Int) = some L) := by show _ = _; have := HCO.out; simpa using this
  have HMM : Hid (∀ x ∈ L, 0 ≤ x ∧ x < (cs.length : Int)) := lst_mem HA.out i hi HLS.out
  have HAP : Hid (Ap (.slice (some ⟨w.heap.size + 1, 0, none⟩) 0 0) (.slice (some ⟨w.heap.size + 1 + 1, 0, none⟩) 0 0)) := fun k hk e => by
   have h1 : w.heap.size + 1 = k := by simpa [Value.ownBlock] using hk
   have h2 : w.heap.size + 1 + 1 = k := by simpa [Value.ownBlock] using e
   omega
  clear HCO
  go_wp2_with fail
  go_loopw [7, 8, 11] (fun nv fv iv wr => ∃ (ns fs : List Int) (an af : Option Addr) (cn cf : Nat), nv = .slice an ns.length cn ∧ fv = .slice af fs.length cf ∧ iv = .int .i64 ns.length ∧ Hid (fs.length = ns.length) ∧ ns.length ≤ L.length ∧ OwnI wr (w.heap.size + 1) (.slice an ns.length cn) ns ∧ OwnI wr (w.heap.size + 1) (.slice af fs.length cf) fs ∧ OwnI wr (w.heap.size + 1) (.slice al L.length cl) L ∧ Ap (.slice an ns.length cn) (.slice af fs.length cf) ∧ Ap (.slice an ns.length cn) (.slice al L.length cl) ∧ Ap (.slice af fs.length cf) (.slice al L.length cl) ∧ Below w.heap.size w wr ∧ wr.heap[w.heap.size]? = some (Obj.cells #[.slice (some ⟨b, o, none⟩) cs.length cc, st] 66) ∧ bndL cs (L.take ns.length) = some (ns, fs))
   (fun _ _ iv _ => L.length - (intOf iv).toNat)
  case atStart => exact ⟨[], [], _, _, 0, 0, rfl, rfl, rfl, rfl, by simp, HN1.out, HF1.out, HOL.out, HAP.out, HPN.out, HPF.out, HB1.out, HP1.out, by simp [bndL]⟩
  case round =>
   clear HN1 HF1 HOL HAP HPN HPF HB1 HP1
   obtain ⟨ns, fs, an, af, cn, cf, rfl, rfl, rfl, HFN, hnl, hon, hof, hol, h1, h2, h3, hbw, hkp, hbd⟩ := hrel
   obtain ⟨p0, p1⟩ := zn2 hkp rfl rfl
   have hps := (alt hkp)
   have hbs := hbw.size
   have HON : Hid (OwnI wr (w.heap.size + 1) (.slice an ns.length cn) ns) := hon
   have HOF : Hid (OwnI wr (w.heap.size + 1) (.slice af fs.length cf) fs) := hof
   have HOL : Hid (OwnI wr (w.heap.size + 1) (.slice al L.length cl) L) := hol
   have H12 : Hid (Ap (.slice an ns.length cn) (.slice af fs.length cf)) := h1
   have H13 : Hid (Ap (.slice an ns.length cn) (.slice al L.length cl)) := h2
   have H23 : Hid (Ap (.slice af fs.length cf) (.slice al L.length cl)) := h3
   have HBW : Hid (Below w.heap.size w wr) := hbw
   have HKP : Hid (wr.heap[w.heap.size]? = some (Obj.cells #[.slice (some ⟨b, o, none⟩) cs.length cc, st] 66)) := hkp
   have HBD : Hid (bndL cs (L.take ns.length) = some (ns, fs)) := hbd
   have HML : Hid ((∀ x ∈ ns, 0 ≤ x ∧ x < (i : Int)) ∧ ∀ x ∈ fs, 0 ≤ x ∧ x < (i : Int)) := bnd_lt HA.out (fun x hx => HLT.out x (List.mem_of_mem_take hx)) (by omega) hbd
   clear hon hof hol h1 h2 h3 hbw hkp hbd
   by_cases hlt : ns.length < L.length
   ·obtain ⟨x, hx⟩ : ∃ x, L[ns.length]? = some x := ⟨_, List.getElem?_eq_getElem hlt⟩
    obtain ⟨ba, ob, rfl, hba, y0⟩ := HOL.out.row ns.length x hx
    obtain ⟨hx0, hx1⟩ := HMM.out x (List.mem_of_getElem? hx)
    obtain ⟨k, rfl⟩ := Int.eq_ofNat_of_zero_le hx0
    have HMEM : Hid ((k : Int) ∈ L) := List.mem_of_getElem? hx
    have HTK : Hid (L.take (ns.length + 1) = L.take ns.length ++ [(k : Int)]) := by show _ = _; rw [List.take_add_one, hx]; rfl
    have HCL : Hid (Calls Try.prog 81 #[.agg #[.slice (some ⟨b, o, none⟩) cs.length cc, st], .int .i64 k] (wr.drewN 1) fun e w' => LEnd cs k (wr.drewN 1) e w') := HLI.out k (wr.drewN 1) (by omega) (below_drewN HBW.out 1)
    clear hx
    go_wp2_with fail
    go_region_with (go_at_call 81; refine HCL.out.mono ?_; rintro e w2 ⟨bv, bl, bok, rfl, hob2, hbl2, hb2, hcond2, _⟩; obtain ⟨ab, cb, rfl⟩ := hob2.slice)
    all_goals
     have HB2 : Hid (Below wr.heap.size wr w2) := (below_drewN (Below.refl _ _) 1).trans hb2
     have HW2 : Hid (Below w.heap.size w w2) := bT HBW.out HB2.out
     have HK2 : Hid (w2.heap[w.heap.size]? = some (Obj.cells #[.slice (some ⟨b, o, none⟩) cs.length cc, st] 66)) := blk_keep HKP.out HB2.out hps
     have HON2 : Hid (OwnI w2 (w.heap.size + 1) (.slice an ns.length cn) ns) := HON.out.below HB2.out
     have HOF2 : Hid (OwnI w2 (w.heap.size + 1) (.slice af fs.length cf) fs) := HOF.out.below HB2.out
     have HOL2 : Hid (OwnI w2 (w.heap.size + 1) (.slice (some ⟨ba, ob, none⟩) L.length cl) L) := HOL.out.below HB2.out
     have HOB2 : Hid (OwnI w2 wr.heap.size (.slice ab bl.length cb) bl) := hob2
     have HCC : Hid (if bok = true then lstOf cs (k : Int) = some bl else lstOf cs (k : Int) = none) := hcond2
     have h22 := HB2.out.size
     clear hob2 hb2 hcond2 p0 p1 y0
     cases bok
     ·have HQ : Hid (bndOf cs (i : Int) = none) := by
       show _ = _
       unfold bndOf
       rw [HLS.out]
       exact bnd_bad (fun y e hq => by have := HCC.out; simp at this; rw [this] at hq; cases hq) HMEM.out
      go_wp2
      go_ret3
      exact ⟨_, _, ns, fs, false, rfl, HON2.out.mono (Nat.le_succ _), HOF2.out.mono (Nat.le_succ _), by omega, HFN.out, HW2.out, by simpa using HQ.out, HML.out⟩
     ·by_cases hb2l : bl.length = 2
      ·obtain ⟨y, e, rfl⟩ : ∃ y e, bl = [y, e] := by
        match bl, hb2l with
        | [y, e], _ => exact ⟨y, e, rfl⟩
       have HLK : Hid (lstOf cs (k : Int) = some [y, e]) := by show _ = _; have := HCC.out; simpa using this
       have HQ : Hid (bndL cs (L.take (ns.length + 1)) = some (ns ++ [y], fs ++ [e])) := by
        show _ = _
        rw [HTK.out, bnd_snoc, HBD.out, HLK.out]
        rfl
       obtain ⟨bb, bo, rfl, hbb2, r0⟩ := HOB2.out.row 0 y rfl
       rw [Nat.add_zero] at r0
       have HNB : Hid (Ap (.slice an ns.length cn) (.slice (some ⟨bb, bo, none⟩) [y, e].length cb)) := fun k hk hq => by
        have h1 := (World.ownsRow.lt HON.out k hk).2
        have h2 := (World.ownsRow.lt HOB2.out k hq).1
        omega
       have HNL : Hid (∀ k, (Value.slice an ns.length cn).ownBlock = some k → w.heap.size + 1 ≤ k) := fun k hk => (World.ownsRow.lt HON.out k hk).1
       have HFL : Hid (∀ k, (Value.slice af fs.length cf).ownBlock = some k → w.heap.size + 1 ≤ k) := fun k hk => (World.ownsRow.lt HOF.out k hk).1
       have kA : (w2.alloc (Obj.cells #[.int .i64 y] 3)).heap[w2.heap.size]? = some (Obj.cells #[.int .i64 y] 3) := blk_at _ _ _ rfl
       have HOA : Hid ((w2.alloc (Obj.cells #[.int .i64 y] 3)).ownsRow (w.heap.size + 1) 3 1 (.slice an ns.length cn) ns.length (ns.map (Value.int .i64))) := World.ownsRow.alloc HON2.out _
       have hAz : (w2.alloc (Obj.cells #[.int .i64 y] 3)).heap.size = w2.heap.size + 1 := by simp
       have hwA : w.heap.size + 1 ≤ (w2.alloc (Obj.cells #[.int .i64 y] 3)).heap.size := by rw [hAz]; omega
       have hw2 : w.heap.size + 1 ≤ w2.heap.size := by omega
       clear hb2l hbb2
       go_wp2_with (first
        | (at_builtin; (refine wpList_append_lies _ rfl _ _ 33 rfl (w.heap.size + 1) 3 i0 _ 1 8 Try.underlying33 hi0 hz0 hz1 hz2 rfl (by omega) (.slice af fs.length cf) fs.length (fs.map (Value.int .i64)) rfl HOF5.out ⟨w5.heap.size, 0, none⟩ 1 1 [.int .i64 e] rfl rfl (World.news_of_block kB) (by intro u hu; simp at hu; rcases hu with rfl; rfl) (by omega) (by have := HFN.out; simp [maxLen]; omega) (by have := HFN.out; omega) hwB (w5.heap.size + 1) hBz ?_); intro g2 c2 w7 hown7 hgr7 hat7 hlt7)
        | (at_builtin; (refine wpList_append_lies _ rfl _ _ 33 rfl (w.heap.size + 1) 3 i0 _ 1 8 Try.underlying33 hi0 hz0 hz1 hz2 rfl (by omega) (.slice an ns.length cn) ns.length (ns.map (Value.int .i64)) rfl HOA.out ⟨w2.heap.size, 0, none⟩ 1 1 [.int .i64 y] rfl rfl (World.news_of_block kA) (by intro u hu; simp at hu; rcases hu with rfl; rfl) (by omega) (by simp [maxLen]; omega) (by omega) hwA (w2.heap.size + 1) hAz ?_); intro g1 c1 w5 hown5 hgr5 hat5 hlt5; obtain ⟨hW5, hK5⟩ := gb_alloc_low HW2.out hw2 hgr5 HNL.out HK2.out; have HOB5 : Hid (OwnI w5 wr.heap.size (.slice (some ⟨bb, bo, none⟩) [y, e].length cb) [y, e]) := own_grow HOB2.out HNB.out hgr5; have HOF5' : Hid (OwnI w5 (w.heap.size + 1) (.slice af fs.length cf) fs) := own_grow HOF2.out H12.out hgr5; have HOF5 : Hid ((w5.alloc (Obj.cells #[.int .i64 e] 3)).ownsRow (w.heap.size + 1) 3 1 (.slice af fs.length cf) fs.length (fs.map (Value.int .i64))) := World.ownsRow.alloc HOF5'.out _; have HOL5 : Hid (OwnI w5 (w.heap.size + 1) (.slice (some ⟨ba, ob, none⟩) L.length cl) L) := own_grow HOL2.out H13.out hgr5; have r1 : w5.cell? ⟨bb, bo + 1, none⟩ = some (.int .i64 e) := (by obtain ⟨bq, oq, hq, _, hc⟩ := HOB5.out.row 1 e rfl; injection hq with hq; injection hq with q1 q2; subst q1 q2; exact hc); have kB : (w5.alloc (Obj.cells #[.int .i64 e] 3)).heap[w5.heap.size]? = some (Obj.cells #[.int .i64 e] 3) := blk_at _ _ _ rfl; have hBz : (w5.alloc (Obj.cells #[.int .i64 e] 3)).heap.size = w5.heap.size + 1 := (by simp); have hw5 : w.heap.size + 1 ≤ w5.heap.size := (by have := hgr5.size; rw [hAz] at this; omega); have hwB : w.heap.size + 1 ≤ (w5.alloc (Obj.cells #[.int .i64 e] 3)).heap.size := (by rw [hBz]; omega)))
       obtain ⟨hW7, hK7⟩ := gb_alloc_low hW5 hw5 hgr7 HFL.out hK5
       have HN5 : Hid (OwnI w5 (w.heap.size + 1) (.slice (some ⟨g1, 0, none⟩) (ns ++ [y]).length c1) (ns ++ [y])) := by
        show World.ownsRow _ _ _ _ _ _ _
        rw [List.length_append, List.map_append]
        exact hown5
       have HA12 : Hid (Ap (.slice (some ⟨g1, 0, none⟩) (ns ++ [y]).length c1) (.slice af fs.length cf)) := ap_new HOF2.out H12.out hat5
       have HA13 : Hid (Ap (.slice (some ⟨g1, 0, none⟩) (ns ++ [y]).length c1) (.slice (some ⟨ba, ob, none⟩) L.length cl)) := ap_new HOL2.out H13.out hat5
       have HN7 : Hid (OwnI w7 (w.heap.size + 1) (.slice (some ⟨g1, 0, none⟩) (ns ++ [y]).length c1) (ns ++ [y])) := own_grow HN5.out HA12.out.symm hgr7
       have HL7 : Hid (OwnI w7 (w.heap.size + 1) (.slice (some ⟨ba, ob, none⟩) L.length cl) L) := own_grow HOL5.out H23.out hgr7
       have HF7 : Hid (OwnI w7 (w.heap.size + 1) (.slice (some ⟨g2, 0, none⟩) (fs ++ [e]).length c2) (fs ++ [e])) := by
        show World.ownsRow _ _ _ _ _ _ _
        rw [List.length_append, List.map_append]
        exact hown7
       have HB12 : Hid (Ap (.slice (some ⟨g1, 0, none⟩) (ns ++ [y]).length c1) (.slice (some ⟨g2, 0, none⟩) (fs ++ [e]).length c2)) := (ap_new HN5.out HA12.out.symm hat7).symm
       have HB23 : Hid (Ap (.slice (some ⟨g2, 0, none⟩) (fs ++ [e]).length c2) (.slice (some ⟨ba, ob, none⟩) L.length cl)) := ap_new HOL5.out H23.out hat7
       refine ⟨⟨ns ++ [y], fs ++ [e], some ⟨g1, 0, none⟩, some ⟨g2, 0, none⟩, c1, c2, by simp, by simp, by simp, ?_, by simp; omega, HN7.out, HF7.out, HL7.out, HB12.out, HA13.out, HB23.out, hW7, hK7, by rw [List.length_append]; exact HQ.out⟩, ?_⟩
       ·show (fs ++ [e]).length = (ns ++ [y]).length
        have := HFN.out
        simp
        omega
       ·simp [intOf]
        omega
      ·have e2 : ((bl.length : Int) != 2) = true := by rw [bne_iff_ne]; omega
       have HQ : Hid (bndOf cs (i : Int) = none) := by
        show _ = _
        unfold bndOf
        rw [HLS.out]
        exact bnd_bad (fun y e hq => by have := HCC.out; simp at this; rw [this] at hq; injection hq with hq; rw [hq] at hb2l; exact hb2l rfl) HMEM.out
       clear hb2l
       go_wp2
       go_ret3
       exact ⟨_, _, ns, fs, false, rfl, HON2.out.mono (Nat.le_succ _), HOF2.out.mono (Nat.le_succ _), by omega, HFN.out, HW2.out, by simpa using HQ.out, HML.out⟩
   ·have hlt' : decide ((ns.length : Int) < (L.length : Int)) = false := by simp; omega
    have hall : ns.length = L.length := by omega
    have HQ : Hid (bndOf cs (i : Int) = some (ns, fs)) := by
     show _ = _
     unfold bndOf
     rw [HLS.out]
     have := HBD.out
     rw [hall, List.take_length] at this
     exact this
    clear hall
    go_wp2
    all_goals
     go_ret3
     exact ⟨_, _, ns, fs, true, rfl, HON.out.mono (Nat.le_succ _), HOF.out.mono (Nat.le_succ _), by omega, HFN.out, HBW.out, by simpa using HQ.out, HML.out⟩
end Go.Proofs.Ytgjeefedcfakdaa
set_option linter.unusedVariables false
namespace Go.Proofs.Ytgjeefedcfakdaa
variable {Gz : Nat → Prop}
open Go.ChangeShapes Go.WideShapes Go.ChangeAt Go.RowKit
def KT (W W' : World) : Prop := ∀ (g : Nat) (c : Array Value) (t : TypeId), t ≠ 35 ∧ t ≠ 104 → W.heap[g]? = some (Obj.cells c t) → W'.heap[g]? = some (Obj.cells c t)
theorem KT.refl (W : World) : KT W W := fun g c t _ h => h
theorem KT.trans {W W' W'' : World} (h : KT W W') (k : KT W' W'') : KT W W'' := fun g c t ht e => k g c t ht (h g c t ht e)
theorem KT.below {W W' : World} (h : Below W.heap.size W W') : KT W W' := fun g c t _ e => (h.block g (alt e)).trans e
theorem KT.lay {W : World} {g : Nat} {c : Array Value} (hk : W.heap[g]? = some (Obj.cells c 104)) (y0 y1 y2 y3 y4 : Value) : KT W (set5 W g y0 y1 y2 y3 y4) := by
 intro q c' t ht e
 refine (set5_other W g _ _ _ _ _ q fun h => ?_).trans e
 subst h
 rw [hk] at e
 injection Option.some.inj e with q1 q2
 exact ht.2 q2.symm
theorem XRep.kt {W W' : World} {B n : Nat} {v : Value} {code : Int} {r : Sx} (h : XRep Gz W B v n code r) (hg : W.grownBy W' v.ownBlock) {g : Nat} {c : Array Value} {t : TypeId} (ht : t ≠ 35) (e : W.heap[g]? = some (Obj.cells c t)) : W'.heap[g]? = some (Obj.cells c t) := by
 refine (hg.block g (alt e) fun hv => ?_).trans e
 obtain ⟨xs, ⟨_, ⟨hv2, _⟩ | ⟨q, cap', cur, hv2, _, hblk, _⟩⟩, _⟩ := h.2.2.2.2
 ·rw [hv2] at hv
  cases hv
 ·rw [hv2] at hv
  obtain rfl : g = q := by injection hv
  rw [hblk] at e
  injection Option.some.inj e with q1 q2
  exact ht q2.symm
def RowT (W : World) (al : Option Addr) (l : List Int) : Prop := l ≠ [] → ∃ (g p : Nat) (c : Array Value), al = some ⟨g, p, none⟩ ∧ W.heap[g]? = some (Obj.cells c 3) ∧ ∀ (i : Nat) (x : Int), l[i]? = some x → c[p + i]? = some (.int .i64 x)
theorem RowT.kt {W W' : World} {al : Option Addr} {l : List Int} (h : RowT W al l) (k : KT W W') : RowT W' al l := by
 intro hl
 obtain ⟨g, p, c, h1, h2, h3⟩ := h hl
 exact ⟨g, p, c, h1, k g c 3 ⟨by decide, by decide⟩ h2, h3⟩
theorem RowT.nil (W : World) (al : Option Addr) : RowT W al [] := fun h => absurd rfl h
theorem RowT.of {W : World} {B c : Nat} {a : Option Addr} {l : List Int} (h : OwnI W B (.slice a l.length c) l) : RowT W a l := by
 intro hl
 obtain ⟨hn, ⟨hv, h0⟩ | ⟨g, cap', cur, hv, a1, hblk, a3, a4, a5, a6⟩⟩ := h
 ·exact absurd (List.length_eq_zero_iff.1 h0) hl
 ·injection hv with e1 e2 e3
  subst e1
  refine ⟨g, 0, cur, rfl, hblk, fun i x hi => ?_⟩
  have hi' := (llt hi)
  rw [Nat.zero_add, ← Array.getElem?_toList]
  have h7 : (cur.toList.take (l.length * 1))[i]? = (l.map (Value.int .i64))[i]? := by rw [a6]
  rw [List.getElem?_take_of_lt (by omega), List.getElem?_map, hi] at h7
  exact h7
theorem RowT.head {W : World} {g p : Nat} {i : Int} {l : List Int} (h : RowT W (some ⟨g, p, none⟩) (i :: l)) : W.cell? ⟨g, p, none⟩ = some (.int .i64 i) := by
 obtain ⟨g', p', c, h1, h2, h3⟩ := h (by simp)
 obtain ⟨rfl, rfl⟩ : g = g' ∧ p = p' := by simpa using h1
 exact cell_blk h2 (h3 0 i rfl)
theorem RowT.second {W : World} {g p : Nat} {i j : Int} {l : List Int} (h : RowT W (some ⟨g, p, none⟩) (i :: j :: l)) : W.cell? ⟨g, p + 1, none⟩ = some (.int .i64 j) := by
 obtain ⟨g', p', c, h1, h2, h3⟩ := h (by simp)
 obtain ⟨rfl, rfl⟩ : g = g' ∧ p = p' := by simpa using h1
 exact cell_blk h2 (h3 1 j rfl)
theorem RowT.tail {W : World} {g p : Nat} {i : Int} {l : List Int} (h : RowT W (some ⟨g, p, none⟩) (i :: l)) : RowT W (some ⟨g, p + 1, none⟩) l := by
 intro hl
 obtain ⟨g', p', c, h1, h2, h3⟩ := h (by simp)
 obtain ⟨rfl, rfl⟩ : g = g' ∧ p = p' := by simpa using h1
 exact ⟨g, p + 1, c, rfl, h2, fun k x hk => by have := h3 (k + 1) x (by simpa using hk); rw [← this]; congr 1; omega⟩
theorem RowT.some {W : World} {al : Option Addr} {i : Int} {l : List Int} (h : RowT W al (i :: l)) : ∃ g p, al = some ⟨g, p, none⟩ := by
 obtain ⟨g, p, c, h1, _⟩ := h (by simp)
 exact ⟨g, p, h1⟩
structure Fx (Gz : Nat → Prop) (w W : World) (B b o : Nat) (cs : List Dat) (v0 v : Value) (n : Nat) (code : Int) (r : Sx) : Prop where
 far : v.ownBlock = v0.ownBlock ∨ ∀ k, v.ownBlock = some k → w.heap.size ≤ k
 gr : w.grownBy W v0.ownBlock
 row : RowD W B (some ⟨b, o, none⟩) cs
 rep : XRep Gz W B v n code r
 le : B ≤ w.heap.size
section
variable {w W W' : World} {B b o : Nat} {cs : List Dat} {v0 v v' : Value} {n n' : Nat} {code code' : Int} {r r' : Sx}
theorem Fx.call (h : Fx Gz w W B b o cs v0 v n code r) (hg : W.grownBy W' v.ownBlock) (hs : v'.ownBlock = v.ownBlock ∨ ∀ k, v'.ownBlock = some k → W.heap.size ≤ k) (hx : XRep Gz W' B v' n' code' r') : Fx Gz w W' B b o cs v0 v' n' code' r' := by
 have hsz := h.gr.size
 have hsame : ∀ k, k < W.heap.size → v.ownBlock ≠ some k → W'.heap[k]? = W.heap[k]? := fun k h1 h2 => hg.block k h1 (fun e => h2 e.symm)
 refine ⟨?_, ⟨hg.os.trans h.gr.os, hg.tape.trans h.gr.tape, hg.output.trans h.gr.output, Nat.le_trans h.gr.size hg.size, fun k hk hne => ?_⟩, h.row.keep fun k hk => ?_, hx, h.le⟩
 ·rcases hs with e | e
  ·rcases h.far with f | f
   ·exact .inl (e.trans f)
   ·exact .inr fun k hk => f k (by rw [← e]; exact hk)
  ·exact .inr fun k hk => by have := e k hk; omega
 ·refine (hsame k (by omega) (fun e => ?_)).trans (h.gr.block k hk hne)
  rcases h.far with f | f
  ·exact hne (by rw [← f, e])
  ·have := f k e
   omega
 ·have hle := h.le
  refine hsame k (by omega) (fun e => ?_)
  have := (h.rep.own_lt e).1
  omega
theorem Fx.below (h : Fx Gz w W B b o cs v0 v n code r) (hb : Below W.heap.size W W') : Fx Gz w W' B b o cs v0 v n code r :=
 h.call (gb_below _ hb) (.inl rfl) (h.rep.below hb)
theorem Fx.gz (h : Fx Gz w W B b o cs v0 v n code r) (hG : ∀ g, Gz g → g < w.heap.size) : ∀ g, Gz g → g < W.heap.size := fun g hg => by have := hG g hg; have := h.gr.size; omega
theorem Fx.bsz (h : Fx Gz w W B b o cs v0 v n code r) : B ≤ W.heap.size := Nat.le_trans h.le h.gr.size
theorem Fx.lay (h : Fx Gz w W B b o cs v0 v n code r) {g : Nat} {c : Array Value} (hk : W.heap[g]? = some (Obj.cells c 104)) (hg : w.heap.size ≤ g) (y0 y1 y2 y3 y4 : Value) : Fx Gz w (set5 W g y0 y1 y2 y3 y4) B b o cs v0 v n code r := by
 have hbl := set5_below W g y0 y1 y2 y3 y4 hg
 have hle := h.le
 refine ⟨h.far, ⟨hbl.os.trans h.gr.os, hbl.tape.trans h.gr.tape, hbl.output.trans h.gr.output, Nat.le_trans h.gr.size hbl.size, fun k hk hne => (hbl.block k hk).trans (h.gr.block k hk hne)⟩, h.row.keep fun k hk => hbl.block k (by omega), h.rep.but (fun k hk => set5_other W _ _ _ _ _ _ k hk) hbl.size hk ⟨by decide, by decide⟩ (fun e => ?_), h.le⟩
 obtain ⟨xs, ⟨_, ⟨hv2, _⟩ | ⟨q, cap', cur, hv2, _, hblk, _⟩⟩, _⟩ := h.rep.2.2.2.2
 ·rw [hv2] at e
  cases e
 ·rw [hv2] at e
  obtain rfl : q = g := by injection e
  rw [hblk] at hk
  injection Option.some.inj hk with q1 q2
  exact absurd q2 (by decide)
theorem Fx.done {a3 a : Option Addr} {n3 c3 c : Nat} {root : Int} (sc st : Value) (h : Fx Gz w W B b o cs (.slice a3 n3 c3) (.slice a n c) n code r) {g : Nat} {z : Array Value} (hk : W.heap[g]? = some (Obj.cells z 104)) (hg : w.heap.size ≤ g) (y0 y1 y2 y3 y4 : Value) :
  XEnd Gz B sc st a3 n3 c3 root r w (.returned (xV sc st (.slice a n c) root code)) (set5 W g y0 y1 y2 y3 y4) :=
 have q := h.lay hk hg y0 y1 y2 y3 y4
 ⟨a, n, c, code, rfl, q.rep, q.gr, q.far⟩
theorem set5_same {g : Nat} (x0 x1 x2 x3 x4 : Value) (hk : W.heap[g]? = some (Obj.cells #[x0, x1, x2, x3, x4] 104)) (y0 y1 y2 y3 y4 : Value) : (set5 W g y0 y1 y2 y3 y4).heap[g]? = some (Obj.cells #[y0, y1, y2, y3, y4] 104) :=
 heap_setCell_same _ _ 4 _ _ y4 (heap_setCell_same _ _ 3 _ _ y3 (heap_setCell_same _ _ 2 _ _ y2 (heap_setCell_same _ _ 1 _ _ y1 (heap_setCell_same _ _ 0 _ _ y0 hk))))
theorem cells5 {g : Nat} {t : TypeId} {x0 x1 x2 x3 x4 : Value} (h : W.heap[g]? = some (Obj.cells #[x0, x1, x2, x3, x4] t)) :
  W.cell? ⟨g, 0, none⟩ = some x0 ∧ W.cell? ⟨g, 1, none⟩ = some x1 ∧ W.cell? ⟨g, 2, none⟩ = some x2 ∧ W.cell? ⟨g, 3, none⟩ = some x3 ∧ W.cell? ⟨g, 4, none⟩ = some x4 ∧ W.frozen? ⟨g, 0, none⟩ = false ∧ W.frozen? ⟨g, 1, none⟩ = false ∧ W.frozen? ⟨g, 2, none⟩ = false ∧ W.frozen? ⟨g, 3, none⟩ = false ∧ W.frozen? ⟨g, 4, none⟩ = false :=
 ⟨cell_blk h rfl, cell_blk h rfl, cell_blk h rfl, cell_blk h rfl, cell_blk h rfl, frozen_blk h 0, frozen_blk h 1, frozen_blk h 2, frozen_blk h 3, frozen_blk h 4⟩
theorem Fx.start (hB : B ≤ w.heap.size) (hrow : RowD w B (some ⟨b, o, none⟩) cs) (hr : XRep Gz w B v n code r) (o1 o2 : Obj) : Fx Gz w ((w.alloc o1).alloc o2) B b o cs v v n code r := by
 have hb : Below w.heap.size w ((w.alloc o1).alloc o2) := (bR _ _).alloc (by simp) _
 exact ⟨.inl rfl, gb_below _ hb, hrow.keep fun k hk => hb.block k (by omega), hr.below hb, hB⟩
theorem XRep.np {c : Array Value} {t : TypeId} {g : Nat} (h : XRep Gz W B v n code r) (hk : W.heap[g]? = some (Obj.cells c t)) (ht : t = 3 ∨ t = 9) (hG : ¬ Gz g) : NP Gz W v g := by
 refine ⟨(alt hk), fun e => ?_, ⟨c, t, _, hk, ht⟩, hG⟩
 obtain ⟨xs, ⟨_, ⟨hv2, _⟩ | ⟨q, cap', cur, hv2, _, hblk, _⟩⟩, _⟩ := h.2.2.2.2
 ·rw [hv2] at e
  cases e
 ·rw [hv2] at e
  obtain rfl : q = g := by injection e
  rw [hblk] at hk
  injection Option.some.inj hk with q1 q2
  rcases ht with rfl | rfl
  ·exact absurd q2 (by decide)
  ·exact absurd q2 (by decide)
end
def Pt (Gz : Nat → Prop) (w wp W : World) (B b o cc : Nat) (cs : List Dat) (a2 : Option Addr) (n2 c2 : Nat) (root : Int) (v0 : Value) (r : Sx) : Prop :=
 ∃ (a : Option Addr) (n c : Nat) (code : Int), Fx Gz w W B b o cs v0 (.slice a n c) n code r ∧ W.heap[w.heap.size]? = some (Obj.cells #[.slice (some ⟨b, o, none⟩) cs.length cc, .slice a2 n2 c2, .slice a n c, .int .i64 root, .int .i64 code] 104) ∧ W.heap[w.heap.size + 1]? = some (Obj.cells #[.slice none 0 0, .slice none 0 0, .slice none 0 0, .int .i64 0, .int .i64 0] 104) ∧ KT wp W
section
variable {w wp W W' : World} {B b o cc : Nat} {cs : List Dat} {a2 : Option Addr} {n2 c2 : Nat} {root : Int} {v0 : Value} {r r' : Sx}
theorem Pt.next {a a' : Option Addr} {n c n' c' : Nat} {code code' : Int} {z0 z1 z2 z3 z4 : Value} (F : Fx Gz w W B b o cs v0 (.slice a n c) n code r) (hX : W.heap[w.heap.size]? = some (Obj.cells #[z0, z1, z2, z3, z4] 104)) (hZ : W.heap[w.heap.size + 1]? = some (Obj.cells #[.slice none 0 0, .slice none 0 0, .slice none 0 0, .int .i64 0, .int .i64 0] 104)) (hK : KT wp W)
  (hx : XRep Gz W' B (.slice a' n' c') n' code' r') (hg : W.grownBy W' (Value.slice a n c).ownBlock) (hs : (Value.slice a' n' c').ownBlock = (Value.slice a n c).ownBlock ∨ ∀ k, (Value.slice a' n' c').ownBlock = some k → W.heap.size ≤ k) :
  Pt Gz w wp (set5 W' w.heap.size (.slice (some ⟨b, o, none⟩) cs.length cc) (.slice a2 n2 c2) (.slice a' n' c') (.int .i64 root) (.int .i64 code')) B b o cc cs a2 n2 c2 root v0 r' := by
 have F1 := F.call hg hs hx
 have hX1 := F.rep.kt hg (by decide) hX
 exact ⟨a', n', c', code', F1.lay hX1 (Nat.le_refl _) _ _ _ _ _, set5_same _ _ _ _ _ hX1 _ _ _ _ _, (set5_other _ _ _ _ _ _ _ _ (by omega)).trans (F.rep.kt hg (by decide) hZ), (hK.trans fun q c t ht e => F.rep.kt hg ht.1 e).trans (KT.lay hX1 _ _ _ _ _)⟩
theorem Fx.cells {a : Option Addr} {n c : Nat} {code : Int} (F : Fx Gz w W B b o cs v0 (.slice a n c) n code r) (hg : W.grownBy W' (Value.slice a n c).ownBlock) {x0 x1 x2 x3 x4 : Value} {g : Nat} (hX : W.heap[g]? = some (Obj.cells #[x0, x1, x2, x3, x4] 104)) :
  W'.cell? ⟨g, 0, none⟩ = some x0 ∧ W'.cell? ⟨g, 1, none⟩ = some x1 ∧ W'.cell? ⟨g, 2, none⟩ = some x2 ∧ W'.cell? ⟨g, 3, none⟩ = some x3 ∧ W'.cell? ⟨g, 4, none⟩ = some x4 ∧ W'.frozen? ⟨g, 0, none⟩ = false ∧ W'.frozen? ⟨g, 1, none⟩ = false ∧ W'.frozen? ⟨g, 2, none⟩ = false ∧ W'.frozen? ⟨g, 3, none⟩ = false ∧ W'.frozen? ⟨g, 4, none⟩ = false :=
 cells5 (F.rep.kt hg (by decide) hX)
theorem Pt.start {a3 : Option Addr} {n3 c3 : Nat} {code : Int} (hB : B ≤ w.heap.size) (hrow : RowD w B (some ⟨b, o, none⟩) cs) (hr : XRep Gz w B (.slice a3 n3 c3) n3 code r) :
  Pt Gz w w ((w.alloc (Obj.cells #[.slice (some ⟨b, o, none⟩) cs.length cc, .slice a2 n2 c2, .slice a3 n3 c3, .int .i64 root, .int .i64 code] 104)).alloc (Obj.cells #[.slice none 0 0, .slice none 0 0, .slice none 0 0, .int .i64 0, .int .i64 0] 104)) B b o cc cs a2 n2 c2 root (.slice a3 n3 c3) r :=
 ⟨a3, n3, c3, code, Fx.start hB hrow hr _ _, blk_past (blk_at _ _ _ rfl), blk_at _ _ _ (by simp), KT.below ((bR _ _).alloc (by simp) _)⟩
theorem hid {p : Prop} (h : p) : Hid p := h
theorem Pt.begin {a3 : Option Addr} {n3 c3 : Nat} {code : Int} (cc : Nat) (a2 : Option Addr) (n2 c2 : Nat) (root : Int) (hB : B ≤ w.heap.size) (hrow : RowD w B (some ⟨b, o, none⟩) cs) (hr : XRep Gz w B (.slice a3 n3 c3) n3 code r) :
  ∃ W, Hid (((w.alloc (Obj.cells #[.slice (some ⟨b, o, none⟩) cs.length cc, .slice a2 n2 c2, .slice a3 n3 c3, .int .i64 root, .int .i64 code] 104)).alloc (Obj.cells #[.slice none 0 0, .slice none 0 0, .slice none 0 0, .int .i64 0, .int .i64 0] 104)) = W) ∧ Hid (Pt Gz w w W B b o cc cs a2 n2 c2 root (.slice a3 n3 c3) r) := ⟨_, rfl, Pt.start hB hrow hr⟩
end
section
variable {w wp W W' : World} {B b o cc : Nat} {cs : List Dat} {a2 : Option Addr} {n2 c2 : Nat} {root : Int} {v0 : Value} {r r' : Sx}
set_option maxRecDepth 100000 in
theorem l4Last_eq (a1 a2 a3 : Option Addr) (n1 n2 n3 c1 c2 c3 : Nat) (root code : Int) (w : World) (h3 : n3 ≤ 1048576) :
  Calls Try.prog 71 #[xV (.slice a1 n1 c1) (.slice a2 n2 c2) (.slice a3 n3 c3) root code] w fun e w' => e = .returned (.int .i64 ((n3 : Int) - 1)) ∧ w' = w.alloc (Obj.cells #[.slice a1 n1 c1, .slice a2 n2 c2, .slice a3 n3 c3, .int .i64 root, .int .i64 code] 104) := by
 unfold xV
 go_enter Try.func71, Try.ntmps71
 go_wp2
 go_ret
 exact ⟨rfl, rfl⟩
theorem Pt.below {a : Option Addr} {n c : Nat} {code : Int} (F : Fx Gz w W B b o cs v0 (.slice a n c) n code r) (hX : W.heap[w.heap.size]? = some (Obj.cells #[.slice (some ⟨b, o, none⟩) cs.length cc, .slice a2 n2 c2, .slice a n c, .int .i64 root, .int .i64 code] 104)) (hZ : W.heap[w.heap.size + 1]? = some (Obj.cells #[.slice none 0 0, .slice none 0 0, .slice none 0 0, .int .i64 0, .int .i64 0] 104)) (hK : KT wp W) (hb : Below W.heap.size W W') : Pt Gz w wp W' B b o cc cs a2 n2 c2 root v0 r :=
 ⟨a, n, c, code, F.below hb, (hb.block _ (alt hX)).trans hX, (hb.block _ (alt hZ)).trans hZ, hK.trans (KT.below hb)⟩
theorem Fx.last {v : Value} {n : Nat} {code : Int} (F : Fx Gz w W B b o cs v0 v n code r) : (n : Int) - 1 = lastN r := by rw [F.rep.1]; rfl
theorem Fx.n400 {v : Value} {n : Nat} {code : Int} (F : Fx Gz w W B b o cs v0 v n code r) : n ≤ 400 := by have := F.rep.1; have := F.rep.2.2.1; omega
theorem Pt.opn (h : Pt Gz w wp W B b o cc cs a2 n2 c2 root v0 r) : ∃ (a : Option Addr) (n c : Nat) (code : Int), Hid (Fx Gz w W B b o cs v0 (.slice a n c) n code r) ∧ Hid (W.heap[w.heap.size]? = some (Obj.cells #[.slice (some ⟨b, o, none⟩) cs.length cc, .slice a2 n2 c2, .slice a n c, .int .i64 root, .int .i64 code] 104)) ∧ Hid (W.heap[w.heap.size + 1]? = some (Obj.cells #[.slice none 0 0, .slice none 0 0, .slice none 0 0, .int .i64 0, .int .i64 0] 104)) ∧ KT wp W ∧ w.heap.size < W.heap.size ∧ w.heap.size + 1 < W.heap.size ∧ n ≤ 400 ∧ (W.cell? ⟨w.heap.size, 0, none⟩ = some (.slice (some ⟨b, o, none⟩) cs.length cc) ∧ W.cell? ⟨w.heap.size, 1, none⟩ = some (.slice a2 n2 c2) ∧ W.cell? ⟨w.heap.size, 2, none⟩ = some (.slice a n c) ∧ W.cell? ⟨w.heap.size, 3, none⟩ = some (.int .i64 root) ∧ W.cell? ⟨w.heap.size, 4, none⟩ = some (.int .i64 code) ∧ W.frozen? ⟨w.heap.size, 0, none⟩ = false ∧ W.frozen? ⟨w.heap.size, 1, none⟩ = false ∧ W.frozen? ⟨w.heap.size, 2, none⟩ = false ∧ W.frozen? ⟨w.heap.size, 3, none⟩ = false ∧ W.frozen? ⟨w.heap.size, 4, none⟩ = false) ∧ W.cell? ⟨w.heap.size + 1, 0, none⟩ = some (.slice none 0 0) ∧ W.cell? ⟨w.heap.size + 1, 1, none⟩ = some (.slice none 0 0) ∧ W.cell? ⟨w.heap.size + 1, 2, none⟩ = some (.slice none 0 0) ∧ W.cell? ⟨w.heap.size + 1, 3, none⟩ = some (.int .i64 0) ∧ W.cell? ⟨w.heap.size + 1, 4, none⟩ = some (.int .i64 0) ∧ W.frozen? ⟨w.heap.size + 1, 0, none⟩ = false ∧ W.frozen? ⟨w.heap.size + 1, 1, none⟩ = false ∧ W.frozen? ⟨w.heap.size + 1, 2, none⟩ = false ∧ W.frozen? ⟨w.heap.size + 1, 3, none⟩ = false ∧ W.frozen? ⟨w.heap.size + 1, 4, none⟩ = false := by
 obtain ⟨a, n, c, k, F, hX, hZ, hK⟩ := h
 exact ⟨a, n, c, k, F, hX, hZ, hK, (Array.getElem?_eq_some_iff.1 hX).1, (Array.getElem?_eq_some_iff.1 hZ).1, F.n400, cells5 hX, cells5 hZ⟩
theorem Fx.ret {a3 a a' : Option Addr} {n3 c3 n c n' c' : Nat} {code code' : Int} {z0 z1 z2 z3 z4 sc st : Value} (F : Fx Gz w W B b o cs (.slice a3 n3 c3) (.slice a n c) n code r) (hZ : W.heap[w.heap.size + 1]? = some (Obj.cells #[z0, z1, z2, z3, z4] 104)) (hx : XRep Gz W' B (.slice a' n' c') n' code' r') (hg : W.grownBy W' (Value.slice a n c).ownBlock) (hs : (Value.slice a' n' c').ownBlock = (Value.slice a n c).ownBlock ∨ ∀ k, (Value.slice a' n' c').ownBlock = some k → W.heap.size ≤ k) :
  XEnd Gz B sc st a3 n3 c3 root r' w (.returned (xV sc st (.slice a' n' c') root code')) (set5 W' (w.heap.size + 1) sc st (.slice a' n' c') (.int .i64 root) (.int .i64 code')) :=
 (F.call hg hs hx).done sc st (F.rep.kt hg (by decide) hZ) (by omega) _ _ _ _ _
end
def LC (B b o cc : Nat) (cs : List Dat) (a2 : Option Addr) (n2 c2 : Nat) (root : Int) (fn : Nat) (l : List Int) (F : Sx → Sx) : Prop :=
 ∀ (Gz : Nat → Prop) (W : World) (a3 : Option Addr) (n3 c3 : Nat) (code : Int) (r : Sx) (al : Option Addr) (cl : Nat), B ≤ W.heap.size → (∀ g, Gz g → g < W.heap.size) → RowD W B (some ⟨b, o, none⟩) cs → XRep Gz W B (.slice a3 n3 c3) n3 code r → l.length ≤ cl → RowT W al l →
  Calls Try.prog fn #[xV (.slice (some ⟨b, o, none⟩) cs.length cc) (.slice a2 n2 c2) (.slice a3 n3 c3) root code, .slice al l.length cl] W fun e w' => XEnd Gz B (.slice (some ⟨b, o, none⟩) cs.length cc) (.slice a2 n2 c2) a3 n3 c3 root (F r) W e w'
def FC (B b o cc : Nat) (cs : List Dat) (a2 : Option Addr) (n2 c2 : Nat) (root : Int) (fn : Nat) (i : Int) (F : Sx → Sx) : Prop :=
 ∀ (Gz : Nat → Prop) (W : World) (a3 : Option Addr) (n3 c3 : Nat) (code : Int) (r : Sx), B ≤ W.heap.size → (∀ g, Gz g → g < W.heap.size) → RowD W B (some ⟨b, o, none⟩) cs → XRep Gz W B (.slice a3 n3 c3) n3 code r →
  Calls Try.prog fn #[xV (.slice (some ⟨b, o, none⟩) cs.length cc) (.slice a2 n2 c2) (.slice a3 n3 c3) root code, .int .i64 i] W fun e w' => XEnd Gz B (.slice (some ⟨b, o, none⟩) cs.length cc) (.slice a2 n2 c2) a3 n3 c3 root (F r) W e w'
end Go.Proofs.Ytgjeefedcfakdaa
