/- Lookup: the model's and the program's. The law FnExactLookup walked: for whatever system the program and the model say the same, and the argument stays as it was. -/
import Derived.Test.YtmnkomgdcebniaaGreatLkb
import Derived.Test.YtmnkomgdcebniaaGreatLkr
import Derived.Test.YtmnkomgdcebniaaGreatSsd
import Derived.Test.YtmnkomgdcebniaaGreatSie
import Derived.Test.YtmnkomgdcebniaaGreatSyz
import Derived.Test.YtmnkomgdcebniaaGreatSyt
import Derived.Test.YtmnkomgdcebniaaGreatSye
import Derived.Test.YtmnkomgdcebniaaGreatSyf
import Derived.Test.YtmnkomgdcebniaaGreatEqc
import Derived.Deep.RegionWith
set_option linter.unusedVariables false
namespace Go.Proofs.YtmnkomgdcebniaaGreat
open Go.ChangeShapes Go.WideShapes Go.ChangeAt Go.RowKit
theorem allI_get {α : Type} {f : Nat → α → Bool} {l : List α} {n i : Nat} {x : α} (h : allI f l n = true) (hi : i < n) (hx : l[i]? = some x) : f i x = true := by
  cases hf : f i x with
  | true => rfl
  | false =>
    have := allI_false (f := f) (l := l) (k := i + 1) (by rw [allI_step hx, hf, Bool.and_false]) n (by omega)
    rw [this] at h
    cases h
theorem Sy.inst_ok {y : Sy} (h : y.ok = true) {x : Ins} (hx : x ∈ y.insts) : ∃ i, x.ok y.heap y.insts.length i = true := by
  obtain ⟨i, hi⟩ := List.getElem?_of_mem hx
  rw [Sy.ok_eq] at h
  simp only [Bool.and_eq_true] at h
  exact ⟨i, allI_get (f := fun i x => x.ok y.heap y.insts.length i) h.1.1.2 (List.getElem?_eq_some_iff.1 hi).1 hi⟩
theorem Sy.fits {y : Sy} (h : y.ok = true) : Fits y.insts := by
  intro x hx
  obtain ⟨i, hi⟩ := Sy.inst_ok h hx
  rw [Ins.ok_iff] at hi
  obtain ⟨_, _, h3, _, _, _, _, h8, _, _⟩ := hi
  refine ⟨h3, fun k hk => ?_⟩
  have := List.all_eq_true.1 h8 k hk
  unfold Lnk.ok at this
  simp only [Bool.and_eq_true, decide_eq_true_eq] at this
  exact this.1
theorem val0_of {v : Val} (h : v.zero = true) : v = val0 := by
  unfold Val.zero at h
  simp only [Bool.and_eq_true, decide_eq_true_eq] at h
  obtain ⟨⟨h1, h2⟩, h3⟩ := h
  obtain ⟨k, n, ⟨⟨s⟩⟩⟩ := v
  simp only at h1 h2 h3
  subst h1 h2
  rw [ByteArray.toList_eq] at h3
  simp at h3
  subst h3
  rfl
theorem lookI_pred {P : Val → Prop} {l : List Ins} (h0 : P val0) (hv : ∀ x ∈ l, ∀ v ∈ x.vals, P v) (i : Int) (s : ByteArray) : P (lookI l i s) := by
  unfold lookI
  split
  · unfold look
    split
    · exact h0
    · rename_i x hx
      have hx' := hv x (List.mem_of_getElem? hx)
      split
      · rename_i k hk
        cases hq : x.vals[k]? with
        | none => exact h0
        | some v => exact hx' v (List.mem_of_getElem? hq)
      · split
        · exact h0
        · split
          · exact h0
          · rename_i z hz
            have hz' := hv z (List.mem_of_getElem? hz)
            unfold Ins.own
            split
            · rename_i k hk
              cases hq : z.vals[k]? with
              | none => exact h0
              | some v => exact hz' v (List.mem_of_getElem? hq)
            · exact h0
  · exact h0
theorem lookI_okz {y : Sy} (h : y.ok = true) (i : Int) (s : ByteArray) : (lookI y.insts i s).okz y.heap = true :=
  lookI_pred (P := fun v => v.okz y.heap = true) (by simp [Val.okz, val0_zero]) (fun x hx v hv => by
    obtain ⟨j, hj⟩ := Sy.inst_ok h hx
    exact List.all_eq_true.1 (Ins.ok_iff.1 hj).2.2.2.2.2.1 v hv) i s
theorem lookI_small {y : Sy} (h : y.small) (i : Int) (s : ByteArray) : (lookI y.insts i s).s.size ≤ 1048576 :=
  lookI_pred (P := fun v => v.s.size ≤ 1048576) (by show (⟨#[]⟩ : ByteArray).size ≤ 1048576; decide) (fun x hx v hv => ((h.2.1.2 x hx).2.2.2.1.2 v hv).2.2) i s
theorem okz_kind {h : List Cel} {v : Val} (hz : v.okz h = true) (hk : v.k = 0) : v = val0 := by
  unfold Val.okz at hz
  cases hq : v.zero with
  | true => exact val0_of hq
  | false =>
    rw [hq, Bool.false_or] at hz
    unfold Val.ok at hz
    simp [hk] at hz
theorem kind_zero {v : Val} (hk : v.k ≠ 0) : v.zero = false := by
  unfold Val.zero
  simp [hk]
/-- What Lookup tells. -/
noncomputable def lookT (y : Sy) (i : Int) (s : ByteArray) : Val := if y.ok = true then lookI y.insts i s else val0
set_option maxRecDepth 100000 in
set_option maxHeartbeats 1000000 in
theorem specLookup_any (y : Sy) (y1 y2 y3 y4 : Option Addr) (d1 d2 d3 d4 : Nat) (i : Int) (s : ByteArray) (w : World) (hs : y.small) (hr : SyRows w (fun b => b < w.heap.size) y1 y2 y3 y4 d1 d2 d3 d4 y) (hfl : ∀ u ∈ y.units, (flat u.prog.nodes).length ≤ 1048576) :
    Calls Tryz.prog 13 #[.agg #[.slice y1 y.heap.length d1, .slice y2 y.insts.length d2, .slice y3 y.units.length d3, .slice y4 y.out.length d4], .int .i64 i, .string s] w fun e w' => Ans w (.tuple #[.agg #[.int .i64 (lookT y i s).k, .int .i64 (lookT y i s).n, .string (lookT y i s).s], .bool (!(lookT y i s).zero)]) e w' := by
  have hb0 : Below w.heap.size w ((w.alloc (Obj.cells #[.slice y1 y.heap.length d1, .slice y2 y.insts.length d2, .slice y3 y.units.length d3, .slice y4 y.out.length d4] 34)).alloc (Obj.cells #[.int .i64 0, .int .i64 0, .string ⟨#[]⟩] 39)) := ((Below.refl _ _).alloc (Nat.le_refl _) _).alloc (by simp) _
  have kY : ((w.alloc (Obj.cells #[.slice y1 y.heap.length d1, .slice y2 y.insts.length d2, .slice y3 y.units.length d3, .slice y4 y.out.length d4] 34)).alloc (Obj.cells #[.int .i64 0, .int .i64 0, .string ⟨#[]⟩] 39)).heap[w.heap.size]? = some (Obj.cells #[.slice y1 y.heap.length d1, .slice y2 y.insts.length d2, .slice y3 y.units.length d3, .slice y4 y.out.length d4] 34) := blk_past (blk_at _ _ _ rfl)
  have kR : ((w.alloc (Obj.cells #[.slice y1 y.heap.length d1, .slice y2 y.insts.length d2, .slice y3 y.units.length d3, .slice y4 y.out.length d4] 34)).alloc (Obj.cells #[.int .i64 0, .int .i64 0, .string ⟨#[]⟩] 39)).heap[w.heap.size + 1]? = some (Obj.cells #[.int .i64 0, .int .i64 0, .string ⟨#[]⟩] 39) := blk_at _ _ _ (by simp)
  have HRR : Hid (SyRows w (fun b => b < w.heap.size) y1 y2 y3 y4 d1 d2 d3 d4 y) := hr
  have HSS : Hid y.small := hs
  have now : ∀ w2, Below w.heap.size w w2 → SyRows w2 (fun b => b < w2.heap.size) y1 y2 y3 y4 d1 d2 d3 d4 y := fun w2 h2 => HRR.out.keep fun b hb => ⟨Nat.lt_of_lt_of_le hb h2.size, h2.block b hb⟩
  have HC : Hid (Calls Tryz.prog 9 #[.agg #[.slice y1 y.heap.length d1, .slice y2 y.insts.length d2, .slice y3 y.units.length d3, .slice y4 y.out.length d4]] ((w.alloc (Obj.cells #[.slice y1 y.heap.length d1, .slice y2 y.insts.length d2, .slice y3 y.units.length d3, .slice y4 y.out.length d4] 34)).alloc (Obj.cells #[.int .i64 0, .int .i64 0, .string ⟨#[]⟩] 39)) fun e w' => Ans ((w.alloc (Obj.cells #[.slice y1 y.heap.length d1, .slice y2 y.insts.length d2, .slice y3 y.units.length d3, .slice y4 y.out.length d4] 34)).alloc (Obj.cells #[.int .i64 0, .int .i64 0, .string ⟨#[]⟩] 39)) (.bool y.ok) e w') := specSys_any y y1 y2 y3 y4 d1 d2 d3 d4 _ hs (now _ hb0) hfl
  clear hs hr hfl
  go_enter Tryz.func13, Tryz.ntmps13
  go_wp2_with fail
  refine HC.out.mono ?_
  rintro e w1 ⟨rfl, hb1⟩
  have hb2 := hb0.trans (hb1.mono hb0.size)
  have kY1 := blk_keep kY hb1 (Array.getElem?_eq_some_iff.1 kY).1
  have kR1 := blk_keep kR hb1 (Array.getElem?_eq_some_iff.1 kR).1
  have e0 := cell_blk (j := 0) kY1 rfl
  have e1 := cell_blk (j := 1) kY1 rfl
  have e2 := cell_blk (j := 2) kY1 rfl
  have e3 := cell_blk (j := 3) kY1 rfl
  have q0 := cell_blk (j := 0) kR1 rfl
  have q1 := cell_blk (j := 1) kR1 rfl
  have q2 := cell_blk (j := 2) kR1 rfl
  have f0 := frozen_blk kR1 0
  have f1 := frozen_blk kR1 1
  have f2 := frozen_blk kR1 2
  have KR : Hid (w1.heap[w.heap.size + 1]? = some (Obj.cells #[.int .i64 0, .int .i64 0, .string ⟨#[]⟩] 39)) := kR1
  have KY : Hid (w1.heap[w.heap.size]? = some (Obj.cells #[.slice y1 y.heap.length d1, .slice y2 y.insts.length d2, .slice y3 y.units.length d3, .slice y4 y.out.length d4] 34)) := kY1
  have hRl : w.heap.size + 1 < w1.heap.size := (Array.getElem?_eq_some_iff.1 kR1).1
  clear kY kR kY1 kR1 HC hb0 hb1
  cases hok : y.ok
  · have HL : Hid (lookT y i s = val0) := by show _ = _; unfold lookT; rw [hok]; rfl
    clear hok now
    go_wp2_with fail
    refine bodyPost_ret (res_ct rfl _ _ (w.heap.size + 1) _ _ _ rfl (put39 _ _ _ KR.out)) rfl ?_
    exact ⟨by rw [HL.out, val0_zero]; rfl, put39_below hb2 (by simp) _ _ _⟩
  have HLT : Hid (lookT y i s = lookI y.insts i s) := by show _ = _; unfold lookT; rw [hok]; rfl
  by_cases h1 : i < 0
  · have g1 : decide (i < 0) = true := decide_eq_true h1
    have HL : Hid (lookT y i s = val0) := by show _ = _; rw [HLT.out]; unfold lookI; rw [if_neg (by omega)]
    clear hok now
    go_wp2_with fail
    refine bodyPost_ret (res_ct rfl _ _ (w.heap.size + 1) _ _ _ rfl (put39 _ _ _ KR.out)) rfl ?_
    exact ⟨by rw [HL.out, val0_zero]; rfl, put39_below hb2 (by simp) _ _ _⟩
  have g1 : decide (i < 0) = false := decide_eq_false h1
  obtain ⟨home, rfl⟩ : ∃ home : Nat, i = (home : Int) := ⟨i.toNat, by omega⟩
  by_cases h2 : (y.insts.length : Int) ≤ (home : Int)
  · have g2 : decide ((y.insts.length : Int) ≤ (home : Int)) = true := decide_eq_true h2
    have HL : Hid (lookT y home s = val0) := by
      show _ = _
      rw [HLT.out]
      unfold lookI look
      rw [if_pos (by omega), Int.toNat_natCast, List.getElem?_eq_none (by omega)]
    clear hok now
    go_wp2_with fail
    refine bodyPost_ret (res_ct rfl _ _ (w.heap.size + 1) _ _ _ rfl (put39 _ _ _ KR.out)) rfl ?_
    exact ⟨by rw [HL.out, val0_zero]; rfl, put39_below hb2 (by simp) _ _ _⟩
  have g2 : decide ((y.insts.length : Int) ≤ (home : Int)) = false := decide_eq_false h2
  have HL : Hid (lookT y home s = look y.insts home s) := by show _ = _; rw [HLT.out]; unfold lookI; rw [if_pos (by omega), Int.toNat_natCast]
  have HK : Hid (Calls Tryz.prog 48 #[.agg #[.slice y1 y.heap.length d1, .slice y2 y.insts.length d2, .slice y3 y.units.length d3, .slice y4 y.out.length d4], .int .i64 home, .string s] w1 fun e w' => Ans w1 (.tuple #[.agg #[.int .i64 (look y.insts home s).k, .int .i64 (look y.insts home s).n, .string (look y.insts home s).s], .bool (!(look y.insts home s).zero)]) e w') := l8Look_any y y1 y2 y3 y4 d1 d2 d3 d4 home s w1 (by omega) (Sy.fits hok) HSS.out (now _ hb2)
  clear hok now
  go_wp2_with fail
  refine HK.out.mono ?_
  rintro e w2 ⟨rfl, hb3⟩
  have kR2 := blk_keep KR.out hb3 hRl
  have q0 := cell_blk (j := 0) kR2 rfl
  have q1 := cell_blk (j := 1) kR2 rfl
  have q2 := cell_blk (j := 2) kR2 rfl
  have f0 := frozen_blk kR2 0
  have f1 := frozen_blk kR2 1
  have f2 := frozen_blk kR2 2
  have hb4 : Below w.heap.size w w2 := hb2.trans (hb3.mono hb2.size)
  have hRl2 : w.heap.size + 1 < w2.heap.size := (Array.getElem?_eq_some_iff.1 kR2).1
  have KR2 : Hid (w2.heap[w.heap.size + 1]? = some (Obj.cells #[.int .i64 0, .int .i64 0, .string ⟨#[]⟩] 39)) := kR2
  clear kR2 hb3 HK
  generalize look y.insts home s = v at *
  go_wp2_with fail
  refine bodyPost_ret (res_ct rfl _ _ (w.heap.size + 1) (.int .i64 v.k) (.int .i64 v.n) (.string v.s) rfl (blk_past (put39 _ _ _ KR2.out))) rfl ?_
  exact ⟨by rw [HL.out]; rfl, (put39_below hb4 (by simp) _ _ _).alloc (put39_below hb4 (by simp) _ _ _).size _⟩
set_option maxRecDepth 100000 in
set_option maxHeartbeats 1000000 in
theorem implLookup_any (y : Sy) (y1 y2 y3 y4 : Option Addr) (d1 d2 d3 d4 : Nat) (i : Int) (s : ByteArray) (w : World) (hi : i64B i) (hss : s.size ≤ 1048576) (hs : y.small) (hr : SyRows w (fun b => b < w.heap.size) y1 y2 y3 y4 d1 d2 d3 d4 y)
    (hold : ∀ (a : Option Addr) (c : Nat) (w1 : World), rgX.Row w1 (fun b => b < w1.heap.size) a y.insts → y.ok = true → Calls Tryz.prog 97 #[.slice a y.insts.length c] w1 fun e w' => HoldP y.insts w1 e w') :
    Calls Tryz.prog 14 #[.agg #[.slice y1 y.heap.length d1, .slice y2 y.insts.length d2, .slice y3 y.units.length d3, .slice y4 y.out.length d4], .int .i64 i, .string s] w fun e w' => Ans w (.tuple #[.agg #[.int .i64 (lookT y i s).k, .int .i64 (lookT y i s).n, .string (lookT y i s).s], .bool (!(lookT y i s).zero)]) e w' := by
  have HOLD : Hid (∀ (a : Option Addr) (c : Nat) (w1 : World), rgX.Row w1 (fun b => b < w1.heap.size) a y.insts → y.ok = true → Calls Tryz.prog 97 #[.slice a y.insts.length c] w1 fun e w' => HoldP y.insts w1 e w') := hold
  clear hold
  have hb0 : Below w.heap.size w ((w.alloc (Obj.cells #[.slice y1 y.heap.length d1, .slice y2 y.insts.length d2, .slice y3 y.units.length d3, .slice y4 y.out.length d4] 34)).alloc (Obj.cells #[.int .i64 0, .int .i64 0, .string ⟨#[]⟩] 39)) := ((Below.refl _ _).alloc (Nat.le_refl _) _).alloc (by simp) _
  have kY : ((w.alloc (Obj.cells #[.slice y1 y.heap.length d1, .slice y2 y.insts.length d2, .slice y3 y.units.length d3, .slice y4 y.out.length d4] 34)).alloc (Obj.cells #[.int .i64 0, .int .i64 0, .string ⟨#[]⟩] 39)).heap[w.heap.size]? = some (Obj.cells #[.slice y1 y.heap.length d1, .slice y2 y.insts.length d2, .slice y3 y.units.length d3, .slice y4 y.out.length d4] 34) := blk_past (blk_at _ _ _ rfl)
  have kR : ((w.alloc (Obj.cells #[.slice y1 y.heap.length d1, .slice y2 y.insts.length d2, .slice y3 y.units.length d3, .slice y4 y.out.length d4] 34)).alloc (Obj.cells #[.int .i64 0, .int .i64 0, .string ⟨#[]⟩] 39)).heap[w.heap.size + 1]? = some (Obj.cells #[.int .i64 0, .int .i64 0, .string ⟨#[]⟩] 39) := blk_at _ _ _ (by simp)
  have HRR : Hid (SyRows w (fun b => b < w.heap.size) y1 y2 y3 y4 d1 d2 d3 d4 y) := hr
  have HSS : Hid y.small := hs
  have now : ∀ w2, Below w.heap.size w w2 → SyRows w2 (fun b => b < w2.heap.size) y1 y2 y3 y4 d1 d2 d3 d4 y := fun w2 h2 => HRR.out.keep fun b hb => ⟨Nat.lt_of_lt_of_le hb h2.size, h2.block b hb⟩
  have HC : Hid (Calls Tryz.prog 11 #[.agg #[.slice y1 y.heap.length d1, .slice y2 y.insts.length d2, .slice y3 y.units.length d3, .slice y4 y.out.length d4]] ((w.alloc (Obj.cells #[.slice y1 y.heap.length d1, .slice y2 y.insts.length d2, .slice y3 y.units.length d3, .slice y4 y.out.length d4] 34)).alloc (Obj.cells #[.int .i64 0, .int .i64 0, .string ⟨#[]⟩] 39)) fun e w' => Ans ((w.alloc (Obj.cells #[.slice y1 y.heap.length d1, .slice y2 y.insts.length d2, .slice y3 y.units.length d3, .slice y4 y.out.length d4] 34)).alloc (Obj.cells #[.int .i64 0, .int .i64 0, .string ⟨#[]⟩] 39)) (.bool y.ok) e w') := implSys_any y y1 y2 y3 y4 d1 d2 d3 d4 _ hs (now _ hb0)
  clear hs hr
  go_enter Tryz.func14, Tryz.ntmps14
  go_wp2_with fail
  refine HC.out.mono ?_
  rintro e w1 ⟨rfl, hb1⟩
  have hb2 := hb0.trans (hb1.mono hb0.size)
  have kY1 := blk_keep kY hb1 (Array.getElem?_eq_some_iff.1 kY).1
  have kR1 := blk_keep kR hb1 (Array.getElem?_eq_some_iff.1 kR).1
  have e0 := cell_blk (j := 0) kY1 rfl
  have e1 := cell_blk (j := 1) kY1 rfl
  have e2 := cell_blk (j := 2) kY1 rfl
  have e3 := cell_blk (j := 3) kY1 rfl
  have q0 := cell_blk (j := 0) kR1 rfl
  have q1 := cell_blk (j := 1) kR1 rfl
  have q2 := cell_blk (j := 2) kR1 rfl
  have f0 := frozen_blk kR1 0
  have f1 := frozen_blk kR1 1
  have f2 := frozen_blk kR1 2
  have KR : Hid (w1.heap[w.heap.size + 1]? = some (Obj.cells #[.int .i64 0, .int .i64 0, .string ⟨#[]⟩] 39)) := kR1
  have KY : Hid (w1.heap[w.heap.size]? = some (Obj.cells #[.slice y1 y.heap.length d1, .slice y2 y.insts.length d2, .slice y3 y.units.length d3, .slice y4 y.out.length d4] 34)) := kY1
  have hRl : w.heap.size + 1 < w1.heap.size := (Array.getElem?_eq_some_iff.1 kR1).1
  clear kY kR kY1 kR1 HC hb0 hb1
  cases hok : y.ok
  · have HL : Hid (lookT y i s = val0) := by show _ = _; unfold lookT; rw [hok]; rfl
    clear hok now
    go_wp2_with fail
    refine bodyPost_ret (res_ct rfl _ _ (w.heap.size + 1) _ _ _ rfl (put39 _ _ _ KR.out)) rfl ?_
    exact ⟨by rw [HL.out, val0_zero]; rfl, put39_below hb2 (by simp) _ _ _⟩
  have HLT : Hid (lookT y i s = lookI y.insts i s) := by show _ = _; unfold lookT; rw [hok]; rfl
  have HOKZ : Hid ((lookI y.insts i s).okz y.heap = true) := lookI_okz hok i s
  have hnw := now _ hb2
  have HF : Hid (Calls Tryz.prog 49 #[.slice y2 y.insts.length d2, .int .i64 i, .string s] w1 fun e w' => FindP y.insts i s w1 e w') := find_any y2 y.insts d2 i s w1 hi hss HSS.out.2.1.2 (fun x hx k hk => ((Sy.fits hok x hx).2 k hk).1) (HOLD.out y2 d2 w1 hnw.2.1.1 hok)
  clear hok now hnw HOLD
  go_wp2_with fail
  refine HF.out.mono ?_
  rintro e w2 ⟨hcase, hb3⟩
  have kR2 := blk_keep KR.out hb3 hRl
  have q0 := cell_blk (j := 0) kR2 rfl
  have q1 := cell_blk (j := 1) kR2 rfl
  have q2 := cell_blk (j := 2) kR2 rfl
  have f0 := frozen_blk kR2 0
  have f1 := frozen_blk kR2 1
  have f2 := frozen_blk kR2 2
  have hb4 : Below w.heap.size w w2 := hb2.trans (hb3.mono hb2.size)
  have hRl2 : w.heap.size + 1 < w2.heap.size := (Array.getElem?_eq_some_iff.1 kR2).1
  have KR2 : Hid (w2.heap[w.heap.size + 1]? = some (Obj.cells #[.int .i64 0, .int .i64 0, .string ⟨#[]⟩] 39)) := kR2
  clear kR2 hb3 HF
  rcases hcase with ⟨rfl, h0⟩ | ⟨b, o, rfl, hbl, v0, v1, v2⟩
  · have HL : Hid (lookT y i s = val0) := by show _ = _; rw [HLT.out, h0]
    clear h0
    go_wp2_with fail
    refine bodyPost_ret (res_ct rfl _ _ (w.heap.size + 1) _ _ _ rfl (put39 _ _ _ KR2.out)) rfl ?_
    exact ⟨by rw [HL.out, val0_zero]; rfl, put39_below hb4 (by simp) _ _ _⟩
  · have HQ := HOKZ
    have HSZ : Hid ((lookI y.insts i s).s.size ≤ 1048576) := lookI_small HSS.out i s
    generalize lookI y.insts i s = v at *
    clear HOKZ
    by_cases hk : v.k = 0
    · have HV : Hid (v = val0) := okz_kind HQ.out hk
      have HL : Hid (lookT y i s = val0) := by show _ = _; rw [HLT.out, HV.out]
      clear HLT HSZ HQ
      obtain ⟨vk, vn, vs⟩ := v
      simp only at hk v0 v1 v2
      subst hk
      clear HV
      go_wp2_with fail
      refine bodyPost_ret (res_ct rfl _ _ (w.heap.size + 1) _ _ _ rfl (put39 _ _ _ KR2.out)) rfl ?_
      exact ⟨by rw [HL.out, val0_zero]; rfl, put39_below hb4 (by simp) _ _ _⟩
    · have gk : (v.k == 0) = false := beq_eq_false_iff_ne.2 hk
      have HZ : Hid (v.zero = false) := kind_zero hk
      have HCV : Hid (Calls Tryz.prog 50 #[.agg #[.int .i64 v.k, .int .i64 v.n, .string v.s]] w2 fun e w' => Ans w2 (.agg #[.int .i64 v.k, .int .i64 v.n, .string v.s]) e w') := copyValue_any v w2 HSZ.out
      clear hk HSZ HQ
      go_wp2_with fail
      refine HCV.out.mono ?_
      rintro e w3 ⟨rfl, hb5⟩
      have kR3 := blk_keep KR2.out hb5 hRl2
      have q0 := cell_blk (j := 0) kR3 rfl
      have q1 := cell_blk (j := 1) kR3 rfl
      have q2 := cell_blk (j := 2) kR3 rfl
      have f0 := frozen_blk kR3 0
      have f1 := frozen_blk kR3 1
      have f2 := frozen_blk kR3 2
      have KR3 : Hid (w3.heap[w.heap.size + 1]? = some (Obj.cells #[.int .i64 0, .int .i64 0, .string ⟨#[]⟩] 39)) := kR3
      have hb6 : Below w.heap.size w w3 := hb4.trans (hb5.mono hb4.size)
      clear kR3 hb5 HCV v0 v1 v2
      go_wp2_with fail
      refine bodyPost_ret (res_ct rfl _ _ (w.heap.size + 1) _ _ _ rfl (put39 _ _ _ KR3.out)) rfl ?_
      exact ⟨by rw [HLT.out, HZ.out]; rfl, put39_below hb6 (by simp) _ _ _⟩
end Go.Proofs.YtmnkomgdcebniaaGreat
set_option linter.unusedVariables false
namespace Go.Proofs.YtmnkomgdcebniaaGreat
open Go.ChangeShapes Go.WideShapes Go.ChangeAt Go.RowKit
namespace fnExactLookup
set_option maxRecDepth 100000 in
set_option maxHeartbeats 4000000 in
theorem walk (y : Sy) (a1 a2 a3 a4 : Option Addr) (c1 c2 c3 c4 : Nat) (i : Int) (s : ByteArray) (w : World) (hi : i64B i) (hsw : s.size ≤ 9223372036854775807) (hwf : y.wf) (hr : SyRows w (fun b => b < w.heap.size) a1 a2 a3 a4 c1 c2 c3 c4 y)
    (hold : y.small → ∀ (a : Option Addr) (c : Nat) (w1 : World), rgX.Row w1 (fun b => b < w1.heap.size) a y.insts → y.ok = true → Calls Tryz.prog 97 #[.slice a y.insts.length c] w1 fun e w' => HoldP y.insts w1 e w') :
    Calls Tryz.prog 4 #[.agg #[.slice a1 y.heap.length c1, .slice a2 y.insts.length c2, .slice a3 y.units.length c3, .slice a4 y.out.length c4], .int .i64 i, .string s] w fun e w' => Ans w (.bool true) e w' := by
  have HR : Hid (SyRows w (fun b => b < w.heap.size) a1 a2 a3 a4 c1 c2 c3 c4 y) := hr
  have now : ∀ w2, Below w.heap.size w w2 → SyRows w2 (fun b => b < w2.heap.size) a1 a2 a3 a4 c1 c2 c3 c4 y := fun w2 h2 => HR.out.keep fun b hb => ⟨Nat.lt_of_lt_of_le hb h2.size, h2.block b hb⟩
  have HZ : Hid (∀ w1, Below w.heap.size w w1 → Calls Tryz.prog 8 #[.agg #[.slice a1 y.heap.length c1, .slice a2 y.insts.length c2, .slice a3 y.units.length c3, .slice a4 y.out.length c4], .int .i64 1048576] w1 fun e w' => Ans w1 (.int .i64 (leftOf 1048576 y.bulk)) e w') := fun w1 h => szE_Sys y a1 a2 a3 a4 c1 c2 c3 c4 1048576 w1 (by omega) hwf (now w1 h)
  have hb0 : Below w.heap.size w (w.alloc (Obj.cells #[.slice a1 y.heap.length c1, .slice a2 y.insts.length c2, .slice a3 y.units.length c3, .slice a4 y.out.length c4] 27)) := (Below.refl _ _).alloc (Nat.le_refl _) _
  by_cases hsz : 1048576 < s.size
  · have g0 : decide ((1048576 : Int) < (s.size : Int)) = true := by simp; omega
    clear hr hwf now HR HZ hold
    go_enter Tryz.func4, Tryz.ntmps4
    go_wp2
    go_ret
    exact ⟨rfl, hb0⟩
  have g0 : decide ((1048576 : Int) < (s.size : Int)) = false := by simp; omega
  have hss : s.size ≤ 1048576 := by omega
  by_cases hbk : 1048576 < y.bulk
  · rw [leftOf_neg hbk] at HZ
    clear hr hwf now HR hold
    go_enter Tryz.func4, Tryz.ntmps4
    go_wp2_with fail
    refine (HZ.out _ hb0).mono ?_
    rintro e w1 ⟨rfl, hb1⟩
    have hb2 := hb0.trans (hb1.mono hb0.size)
    go_wp2
    go_ret
    exact ⟨rfl, hb2⟩
  · have hbk' : y.bulk ≤ 1048576 := by omega
    have hsm := Sy.small_of hwf hbk'
    have hfl := Sy.flat_of hbk'
    rw [leftOf_nat hbk] at HZ
    generalize 1048576 - y.bulk = q at *
    have HTO : Hid (∀ w1, Below w.heap.size w w1 → Calls Tryz.prog 10 #[.agg #[.slice a1 y.heap.length c1, .slice a2 y.insts.length c2, .slice a3 y.units.length c3, .slice a4 y.out.length c4]] w1 fun e w' => MadeE rgY y w1 e w') := fun w1 h => toE_Sys y a1 a2 a3 a4 c1 c2 c3 c4 w1 hsm (now w1 h)
    obtain ⟨v, hvv⟩ : ∃ v, lookT y i s = v := ⟨_, rfl⟩
    have HEV : Hid (∀ w1, Calls Tryz.prog 15 #[.agg #[.int .i64 v.k, .int .i64 v.n, .string v.s], .agg #[.int .i64 v.k, .int .i64 v.n, .string v.s]] w1 fun e w' => Ans w1 (.bool true) e w') := fun w1 => eqValue_same v w1
    have HSP : Hid (∀ (ap1 ap2 ap3 ap4 : Option Addr) (cp1 cp2 cp3 cp4 : Nat) (w1 : World), SyRows w1 (fun b => b < w1.heap.size) ap1 ap2 ap3 ap4 cp1 cp2 cp3 cp4 y → Calls Tryz.prog 13 #[.agg #[.slice ap1 y.heap.length cp1, .slice ap2 y.insts.length cp2, .slice ap3 y.units.length cp3, .slice ap4 y.out.length cp4], .int .i64 i, .string s] w1 fun e w' => Ans w1 (.tuple #[.agg #[.int .i64 v.k, .int .i64 v.n, .string v.s], .bool (!v.zero)]) e w') := fun ap1 ap2 ap3 ap4 cp1 cp2 cp3 cp4 w1 h1 => hvv ▸ specLookup_any y ap1 ap2 ap3 ap4 cp1 cp2 cp3 cp4 i s w1 hsm h1 hfl
    have HIM : Hid (∀ (ap1 ap2 ap3 ap4 : Option Addr) (cp1 cp2 cp3 cp4 : Nat) (w1 : World), SyRows w1 (fun b => b < w1.heap.size) ap1 ap2 ap3 ap4 cp1 cp2 cp3 cp4 y → Calls Tryz.prog 14 #[.agg #[.slice ap1 y.heap.length cp1, .slice ap2 y.insts.length cp2, .slice ap3 y.units.length cp3, .slice ap4 y.out.length cp4], .int .i64 i, .string s] w1 fun e w' => Ans w1 (.tuple #[.agg #[.int .i64 v.k, .int .i64 v.n, .string v.s], .bool (!v.zero)]) e w') := fun ap1 ap2 ap3 ap4 cp1 cp2 cp3 cp4 w1 h1 => hvv ▸ implLookup_any y ap1 ap2 ap3 ap4 cp1 cp2 cp3 cp4 i s w1 hi hss hsm h1 (hold hsm)
    have HEQ : Hid (∀ (ap1 ap2 ap3 ap4 : Option Addr) (cp1 cp2 cp3 cp4 : Nat) (ar1 ar2 ar3 ar4 : Option Addr) (cr1 cr2 cr3 cr4 : Nat) (w1 : World), SyRows w1 (fun b => b < w1.heap.size) ap1 ap2 ap3 ap4 cp1 cp2 cp3 cp4 y → SyRows w1 (fun b => b < w1.heap.size) ar1 ar2 ar3 ar4 cr1 cr2 cr3 cr4 y → Calls Tryz.prog 12 #[.agg #[.slice ap1 y.heap.length cp1, .slice ap2 y.insts.length cp2, .slice ap3 y.units.length cp3, .slice ap4 y.out.length cp4], .agg #[.slice ar1 y.heap.length cr1, .slice ar2 y.insts.length cr2, .slice ar3 y.units.length cr3, .slice ar4 y.out.length cr4]] w1 fun e w' => Ans w1 (.bool true) e w') := fun ap1 ap2 ap3 ap4 cp1 cp2 cp3 cp4 ar1 ar2 ar3 ar4 cr1 cr2 cr3 cr4 w1 h1 h2 => eqE_Sys y ap1 ap2 ap3 ap4 cp1 cp2 cp3 cp4 ar1 ar2 ar3 ar4 cr1 cr2 cr3 cr4 w1 hsm h1 h2
    clear hr hwf hbk hbk' hsm hfl now HR hold hvv
    go_enter Tryz.func4, Tryz.ntmps4
    go_wp2_with fail
    refine (HZ.out _ hb0).mono ?_
    rintro e w1 ⟨rfl, hb1⟩
    have hk1 := blk_keep (blk_alloc w (Obj.cells #[.slice a1 y.heap.length c1, .slice a2 y.insts.length c2, .slice a3 y.units.length c3, .slice a4 y.out.length c4] 27)) hb1 (by simp)
    have hb2 := hb0.trans (hb1.mono hb0.size)
    have e0 := cell_blk (j := 0) hk1 rfl
    have e1 := cell_blk (j := 1) hk1 rfl
    have e2 := cell_blk (j := 2) hk1 rfl
    have e3 := cell_blk (j := 3) hk1 rfl
    have HK1 : Hid (w1.heap[w.heap.size]? = some (Obj.cells #[.slice a1 y.heap.length c1, .slice a2 y.insts.length c2, .slice a3 y.units.length c3, .slice a4 y.out.length c4] 27)) := hk1
    have hs1 : w.heap.size < w1.heap.size := (Array.getElem?_eq_some_iff.1 hk1).1
    clear hb0 hb1 hk1
    go_wp2_with fail
    refine (HTO.out _ hb2).mono ?_
    rintro e w2 ⟨cs, rfl, ⟨ap1, ap2, ap3, ap4, cp1, cp2, cp3, cp4, rfl, hrd2⟩, hb3⟩
    have hb4 := hb2.trans (hb3.mono hb2.size)
    have HK2 : Hid (w2.heap[w.heap.size]? = some (Obj.cells #[.slice a1 y.heap.length c1, .slice a2 y.insts.length c2, .slice a3 y.units.length c3, .slice a4 y.out.length c4] 27)) := blk_keep HK1.out hb3 hs1
    have hrd2' : SyRows w2 (fun b => b < w2.heap.size) ap1 ap2 ap3 ap4 cp1 cp2 cp3 cp4 y := hrd2.keep fun b hb => ⟨hb.2, rfl⟩
    clear e0 e1 e2 e3 hrd2
    go_wp2_with fail
    refine (HSP.out _ _ _ _ _ _ _ _ _ hrd2').mono ?_
    clear hrd2'
    rintro e w3 ⟨rfl, hb5⟩
    have hb6 := hb4.trans (hb5.mono hb4.size)
    have hs2 := hb3.size
    have hk3 := blk_keep HK2.out hb5 (by omega)
    have hw3 : w.heap.size < w3.heap.size := (Array.getElem?_eq_some_iff.1 hk3).1
    have HK3 : Hid (w3.heap[w.heap.size]? = some (Obj.cells #[.slice a1 y.heap.length c1, .slice a2 y.insts.length c2, .slice a3 y.units.length c3, .slice a4 y.out.length c4] 27)) := hk3
    have e0 := cell_blk (j := 0) hk3 rfl
    have e1 := cell_blk (j := 1) hk3 rfl
    have e2 := cell_blk (j := 2) hk3 rfl
    have e3 := cell_blk (j := 3) hk3 rfl
    clear hk3 hb3 hb5 hb2 hb4
    go_wp2_with fail
    have hb6v : Below w.heap.size w (w3.alloc (Obj.cells #[.int .i64 v.k, .int .i64 v.n, .string v.s] 39)) := hb6.alloc hb6.size _
    have HV3 : Hid ((w3.alloc (Obj.cells #[.int .i64 v.k, .int .i64 v.n, .string v.s] 39)).heap[w3.heap.size]? = some (Obj.cells #[.int .i64 v.k, .int .i64 v.n, .string v.s] 39)) := blk_at _ _ _ rfl
    have HK3v : Hid ((w3.alloc (Obj.cells #[.int .i64 v.k, .int .i64 v.n, .string v.s] 39)).heap[w.heap.size]? = some (Obj.cells #[.slice a1 y.heap.length c1, .slice a2 y.insts.length c2, .slice a3 y.units.length c3, .slice a4 y.out.length c4] 27)) := blk_past HK3.out
    have hsv : w3.heap.size < (w3.alloc (Obj.cells #[.int .i64 v.k, .int .i64 v.n, .string v.s] 39)).heap.size := by simp
    generalize w3.alloc (Obj.cells #[.int .i64 v.k, .int .i64 v.n, .string v.s] 39) = w3v at *
    refine (HTO.out _ hb6v).mono ?_
    rintro e w4 ⟨cs, rfl, ⟨ar1, ar2, ar3, ar4, cr1, cr2, cr3, cr4, rfl, hrd4⟩, hb7⟩
    have hb8 := hb6v.trans (hb7.mono hb6v.size)
    have hs4 := hb7.size
    have hs3 : w.heap.size < w3v.heap.size := (Array.getElem?_eq_some_iff.1 HK3v.out).1
    have HV4 : Hid (w4.heap[w3.heap.size]? = some (Obj.cells #[.int .i64 v.k, .int .i64 v.n, .string v.s] 39)) := blk_keep HV3.out hb7 hsv
    have HK4 : Hid (w4.heap[w.heap.size]? = some (Obj.cells #[.slice a1 y.heap.length c1, .slice a2 y.insts.length c2, .slice a3 y.units.length c3, .slice a4 y.out.length c4] 27)) := blk_keep HK3v.out hb7 hs3
    have HRD : Hid (SyRows w4 (fun b => b < w4.heap.size) ar1 ar2 ar3 ar4 cr1 cr2 cr3 cr4 y) := hrd4.keep fun b hb => ⟨hb.2, rfl⟩
    clear e0 e1 e2 e3 hb6 hb6v hb7 hrd4 HK3 HK3v HK2 HK1 HV3
    go_wp2_with fail
    have hb9 : Below w4.heap.size w4 (w4.alloc (Obj.cells #[.slice ar1 y.heap.length cr1, .slice ar2 y.insts.length cr2, .slice ar3 y.units.length cr3, .slice ar4 y.out.length cr4] 34)) := (Below.refl _ _).alloc (Nat.le_refl _) _
    have hb10 := hb8.trans (hb9.mono hb8.size)
    refine (HIM.out _ _ _ _ _ _ _ _ _ (HRD.out.keep fun b hb => ⟨Nat.lt_of_lt_of_le hb hb9.size, hb9.block b hb⟩)).mono ?_
    rintro e w5 ⟨rfl, hb11⟩
    have hb12 : Below w4.heap.size w4 w5 := hb9.trans (hb11.mono hb9.size)
    have hb13 := hb10.trans (hb11.mono hb10.size)
    have hk5 := blk_keep HK4.out hb12 (by omega)
    have hx5 := blk_keep (blk_alloc w4 (Obj.cells #[.slice ar1 y.heap.length cr1, .slice ar2 y.insts.length cr2, .slice ar3 y.units.length cr3, .slice ar4 y.out.length cr4] 34)) hb11 (by simp)
    have HD5 : Hid (SyRows w5 (fun b => b < w4.heap.size) ar1 ar2 ar3 ar4 cr1 cr2 cr3 cr4 y) := HRD.out.keep fun b hb => ⟨hb, hb12.block b hb⟩
    have e0 := cell_blk (j := 0) hk5 rfl
    have e1 := cell_blk (j := 1) hk5 rfl
    have e2 := cell_blk (j := 2) hk5 rfl
    have e3 := cell_blk (j := 3) hk5 rfl
    have x0 := cell_blk (j := 0) hx5 rfl
    have x1 := cell_blk (j := 1) hx5 rfl
    have x2 := cell_blk (j := 2) hx5 rfl
    have x3 := cell_blk (j := 3) hx5 rfl
    have hv5 := blk_keep HV4.out hb12 (by omega)
    have v0 := cell_blk (j := 0) hv5 rfl
    have v1 := cell_blk (j := 1) hv5 rfl
    have v2 := cell_blk (j := 2) hv5 rfl
    have hw35 : w3.heap.size < w5.heap.size := (Array.getElem?_eq_some_iff.1 hv5).1
    have HK5 : Hid (w5.heap[w.heap.size]? = some (Obj.cells #[.slice a1 y.heap.length c1, .slice a2 y.insts.length c2, .slice a3 y.units.length c3, .slice a4 y.out.length c4] 27)) := hk5
    have HX5 : Hid (w5.heap[w4.heap.size]? = some (Obj.cells #[.slice ar1 y.heap.length cr1, .slice ar2 y.insts.length cr2, .slice ar3 y.units.length cr3, .slice ar4 y.out.length cr4] 34)) := hx5
    have hs5 : w4.heap.size < w5.heap.size := (Array.getElem?_eq_some_iff.1 hx5).1
    clear hb8 hb9 hb10 hb11 hb12 hk5 hx5 hv5 HRD HK4 HV4
    go_wp2_with fail
    refine (HEV.out _).mono ?_
    rintro e w5b ⟨rfl, hb13b⟩
    have hbA : Below w5.heap.size w5 (w5.alloc (Obj.cells #[.int .i64 v.k, .int .i64 v.n, .string v.s] 39)) := (Below.refl _ _).alloc (Nat.le_refl _) _
    have hbB : Below w5.heap.size w5 w5b := hbA.trans (hb13b.mono hbA.size)
    have hb13' : Below w.heap.size w w5b := hb13.trans (hbB.mono hb13.size)
    have hk6 := blk_keep HK5.out hbB (by omega)
    have hx6b := blk_keep HX5.out hbB hs5
    have HD6 : Hid (SyRows w5b (fun b => b < w4.heap.size) ar1 ar2 ar3 ar4 cr1 cr2 cr3 cr4 y) := HD5.out.keep fun b hb => ⟨hb, hbB.block b (by omega)⟩
    clear e0 e1 e2 e3 x0 x1 x2 x3 v0 v1 v2
    have e0 := cell_blk (j := 0) hk6 rfl
    have e1 := cell_blk (j := 1) hk6 rfl
    have e2 := cell_blk (j := 2) hk6 rfl
    have e3 := cell_blk (j := 3) hk6 rfl
    have x0 := cell_blk (j := 0) hx6b rfl
    have x1 := cell_blk (j := 1) hx6b rfl
    have x2 := cell_blk (j := 2) hx6b rfl
    have x3 := cell_blk (j := 3) hx6b rfl
    have HX6 : Hid (w5b.heap[w4.heap.size]? = some (Obj.cells #[.slice ar1 y.heap.length cr1, .slice ar2 y.insts.length cr2, .slice ar3 y.units.length cr3, .slice ar4 y.out.length cr4] 34)) := hx6b
    have hs5b : w4.heap.size < w5b.heap.size := (Array.getElem?_eq_some_iff.1 hx6b).1
    clear hk6 hx6b hbA hbB hb13b hb13 HX5 HD5 HK5
    go_wp2_with fail
    go_region_with (first
      | (go_at_call 10; refine (HTO.out _ ?_).mono ?_; exact below_drewN hb13' _; rintro e w6 ⟨cs, rfl, ⟨at1, at2, at3, at4, ct1, ct2, ct3, ct4, rfl, hrd6⟩, hb14⟩; have hx6 : w6.heap[w4.heap.size]? = some (Obj.cells #[.slice ar1 y.heap.length cr1, .slice ar2 y.insts.length cr2, .slice ar3 y.units.length cr3, .slice ar4 y.out.length cr4] 34) := (hb14.block _ hs5b).trans HX6.out; have y0 := cell_blk (j := 0) hx6 rfl; have y1 := cell_blk (j := 1) hx6 rfl; have y2 := cell_blk (j := 2) hx6 rfl; have y3 := cell_blk (j := 3) hx6 rfl; have hrd6' : SyRows w6 (fun b => b < w6.heap.size) at1 at2 at3 at4 ct1 ct2 ct3 ct4 y := hrd6.keep (fun b hb => ⟨hb.2, rfl⟩); have hd6 : SyRows w6 (fun b => b < w6.heap.size) ar1 ar2 ar3 ar4 cr1 cr2 cr3 cr4 y := HD6.out.keep (fun b hb => ⟨Nat.lt_of_lt_of_le hb (Nat.le_trans (Nat.le_of_lt hs5b) hb14.size), hb14.block b (Nat.lt_trans hb hs5b)⟩))
      | (go_at_call 12; refine (HEQ.out _ _ _ _ _ _ _ _ _ _ _ _ _ _ _ _ _ ?_ ?_).mono ?_; exact hd6; exact hrd6'; rintro e w7 ⟨rfl, hb15⟩))
    all_goals
      have hb16 : Below w.heap.size w w7 := ((below_drewN hb13' _).trans (hb14.mono hb13'.size)).trans (hb15.mono (Nat.le_trans hb13'.size hb14.size))
      go_wp2
      go_ret
      exact ⟨rfl, hb16⟩
end fnExactLookup
end Go.Proofs.YtmnkomgdcebniaaGreat
