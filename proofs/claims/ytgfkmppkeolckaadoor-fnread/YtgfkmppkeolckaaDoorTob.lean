/- Data that come in, copied: ints, and the whole. -/
import Derived.Test.YtgfkmppkeolckaaDoorToa
namespace Go.Proofs.YtgfkmppkeolckaaDoor
open Go.ChangeShapes Go.WideShapes Go.ChangeAt Go.RowKit
theorem Tryd.info3 : (Tryd.prog.info? 3).map (fun i => (i.zero, i.size, i.bytes)) = some (some (.int .i64 0), 1, 8) := by kernel_rfl
set_option maxRecDepth 100000 in
set_option maxHeartbeats 1000000 in
theorem toIntS_any (a : Option Addr) (ts : List Int) (cap : Nat) (w : World) (hn : ts.length ≤ 1048576) (hr : RowI w w.heap.size a ts) :
    Calls Tryd.prog 43 #[.slice a ts.length cap] w fun e w' => ∃ g, e = .returned (.slice (some ⟨g, 0, none⟩) ts.length ts.length) ∧ w.heap.size ≤ g ∧ RowI w' w'.heap.size (some ⟨g, 0, none⟩) ts ∧ Below w.heap.size w w' := by
  obtain ⟨i0, hi, hz0, hz1, hz2⟩ := info_parts Tryd.info3
  have HR : Hid (RowI w w.heap.size a ts) := hr
  clear hr
  go_enter Tryd.func43, Tryd.ntmps43
  go_wp2_with (at_make; refine wpList_make_full _ rfl _ _ 26 rfl w.heap.size 3 i0 _ 1 Tryd.underlying26 hi hz0 hz1 .i64 .i64 _ _ ts.length rfl rfl rfl rfl ?c1 ?c2 ?c3 ?_)
  case c1 => rw [hz2]; omega
  case c2 => simp [maxLen]; omega
  case c3 => exact Nat.le_refl _
  intro w1 hown1 hgr1
  go_wp2
  have hb1 : Below w.heap.size w w1 := (Below.refl _ _).grown hgr1 (Nat.le_refl _) (fun _ h => by cases h)
  obtain ⟨hlen, ⟨h0, _⟩ | ⟨g, cp, cur, hv, _, hblk, _, _, hcs, _⟩⟩ := hown1
  · cases h0
  simp only [Value.slice.injEq, Option.some.injEq, Addr.mk.injEq] at hv
  obtain ⟨⟨rfl, _⟩, _, rfl⟩ := hv
  clear hlen
  go_loopw [4] (fun o wr => ∃ (i : Nat) (cur : Array Value), i ≤ ts.length ∧ wr.heap[w.heap.size]? = some (.cells cur 3 (0, 0)) ∧ cur.size = ts.length ∧ (∀ j x, j < i → ts[j]? = some x → cur[j]? = some (.int .i64 x)) ∧ o = .int .i64 i ∧ Below w.heap.size w wr)
    (fun o _ => ts.length - (intOf o).toNat)
  case atStart => exact ⟨0, cur, by omega, hblk, by omega, fun j d h => absurd h (by omega), rfl, hb1⟩
  case round =>
    clear hblk hcs hb1 hgr1
    obtain ⟨i, cur, hi, hblk, hcs, hat, rfl, hb⟩ := hrel
    by_cases hlt : i < ts.length
    · obtain ⟨d, hd⟩ : ∃ d, ts[i]? = some d := ⟨_, List.getElem?_eq_getElem hlt⟩
      obtain ⟨b, o, rfl, hbb, c0⟩ := (HR.out.below hb) i d hd
      have HA : Hid (∀ j x, j < i → ts[j]? = some x → cur[j]? = some (.int .i64 x)) := hat
      have HK : Hid (wr.heap[w.heap.size]? = some (.cells cur 3 (0, 0))) := hblk
      have f0 := frozen_blk hblk i
      obtain ⟨x0, e0⟩ := cell_blk' hblk i (by omega)
      clear hat hblk
      go_wp2
      go_roundw
      case rel =>
        refine ⟨i + 1, _, by omega, heap_setCell_same _ _ _ _ _ _ HK.out, by simp; omega, fun j x hj hx => ?_, by go_num, hb.setCell (p := ⟨_, _, none⟩) (Nat.le_refl _) _⟩
        rw [Array.getElem?_setIfInBounds]
        by_cases hji : i = j
        · subst hji
          obtain rfl : d = x := Option.some.inj (hd.symm.trans hx)
          rw [if_pos rfl, if_pos (by omega)]
        · rw [if_neg hji]
          exact HA.out j x (by omega) hx
      case measure => simp [intOf]; omega
    · have hlt' : decide ((i : Int) < (ts.length : Int)) = false := by simp; omega
      obtain rfl : i = ts.length := by omega
      have HA : Hid (∀ j x, j < ts.length → ts[j]? = some x → cur[j]? = some (.int .i64 x)) := hat
      have HK : Hid (wr.heap[w.heap.size]? = some (.cells cur 3 (0, 0))) := hblk
      clear hat hblk
      go_wp2
      go_ret
      refine ⟨w.heap.size, rfl, Nat.le_refl _, ?_, hb⟩
      intro j d hj
      have hjl := (List.getElem?_eq_some_iff.1 hj).1
      refine ⟨w.heap.size, 0, rfl, (Array.getElem?_eq_some_iff.1 HK.out).1, ?_⟩
      rw [Nat.zero_add]
      exact cell_blk HK.out (HA.out j d hjl hj)
/-- Data in memory of their own: nothing below a block turns by what is done to them. -/
structure Copy (w : World) (B : Nat) (v : Value) (cs : List Dat) (ts : List Int) : Prop where
  ex : ∃ g h, v = .agg #[.slice (some ⟨g, 0, none⟩) cs.length cs.length, .slice (some ⟨h, 0, none⟩) ts.length ts.length] ∧ B ≤ g ∧ B ≤ h ∧ RowD w w.heap.size (some ⟨g, 0, none⟩) cs ∧ RowI w w.heap.size (some ⟨h, 0, none⟩) ts
theorem toData_any (a b : Option Addr) (cs : List Dat) (ts : List Int) (ca cb : Nat) (w : World) (hn : cs.length ≤ 1048576) (hn' : ts.length ≤ 1048576) (hr : RowD w w.heap.size a cs) (hi : RowI w w.heap.size b ts) :
    Calls Tryd.prog 17 #[.agg #[.slice a cs.length ca, .slice b ts.length cb]] w fun e w' => ∃ v, e = .returned v ∧ Copy w' w.heap.size v cs ts ∧ Below w.heap.size w w' := by
  have HD : Hid (∀ w1, Below w.heap.size w w1 → Calls Tryd.prog 42 #[.slice a cs.length ca] w1 fun e w' => ∃ g, e = .returned (.slice (some ⟨g, 0, none⟩) cs.length cs.length) ∧ w1.heap.size ≤ g ∧ RowD w' w'.heap.size (some ⟨g, 0, none⟩) cs ∧ (∃ cur, w'.heap[g]? = some (.cells cur 67 (0, 0)) ∧ cur.size = cs.length * 5) ∧ Below w1.heap.size w1 w') := fun w1 h => toDatumS_any a cs ca w1 hn ((hr.below h).mono h.size)
  have HI : Hid (∀ w1, Below w.heap.size w w1 → Calls Tryd.prog 43 #[.slice b ts.length cb] w1 fun e w' => ∃ g, e = .returned (.slice (some ⟨g, 0, none⟩) ts.length ts.length) ∧ w1.heap.size ≤ g ∧ RowI w' w'.heap.size (some ⟨g, 0, none⟩) ts ∧ Below w1.heap.size w1 w') := fun w1 h => toIntS_any b ts cb w1 hn' ((hi.below h).mono h.size)
  clear hr hi
  go_enter Tryd.func17, Tryd.ntmps17
  go_wp2_with fail
  have hb0 : Below w.heap.size w (((w.alloc (Obj.cells #[Value.slice a cs.length ca, Value.slice b ts.length cb] 37)).alloc (Obj.cells #[Value.slice none 0 0, Value.slice none 0 0] 28)).alloc (Obj.cells #[Value.slice none 0 0, Value.slice none 0 0] 28)) := (((Below.refl _ _).alloc (Nat.le_refl _) _).alloc (by simp) _).alloc (by simp; omega) _
  have k0 : (((w.alloc (Obj.cells #[Value.slice a cs.length ca, Value.slice b ts.length cb] 37)).alloc (Obj.cells #[Value.slice none 0 0, Value.slice none 0 0] 28)).alloc (Obj.cells #[Value.slice none 0 0, Value.slice none 0 0] 28)).heap[w.heap.size]? = some (Obj.cells #[Value.slice a cs.length ca, Value.slice b ts.length cb] 37) := blk_past (blk_past (blk_at _ _ _ rfl))
  have k1 : (((w.alloc (Obj.cells #[Value.slice a cs.length ca, Value.slice b ts.length cb] 37)).alloc (Obj.cells #[Value.slice none 0 0, Value.slice none 0 0] 28)).alloc (Obj.cells #[Value.slice none 0 0, Value.slice none 0 0] 28)).heap[w.heap.size + 1]? = some (Obj.cells #[Value.slice none 0 0, Value.slice none 0 0] 28) := blk_past (blk_at _ _ _ (by simp))
  have k2 : (((w.alloc (Obj.cells #[Value.slice a cs.length ca, Value.slice b ts.length cb] 37)).alloc (Obj.cells #[Value.slice none 0 0, Value.slice none 0 0] 28)).alloc (Obj.cells #[Value.slice none 0 0, Value.slice none 0 0] 28)).heap[w.heap.size + 1 + 1]? = some (Obj.cells #[Value.slice none 0 0, Value.slice none 0 0] 28) := blk_at _ _ _ (by simp)
  refine (HD.out _ hb0).mono ?_
  rintro e w1 ⟨g, rfl, hg, hrd, -, hb1⟩
  have hb2 : Below w.heap.size w w1 := hb0.trans (hb1.mono hb0.size)
  have k0 := blk_keep k0 hb1 (by simp; omega)
  have k1 := blk_keep k1 hb1 (by simp)
  have k2 := blk_keep k2 hb1 (by simp)
  simp at hg
  have s1 := hb1.size
  simp at s1
  have hc0 := cell_blk (j := 1) k0 rfl
  have hc1 := cell_blk (j := 0) k2 rfl
  have hf1 := frozen_blk k2 0
  have K0 : Hid _ := k0
  have K1 : Hid _ := k1
  have K2 : Hid _ := k2
  have HRD : Hid _ := hrd
  clear k0 k1 k2 hb0 hb1 hrd
  go_wp2_with fail
  clear hc0 hc1 hf1
  have k1 : (w1.setCell ⟨w.heap.size + 1 + 1, 0, none⟩ (.slice (some ⟨g, 0, none⟩) cs.length cs.length)).heap[w.heap.size + 1]? = some (Obj.cells #[Value.slice none 0 0, Value.slice none 0 0] 28) := by
    rw [heap_setCell_other _ _ _ _ (by simp)]; exact K1.out
  have k2 : (w1.setCell ⟨w.heap.size + 1 + 1, 0, none⟩ (.slice (some ⟨g, 0, none⟩) cs.length cs.length)).heap[w.heap.size + 1 + 1]? = some (Obj.cells #[(.slice (some ⟨g, 0, none⟩) cs.length cs.length), Value.slice none 0 0] 28) := heap_setCell_same _ _ _ _ _ _ K2.out
  have hb3 : Below w.heap.size w (w1.setCell ⟨w.heap.size + 1 + 1, 0, none⟩ (.slice (some ⟨g, 0, none⟩) cs.length cs.length)) := hb2.setCell (p := ⟨_, _, none⟩) (by simp; omega) _
  have hrd : RowD (w1.setCell ⟨w.heap.size + 1 + 1, 0, none⟩ (.slice (some ⟨g, 0, none⟩) cs.length cs.length)) w1.heap.size (some ⟨g, 0, none⟩) cs := by
    intro i d hi
    obtain ⟨b, o, he, hlt, hd⟩ := HRD.out i d hi
    refine ⟨b, o, he, hlt, hd.block (heap_setCell_other _ _ _ _ ?_)⟩
    injection he with he
    injection he with he
    show b ≠ w.heap.size + 1 + 1
    omega
  refine (HI.out _ hb3).mono ?_
  rintro e w2 ⟨h, rfl, hh, hri, hb4⟩
  simp at hh
  have k1 := blk_keep k1 hb4 (by simp; omega)
  have k2 := blk_keep k2 hb4 (by simp; omega)
  have hb5 : Below w.heap.size w w2 := hb3.trans (hb4.mono hb3.size)
  have hrd2 : RowD w2 w1.heap.size (some ⟨g, 0, none⟩) cs := hrd.keep fun b hb => hb4.block b (by simp; omega)
  have hc0 := cell_blk (j := 0) k1 rfl
  have hc1 := cell_blk (j := 1) k1 rfl
  have hc2 := cell_blk (j := 0) k2 rfl
  have hc3 := cell_blk (j := 1) k2 rfl
  have hf0 := frozen_blk k1 0
  have hf1 := frozen_blk k1 1
  have hf2 := frozen_blk k2 0
  have hf3 := frozen_blk k2 1
  have s2 := hb4.size
  simp at s2
  clear K0 K1 K2 hrd
  have K1 : Hid _ := k1
  have K2 : Hid _ := k2
  have HRI : Hid _ := hri
  have HRE : Hid _ := hrd2
  clear k1 k2 hri hrd2 hb3 hb4 hb2 HRD
  go_wp2
  have K3 : (w2.setCell ⟨w.heap.size + 1 + 1, 1, none⟩ (.slice (some ⟨h, 0, none⟩) ts.length ts.length)).heap[w.heap.size + 1]? = some (Obj.cells #[Value.slice none 0 0, Value.slice none 0 0] 28) := by
    rw [heap_setCell_other _ _ _ _ (by simp)]; exact K1.out
  refine bodyPost_ret (results_cell_row rfl _ _ (w.heap.size + 1) 28 #[.slice (some ⟨g, 0, none⟩) cs.length cs.length, .slice (some ⟨h, 0, none⟩) ts.length ts.length] (0, 0) _ rfl (heap_setCell_same _ _ _ _ _ _ (heap_setCell_same _ _ _ _ _ _ K3)) Tryd.underlying28 rfl (by kernel_rfl)) rfl ?_
  have hoth : ∀ b, b ≠ w.heap.size + 1 → b ≠ w.heap.size + 1 + 1 → (((w2.setCell ⟨w.heap.size + 1 + 1, 1, none⟩ (.slice (some ⟨h, 0, none⟩) ts.length ts.length)).setCell ⟨w.heap.size + 1, 0, none⟩ (.slice (some ⟨g, 0, none⟩) cs.length cs.length)).setCell ⟨w.heap.size + 1, 1, none⟩ (.slice (some ⟨h, 0, none⟩) ts.length ts.length)).heap[b]? = w2.heap[b]? := by
    intro b h1 h2
    rw [heap_setCell_other _ _ _ _ (by simpa using h1), heap_setCell_other _ _ _ _ (by simpa using h1), heap_setCell_other _ _ _ _ (by simpa using h2)]
  refine ⟨_, rfl, ⟨g, h, rfl, by omega, by omega, ?_, ?_⟩, ((hb5.setCell (p := ⟨_, _, none⟩) (by simp; omega) _).setCell (p := ⟨_, _, none⟩) (by simp) _).setCell (p := ⟨_, _, none⟩) (by simp) _⟩
  · intro i d hi
    obtain ⟨b, o, he, hlt, hd⟩ := HRE.out i d hi
    injection id he with he'
    injection he' with he'
    exact ⟨b, o, he, by simp; omega, hd.block (hoth b (by omega) (by omega))⟩
  · intro i d hi
    obtain ⟨b, o, he, hlt, hd⟩ := HRI.out i d hi
    injection id he with he'
    injection he' with he'
    exact ⟨b, o, he, by simpa using hlt, (World.cell?_of_block (w := w2) (a := ⟨b, _, none⟩) (hoth b (by omega) (by omega))).trans hd⟩
end Go.Proofs.YtgfkmppkeolckaaDoor
