/- The law's marks, into a row of texts of one's own, and held there. -/
import Derived.Test.YtamjofdgikifnaaGreatSla
import Derived.Test.YtamjofdgikifnaaGreatMrt
import Derived.Deep.RegionWith
set_option linter.unusedVariables false
namespace Go.Proofs.YtamjofdgikifnaaGreat
open Go.ChangeShapes Go.WideShapes Go.ChangeAt Go.RowKit
theorem own_set {w : World} {B n s g cap o : Nat} {e : TypeId} {xs : List Value} (u : Value) (h : w.ownsRow B e s (.slice (some ⟨g, 0, none⟩) n cap) n xs) (ho : o < n * s) : (w.setCell ⟨g, o, none⟩ u).ownsRow B e s (.slice (some ⟨g, 0, none⟩) n cap) n (xs.set o u) := by
 obtain ⟨hl, ⟨hv, h0⟩ | ⟨g', cap', cur, hv, a1, hblk, a3, a4, a5, a6⟩⟩ := h
 ·cases hv
 ·simp only [Value.slice.injEq, Option.some.injEq, Addr.mk.injEq] at hv
  obtain ⟨⟨rfl, _⟩, _, rfl⟩ := hv
  refine ⟨by simpa using hl, .inr ⟨g, cap, cur.setIfInBounds o u, rfl, a1, heap_setCell_same _ _ _ _ _ _ hblk, a3, a4, by simpa using a5, ?_⟩⟩
  rw [Array.toList_setIfInBounds, List.take_set, a6]
theorem OwnS.put {w : World} {B g n cap i : Nat} {l : List ByteArray} (x : ByteArray) (h : OwnS w B (.slice (some ⟨g, 0, none⟩) n cap) l) (hn : n = l.length) (hi : i < l.length) : OwnS (w.setCell ⟨g, i, none⟩ (.string x)) B (.slice (some ⟨g, 0, none⟩) n cap) (l.set i x) := by
 subst hn
 have := own_set (.string x) h (o := i) (by omega)
 unfold OwnS
 rw [List.length_set, List.map_set]
 exact this
theorem own_some {w : World} {B n s : Nat} {e : TypeId} {a : Option Addr} {cap : Nat} {xs : List Value} (h : w.ownsRow B e s (.slice a n cap) n xs) (hn : 0 < n) : ∃ g cur, a = some ⟨g, 0, none⟩ ∧ w.heap[g]? = some (.cells cur e (0, 0)) ∧ n * s ≤ cur.size := by
 obtain ⟨hl, ⟨hv, h0⟩ | ⟨g, cap', cur, hv, a1, hblk, a3, a4, a5, a6⟩⟩ := h
 ·omega
 ·injection hv with q1 q2 q3
  subst q3
  exact ⟨g, cur, q1, hblk, by rw [a5]; exact Nat.mul_le_mul_right _ a3⟩
theorem gb_bel {B : Nat} {w0 w1 w2 : World} {v : Value} (hb : Below B w0 w1) (hB : B ≤ w1.heap.size) (hv : ∀ b, v.ownBlock = some b → B ≤ b) (hg : w1.grownBy w2 v.ownBlock) : Below B w0 w2 :=
 hb.trans ⟨hg.os, hg.tape, hg.output, hg.size, fun k hk => hg.block k (by omega) (fun e => by have := hv k e.symm; omega)⟩
def marksS (k n : Nat) : List ByteArray := (List.range n).map fun i => mtx (k + i)
theorem marksS_len (k n : Nat) : (marksS k n).length = n := by simp [marksS]
theorem marksS_get {k n i : Nat} (h : i < n) : (marksS k n)[i]? = some (mtx (k + i)) := by simp [marksS, h]
theorem list_eq {α : Type} {a b : List α} {n : Nat} (ha : a.length = n) (hb : b.length = n) (h : ∀ i, i < n → a[i]? = b[i]?) : a = b := by
 apply List.ext_getElem?
 intro i
 by_cases hi : i < n
 ·exact h i hi
 ·rw [List.getElem?_eq_none (by omega), List.getElem?_eq_none (by omega)]
set_option maxRecDepth 100000 in
set_option maxHeartbeats 1000000 in
theorem markStringS_o (B : Nat) (a : Option Addr) (l : List ByteArray) (cap k : Nat) (w : World) (h : OwnS w B (.slice a l.length cap) l) (hk1 : 1 ≤ k) (hk : k + l.length ≤ 1000000000000) :
  Calls Tryz.prog 15 #[.slice a l.length cap, .int .i64 (k : Int)] w fun e w' => e = .returned (.int .i64 ((k + l.length : Nat) : Int)) ∧ OwnS w' B (.slice a l.length cap) (marksS k l.length) ∧ w.grownBy w' (Value.slice a l.length cap).ownBlock := by
 have H0 : Hid (OwnS w B (.slice a l.length cap) l) := h
 clear h
 go_enter Tryz.func15, Tryz.ntmps15
 go_wp2
 go_loopw [1, 5] (fun kv iv wr => ∃ (i m : Nat) (L : List ByteArray), i ≤ l.length ∧ m = k + i ∧ kv = .int .i64 m ∧ iv = .int .i64 i ∧ L.length = l.length ∧ (∀ j, j < i → L[j]? = some (mtx (k + j))) ∧ OwnS wr B (.slice a l.length cap) L ∧ w.grownBy wr (Value.slice a l.length cap).ownBlock)
  (fun kv iv _ => l.length - (intOf iv).toNat)
 case atStart => exact ⟨0, k, l, Nat.zero_le _, by omega, rfl, rfl, rfl, fun j hj => by omega, H0.out, gb_refl _ _⟩
 case round =>
  obtain ⟨i, m, L, hi, hm, rfl, rfl, hL, hmk, ho, hg⟩ := hrel
  have HM : Hid (m = k + i) := hm
  have hm6 : m ≤ 1000000000000 := by omega
  have hm1 : 1 ≤ m := by omega
  have HG : Hid (w.grownBy wr (Value.slice a l.length cap).ownBlock) := hg
  have HL : Hid (L.length = l.length) := hL
  have HK : Hid (∀ j, j < i → L[j]? = some (mtx (k + j))) := hmk
  by_cases hlt : i < l.length
  ·obtain ⟨g, cur, rfl, hblk, hcs⟩ := own_some (by rw [← hL] at ho ⊢; exact ho) (by omega : 0 < l.length)
   have HO : Hid (OwnS wr B (.slice (some ⟨g, 0, none⟩) l.length cap) L) := ho
   have KX : Hid (wr.heap[g]? = some (.cells cur 9 (0, 0))) := hblk
   have hbl : g < wr.heap.size := (Array.getElem?_eq_some_iff.1 hblk).1
   have HT : Hid (∀ w, Calls Tryz.prog 44 #[.int .i64 (m : Int)] w fun e w' => Ans w (.string (mtx m)) e w') := fun w => markText_any m w (by omega) (by omega)
   clear hg hmk hm ho hblk hL
   go_wp2_with fail
   refine (HT.out _).mono ?_
   rintro e w2 ⟨rfl, hb2⟩
   have k2 := (hb2.block g hbl).trans KX.out
   obtain ⟨y0, e0⟩ := cell_blk' k2 i (by omega)
   have f0 := frozen_blk k2 i
   have HB2 : Hid (Below wr.heap.size wr w2) := hb2
   clear k2 hb2 HT
   go_wp2
   go_roundw
   case rel =>
    have hL := HL.out
    refine ⟨i + 1, m + 1, L.set i (mtx m), by omega, by have := HM.out; omega, by go_num, by go_num, by simp; omega, fun j hj => ?_, ?_, ?_⟩
    ·rw [List.getElem?_set]
     by_cases hji : i = j
     ·subst hji
      rw [if_pos rfl, if_pos (by omega), HM.out]
     ·rw [if_neg hji]
      exact HK.out j (by omega)
    ·exact (HO.out.keep fun b hb => HB2.out.block b (HO.out.blk hb).2.1).put _ HL.out.symm (by omega)
    ·exact gb_trans (gb_trans HG.out (gb_below _ HB2.out)) (gb_set _ _ _ _)
   case measure => simp [intOf]; omega
  ·have hlt' : decide ((i : Int) < (l.length : Int)) = false := by simp; omega
   obtain rfl : i = l.length := by omega
   have HO : Hid (OwnS wr B (.slice a l.length cap) (marksS k l.length)) := by
    have e : L = marksS k l.length := list_eq hL (marksS_len _ _) fun j hj => (hmk j hj).trans (marksS_get hj).symm
    rw [← e]; exact ho
   clear hlt hg hmk hm ho hL
   go_wp2
   go_ret
   exact ⟨by rw [HM.out]; rfl, HO.out, HG.out⟩
set_option maxRecDepth 100000 in
set_option maxHeartbeats 1000000 in
theorem heldStringS_o (a : Option Addr) (n cap k : Nat) (w : World) (hk1 : 1 ≤ k) (hk : k + n ≤ 1000000000000) (hr : RowS w w.heap.size a (marksS k n)) :
  Calls Tryz.prog 20 #[.slice a n cap, .int .i64 (k : Int)] w fun e w' => Ans w (.int .i64 ((k + n : Nat) : Int)) e w' := by
 have HR : Hid (RowS w w.heap.size a (marksS k n)) := hr
 clear hr
 go_enter Tryz.func20, Tryz.ntmps20
 go_wp2
 go_loopw [1, 5] (fun kv iv wr => ∃ (i m : Nat), i ≤ n ∧ m = k + i ∧ kv = .int .i64 m ∧ iv = .int .i64 i ∧ Below w.heap.size w wr)
  (fun kv iv _ => n - (intOf iv).toNat)
 case atStart => exact ⟨0, k, Nat.zero_le _, by omega, rfl, rfl, Below.refl _ _⟩
 case round =>
  obtain ⟨i, m, hi, hm, rfl, rfl, hb⟩ := hrel
  have HM : Hid (m = k + i) := hm
  have hm6 : m ≤ 1000000000000 := by omega
  have hm1 : 1 ≤ m := by omega
  have HB : Hid (Below w.heap.size w wr) := hb
  have hsz := hb.size
  by_cases hlt : i < n
  ·obtain ⟨b, o, rfl, hbl, hc⟩ := HR.out i _ (marksS_get hlt)
   have e0 := cell_keep hc hb hbl
   rw [← hm] at e0
   have HT : Hid (∀ w, Calls Tryz.prog 44 #[.int .i64 (m : Int)] w fun e w' => Ans w (.string (mtx m)) e w') := fun w => markText_any m w (by omega) (by omega)
   have hq : ((mtx m).toList != (mtx m).toList) = false := by simp
   clear hb hm hc
   go_wp2_with fail
   go_region_with (go_at_call 44; refine (HT.out _).mono ?_; rintro e w2 ⟨rfl, hb2⟩; have e1 : w2.cell? ⟨b, o + i, none⟩ = some (.string (mtx m)) := (World.cell?_of_block (w := wr) (a := ⟨b, _, none⟩) (hb2.block b (by show b < wr.heap.size; omega))).trans e0)
   all_goals
    have hb3 : Below w.heap.size w w2 := (below_drewN HB.out 1).trans (hb2.mono hsz)
    go_wp2
    go_roundw
    case rel => exact ⟨i + 1, m + 1, by omega, by have := HM.out; omega, by go_num, by go_num, hb3⟩
    case measure => simp [intOf]; omega
  ·have hlt' : decide ((i : Int) < (n : Int)) = false := by simp; omega
   obtain rfl : i = n := by omega
   clear hlt hb hm
   go_wp2
   go_ret
   exact ⟨by rw [HM.out]; rfl, HB.out⟩
end Go.Proofs.YtamjofdgikifnaaGreat
