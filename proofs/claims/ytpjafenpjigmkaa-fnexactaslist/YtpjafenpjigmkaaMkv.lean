/- The law's marks: into rows of texts and of values, and held there. -/
import Derived.Test.YtpjafenpjigmkaaMka
import Derived.Test.YtpjafenpjigmkaaRww
import Derived.Deep.RegionWith
set_option linter.unusedVariables false
namespace Go.Proofs.Ytpjafenpjigmkaa
open Go.ChangeShapes Go.WideShapes Go.ChangeAt Go.RowKit
theorem gb_set (w : World) (g o : Nat) (u : Value) : w.grownBy (w.setCell ⟨g, o, none⟩ u) (some g) :=
  ⟨rfl, rfl, rfl, by simp, fun i hi hne => heap_setCell_other _ _ _ _ (by rintro rfl; exact hne rfl)⟩
theorem gb_below {w w' : World} (r : Option Nat) (h : Below w.heap.size w w') : w.grownBy w' r := ⟨h.os, h.tape, h.output, h.size, fun i hi _ => h.block i hi⟩
theorem gb_refl (w : World) (r : Option Nat) : w.grownBy w r := ⟨rfl, rfl, rfl, Nat.le_refl _, fun _ _ _ => rfl⟩
theorem gb_trans {w w1 w2 : World} {r : Option Nat} (h : w.grownBy w1 r) (g : w1.grownBy w2 r) : w.grownBy w2 r :=
  ⟨g.os.trans h.os, g.tape.trans h.tape, g.output.trans h.output, Nat.le_trans h.size g.size, fun i hi hne => (g.block i (Nat.lt_of_lt_of_le hi h.size) hne).trans (h.block i hi hne)⟩
theorem own_set {w : World} {B n s g cap o : Nat} {e : TypeId} {xs : List Value} (u : Value) (h : w.ownsRow B e s (.slice (some ⟨g, 0, none⟩) n cap) n xs) (ho : o < n * s) : (w.setCell ⟨g, o, none⟩ u).ownsRow B e s (.slice (some ⟨g, 0, none⟩) n cap) n (xs.set o u) := by
  obtain ⟨hl, ⟨hv, h0⟩ | ⟨g', cap', cur, hv, a1, hblk, a3, a4, a5, a6⟩⟩ := h
  · cases hv
  · simp only [Value.slice.injEq, Option.some.injEq, Addr.mk.injEq] at hv
    obtain ⟨⟨rfl, _⟩, _, rfl⟩ := hv
    refine ⟨by simpa using hl, .inr ⟨g, cap, cur.setIfInBounds o u, rfl, a1, heap_setCell_same _ _ _ _ _ _ hblk, a3, a4, by simpa using a5, ?_⟩⟩
    rw [Array.toList_setIfInBounds, List.take_set, a6]
theorem OwnS.put {w : World} {B g n cap i : Nat} {l : List ByteArray} (x : ByteArray) (h : OwnS w B (.slice (some ⟨g, 0, none⟩) n cap) l) (hn : n = l.length) (hi : i < l.length) : OwnS (w.setCell ⟨g, i, none⟩ (.string x)) B (.slice (some ⟨g, 0, none⟩) n cap) (l.set i x) := by
  subst hn
  have := own_set (.string x) h (o := i) (by omega)
  unfold OwnS
  rw [List.length_set, List.map_set]
  exact this
theorem vals_set {l : List Val} {xs : List Value} {i : Nat} (d : Val) (hxl : xs.length = l.length * 3) (hi : i < l.length) (h2 : ∀ (j : Nat) (d : Val), l[j]? = some d → xs[j * 3]? = some (.int .i64 d.k) ∧ xs[j * 3 + 1]? = some (.int .i64 d.n) ∧ xs[j * 3 + 2]? = some (.string d.s)) :
    ∀ (j : Nat) (d' : Val), (l.set i d)[j]? = some d' → (((xs.set (i * 3) (.int .i64 d.k)).set (i * 3 + 1) (.int .i64 d.n)).set (i * 3 + 2) (.string d.s))[j * 3]? = some (.int .i64 d'.k) ∧ (((xs.set (i * 3) (.int .i64 d.k)).set (i * 3 + 1) (.int .i64 d.n)).set (i * 3 + 2) (.string d.s))[j * 3 + 1]? = some (.int .i64 d'.n) ∧ (((xs.set (i * 3) (.int .i64 d.k)).set (i * 3 + 1) (.int .i64 d.n)).set (i * 3 + 2) (.string d.s))[j * 3 + 2]? = some (.string d'.s) := by
  intro j d' hj
  rw [List.getElem?_set] at hj
  by_cases hji : i = j
  · subst hji
    rw [if_pos rfl, if_pos hi] at hj
    obtain rfl := Option.some.inj hj
    simp only [List.getElem?_set, List.length_set]
    refine ⟨?_, ?_, ?_⟩
    · rw [if_neg (by omega), if_neg (by omega), if_pos trivial, if_pos (by omega)]
    · rw [if_neg (by omega), if_pos trivial, if_pos (by omega)]
    · rw [if_pos trivial, if_pos (by omega)]
  · rw [if_neg hji] at hj
    obtain ⟨c0, c1, c2⟩ := h2 j d' hj
    simp only [List.getElem?_set]
    refine ⟨?_, ?_, ?_⟩
    · rw [if_neg (by omega), if_neg (by omega), if_neg (by omega)]; exact c0
    · rw [if_neg (by omega), if_neg (by omega), if_neg (by omega)]; exact c1
    · rw [if_neg (by omega), if_neg (by omega), if_neg (by omega)]; exact c2
/-- Marks of texts, of values. -/
def marksS (k n : Nat) : List ByteArray := (List.range n).map fun i => mtx (k + i)
def marksV (k n : Nat) : List Val := (List.range n).map fun i => ⟨((k + i * 3 : Nat) : Int), ((k + i * 3 + 1 : Nat) : Int), mtx (k + i * 3 + 2)⟩
theorem marksS_len (k n : Nat) : (marksS k n).length = n := by simp [marksS]
theorem marksV_len (k n : Nat) : (marksV k n).length = n := by simp [marksV]
theorem marksS_get {k n i : Nat} (h : i < n) : (marksS k n)[i]? = some (mtx (k + i)) := by simp [marksS, h]
theorem marksV_get {k n i : Nat} (h : i < n) : (marksV k n)[i]? = some ⟨((k + i * 3 : Nat) : Int), ((k + i * 3 + 1 : Nat) : Int), mtx (k + i * 3 + 2)⟩ := by simp [marksV, h]
theorem list_eq {α : Type} {a b : List α} {n : Nat} (ha : a.length = n) (hb : b.length = n) (h : ∀ i, i < n → a[i]? = b[i]?) : a = b := by
  apply List.ext_getElem?
  intro i
  by_cases hi : i < n
  · exact h i hi
  · rw [List.getElem?_eq_none (by omega), List.getElem?_eq_none (by omega)]
theorem own_some {w : World} {B n s : Nat} {e : TypeId} {a : Option Addr} {cap : Nat} {xs : List Value} (h : w.ownsRow B e s (.slice a n cap) n xs) (hn : 0 < n) : ∃ g cur, a = some ⟨g, 0, none⟩ ∧ w.heap[g]? = some (.cells cur e (0, 0)) ∧ n * s ≤ cur.size := by
  obtain ⟨hl, ⟨hv, h0⟩ | ⟨g, cap', cur, hv, a1, hblk, a3, a4, a5, a6⟩⟩ := h
  · omega
  · injection hv with q1 q2 q3
    subst q3
    exact ⟨g, cur, q1, hblk, by rw [a5]; exact Nat.mul_le_mul_right _ a3⟩
set_option maxRecDepth 100000 in
set_option maxHeartbeats 1000000 in
theorem markStringS_o (B : Nat) (a : Option Addr) (l : List ByteArray) (cap k : Nat) (w : World) (h : OwnS w B (.slice a l.length cap) l) (hk1 : 1 ≤ k) (hk : k + l.length ≤ 1000000000000) :
    Calls Try.prog 26 #[.slice a l.length cap, .int .i64 (k : Int)] w fun e w' => e = .returned (.int .i64 ((k + l.length : Nat) : Int)) ∧ OwnS w' B (.slice a l.length cap) (marksS k l.length) ∧ w.grownBy w' (Value.slice a l.length cap).ownBlock := by
  have H0 : Hid (OwnS w B (.slice a l.length cap) l) := h
  clear h
  go_enter Try.func26, Try.ntmps26
  go_wp2
  go_loopw [1, 5] (fun kv iv wr => ∃ (i m : Nat) (L : List ByteArray), i ≤ l.length ∧ m = k + i ∧ kv = .int .i64 m ∧ iv = .int .i64 i ∧ L.length = l.length ∧ (∀ j, j < i → L[j]? = some (mtx (k + j))) ∧ OwnS wr B (.slice a l.length cap) L ∧ w.grownBy wr (Value.slice a l.length cap).ownBlock)
    (fun kv iv _ => l.length - (intOf iv).toNat)
  case atStart => exact ⟨0, k, l, Nat.zero_le _, by omega, rfl, rfl, rfl, fun j hj => by omega, H0.out, gb_refl _ _⟩
  case round =>
    obtain ⟨i, m, L, hi, hm, rfl, rfl, hL, hmk, ho, hg⟩ := hrel
    have HM : Hid (m = k + i) := hm
    have hm6 : m ≤ 1000000000000 := by omega
    have hm1 : 1 ≤ m := by omega
    have HG : Hid (w.grownBy wr (Value.slice a l.length cap).ownBlock) := hg
    have HL : Hid (L.length = l.length) := hL
    have HK : Hid (∀ j, j < i → L[j]? = some (mtx (k + j))) := hmk
    by_cases hlt : i < l.length
    · obtain ⟨g, cur, rfl, hblk, hcs⟩ := own_some (by rw [← hL] at ho ⊢; exact ho) (by omega : 0 < l.length)
      have HO : Hid (OwnS wr B (.slice (some ⟨g, 0, none⟩) l.length cap) L) := ho
      have KX : Hid (wr.heap[g]? = some (.cells cur 9 (0, 0))) := hblk
      have hbl : g < wr.heap.size := (Array.getElem?_eq_some_iff.1 hblk).1
      have HT : Hid (∀ w, Calls Try.prog 25 #[.int .i64 (m : Int)] w fun e w' => Ans w (.string (mtx m)) e w') := fun w => markText_any m w (by omega) (by omega)
      clear hg hmk hm ho hblk hL
      go_wp2_with fail
      refine (HT.out _).mono ?_
      rintro e w2 ⟨rfl, hb2⟩
      have k2 := (hb2.block g hbl).trans KX.out
      obtain ⟨y0, e0⟩ := cell_blk' k2 i (by omega)
      have f0 := frozen_blk k2 i
      have HB2 : Hid (Below wr.heap.size wr w2) := hb2
      clear k2 hb2 HT
      go_wp2
      go_roundw
      case rel =>
        have hL := HL.out
        refine ⟨i + 1, m + 1, L.set i (mtx m), by omega, by have := HM.out; omega, by go_num, by go_num, by simp; omega, fun j hj => ?_, ?_, ?_⟩
        · rw [List.getElem?_set]
          by_cases hji : i = j
          · subst hji
            rw [if_pos rfl, if_pos (by omega), HM.out]
          · rw [if_neg hji]
            exact HK.out j (by omega)
        · exact (HO.out.keep fun b hb => HB2.out.block b (HO.out.blk hb).2.1).put _ HL.out.symm (by omega)
        · exact gb_trans (gb_trans HG.out (gb_below _ HB2.out)) (gb_set _ _ _ _)
      case measure => simp [intOf]; omega
    · have hlt' : decide ((i : Int) < (l.length : Int)) = false := by simp; omega
      obtain rfl : i = l.length := by omega
      have HO : Hid (OwnS wr B (.slice a l.length cap) (marksS k l.length)) := by
        have e : L = marksS k l.length := list_eq hL (marksS_len _ _) fun j hj => (hmk j hj).trans (marksS_get hj).symm
        rw [← e]; exact ho
      clear hlt hg hmk hm ho hL
      go_wp2
      go_ret
      exact ⟨by rw [HM.out]; rfl, HO.out, HG.out⟩
set_option maxRecDepth 100000 in
set_option maxHeartbeats 1000000 in
theorem markValueS_o (B : Nat) (a : Option Addr) (l : List Val) (cap k : Nat) (w : World) (h : OwnV w B (.slice a l.length cap) l) (hk1 : 1 ≤ k) (hk : k + l.length * 3 ≤ 1000000000000) :
    Calls Try.prog 13 #[.slice a l.length cap, .int .i64 (k : Int)] w fun e w' => e = .returned (.int .i64 ((k + l.length * 3 : Nat) : Int)) ∧ OwnV w' B (.slice a l.length cap) (marksV k l.length) ∧ w.grownBy w' (Value.slice a l.length cap).ownBlock := by
  have H0 : Hid (OwnV w B (.slice a l.length cap) l) := h
  clear h
  go_enter Try.func13, Try.ntmps13
  go_wp2
  go_loopw [1, 5] (fun kv iv wr => ∃ (i m : Nat) (L : List Val), i ≤ l.length ∧ m = k + i * 3 ∧ kv = .int .i64 m ∧ iv = .int .i64 i ∧ L.length = l.length ∧ (∀ j, j < i → L[j]? = (marksV k l.length)[j]?) ∧ OwnV wr B (.slice a l.length cap) L ∧ w.grownBy wr (Value.slice a l.length cap).ownBlock)
    (fun kv iv _ => l.length - (intOf iv).toNat)
  case atStart => exact ⟨0, k, l, Nat.zero_le _, by omega, rfl, rfl, rfl, fun j hj => by omega, H0.out, gb_refl _ _⟩
  case round =>
    obtain ⟨i, m, L, hi, hm, rfl, rfl, hL, hmk, ho, hg⟩ := hrel
    have HM : Hid (m = k + i * 3) := hm
    have hm6 : m ≤ 1000000000000 := by omega
    have hm1 : 1 ≤ m := by omega
    have HG : Hid (w.grownBy wr (Value.slice a l.length cap).ownBlock) := hg
    have HL : Hid (L.length = l.length) := hL
    have HK : Hid (∀ j, j < i → L[j]? = (marksV k l.length)[j]?) := hmk
    by_cases hlt : i < l.length
    · obtain ⟨g, cur, rfl, hblk, hcs⟩ : ∃ g cur, a = some ⟨g, 0, none⟩ ∧ wr.heap[g]? = some (.cells cur 32 (0, 0)) ∧ l.length * 3 ≤ cur.size := by
        obtain ⟨xs, h1, _⟩ := ho
        rw [hL] at h1
        exact own_some h1 (by omega)
      have HO : Hid (OwnV wr B (.slice (some ⟨g, 0, none⟩) l.length cap) L) := ho
      have KX : Hid (wr.heap[g]? = some (.cells cur 32 (0, 0))) := hblk
      have hbl : g < wr.heap.size := (Array.getElem?_eq_some_iff.1 hblk).1
      have HT : Hid (∀ w, Calls Try.prog 25 #[.int .i64 ((m : Int) + 2)] w fun e w' => Ans w (.string (mtx (m + 2))) e w') := fun w => by
        have q := markText_any (m + 2) w (by omega) (by omega)
        rw [show ((m + 2 : Nat) : Int) = (m : Int) + 2 by omega] at q
        exact q
      obtain ⟨y0, e0⟩ := cell_blk' hblk (i * 3) (by omega)
      have f0 := frozen_blk hblk (i * 3)
      obtain ⟨y1, e1⟩ := cell_blk' hblk (i * 3 + 1) (by omega)
      have f1 := frozen_blk hblk (i * 3 + 1)
      clear hg hmk hm ho hblk hL
      go_wp2_with fail
      refine (HT.out _).mono ?_
      rintro e w2 ⟨rfl, hb2⟩
      have hbA : ∀ u v, g < ((wr.setCell ⟨g, i * 3, none⟩ u).setCell ⟨g, i * 3 + 1, none⟩ v).heap.size := fun u v => by simp; exact hbl
      have kA : ((wr.setCell ⟨g, i * 3, none⟩ (.int .i64 m)).setCell ⟨g, i * 3 + 1, none⟩ (.int .i64 ((m : Int) + 1))).heap[g]? = some (.cells _ 32 (0, 0)) := heap_setCell_same _ _ _ _ _ _ (heap_setCell_same _ _ _ _ _ _ KX.out)
      have k2 := (hb2.block g (hbA _ _)).trans kA
      obtain ⟨y2, e2⟩ := cell_blk' k2 (i * 3 + 2) (by simp; omega)
      have f2 := frozen_blk k2 (i * 3 + 2)
      have HB2 : Hid (Below ((wr.setCell ⟨g, i * 3, none⟩ (.int .i64 m)).setCell ⟨g, i * 3 + 1, none⟩ (.int .i64 ((m : Int) + 1))).heap.size ((wr.setCell ⟨g, i * 3, none⟩ (.int .i64 m)).setCell ⟨g, i * 3 + 1, none⟩ (.int .i64 ((m : Int) + 1))) w2) := hb2
      clear k2 kA hb2 HT e0 e1 f0 f1
      go_wp2
      go_roundw
      case rel =>
        have hL := HL.out
        obtain ⟨xs, h1, h2⟩ := HO.out
        have hxl : xs.length = L.length * 3 := h1.1
        rw [hL] at h1
        refine ⟨i + 1, m + 3, L.set i ⟨(m : Int), (m : Int) + 1, mtx (m + 2)⟩, by omega, by have := HM.out; omega, by go_num, by go_num, by simp; omega, fun j hj => ?_, ?_, ?_⟩
        · rw [List.getElem?_set]
          by_cases hji : i = j
          · subst hji
            rw [if_pos rfl, if_pos (by omega), marksV_get (by omega), HM.out]
            simp
          · rw [if_neg hji]
            exact HK.out j (by omega)
        · have q1 := own_set (.int .i64 m) h1 (o := i * 3) (by omega)
          have q2 := own_set (.int .i64 ((m : Int) + 1)) q1 (o := i * 3 + 1) (by omega)
          have q3 := own_keep q2 fun b hb => HB2.out.block b (own_blk q2 hb).2.1
          have q4 := own_set (.string (mtx (m + 2))) q3 (o := i * 3 + 2) (by omega)
          exact ⟨_, by rw [List.length_set, hL]; exact q4, vals_set ⟨(m : Int), (m : Int) + 1, mtx (m + 2)⟩ hxl (by omega) h2⟩
        · exact gb_trans (gb_trans (gb_trans (gb_trans HG.out (gb_set _ _ _ _)) (gb_set _ _ _ _)) (gb_below _ HB2.out)) (gb_set _ _ _ _)
      case measure => simp [intOf]; omega
    · have hlt' : decide ((i : Int) < (l.length : Int)) = false := by simp; omega
      obtain rfl : i = l.length := by omega
      have HO : Hid (OwnV wr B (.slice a l.length cap) (marksV k l.length)) := by
        have e : L = marksV k l.length := list_eq hL (marksV_len _ _) fun j hj => hmk j hj
        rw [← e]; exact ho
      clear hlt hg hmk hm ho hL
      go_wp2
      go_ret
      exact ⟨by rw [HM.out]; rfl, HO.out, HG.out⟩
end Go.Proofs.Ytpjafenpjigmkaa
