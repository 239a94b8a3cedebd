/- The law's marks: into heaps, and held there. -/
import Derived.Test.YtpjafenpjigmkaaMkv
set_option linter.unusedVariables false
namespace Go.Proofs.Ytpjafenpjigmkaa
open Go.ChangeShapes Go.WideShapes Go.ChangeAt Go.RowKit
set_option maxRecDepth 100000 in
set_option maxHeartbeats 1000000 in
theorem heldValueS_o (a : Option Addr) (n cap k : Nat) (w : World) (hk1 : 1 ≤ k) (hk : k + n * 3 ≤ 1000000000000) (hr : RowV w w.heap.size a (marksV k n)) :
    Calls Try.prog 14 #[.slice a n cap, .int .i64 (k : Int)] w fun e w' => Ans w (.int .i64 ((k + n * 3 : Nat) : Int)) e w' := by
  have HR : Hid (RowV w w.heap.size a (marksV k n)) := hr
  clear hr
  go_enter Try.func14, Try.ntmps14
  go_wp2
  go_loopw [1, 5] (fun kv iv wr => ∃ (i m : Nat), i ≤ n ∧ m = k + i * 3 ∧ kv = .int .i64 m ∧ iv = .int .i64 i ∧ Below w.heap.size w wr)
    (fun kv iv _ => n - (intOf iv).toNat)
  case atStart => exact ⟨0, k, Nat.zero_le _, by omega, rfl, rfl, Below.refl _ _⟩
  case round =>
    obtain ⟨i, m, hi, hm, rfl, rfl, hb⟩ := hrel
    have HM : Hid (m = k + i * 3) := hm
    have hm6 : m ≤ 1000000000000 := by omega
    have hm1 : 1 ≤ m := by omega
    have HB : Hid (Below w.heap.size w wr) := hb
    have hsz := hb.size
    by_cases hlt : i < n
    · obtain ⟨b, o, rfl, hbl, hc0, hc1, hc2⟩ := HR.out i _ (marksV_get hlt)
      have e0 := cell_keep hc0 hb hbl
      have e1 := cell_keep hc1 hb hbl
      have e2 := cell_keep hc2 hb hbl
      rw [← hm] at e0 e1 e2
      rw [show ((m + 1 : Nat) : Int) = (m : Int) + 1 by omega] at e1
      have HT : Hid (∀ w, Calls Try.prog 25 #[.int .i64 ((m : Int) + 2)] w fun e w' => Ans w (.string (mtx (m + 2))) e w') := fun w => by
        have q := markText_any (m + 2) w (by omega) (by omega)
        rw [show ((m + 2 : Nat) : Int) = (m : Int) + 2 by omega] at q
        exact q
      have hq : ((mtx (m + 2)).toList != (mtx (m + 2)).toList) = false := by simp
      have hq0 : ((m : Int) != (m : Int)) = false := by simp
      have hq1 : ((m : Int) + 1 != (m : Int) + 1) = false := by simp
      clear hb hm hc0 hc1 hc2
      go_wp2_with fail
      go_region_with (go_at_call 25; refine (HT.out _).mono ?_; rintro e w2 ⟨rfl, hb2⟩; have e3 : w2.cell? ⟨b, o + i * 3 + 2, none⟩ = some (.string (mtx (m + 2))) := (World.cell?_of_block (w := wr) (a := ⟨b, _, none⟩) (hb2.block b (by show b < wr.heap.size; omega))).trans e2)
      all_goals
        have hb3 : Below w.heap.size w w2 := (below_drewN HB.out 1).trans (hb2.mono hsz)
        go_wp2
        go_roundw
        case rel => exact ⟨i + 1, m + 3, by omega, by have := HM.out; omega, by go_num, by go_num, hb3⟩
        case measure => simp [intOf]; omega
    · have hlt' : decide ((i : Int) < (n : Int)) = false := by simp; omega
      obtain rfl : i = n := by omega
      clear hlt hb hm
      go_wp2
      go_ret
      exact ⟨by rw [HM.out]; rfl, HB.out⟩
/-- How many marks a cell takes, a heap. -/
def wtC (c : Cel) : Nat := 4 + c.names.length + c.vals.length * 3
def wtH (h : List Cel) : Nat := (h.map wtC).sum
/-- A cell with marks, a heap. -/
def markC (k : Nat) (c : Cel) : Cel := ⟨(k : Int), mtx (k + 1), (k : Int) + 2, (k : Int) + 3, marksS (k + 4) c.names.length, marksV (k + 4 + c.names.length) c.vals.length⟩
def marksH : Nat → List Cel → List Cel
  | _, [] => []
  | k, c :: r => markC k c :: marksH (k + wtC c) r
theorem marksH_len : ∀ (k : Nat) (h : List Cel), (marksH k h).length = h.length
  | _, [] => rfl
  | k, c :: r => by simp [marksH, marksH_len]
theorem marksH_get : ∀ (k : Nat) (h : List Cel) (j : Nat) (c : Cel), h[j]? = some c → (marksH k h)[j]? = some (markC (k + wtH (h.take j)) c)
  | k, [], j, c, hj => by simp at hj
  | k, d :: r, 0, c, hj => by
    simp at hj
    subst hj
    simp [marksH, wtH]
  | k, d :: r, j + 1, c, hj => by
    simp at hj
    have := marksH_get (k + wtC d) r j c hj
    simp only [marksH, List.getElem?_cons_succ, this, List.take_succ_cons]
    simp [wtH, Nat.add_assoc]
theorem wtH_take {h : List Cel} {i : Nat} {c : Cel} (hi : h[i]? = some c) : wtH (h.take (i + 1)) = wtH (h.take i) + wtC c := by
  rw [List.take_add_one, hi]
  simp [wtH]
theorem wtH_le (h : List Cel) (i : Nat) : wtH (h.take i) ≤ wtH h := by
  conv => rhs; rw [← List.take_append_drop i h]
  simp only [wtH, List.map_append, List.sum_append]
  omega
/-- Only blocks from B to T are changed. -/
structure Only (B T : Nat) (w w' : World) : Prop where
  os : w'.os = w.os
  tape : w'.tape = w.tape
  output : w'.output = w.output
  size : w.heap.size ≤ w'.heap.size
  same : ∀ b, b < w.heap.size → (b < B ∨ T ≤ b) → w'.heap[b]? = w.heap[b]?
theorem Only.refl (B T : Nat) (w : World) : Only B T w w := ⟨rfl, rfl, rfl, Nat.le_refl _, fun _ _ _ => rfl⟩
theorem Only.trans {B T : Nat} {a b c : World} (h : Only B T a b) (g : Only B T b c) : Only B T a c :=
  ⟨g.os.trans h.os, g.tape.trans h.tape, g.output.trans h.output, Nat.le_trans h.size g.size, fun k hk hb => (g.same k (Nat.lt_of_lt_of_le hk h.size) hb).trans (h.same k hk hb)⟩
theorem Only.of_gb {B T : Nat} {w w' : World} {r : Option Nat} (h : w.grownBy w' r) (hr : ∀ k, r = some k → B ≤ k ∧ k < T) : Only B T w w' :=
  ⟨h.os, h.tape, h.output, h.size, fun b hb ho => h.block b hb fun e => by have := hr b e.symm; omega⟩
theorem Only.of_below {B T : Nat} {w w' : World} (h : Below w.heap.size w w') : Only B T w w' := Only.of_gb (gb_below none h) fun _ h => by cases h
theorem Only.below {B B' T : Nat} {w w' : World} (h : Only B T w w') (hb : B' ≤ B) (hs : B' ≤ w.heap.size) : Below B' w w' :=
  ⟨h.os, h.tape, h.output, h.size, fun k hk => h.same k (by omega) (.inl (by omega))⟩
/-- A heap that a call made, where its cells' rows lie told. -/
def OwnB (w : World) (B T : Nat) (β : Nat → Nat) (v : Value) (h : List Cel) : Prop :=
  (∃ xs, w.ownsRow B 47 6 v h.length xs) ∧ (∀ k, v.ownBlock = some k → k < T) ∧ B ≤ β 0 ∧ (∀ j, β j ≤ β (j + 1)) ∧ β h.length ≤ T ∧
    ∀ g cap, v = .slice (some ⟨g, 0, none⟩) h.length cap → ∀ j c, h[j]? = some c → COwn w (β j) (β (j + 1)) g (j * 6) c
theorem OwnB.own {w : World} {B T : Nat} {β : Nat → Nat} {v : Value} {h : List Cel} (ho : OwnB w B T β v h) : OwnH w B T v h := by
  obtain ⟨h1, h2, b0, bm, bt, hc⟩ := ho
  exact ⟨h1, h2, β, b0, bm, bt, hc⟩
theorem OwnH.bound {w : World} {B T : Nat} {v : Value} {h : List Cel} (ho : OwnH w B T v h) : ∃ β, OwnB w B T β v h := by
  obtain ⟨h1, h2, β, b0, bm, bt, hc⟩ := ho
  exact ⟨β, h1, h2, b0, bm, bt, hc⟩
theorem OwnB.mark {w w' : World} {B T g n cap i : Nat} {β : Nat → Nat} {L : List Cel} {c' : Cel} {cur cur' : Array Value} (ho : OwnB w B T β (.slice (some ⟨g, 0, none⟩) n cap) L) (hn : n = L.length) (hi : i < L.length)
    (hk : w.heap[g]? = some (.cells cur 47 (0, 0))) (hk' : w'.heap[g]? = some (.cells cur' 47 (0, 0))) (hsz : cur'.size = cur.size)
    (hcell : ∀ o, (o < i * 6 ∨ i * 6 + 6 ≤ o) → w'.cell? ⟨g, o, none⟩ = w.cell? ⟨g, o, none⟩)
    (hoth : ∀ b, b < w.heap.size → b ≠ g → (b < β i ∨ β (i + 1) ≤ b) → w'.heap[b]? = w.heap[b]?)
    (hnew : COwn w' (β i) (β (i + 1)) g (i * 6) c') : OwnB w' B T β (.slice (some ⟨g, 0, none⟩) n cap) (L.set i c') := by
  subst hn
  obtain ⟨⟨xs, h1⟩, h2, b0, bm, bt, hc⟩ := ho
  have hl : (L.set i c').length = L.length := by simp
  refine ⟨?_, h2, b0, bm, by rw [hl]; exact bt, fun g' cap' hv j c hj => ?_⟩
  · rw [hl]
    obtain ⟨hxl, ⟨hv, h0⟩ | ⟨g', cap', cur0, hv, a1, hblk, a3, a4, a5, a6⟩⟩ := h1
    · cases hv
    · simp only [Value.slice.injEq, Option.some.injEq, Addr.mk.injEq] at hv
      obtain ⟨⟨rfl, _⟩, _, rfl⟩ := hv
      rw [hk] at hblk
      simp at hblk
      subst hblk
      refine ⟨cur'.toList.take (L.length * 6), ?_, .inr ⟨g, cap, cur', rfl, a1, hk', a3, a4, by omega, rfl⟩⟩
      rw [List.length_take]
      simp
      rw [hsz, a5, Nat.min_eq_left (Nat.mul_le_mul_right _ a3)]
  · rw [hl] at hv
    have hv' := hv
    simp only [Value.slice.injEq, Option.some.injEq, Addr.mk.injEq] at hv'
    obtain ⟨⟨rfl, _⟩, _, rfl⟩ := hv'
    rw [List.getElem?_set] at hj
    by_cases hji : i = j
    · subst hji
      rw [if_pos rfl, if_pos hi] at hj
      obtain rfl := Option.some.inj hj
      exact hnew
    · rw [if_neg hji] at hj
      refine (hc g cap rfl j c hj).keep (fun q hq => hcell _ (by omega)) fun b k1 k2 k3 ⟨cu, k4⟩ => hoth b k3 ?_ ?_
      · rintro rfl
        rw [hk] at k4
        simp at k4
      · by_cases hlt : j < i
        · have : β (j + 1) ≤ β i := beta_mono bm (by omega)
          omega
        · have : β (i + 1) ≤ β j := beta_mono bm (by omega)
          omega
/-- Four cells of a row laid anew. -/
def arr4 (cur : Array Value) (o : Nat) (v0 v1 v2 v3 : Value) : Array Value := (((cur.setIfInBounds o v0).setIfInBounds (o + 1) v1).setIfInBounds (o + 2) v2).setIfInBounds (o + 3) v3
theorem arr4_size (cur : Array Value) (o : Nat) (v0 v1 v2 v3 : Value) : (arr4 cur o v0 v1 v2 v3).size = cur.size := by simp [arr4]
theorem arr4_out {cur : Array Value} {o p : Nat} (v0 v1 v2 v3 : Value) (h : p < o ∨ o + 4 ≤ p) : (arr4 cur o v0 v1 v2 v3)[p]? = cur[p]? := by
  unfold arr4
  simp only [Array.getElem?_setIfInBounds]
  rw [if_neg (by omega), if_neg (by omega), if_neg (by omega), if_neg (by omega)]
theorem arr4_in {cur : Array Value} {o : Nat} (v0 v1 v2 v3 : Value) (h : o + 4 ≤ cur.size) : (arr4 cur o v0 v1 v2 v3)[o]? = some v0 ∧ (arr4 cur o v0 v1 v2 v3)[o + 1]? = some v1 ∧ (arr4 cur o v0 v1 v2 v3)[o + 2]? = some v2 ∧ (arr4 cur o v0 v1 v2 v3)[o + 3]? = some v3 := by
  unfold arr4
  simp only [Array.getElem?_setIfInBounds, Array.size_setIfInBounds]
  refine ⟨?_, ?_, ?_, ?_⟩
  · rw [if_neg (by omega), if_neg (by omega), if_neg (by omega), if_pos trivial, if_pos (by omega)]
  · rw [if_neg (by omega), if_neg (by omega), if_pos trivial, if_pos (by omega)]
  · rw [if_neg (by omega), if_pos trivial, if_pos (by omega)]
  · rw [if_pos trivial, if_pos (by omega)]
set_option maxRecDepth 100000 in
set_option maxHeartbeats 2000000 in
theorem markCellS_o (B T : Nat) (a : Option Addr) (h : List Cel) (cap k : Nat) (w : World) (ho : OwnH w B T (.slice a h.length cap) h) (hT : T ≤ w.heap.size) (hk1 : 1 ≤ k) (hk : k + wtH h ≤ 1000000000000) :
    Calls Try.prog 12 #[.slice a h.length cap, .int .i64 (k : Int)] w fun e w' => e = .returned (.int .i64 ((k + wtH h : Nat) : Int)) ∧ OwnH w' B T (.slice a h.length cap) (marksH k h) ∧ Only B T w w' := by
  obtain ⟨β, ho⟩ := ho.bound
  have H0 : Hid (OwnB w B T β (.slice a h.length cap) h) := ho
  have hln : h.length ≤ wtH h := by
    have : ∀ l : List Cel, l.length ≤ wtH l := by
      intro l
      induction l with
      | nil => simp [wtH]
      | cons c r ih => simp [wtH, wtC] at ih ⊢; omega
    exact this h
  clear ho
  go_enter Try.func12, Try.ntmps12
  go_wp2
  go_loopw [1, 5] (fun kv iv wr => ∃ (i m : Nat) (L : List Cel), i ≤ h.length ∧ m = k + wtH (h.take i) ∧ kv = .int .i64 m ∧ iv = .int .i64 i ∧ L.length = h.length ∧ (∀ j, j < i → L[j]? = (marksH k h)[j]?) ∧ (∀ j, i ≤ j → L[j]? = h[j]?) ∧ OwnB wr B T β (.slice a h.length cap) L ∧ Only B T w wr)
    (fun kv iv _ => h.length - (intOf iv).toNat)
  case atStart => exact ⟨0, k, h, Nat.zero_le _, by simp [wtH], rfl, rfl, rfl, fun j hj => by omega, fun _ _ => rfl, H0.out, Only.refl _ _ _⟩
  case round =>
    obtain ⟨i, m, L, hi, hm, rfl, rfl, hL, hmk, hrest, ho, hg⟩ := hrel
    have HM : Hid (m = k + wtH (h.take i)) := hm
    have hm6 : m ≤ 1000000000000 := by have := wtH_le h i; omega
    have hm1 : 1 ≤ m := by omega
    have HG : Hid (Only B T w wr) := hg
    have HL : Hid (L.length = h.length) := hL
    have HK : Hid (∀ j, j < i → L[j]? = (marksH k h)[j]?) := hmk
    have HR : Hid (∀ j, i ≤ j → L[j]? = h[j]?) := hrest
    have HO : Hid (OwnB wr B T β (.slice a h.length cap) L) := ho
    by_cases hlt : i < h.length
    · obtain ⟨c, hc⟩ : ∃ c, h[i]? = some c := ⟨_, List.getElem?_eq_getElem hlt⟩
      have HC : Hid (h[i]? = some c) := hc
      have hwt := wtH_take hc
      have hwl := wtH_le h (i + 1)
      have hcw : m + wtC c ≤ 1000000000000 := by omega
      unfold wtC at hcw
      obtain ⟨⟨xs, hx⟩, hbT, hb0, hbm, hbt, hcc⟩ := ho
      rw [hL] at hx
      obtain ⟨g, cur, rfl, hblk, hcs⟩ := own_some hx (by omega)
      obtain ⟨nv, vv, c0, c1, c2, c3, c4, c5, hs, hv, l1, l2⟩ := hcc g cap (by rw [hL]) i c ((hrest i (Nat.le_refl _)).trans hc)
      obtain ⟨an, cn, rfl, ln⟩ := hs.slice
      obtain ⟨av, cv, rfl, lv⟩ := hv.slice
      have hgT : g < T := hbT g rfl
      have hgB : B ≤ g := (own_blk hx rfl).1
      have hgl : g < wr.heap.size := (Array.getElem?_eq_some_iff.1 hblk).1
      have KX : Hid (wr.heap[g]? = some (.cells cur 47 (0, 0))) := hblk
      have HS : Hid (OwnS wr (β i) (.slice an c.names.length cn) c.names) := hs
      have HV : Hid (OwnV wr (β i) (.slice av c.vals.length cv) c.vals) := hv
      have HL1 : Hid (∀ q, (Value.slice an c.names.length cn).ownBlock = some q → q < β (i + 1)) := l1
      have HL2 : Hid (∀ q, (Value.slice av c.vals.length cv).ownBlock = some q → q < β (i + 1)) := l2
      have HBM : Hid (B ≤ β i ∧ β (i + 1) ≤ T) := ⟨Nat.le_trans hb0 (beta_mono hbm (by omega)), Nat.le_trans (beta_mono hbm (by omega)) hbt⟩
      have C4 : Hid (wr.cell? ⟨g, i * 6 + 4, none⟩ = some (.slice an c.names.length cn)) := c4
      have C5 : Hid (wr.cell? ⟨g, i * 6 + 5, none⟩ = some (.slice av c.vals.length cv)) := c5
      have f0 := frozen_blk hblk (i * 6)
      have HT : Hid (∀ w, Calls Try.prog 25 #[.int .i64 ((m : Int) + 1)] w fun e w' => Ans w (.string (mtx (m + 1))) e w') := fun w => by
        have q := markText_any (m + 1) w (by omega) (by omega)
        rw [show ((m + 1 : Nat) : Int) = (m : Int) + 1 by omega] at q
        exact q
      clear hg hmk hm ho hblk hL hrest hx hbT hb0 hbm hbt hcc c1 c2 c3 c4 c5 hs hv l1 l2 hc hwt hwl
      go_wp2_with fail
      refine (HT.out _).mono ?_
      rintro e w2 ⟨rfl, hb2⟩
      have k2 := (hb2.block g (by simp; exact hgl)).trans (heap_setCell_same wr g (i * 6) _ _ (.int .i64 m) KX.out)
      obtain ⟨y1, e1⟩ := cell_blk' k2 (i * 6 + 1) (by simp; omega)
      obtain ⟨y2, e2⟩ := cell_blk' k2 (i * 6 + 2) (by simp; omega)
      obtain ⟨y3, e3⟩ := cell_blk' k2 (i * 6 + 3) (by simp; omega)
      have f1 := frozen_blk k2 (i * 6 + 1)
      have f2 := frozen_blk k2 (i * 6 + 2)
      have f3 := frozen_blk k2 (i * 6 + 3)
      have e4 : w2.cell? ⟨g, i * 6 + 4, none⟩ = some (.slice an c.names.length cn) := by
        have q := C4.out
        rw [cell_of_row _ _ _ _ _ _ KX.out] at q
        rw [cell_of_row _ _ _ _ _ _ k2, Array.getElem?_setIfInBounds, if_neg (by omega)]
        exact q
      have K2 : Hid (w2.heap[g]? = some (.cells (cur.setIfInBounds (i * 6) (.int .i64 m)) 47 (0, 0))) := k2
      have hs2 : wr.heap.size ≤ w2.heap.size := by have := hb2.size; simpa using this
      have HB2 : Hid (∀ b, b ≠ g → b < wr.heap.size → w2.heap[b]? = wr.heap[b]?) := fun b hb hbl => (hb2.block b (by simpa using hbl)).trans (heap_setCell_other _ _ _ _ hb)
      have HO2 : Hid (Only B T w w2) := (HG.out.trans (Only.of_gb (gb_set _ _ _ _) fun q hq => by obtain rfl : g = q := (by injection hq); exact ⟨hgB, hgT⟩)).trans (Only.of_below hb2)
      clear k2 hb2 c0 f0 HT
      go_wp2_with fail
      rw [show (m : Int) + 1 + 1 + 1 + 1 = (m : Int) + 4 by omega, show (m : Int) + 1 + 1 + 1 = (m : Int) + 3 by omega, show (m : Int) + 1 + 1 = (m : Int) + 2 by omega]
      have k3 : (((w2.setCell ⟨g, i * 6 + 1, none⟩ (.string (mtx (m + 1)))).setCell ⟨g, i * 6 + 2, none⟩ (.int .i64 ((m : Int) + 2))).setCell ⟨g, i * 6 + 3, none⟩ (.int .i64 ((m : Int) + 3))).heap[g]? = some (.cells (arr4 cur (i * 6) (.int .i64 m) (.string (mtx (m + 1))) (.int .i64 ((m : Int) + 2)) (.int .i64 ((m : Int) + 3))) 47 (0, 0)) := heap_setCell_same _ _ _ _ _ _ (heap_setCell_same _ _ _ _ _ _ (heap_setCell_same _ _ _ _ _ _ K2.out))
      have hb3 : ∀ b, b ≠ g → b < wr.heap.size → (((w2.setCell ⟨g, i * 6 + 1, none⟩ (.string (mtx (m + 1)))).setCell ⟨g, i * 6 + 2, none⟩ (.int .i64 ((m : Int) + 2))).setCell ⟨g, i * 6 + 3, none⟩ (.int .i64 ((m : Int) + 3))).heap[b]? = wr.heap[b]? := fun b hb hbl => (heap_setCell_other _ _ _ _ hb).trans ((heap_setCell_other _ _ _ _ hb).trans ((heap_setCell_other _ _ _ _ hb).trans (HB2.out b hb hbl)))
      have ho3 : Only B T w (((w2.setCell ⟨g, i * 6 + 1, none⟩ (.string (mtx (m + 1)))).setCell ⟨g, i * 6 + 2, none⟩ (.int .i64 ((m : Int) + 2))).setCell ⟨g, i * 6 + 3, none⟩ (.int .i64 ((m : Int) + 3))) := by
        have q : ∀ r, some g = some r → B ≤ r ∧ r < T := fun r hr => by obtain rfl : g = r := (by injection hr); exact ⟨hgB, hgT⟩
        exact ((HO2.out.trans (Only.of_gb (gb_set _ _ _ _) q)).trans (Only.of_gb (gb_set _ _ _ _) q)).trans (Only.of_gb (gb_set _ _ _ _) q)
      have hs3 : (((w2.setCell ⟨g, i * 6 + 1, none⟩ (.string (mtx (m + 1)))).setCell ⟨g, i * 6 + 2, none⟩ (.int .i64 ((m : Int) + 2))).setCell ⟨g, i * 6 + 3, none⟩ (.int .i64 ((m : Int) + 3))).heap.size = w2.heap.size := by simp
      clear e1 e2 e3 e4 f1 f2 f3
      generalize (((w2.setCell ⟨g, i * 6 + 1, none⟩ (.string (mtx (m + 1)))).setCell ⟨g, i * 6 + 2, none⟩ (.int .i64 ((m : Int) + 2))).setCell ⟨g, i * 6 + 3, none⟩ (.int .i64 ((m : Int) + 3))) = w3 at *
      have hne1 : ∀ b, (Value.slice an c.names.length cn).ownBlock = some b → b ≠ g := fun b hb => by
        rintro rfl
        obtain ⟨_, _, cu, q⟩ := HS.out.blk hb
        rw [KX.out] at q
        simp at q
      have hne2 : ∀ b, (Value.slice av c.vals.length cv).ownBlock = some b → b ≠ g := fun b hb => by
        rintro rfl
        obtain ⟨_, _, cu, q⟩ := HV.out.blk hb
        rw [KX.out] at q
        simp at q
      have hs3' : OwnS w3 (β i) (.slice an c.names.length cn) c.names := HS.out.keep fun b hb => hb3 b (hne1 b hb) (HS.out.blk hb).2.1
      obtain ⟨q, hq⟩ : ∃ q, q = m + 4 + c.names.length := ⟨_, rfl⟩
      have hMS := markStringS_o (β i) an c.names cn (m + 4) w3 hs3' (by omega) (by omega)
      rw [← hq, show ((m + 4 : Nat) : Int) = (m : Int) + 4 by omega] at hMS
      refine hMS.mono ?_
      rintro e w4 ⟨rfl, hn4, hg4⟩
      have k4 := (hg4.block g (Array.getElem?_eq_some_iff.1 k3).1 (fun e => hne1 g e.symm rfl)).trans k3
      have e5 : w4.cell? ⟨g, i * 6 + 5, none⟩ = some (.slice av c.vals.length cv) := by
        have q := C5.out
        rw [cell_of_row _ _ _ _ _ _ KX.out] at q
        rw [cell_of_row _ _ _ _ _ _ k4, arr4_out _ _ _ _ (by omega)]
        exact q
      have hb4 : ∀ b, b ≠ g → b < wr.heap.size → (b < β i ∨ β (i + 1) ≤ b) → w4.heap[b]? = wr.heap[b]? := fun b hb hbl hbb => (hg4.block b (by omega) fun e => by have := (HS.out.blk e.symm).1; have := HL1.out b e.symm; omega).trans (hb3 b hb hbl)
      have ho4 : Only B T w w4 := ho3.trans (Only.of_gb hg4 fun r hr => by have := (HS.out.blk hr).1; have := HL1.out r hr; have := HBM.out; omega)
      have hv4 : OwnV w4 (β i) (.slice av c.vals.length cv) c.vals := HV.out.keep fun b hb => by
        refine (hg4.block b (by have := (HV.out.blk hb).2.1; omega) fun e => ?_).trans (hb3 b (hne2 b hb) (HV.out.blk hb).2.1)
        obtain ⟨_, _, cu, q1⟩ := HV.out.blk hb
        obtain ⟨_, _, cu', q2⟩ := HS.out.blk e.symm
        rw [q1] at q2
        simp at q2
      have HMV : Hid (Calls Try.prog 13 #[.slice av c.vals.length cv, .int .i64 (q : Int)] w4 fun e w' => e = .returned (.int .i64 ((q + c.vals.length * 3 : Nat) : Int)) ∧ OwnV w' (β i) (.slice av c.vals.length cv) (marksV q c.vals.length) ∧ w4.grownBy w' (Value.slice av c.vals.length cv).ownBlock) := markValueS_o (β i) av c.vals cv q w4 hv4 (by omega) (by omega)
      have HN4 : Hid (OwnS w4 (β i) (.slice an c.names.length cn) (marksS (m + 4) c.names.length)) := hn4
      have HB4 : Hid (∀ b, b ≠ g → b < wr.heap.size → (b < β i ∨ β (i + 1) ≤ b) → w4.heap[b]? = wr.heap[b]?) := hb4
      have HO4 : Hid (Only B T w w4) := ho4
      have K4 : Hid (w4.heap[g]? = some (.cells (arr4 cur (i * 6) (.int .i64 m) (.string (mtx (m + 1))) (.int .i64 ((m : Int) + 2)) (.int .i64 ((m : Int) + 3))) 47 (0, 0))) := k4
      have HQ : Hid (q = m + 4 + c.names.length) := hq
      have HE1 : Hid (∀ b, (Value.slice an c.names.length cn).ownBlock = some b → b ≠ g) := hne1
      have HE2 : Hid (∀ b, (Value.slice av c.vals.length cv).ownBlock = some b → b ≠ g) := hne2
      have hs4 : wr.heap.size ≤ w4.heap.size := by have := hg4.size; omega
      have hq6 : q + c.vals.length * 3 ≤ 1000000000000 := by omega
      clear hMS hn4 hg4 hb4 ho4 hv4 k4 hq hs3' hne1 hne2 k3 hb3 ho3 hs3
      go_wp2_with fail
      refine HMV.out.mono ?_
      rintro e w5 ⟨rfl, hv5, hg5⟩
      have HV5 : Hid (OwnV w5 (β i) (.slice av c.vals.length cv) (marksV q c.vals.length)) := hv5
      have HG5 : Hid (w4.grownBy w5 (Value.slice av c.vals.length cv).ownBlock) := hg5
      obtain ⟨r, hr⟩ : ∃ r, r = q + c.vals.length * 3 := ⟨_, rfl⟩
      rw [← hr]
      have HRR : Hid (r = q + c.vals.length * 3) := hr
      have hr6 : r ≤ 1000000000000 := by omega
      clear hv5 hg5 hr HMV e5
      go_wp2
      go_roundw
      case rel =>
        have hL := HL.out
        have hg5 := HG5.out
        have k5 := (hg5.block g (Array.getElem?_eq_some_iff.1 K4.out).1 (fun e => HE2.out g e.symm rfl)).trans K4.out
        have hsz : (arr4 cur (i * 6) (.int .i64 m) (.string (mtx (m + 1))) (.int .i64 ((m : Int) + 2)) (.int .i64 ((m : Int) + 3))).size = cur.size := arr4_size _ _ _ _ _ _
        obtain ⟨p0, p1, p2, p3⟩ := arr4_in (cur := cur) (o := i * 6) (.int .i64 m) (.string (mtx (m + 1))) (.int .i64 ((m : Int) + 2)) (.int .i64 ((m : Int) + 3)) (by omega)
        have p4 : w5.cell? ⟨g, i * 6 + 4, none⟩ = some (.slice an c.names.length cn) := by
          have q := C4.out
          rw [cell_of_row _ _ _ _ _ _ KX.out] at q
          rw [cell_of_row _ _ _ _ _ _ k5, arr4_out _ _ _ _ (by omega)]
          exact q
        have p5 : w5.cell? ⟨g, i * 6 + 5, none⟩ = some (.slice av c.vals.length cv) := by
          have q := C5.out
          rw [cell_of_row _ _ _ _ _ _ KX.out] at q
          rw [cell_of_row _ _ _ _ _ _ k5, arr4_out _ _ _ _ (by omega)]
          exact q
        have hn5 : OwnS w5 (β i) (.slice an c.names.length cn) (marksS (m + 4) c.names.length) := HN4.out.keep fun b hb => hg5.block b (HN4.out.blk hb).2.1 fun e => by
          obtain ⟨_, _, cu, q1⟩ := HV5.out.blk e.symm
          obtain ⟨_, _, cu', q2⟩ := HN4.out.blk hb
          obtain ⟨_, _, cu3, q3⟩ := HV.out.blk e.symm
          obtain ⟨_, _, cu4, q4⟩ := HS.out.blk hb
          rw [q3] at q4
          simp at q4
        have hq := HQ.out
        refine ⟨i + 1, r, L.set i (markC m c), by omega, ?_, rfl, by go_num, by simp; omega, fun j hj => ?_, fun j hj => ?_, ?_, ?_⟩
        · have := HRR.out
          have := HM.out
          rw [wtH_take HC.out]
          unfold wtC
          omega
        · rw [List.getElem?_set]
          by_cases hji : i = j
          · subst hji
            rw [if_pos rfl, if_pos (by omega), marksH_get k h i c HC.out, HM.out]
          · rw [if_neg hji]
            exact HK.out j (by omega)
        · rw [List.getElem?_set, if_neg (by omega)]
          exact HR.out j (by omega)
        · refine HO.out.mark HL.out.symm (by omega) KX.out k5 hsz (fun o ho => ?_) (fun b b1 b2 b3 => ?_) ⟨.slice an c.names.length cn, .slice av c.vals.length cv, cell_blk k5 p0, cell_blk k5 p1, cell_blk k5 p2, cell_blk k5 p3, p4, p5, hn5, by rw [hq] at HV5; exact HV5.out, HL1.out, HL2.out⟩
          · rw [cell_of_row _ _ _ _ _ _ k5, cell_of_row _ _ _ _ _ _ KX.out, arr4_out _ _ _ _ (by omega)]
          · exact (hg5.block b (by omega) fun e => by have := (HV.out.blk e.symm).1; have := HL2.out b e.symm; omega).trans (HB4.out b b2 b1 b3)
        · exact HO4.out.trans (Only.of_gb hg5 fun r hr => by have := (HV.out.blk hr).1; have := HL2.out r hr; have := HBM.out; omega)
      case measure => simp [intOf]; omega
    · have hlt' : decide ((i : Int) < (h.length : Int)) = false := by simp; omega
      obtain rfl : i = h.length := by omega
      rw [List.take_length] at HM
      have HW : Hid (OwnB wr B T β (.slice a h.length cap) (marksH k h)) := by
        have e : L = marksH k h := list_eq hL (marksH_len _ _) fun j hj => hmk j hj
        rw [← e]; exact ho
      clear hlt hg hmk hm ho hL hrest HO
      go_wp2
      go_ret
      exact ⟨by rw [HM.out]; rfl, HW.out.own, HG.out⟩
end Go.Proofs.Ytpjafenpjigmkaa
