/- A heap that comes in, copied: its rows of texts and of values. A heap that comes in, copied whole. Heaps and values that come in, copied into rows that can be written. -/
import Derived.Test.YtpjafenpjigmkaaVlp
import Derived.Test.YtpjafenpjigmkaaRww
set_option linter.unusedVariables false
namespace Go.Proofs.Ytpjafenpjigmkaa
open Go.ChangeShapes Go.WideShapes Go.ChangeAt Go.RowKit
theorem sc_other (w : World) (c j k : Nat) (v : Value) (h : j ≠ k) : (w.setCell ⟨c, j, none⟩ v).cell? ⟨c, k, none⟩ = w.cell? ⟨c, k, none⟩ := by
  apply World.cell?_setCell_other
  intro e
  injection e with _ e2
  exact h e2
/-- 3 cells laid. -/
def put3 (w : World) (g o : Nat) (v0 v1 v2 : Value) : World :=
  ((w.setCell ⟨g, o, none⟩ v0).setCell ⟨g, o + 1, none⟩ v1).setCell ⟨g, o + 2, none⟩ v2
theorem put3_blk {w : World} {g : Nat} {xs : Array Value} {t : TypeId} (o : Nat) (v0 v1 v2 : Value) (h : w.heap[g]? = some (.cells xs t (0, 0))) : ∃ ys, (put3 w g o v0 v1 v2).heap[g]? = some (.cells ys t (0, 0)) ∧ ys.size = xs.size :=
  ⟨_, heap_setCell_same _ _ _ _ _ _ (heap_setCell_same _ _ _ _ _ _ (heap_setCell_same _ _ _ _ _ _ h)), by simp⟩
theorem put3_below {B g : Nat} {w0 w : World} (h : Below B w0 w) (hg : B ≤ g) (o : Nat) (v0 v1 v2 : Value) : Below B w0 (put3 w g o v0 v1 v2) :=
  ((h.setCell (p := ⟨g, _, none⟩) hg _).setCell (p := ⟨g, _, none⟩) hg _).setCell (p := ⟨g, _, none⟩) hg _
theorem put3_other {w : World} {g o : Nat} {v0 v1 v2 : Value} {b : Nat} (h : b ≠ g) : (put3 w g o v0 v1 v2).heap[b]? = w.heap[b]? := by
  unfold put3
  rw [heap_setCell_other _ _ _ _ h, heap_setCell_other _ _ _ _ h, heap_setCell_other _ _ _ _ h]
theorem put3_size {w : World} {g o : Nat} {v0 v1 v2 : Value} : (put3 w g o v0 v1 v2).heap.size = w.heap.size := by
  simp [put3]
theorem put3_out {w : World} {g o k : Nat} {v0 v1 v2 : Value} (h : k < o ∨ o + 3 ≤ k) : (put3 w g o v0 v1 v2).cell? ⟨g, k, none⟩ = w.cell? ⟨g, k, none⟩ := by
  unfold put3
  rw [sc_other _ _ _ _ _ (by omega), sc_other _ _ _ _ _ (by omega), sc_other _ _ _ _ _ (by omega)]
theorem put3_same {w : World} {g o : Nat} {v0 v1 v2 : Value} {xs : Array Value} {t : TypeId} (h : w.heap[g]? = some (.cells xs t (0, 0))) (hs : o + 3 ≤ xs.size) :
    (put3 w g o v0 v1 v2).cell? ⟨g, o, none⟩ = some v0 ∧ (put3 w g o v0 v1 v2).cell? ⟨g, o + 1, none⟩ = some v1 ∧ (put3 w g o v0 v1 v2).cell? ⟨g, o + 2, none⟩ = some v2 := by
  have key := heap_setCell_same _ g (o + 2) _ _ v2 (heap_setCell_same _ g (o + 1) _ _ v1 (heap_setCell_same _ g o _ _ v0 h))
  have e : (put3 w g o v0 v1 v2).heap[g]? = _ := key
  refine ⟨cell_blk e ?_, cell_blk e ?_, cell_blk e ?_⟩
  all_goals
    simp only [Array.getElem?_setIfInBounds, Array.size_setIfInBounds]
    simp
    try omega
/-- 6 cells laid. -/
def put6 (w : World) (g o : Nat) (v0 v1 v2 v3 v4 v5 : Value) : World :=
  (((((w.setCell ⟨g, o, none⟩ v0).setCell ⟨g, o + 1, none⟩ v1).setCell ⟨g, o + 2, none⟩ v2).setCell ⟨g, o + 3, none⟩ v3).setCell ⟨g, o + 4, none⟩ v4).setCell ⟨g, o + 5, none⟩ v5
theorem put6_blk {w : World} {g : Nat} {xs : Array Value} {t : TypeId} (o : Nat) (v0 v1 v2 v3 v4 v5 : Value) (h : w.heap[g]? = some (.cells xs t (0, 0))) : ∃ ys, (put6 w g o v0 v1 v2 v3 v4 v5).heap[g]? = some (.cells ys t (0, 0)) ∧ ys.size = xs.size :=
  ⟨_, heap_setCell_same _ _ _ _ _ _ (heap_setCell_same _ _ _ _ _ _ (heap_setCell_same _ _ _ _ _ _ (heap_setCell_same _ _ _ _ _ _ (heap_setCell_same _ _ _ _ _ _ (heap_setCell_same _ _ _ _ _ _ h))))), by simp⟩
theorem put6_below {B g : Nat} {w0 w : World} (h : Below B w0 w) (hg : B ≤ g) (o : Nat) (v0 v1 v2 v3 v4 v5 : Value) : Below B w0 (put6 w g o v0 v1 v2 v3 v4 v5) :=
  (((((h.setCell (p := ⟨g, _, none⟩) hg _).setCell (p := ⟨g, _, none⟩) hg _).setCell (p := ⟨g, _, none⟩) hg _).setCell (p := ⟨g, _, none⟩) hg _).setCell (p := ⟨g, _, none⟩) hg _).setCell (p := ⟨g, _, none⟩) hg _
theorem put6_other {w : World} {g o : Nat} {v0 v1 v2 v3 v4 v5 : Value} {b : Nat} (h : b ≠ g) : (put6 w g o v0 v1 v2 v3 v4 v5).heap[b]? = w.heap[b]? := by
  unfold put6
  rw [heap_setCell_other _ _ _ _ h, heap_setCell_other _ _ _ _ h, heap_setCell_other _ _ _ _ h, heap_setCell_other _ _ _ _ h, heap_setCell_other _ _ _ _ h, heap_setCell_other _ _ _ _ h]
theorem put6_size {w : World} {g o : Nat} {v0 v1 v2 v3 v4 v5 : Value} : (put6 w g o v0 v1 v2 v3 v4 v5).heap.size = w.heap.size := by
  simp [put6]
theorem put6_out {w : World} {g o k : Nat} {v0 v1 v2 v3 v4 v5 : Value} (h : k < o ∨ o + 6 ≤ k) : (put6 w g o v0 v1 v2 v3 v4 v5).cell? ⟨g, k, none⟩ = w.cell? ⟨g, k, none⟩ := by
  unfold put6
  rw [sc_other _ _ _ _ _ (by omega), sc_other _ _ _ _ _ (by omega), sc_other _ _ _ _ _ (by omega), sc_other _ _ _ _ _ (by omega), sc_other _ _ _ _ _ (by omega), sc_other _ _ _ _ _ (by omega)]
theorem put6_same {w : World} {g o : Nat} {v0 v1 v2 v3 v4 v5 : Value} {xs : Array Value} {t : TypeId} (h : w.heap[g]? = some (.cells xs t (0, 0))) (hs : o + 6 ≤ xs.size) :
    (put6 w g o v0 v1 v2 v3 v4 v5).cell? ⟨g, o, none⟩ = some v0 ∧ (put6 w g o v0 v1 v2 v3 v4 v5).cell? ⟨g, o + 1, none⟩ = some v1 ∧ (put6 w g o v0 v1 v2 v3 v4 v5).cell? ⟨g, o + 2, none⟩ = some v2 ∧ (put6 w g o v0 v1 v2 v3 v4 v5).cell? ⟨g, o + 3, none⟩ = some v3 ∧ (put6 w g o v0 v1 v2 v3 v4 v5).cell? ⟨g, o + 4, none⟩ = some v4 ∧ (put6 w g o v0 v1 v2 v3 v4 v5).cell? ⟨g, o + 5, none⟩ = some v5 := by
  have key := heap_setCell_same _ g (o + 5) _ _ v5 (heap_setCell_same _ g (o + 4) _ _ v4 (heap_setCell_same _ g (o + 3) _ _ v3 (heap_setCell_same _ g (o + 2) _ _ v2 (heap_setCell_same _ g (o + 1) _ _ v1 (heap_setCell_same _ g o _ _ v0 h)))))
  have e : (put6 w g o v0 v1 v2 v3 v4 v5).heap[g]? = _ := key
  refine ⟨cell_blk e ?_, cell_blk e ?_, cell_blk e ?_, cell_blk e ?_, cell_blk e ?_, cell_blk e ?_⟩
  all_goals
    simp only [Array.getElem?_setIfInBounds, Array.size_setIfInBounds]
    simp
    try omega
theorem Try.info9 : (Try.prog.info? 9).map (fun i => (i.zero, i.size, i.bytes)) = some (some (.string ⟨#[]⟩), 1, 16) := by kernel_rfl
theorem Try.info30 : (Try.prog.info? 32).map (fun i => (i.zero, i.size, i.bytes)) = some (some (.agg #[.int .i64 0, .int .i64 0, .string ⟨#[]⟩]), 3, 32) := by kernel_rfl
set_option maxRecDepth 100000 in
set_option maxHeartbeats 1000000 in
theorem toStringS_any (a : Option Addr) (ts : List ByteArray) (cap : Nat) (w : World) (hn : ts.length ≤ 1048576) (hr : RowS w w.heap.size a ts) :
    Calls Try.prog 33 #[.slice a ts.length cap] w fun e w' => ∃ g, e = .returned (.slice (some ⟨g, 0, none⟩) ts.length ts.length) ∧ w.heap.size ≤ g ∧ g < w'.heap.size ∧ RowSP w' (fun b => b = g) (some ⟨g, 0, none⟩) ts ∧ Below w.heap.size w w' := by
  obtain ⟨i0, hi, hz0, hz1, hz2⟩ := info_parts Try.info9
  have HR : Hid (RowS w w.heap.size a ts) := hr
  clear hr
  go_enter Try.func33, Try.ntmps33
  go_wp2_with (at_make; refine wpList_make_full _ rfl _ _ 40 rfl w.heap.size 9 i0 _ 1 Try.underlying40 hi hz0 hz1 .i64 .i64 _ _ ts.length rfl rfl rfl rfl ?c1 ?c2 ?c3 ?_)
  case c1 => rw [hz2]; omega
  case c2 => simp [maxLen]; omega
  case c3 => exact Nat.le_refl _
  intro w1 hown1 hgr1
  have hb1 : Below w.heap.size w w1 := (Below.refl _ _).grown hgr1 (Nat.le_refl _) (fun _ h => by cases h)
  obtain ⟨cur, hblk, hcs, _⟩ := made_row hown1
  clear hown1 hgr1
  go_wp2
  go_loopw [4] (fun o wr => ∃ (i : Nat) (cur : Array Value), i ≤ ts.length ∧ wr.heap[w.heap.size]? = some (.cells cur 9 (0, 0)) ∧ cur.size = ts.length ∧ (∀ j x, j < i → ts[j]? = some x → cur[j]? = some (.string x)) ∧ o = .int .i64 i ∧ Below w.heap.size w wr)
    (fun o _ => ts.length - (intOf o).toNat)
  case atStart => exact ⟨0, cur, by omega, hblk, by omega, fun j d h => absurd h (by omega), rfl, hb1⟩
  case round =>
    clear hblk hcs hb1
    obtain ⟨i, cur, hi, hblk, hcs, hat, rfl, hb⟩ := hrel
    by_cases hlt : i < ts.length
    · obtain ⟨d, hd⟩ : ∃ d, ts[i]? = some d := ⟨_, List.getElem?_eq_getElem hlt⟩
      obtain ⟨b, o, rfl, hbb, c0⟩ := (HR.out.below hb) i d hd
      have HA : Hid (∀ j x, j < i → ts[j]? = some x → cur[j]? = some (.string x)) := hat
      have HK : Hid (wr.heap[w.heap.size]? = some (.cells cur 9 (0, 0))) := hblk
      have f0 := frozen_blk hblk i
      obtain ⟨x0, e0⟩ := cell_blk' hblk i (by omega)
      clear hat hblk
      go_wp2
      go_roundw
      case rel =>
        refine ⟨i + 1, _, by omega, heap_setCell_same _ _ _ _ _ _ HK.out, by simp; omega, fun j x hj hx => ?_, by go_num, hb.setCell (p := ⟨_, _, none⟩) (Nat.le_refl _) _⟩
        rw [Array.getElem?_setIfInBounds]
        by_cases hji : i = j
        · subst hji
          obtain rfl : d = x := Option.some.inj (hd.symm.trans hx)
          rw [if_pos rfl, if_pos (by omega)]
        · rw [if_neg hji]
          exact HA.out j x (by omega) hx
      case measure => simp [intOf]; omega
    · have hlt' : decide ((i : Int) < (ts.length : Int)) = false := by simp; omega
      obtain rfl : i = ts.length := by omega
      have HA : Hid (∀ j x, j < ts.length → ts[j]? = some x → cur[j]? = some (.string x)) := hat
      have HK : Hid (wr.heap[w.heap.size]? = some (.cells cur 9 (0, 0))) := hblk
      clear hat hblk
      go_wp2
      go_ret
      refine ⟨w.heap.size, rfl, Nat.le_refl _, (Array.getElem?_eq_some_iff.1 HK.out).1, ?_, hb⟩
      intro j d hj
      have hjl := (List.getElem?_eq_some_iff.1 hj).1
      refine ⟨w.heap.size, 0, rfl, rfl, ?_⟩
      rw [Nat.zero_add]
      exact cell_blk HK.out (HA.out j d hjl hj)
set_option maxRecDepth 100000 in
set_option maxHeartbeats 1000000 in
theorem toValue_any (d : Val) (w : World) :
    Calls Try.prog 8 #[.agg #[.int .i64 d.k, .int .i64 d.n, .string d.s]] w fun e w' => Ans w (.agg #[.int .i64 d.k, .int .i64 d.n, .string d.s]) e w' := by
  go_enter Try.func8, Try.ntmps8
  go_wp2
  refine bodyPost_ret (results_cell_row rfl _ _ (w.heap.size + 1) 32 #[.int .i64 d.k, .int .i64 d.n, .string d.s] (0, 0) _ rfl (blk_past (blk_at _ _ _ (by simp))) Try.underlying32 rfl (by kernel_rfl)) rfl ?_
  exact ⟨rfl, (((Below.refl _ _).alloc (Nat.le_refl _) _).alloc (by simp) _).alloc (by simp; omega) _⟩
theorem ValAt.beside {w : World} {g o k : Nat} {v0 v1 v2 : Value} {d : Val} (h : ValAt w g k d) (ho : k + 3 ≤ o ∨ o + 3 ≤ k) : ValAt (put3 w g o v0 v1 v2) g k d := by
  obtain ⟨h0, h1, h2⟩ := h
  exact ⟨(put3_out (by omega)).trans h0, (put3_out (by omega)).trans h1, (put3_out (by omega)).trans h2⟩
set_option maxRecDepth 100000 in
set_option maxHeartbeats 1000000 in
theorem toValueS_any (a : Option Addr) (cs : List Val) (cap : Nat) (w : World) (hn : cs.length ≤ 1048576) (hr : RowV w w.heap.size a cs) :
    Calls Try.prog 34 #[.slice a cs.length cap] w fun e w' => ∃ g, e = .returned (.slice (some ⟨g, 0, none⟩) cs.length cs.length) ∧ w.heap.size ≤ g ∧ g < w'.heap.size ∧ RowVP w' (fun b => b = g) (some ⟨g, 0, none⟩) cs ∧ Below w.heap.size w w' := by
  obtain ⟨i0, hi, hz0, hz1, hz2⟩ := info_parts Try.info30
  have HR : Hid (RowV w w.heap.size a cs) := hr
  clear hr
  go_enter Try.func34, Try.ntmps34
  go_wp2_with (at_make; refine wpList_make_full _ rfl _ _ 27 rfl w.heap.size 32 i0 _ 3 Try.underlying27 hi hz0 hz1 .i64 .i64 _ _ cs.length rfl rfl rfl rfl ?c1 ?c2 ?c3 ?_)
  case c1 => rw [hz2]; omega
  case c2 => simp [maxLen]; omega
  case c3 => exact Nat.le_refl _
  intro w1 hown1 hgr1
  go_wp2
  have hb1 : Below w.heap.size w w1 := (Below.refl _ _).grown hgr1 (Nat.le_refl _) (fun _ h => by cases h)
  obtain ⟨hlen, ⟨h0, _⟩ | ⟨g, cp, cur, hv, _, hblk, _, _, hcs, _⟩⟩ := hown1
  · cases h0
  simp only [Value.slice.injEq, Option.some.injEq, Addr.mk.injEq] at hv
  obtain ⟨⟨rfl, _⟩, _, rfl⟩ := hv
  clear hlen
  go_loopw [4] (fun o wr => ∃ (i : Nat) (cur : Array Value), i ≤ cs.length ∧ wr.heap[w.heap.size]? = some (.cells cur 32 (0, 0)) ∧ cur.size = cs.length * 3 ∧ (∀ (j : Nat) (d : Val), j < i → cs[j]? = some d → ValAt wr w.heap.size (j * 3) d) ∧ o = .int .i64 i ∧ Below w.heap.size w wr)
    (fun o _ => cs.length - (intOf o).toNat)
  case atStart => exact ⟨0, cur, by omega, hblk, hcs, fun j d h => absurd h (by omega), rfl, hb1⟩
  case round =>
    clear hblk hcs hb1 hgr1
    obtain ⟨i, cur, hi, hblk, hcs, hat, rfl, hb⟩ := hrel
    by_cases hlt : i < cs.length
    · obtain ⟨d, hd⟩ : ∃ d, cs[i]? = some d := ⟨_, List.getElem?_eq_getElem hlt⟩
      obtain ⟨b1, o1, rfl, hbb, v0, v1, v2⟩ := HR.out i d hd
      have c0 := cell_keep v0 hb hbb
      have c1 := cell_keep v1 hb hbb
      have c2 := cell_keep v2 hb hbb
      have HA : Hid (∀ (j : Nat) (d : Val), j < i → cs[j]? = some d → ValAt wr w.heap.size (j * 3) d) := hat
      have HK : Hid (wr.heap[w.heap.size]? = some (.cells cur 32 (0, 0))) := hblk
      have hsz := hb.size
      have hlt2 : w.heap.size < wr.heap.size := (Array.getElem?_eq_some_iff.1 hblk).1
      have HT : Hid (Calls Try.prog 8 #[.agg #[.int .i64 d.k, .int .i64 d.n, .string d.s]] wr fun e w' => Ans wr (.agg #[.int .i64 d.k, .int .i64 d.n, .string d.s]) e w') := toValue_any d wr
      clear hat hblk v0 v1 v2
      go_wp2_with fail
      refine HT.out.mono ?_
      rintro e w2 ⟨rfl, hb2⟩
      have hk2 := blk_keep HK.out hb2 hlt2
      have f0 := frozen_blk hk2 (i * 3)
      have f1 := frozen_blk hk2 (i * 3 + 1)
      have f2 := frozen_blk hk2 (i * 3 + 2)
      obtain ⟨x0, e0⟩ := cell_blk' hk2 (i * 3) (by omega)
      obtain ⟨x1, e1⟩ := cell_blk' hk2 (i * 3 + 1) (by omega)
      obtain ⟨x2, e2⟩ := cell_blk' hk2 (i * 3 + 2) (by omega)
      have HK2 : Hid (w2.heap[w.heap.size]? = some (.cells cur 32 (0, 0))) := hk2
      have hs2 := hb2.size
      clear hk2 HT
      go_wp2
      go_roundw
      case rel =>
        obtain ⟨ys, hy1, hy2⟩ := put3_blk (i * 3) (.int .i64 d.k) (.int .i64 d.n) (.string d.s) HK2.out
        refine ⟨i + 1, ys, by omega, hy1, by omega, fun j d' hj hd' => ?_, by go_num, ?_⟩
        · by_cases hji : j = i
          · subst hji
            obtain rfl : d = d' := Option.some.inj (hd.symm.trans hd')
            exact put3_same (v0 := .int .i64 d.k) (v1 := .int .i64 d.n) (v2 := .string d.s) (o := j * 3) HK2.out (by omega)
          · have hq := (HA.out j d' (by omega) hd').keep (hb2.block _ hlt2)
            exact hq.beside (by omega)
        · exact put3_below (hb.trans (hb2.mono hsz)) (Nat.le_refl _) (i * 3) _ _ _
      case measure => simp [intOf]; omega
    · have hlt' : decide ((i : Int) < (cs.length : Int)) = false := by simp; omega
      obtain rfl : i = cs.length := by omega
      have HA : Hid (∀ (j : Nat) (d : Val), j < cs.length → cs[j]? = some d → ValAt wr w.heap.size (j * 3) d) := hat
      have HK : Hid (wr.heap[w.heap.size]? = some (.cells cur 32 (0, 0))) := hblk
      clear hat hblk
      go_wp2
      go_ret
      refine ⟨w.heap.size, rfl, Nat.le_refl _, (Array.getElem?_eq_some_iff.1 HK.out).1, fun j d hj => ⟨w.heap.size, 0, rfl, rfl, ?_⟩, hb⟩
      rw [Nat.zero_add]
      exact HA.out j d (List.getElem?_eq_some_iff.1 hj).1 hj
end Go.Proofs.Ytpjafenpjigmkaa
set_option linter.unusedVariables false
namespace Go.Proofs.Ytpjafenpjigmkaa
open Go.ChangeShapes Go.WideShapes Go.ChangeAt Go.RowKit
/-- What toCell leaves. -/
def TnPost (d : Cel) (w : World) (e : Ending) (w' : World) : Prop := ∃ g h, e = .returned (.agg #[.int .i64 d.k, .string d.s, .int .i64 d.a, .int .i64 d.b, .slice (some ⟨g, 0, none⟩) d.names.length d.names.length, .slice (some ⟨h, 0, none⟩) d.vals.length d.vals.length]) ∧
  CelRows w' (fun b => w.heap.size ≤ b ∧ b < w'.heap.size) (some ⟨g, 0, none⟩) d.names.length (some ⟨h, 0, none⟩) d.vals.length d ∧ Below w.heap.size w w'
set_option maxRecDepth 100000 in
set_option maxHeartbeats 2000000 in
theorem toCell_any (d : Cel) (an aa : Option Addr) (cn ca : Nat) (w : World) (hs : d.small) (hr : CelRows w (fun b => b < w.heap.size) an cn aa ca d) :
    Calls Try.prog 19 #[.agg #[.int .i64 d.k, .string d.s, .int .i64 d.a, .int .i64 d.b, .slice an d.names.length cn, .slice aa d.vals.length ca]] w fun e w' => TnPost d w e w' := by
  obtain ⟨hrs, hri, -, -⟩ := hr
  obtain ⟨_, _, _, _, s4, s5, _⟩ := hs
  have HS : Hid (∀ w1, Below w.heap.size w w1 → Calls Try.prog 33 #[.slice an d.names.length cn] w1 fun e w' => ∃ g, e = .returned (.slice (some ⟨g, 0, none⟩) d.names.length d.names.length) ∧ w1.heap.size ≤ g ∧ g < w'.heap.size ∧ RowSP w' (fun b => b = g) (some ⟨g, 0, none⟩) d.names ∧ Below w1.heap.size w1 w') := fun w1 h => toStringS_any an d.names cn w1 s4 (hrs.keep fun b hb => ⟨by have := h.size; omega, h.block b hb⟩)
  have HI : Hid (∀ w1, Below w.heap.size w w1 → Calls Try.prog 34 #[.slice aa d.vals.length ca] w1 fun e w' => ∃ g, e = .returned (.slice (some ⟨g, 0, none⟩) d.vals.length d.vals.length) ∧ w1.heap.size ≤ g ∧ g < w'.heap.size ∧ RowVP w' (fun b => b = g) (some ⟨g, 0, none⟩) d.vals ∧ Below w1.heap.size w1 w') := fun w1 h => toValueS_any aa d.vals ca w1 s5 (hri.keep fun b hb => ⟨by have := h.size; omega, h.block b hb⟩)
  clear hrs hri
  go_enter Try.func19, Try.ntmps19
  go_wp2_with fail
  have hbA : Below w.heap.size w (((w.alloc (Obj.cells #[.int .i64 d.k, .string d.s, .int .i64 d.a, .int .i64 d.b, .slice an d.names.length cn, .slice aa d.vals.length ca] 43)).alloc (Obj.cells #[.int .i64 0, .string ⟨#[]⟩, .int .i64 0, .int .i64 0, .slice none 0 0, .slice none 0 0] 47)).alloc (Obj.cells #[.int .i64 d.k, .string d.s, .int .i64 d.a, .int .i64 d.b, .slice none 0 0, .slice none 0 0] 47)) := (((Below.refl _ _).alloc (Nat.le_refl _) _).alloc (by simp) _).alloc (by simp; omega) _
  have k0 : (((w.alloc (Obj.cells #[.int .i64 d.k, .string d.s, .int .i64 d.a, .int .i64 d.b, .slice an d.names.length cn, .slice aa d.vals.length ca] 43)).alloc (Obj.cells #[.int .i64 0, .string ⟨#[]⟩, .int .i64 0, .int .i64 0, .slice none 0 0, .slice none 0 0] 47)).alloc (Obj.cells #[.int .i64 d.k, .string d.s, .int .i64 d.a, .int .i64 d.b, .slice none 0 0, .slice none 0 0] 47)).heap[w.heap.size]? = some (Obj.cells #[.int .i64 d.k, .string d.s, .int .i64 d.a, .int .i64 d.b, .slice an d.names.length cn, .slice aa d.vals.length ca] 43) := blk_past (blk_past (blk_at _ _ _ rfl))
  have k1 : (((w.alloc (Obj.cells #[.int .i64 d.k, .string d.s, .int .i64 d.a, .int .i64 d.b, .slice an d.names.length cn, .slice aa d.vals.length ca] 43)).alloc (Obj.cells #[.int .i64 0, .string ⟨#[]⟩, .int .i64 0, .int .i64 0, .slice none 0 0, .slice none 0 0] 47)).alloc (Obj.cells #[.int .i64 d.k, .string d.s, .int .i64 d.a, .int .i64 d.b, .slice none 0 0, .slice none 0 0] 47)).heap[w.heap.size + 1]? = some (Obj.cells #[.int .i64 0, .string ⟨#[]⟩, .int .i64 0, .int .i64 0, .slice none 0 0, .slice none 0 0] 47) := blk_past (blk_at _ _ _ (by simp))
  have k2 : (((w.alloc (Obj.cells #[.int .i64 d.k, .string d.s, .int .i64 d.a, .int .i64 d.b, .slice an d.names.length cn, .slice aa d.vals.length ca] 43)).alloc (Obj.cells #[.int .i64 0, .string ⟨#[]⟩, .int .i64 0, .int .i64 0, .slice none 0 0, .slice none 0 0] 47)).alloc (Obj.cells #[.int .i64 d.k, .string d.s, .int .i64 d.a, .int .i64 d.b, .slice none 0 0, .slice none 0 0] 47)).heap[w.heap.size + 1 + 1]? = some (Obj.cells #[.int .i64 d.k, .string d.s, .int .i64 d.a, .int .i64 d.b, .slice none 0 0, .slice none 0 0] 47) := blk_at _ _ _ (by simp)
  have hsA : (((w.alloc (Obj.cells #[.int .i64 d.k, .string d.s, .int .i64 d.a, .int .i64 d.b, .slice an d.names.length cn, .slice aa d.vals.length ca] 43)).alloc (Obj.cells #[.int .i64 0, .string ⟨#[]⟩, .int .i64 0, .int .i64 0, .slice none 0 0, .slice none 0 0] 47)).alloc (Obj.cells #[.int .i64 d.k, .string d.s, .int .i64 d.a, .int .i64 d.b, .slice none 0 0, .slice none 0 0] 47)).heap.size = w.heap.size + 3 := by simp
  generalize (((w.alloc (Obj.cells #[.int .i64 d.k, .string d.s, .int .i64 d.a, .int .i64 d.b, .slice an d.names.length cn, .slice aa d.vals.length ca] 43)).alloc (Obj.cells #[.int .i64 0, .string ⟨#[]⟩, .int .i64 0, .int .i64 0, .slice none 0 0, .slice none 0 0] 47)).alloc (Obj.cells #[.int .i64 d.k, .string d.s, .int .i64 d.a, .int .i64 d.b, .slice none 0 0, .slice none 0 0] 47)) = wA at *
  refine (HS.out _ hbA).mono ?_
  rintro e w1 ⟨g, rfl, hg1, hg2, hrw, hb1⟩
  have hb2 : Below w.heap.size w w1 := hbA.trans (hb1.mono hbA.size)
  have k0 := blk_keep k0 hb1 (by omega)
  have k1 := blk_keep k1 hb1 (by omega)
  have k2 := blk_keep k2 hb1 (by omega)
  have hc0 := cell_blk (j := 5) k0 rfl
  have hc1 := cell_blk (j := 4) k2 rfl
  have hf1 := frozen_blk k2 4
  have hs1 := hb1.size
  have K1 : Hid (w1.heap[w.heap.size + 1]? = some (Obj.cells #[.int .i64 0, .string ⟨#[]⟩, .int .i64 0, .int .i64 0, .slice none 0 0, .slice none 0 0] 47)) := k1
  have K2 : Hid (w1.heap[w.heap.size + 1 + 1]? = some (Obj.cells #[.int .i64 d.k, .string d.s, .int .i64 d.a, .int .i64 d.b, .slice none 0 0, .slice none 0 0] 47)) := k2
  have HRW : Hid (RowSP w1 (fun b => b = g) (some ⟨g, 0, none⟩) d.names) := hrw
  clear k0 k1 k2 hbA hb1 hrw
  go_wp2_with fail
  clear hc0 hc1 hf1
  have k1 : (w1.setCell ⟨w.heap.size + 1 + 1, 4, none⟩ (.slice (some ⟨g, 0, none⟩) d.names.length d.names.length)).heap[w.heap.size + 1]? = some (Obj.cells #[.int .i64 0, .string ⟨#[]⟩, .int .i64 0, .int .i64 0, .slice none 0 0, .slice none 0 0] 47) := by
    rw [heap_setCell_other _ _ _ _ (by simp)]; exact K1.out
  have k2 : (w1.setCell ⟨w.heap.size + 1 + 1, 4, none⟩ (.slice (some ⟨g, 0, none⟩) d.names.length d.names.length)).heap[w.heap.size + 1 + 1]? = some (Obj.cells #[.int .i64 d.k, .string d.s, .int .i64 d.a, .int .i64 d.b, .slice (some ⟨g, 0, none⟩) d.names.length d.names.length, .slice none 0 0] 47) := heap_setCell_same _ _ _ _ _ _ K2.out
  have hb3 : Below w.heap.size w (w1.setCell ⟨w.heap.size + 1 + 1, 4, none⟩ (.slice (some ⟨g, 0, none⟩) d.names.length d.names.length)) := hb2.setCell (p := ⟨_, _, none⟩) (by simp; omega) _
  have hrw : RowSP (w1.setCell ⟨w.heap.size + 1 + 1, 4, none⟩ (.slice (some ⟨g, 0, none⟩) d.names.length d.names.length)) (fun b => b = g) (some ⟨g, 0, none⟩) d.names := HRW.out.keep fun b hb => by
    have hb' : b = g := hb
    exact ⟨hb, heap_setCell_other _ _ _ _ (by show b ≠ w.heap.size + 1 + 1; omega)⟩
  have hsB : (w1.setCell ⟨w.heap.size + 1 + 1, 4, none⟩ (.slice (some ⟨g, 0, none⟩) d.names.length d.names.length)).heap.size = w1.heap.size := by simp
  generalize (w1.setCell ⟨w.heap.size + 1 + 1, 4, none⟩ (.slice (some ⟨g, 0, none⟩) d.names.length d.names.length)) = wB at *
  refine (HI.out _ hb3).mono ?_
  rintro e w2 ⟨h, rfl, hh1, hh2, hri, hb4⟩
  have hb5 : Below w.heap.size w w2 := hb3.trans (hb4.mono hb3.size)
  have k1 := blk_keep k1 hb4 (by omega)
  have k2 := blk_keep k2 hb4 (by omega)
  have hrw2 : RowSP w2 (fun b => b = g) (some ⟨g, 0, none⟩) d.names := hrw.keep fun b hb => by
    have hb' : b = g := hb
    exact ⟨hb, hb4.block b (by omega)⟩
  have hs2 := hb4.size
  have p0 := cell_blk (j := 0) k1 rfl
  have r0 := cell_blk (j := 0) k2 rfl
  have f0 := frozen_blk k1 0
  have p1 := cell_blk (j := 1) k1 rfl
  have r1 := cell_blk (j := 1) k2 rfl
  have f1 := frozen_blk k1 1
  have p2 := cell_blk (j := 2) k1 rfl
  have r2 := cell_blk (j := 2) k2 rfl
  have f2 := frozen_blk k1 2
  have p3 := cell_blk (j := 3) k1 rfl
  have r3 := cell_blk (j := 3) k2 rfl
  have f3 := frozen_blk k1 3
  have p4 := cell_blk (j := 4) k1 rfl
  have r4 := cell_blk (j := 4) k2 rfl
  have f4 := frozen_blk k1 4
  have p5 := cell_blk (j := 5) k1 rfl
  have r5 := cell_blk (j := 5) k2 rfl
  have f5 := frozen_blk k1 5
  have g5 := frozen_blk k2 5
  have K1 : Hid (w2.heap[w.heap.size + 1]? = some (Obj.cells #[.int .i64 0, .string ⟨#[]⟩, .int .i64 0, .int .i64 0, .slice none 0 0, .slice none 0 0] 47)) := k1
  have HRE : Hid (RowSP w2 (fun b => b = g) (some ⟨g, 0, none⟩) d.names) := hrw2
  have HRI : Hid (RowVP w2 (fun b => b = h) (some ⟨h, 0, none⟩) d.vals) := hri
  clear k1 k2 hri hrw hrw2 hb3 hb4 HRW K2 HI HS
  go_wp2
  have K3 : (w2.setCell ⟨w.heap.size + 1 + 1, 5, none⟩ (.slice (some ⟨h, 0, none⟩) d.vals.length d.vals.length)).heap[w.heap.size + 1]? = some (Obj.cells #[.int .i64 0, .string ⟨#[]⟩, .int .i64 0, .int .i64 0, .slice none 0 0, .slice none 0 0] 47) := by
    rw [heap_setCell_other _ _ _ _ (by simp)]; exact K1.out
  refine bodyPost_ret (results_cell_row rfl _ _ (w.heap.size + 1) 47 #[.int .i64 d.k, .string d.s, .int .i64 d.a, .int .i64 d.b, .slice (some ⟨g, 0, none⟩) d.names.length d.names.length, .slice (some ⟨h, 0, none⟩) d.vals.length d.vals.length] (0, 0) _ rfl (heap_setCell_same _ _ _ _ _ _ (heap_setCell_same _ _ _ _ _ _ (heap_setCell_same _ _ _ _ _ _ (heap_setCell_same _ _ _ _ _ _ (heap_setCell_same _ _ _ _ _ _ (heap_setCell_same _ _ _ _ _ _ K3)))))) Try.underlying47 rfl (by kernel_rfl)) rfl ?_
  have hoth : ∀ b, b ≠ w.heap.size + 1 → b ≠ w.heap.size + 1 + 1 → (((((((w2.setCell ⟨w.heap.size + 1 + 1, 5, none⟩ (.slice (some ⟨h, 0, none⟩) d.vals.length d.vals.length)).setCell ⟨w.heap.size + 1, 0, none⟩ (.int .i64 d.k)).setCell ⟨w.heap.size + 1, 1, none⟩ (.string d.s)).setCell ⟨w.heap.size + 1, 2, none⟩ (.int .i64 d.a)).setCell ⟨w.heap.size + 1, 3, none⟩ (.int .i64 d.b)).setCell ⟨w.heap.size + 1, 4, none⟩ (.slice (some ⟨g, 0, none⟩) d.names.length d.names.length)).setCell ⟨w.heap.size + 1, 5, none⟩ (.slice (some ⟨h, 0, none⟩) d.vals.length d.vals.length)).heap[b]? = w2.heap[b]? := by
    intro b h1 h2
    rw [heap_setCell_other _ _ _ _ (by simpa using h1), heap_setCell_other _ _ _ _ (by simpa using h1), heap_setCell_other _ _ _ _ (by simpa using h1), heap_setCell_other _ _ _ _ (by simpa using h1), heap_setCell_other _ _ _ _ (by simpa using h1), heap_setCell_other _ _ _ _ (by simpa using h1), heap_setCell_other _ _ _ _ (by simpa using h2)]
  refine ⟨g, h, rfl, ⟨HRE.out.keep fun b hb => ?_, HRI.out.keep fun b hb => ?_, Nat.le_refl _, Nat.le_refl _⟩, (((((((hb5.setCell (p := ⟨_, _, none⟩) (by simp; omega) _).setCell (p := ⟨_, _, none⟩) (by simp) _).setCell (p := ⟨_, _, none⟩) (by simp) _).setCell (p := ⟨_, _, none⟩) (by simp) _).setCell (p := ⟨_, _, none⟩) (by simp) _).setCell (p := ⟨_, _, none⟩) (by simp) _).setCell (p := ⟨_, _, none⟩) (by simp) _)⟩
  · have hb' : b = g := hb
    exact ⟨⟨by omega, by simp; omega⟩, hoth b (by omega) (by omega)⟩
  · have hb' : b = h := hb
    exact ⟨⟨by omega, by simp; omega⟩, hoth b (by omega) (by omega)⟩
theorem Try.info46 : (Try.prog.info? 47).map (fun i => (i.zero, i.size, i.bytes)) = some (some (.agg #[.int .i64 0, .string ⟨#[]⟩, .int .i64 0, .int .i64 0, .slice none 0 0, .slice none 0 0]), 6, 88) := by kernel_rfl
/-- The cells of one row are laid beside another's. -/
theorem CelAt.beside {w : World} {p q : Nat → Prop} {g o k : Nat} {v0 v1 v2 v3 v4 v5 : Value} {d : Cel} (h : CelAt w p g k d) (ho : k + 6 ≤ o ∨ o + 6 ≤ k) (hk : ∀ b, p b → q b ∧ b ≠ g) : CelAt (put6 w g o v0 v1 v2 v3 v4 v5) q g k d := by
  obtain ⟨an, cn, aa, ca, h0, h1, h2, h3, h4, h5, hr⟩ := h
  exact ⟨an, cn, aa, ca, (put6_out (by omega)).trans h0, (put6_out (by omega)).trans h1, (put6_out (by omega)).trans h2, (put6_out (by omega)).trans h3, (put6_out (by omega)).trans h4, (put6_out (by omega)).trans h5, hr.keep fun b hb => ⟨(hk b hb).1, put6_other (hk b hb).2⟩⟩
/-- What toCellS leaves. -/
def TpPost (cs : List Cel) (w : World) (e : Ending) (w' : World) : Prop := ∃ g, e = .returned (.slice (some ⟨g, 0, none⟩) cs.length cs.length) ∧ RowC w' w'.heap.size (some ⟨g, 0, none⟩) cs ∧ Below w.heap.size w w'
set_option maxRecDepth 100000 in
set_option maxHeartbeats 2000000 in
theorem toCellS_any (a : Option Addr) (cs : List Cel) (cap : Nat) (w : World) (hn : cs.length ≤ 1048576) (hr : RowC w w.heap.size a cs) (hsm : ∀ d ∈ cs, d.small) :
    Calls Try.prog 7 #[.slice a cs.length cap] w fun e w' => TpPost cs w e w' := by
  obtain ⟨i0, hi, hz0, hz1, hz2⟩ := info_parts Try.info46
  have HR : Hid (RowC w w.heap.size a cs) := hr
  have HS : Hid (∀ d ∈ cs, d.small) := hsm
  clear hr hsm
  go_enter Try.func7, Try.ntmps7
  go_wp2_with (at_make; refine wpList_make_full _ rfl _ _ 30 rfl w.heap.size 47 i0 _ 6 Try.underlying30 hi hz0 hz1 .i64 .i64 _ _ cs.length rfl rfl rfl rfl ?c1 ?c2 ?c3 ?_)
  case c1 => rw [hz2]; omega
  case c2 => simp [maxLen]; omega
  case c3 => exact Nat.le_refl _
  intro w1 hown1 hgr1
  go_wp2
  have hb1 : Below w.heap.size w w1 := (Below.refl _ _).grown hgr1 (Nat.le_refl _) (fun _ h => by cases h)
  obtain ⟨hlen, ⟨h0, _⟩ | ⟨g, cp, cur, hv, _, hblk, _, _, hcs, _⟩⟩ := hown1
  · cases h0
  simp only [Value.slice.injEq, Option.some.injEq, Addr.mk.injEq] at hv
  obtain ⟨⟨rfl, _⟩, _, rfl⟩ := hv
  clear hlen
  go_loopw [4] (fun o wr => ∃ (i : Nat) (cur : Array Value), i ≤ cs.length ∧ wr.heap[w.heap.size]? = some (.cells cur 47 (0, 0)) ∧ cur.size = cs.length * 6 ∧ (∀ (j : Nat) (d : Cel), j < i → cs[j]? = some d → CelAt wr (fun b => w.heap.size < b ∧ b < wr.heap.size) w.heap.size (j * 6) d) ∧ o = .int .i64 i ∧ Below w.heap.size w wr)
    (fun o _ => cs.length - (intOf o).toNat)
  case atStart => exact ⟨0, cur, by omega, hblk, hcs, fun j d h => absurd h (by omega), rfl, hb1⟩
  case round =>
    clear hblk hcs hb1 hgr1
    obtain ⟨i, cur, hi, hblk, hcs, hat, rfl, hb⟩ := hrel
    by_cases hlt : i < cs.length
    · obtain ⟨d, hd⟩ : ∃ d, cs[i]? = some d := ⟨_, List.getElem?_eq_getElem hlt⟩
      obtain ⟨b1, o1, rfl, hbb, an, cn, aa, ca, v0, v1, v2, v3, v4, v5, hrows⟩ := HR.out i d hd
      have c0 := cell_keep v0 hb hbb
      have c1 := cell_keep v1 hb hbb
      have c2 := cell_keep v2 hb hbb
      have c3 := cell_keep v3 hb hbb
      have c4 := cell_keep v4 hb hbb
      have c5 := cell_keep v5 hb hbb
      have HA : Hid (∀ (j : Nat) (d : Cel), j < i → cs[j]? = some d → CelAt wr (fun b => w.heap.size < b ∧ b < wr.heap.size) w.heap.size (j * 6) d) := hat
      have HK : Hid (wr.heap[w.heap.size]? = some (.cells cur 47 (0, 0))) := hblk
      have hsz := hb.size
      have hlt2 : w.heap.size < wr.heap.size := (Array.getElem?_eq_some_iff.1 hblk).1
      have HT : Hid (Calls Try.prog 19 #[.agg #[.int .i64 d.k, .string d.s, .int .i64 d.a, .int .i64 d.b, .slice an d.names.length cn, .slice aa d.vals.length ca]] wr fun e w' => TnPost d wr e w') := toCell_any d an aa cn ca wr (HS.out d (List.mem_of_getElem? hd)) (hrows.keep fun b h => ⟨by omega, hb.block b h⟩)
      clear hat hblk v0 v1 v2 v3 v4 v5 hrows
      go_wp2_with fail
      refine HT.out.mono ?_
      rintro e w2 ⟨g2, h2, rfl, hrows2, hb2⟩
      have hk2 := blk_keep HK.out hb2 hlt2
      have f0 := frozen_blk hk2 (i * 6)
      obtain ⟨x0, e0⟩ := cell_blk' hk2 (i * 6) (by omega)
      have f1 := frozen_blk hk2 (i * 6 + 1)
      obtain ⟨x1, e1⟩ := cell_blk' hk2 (i * 6 + 1) (by omega)
      have f2 := frozen_blk hk2 (i * 6 + 2)
      obtain ⟨x2, e2⟩ := cell_blk' hk2 (i * 6 + 2) (by omega)
      have f3 := frozen_blk hk2 (i * 6 + 3)
      obtain ⟨x3, e3⟩ := cell_blk' hk2 (i * 6 + 3) (by omega)
      have f4 := frozen_blk hk2 (i * 6 + 4)
      obtain ⟨x4, e4⟩ := cell_blk' hk2 (i * 6 + 4) (by omega)
      have f5 := frozen_blk hk2 (i * 6 + 5)
      obtain ⟨x5, e5⟩ := cell_blk' hk2 (i * 6 + 5) (by omega)
      have HK2 : Hid (w2.heap[w.heap.size]? = some (.cells cur 47 (0, 0))) := hk2
      have HR2 : Hid (CelRows w2 (fun b => wr.heap.size ≤ b ∧ b < w2.heap.size) (some ⟨g2, 0, none⟩) d.names.length (some ⟨h2, 0, none⟩) d.vals.length d) := hrows2
      have hs2 := hb2.size
      clear hk2 hrows2 HT
      go_wp2
      go_roundw
      case rel =>
        obtain ⟨ys, hy1, hy2⟩ := put6_blk (i * 6) (.int .i64 d.k) (.string d.s) (.int .i64 d.a) (.int .i64 d.b) (.slice (some ⟨g2, 0, none⟩) d.names.length d.names.length) (.slice (some ⟨h2, 0, none⟩) d.vals.length d.vals.length) HK2.out
        refine ⟨i + 1, ys, by omega, hy1, by omega, fun j d' hj hd' => ?_, by go_num, ?_⟩
        · by_cases hji : j = i
          · subst hji
            obtain rfl : d = d' := Option.some.inj (hd.symm.trans hd')
            obtain ⟨p0, p1, p2, p3, p4, p5⟩ := put6_same (v0 := .int .i64 d.k) (v1 := .string d.s) (v2 := .int .i64 d.a) (v3 := .int .i64 d.b) (v4 := .slice (some ⟨g2, 0, none⟩) d.names.length d.names.length) (v5 := .slice (some ⟨h2, 0, none⟩) d.vals.length d.vals.length) (o := j * 6) HK2.out (by omega)
            refine ⟨_, _, _, _, p0, p1, p2, p3, p4, p5, HR2.out.keep fun b hb' => ?_⟩
            have hb' : wr.heap.size ≤ b ∧ b < w2.heap.size := hb'
            have e5 := put6_other (w := w2) (g := w.heap.size) (o := j * 6) (v0 := .int .i64 d.k) (v1 := .string d.s) (v2 := .int .i64 d.a) (v3 := .int .i64 d.b) (v4 := .slice (some ⟨g2, 0, none⟩) d.names.length d.names.length) (v5 := .slice (some ⟨h2, 0, none⟩) d.vals.length d.vals.length) (b := b) (by omega)
            exact ⟨⟨by omega, by simp; omega⟩, e5⟩
          · have hq := (HA.out j d' (by omega) hd').keep (q := fun b => w.heap.size < b ∧ b < wr.heap.size) (hb2.block _ hlt2) fun b hb' => ⟨hb', hb2.block b hb'.2⟩
            exact hq.beside (by omega) fun b hb' => by
              have hb' : w.heap.size < b ∧ b < wr.heap.size := hb'
              exact ⟨⟨hb'.1, by simp; omega⟩, by omega⟩
        · exact put6_below (hb.trans (hb2.mono hsz)) (Nat.le_refl _) (i * 6) _ _ _ _ _ _
      case measure => simp [intOf]; omega
    · have hlt' : decide ((i : Int) < (cs.length : Int)) = false := by simp; omega
      obtain rfl : i = cs.length := by omega
      have HA : Hid (∀ (j : Nat) (d : Cel), j < cs.length → cs[j]? = some d → CelAt wr (fun b => w.heap.size < b ∧ b < wr.heap.size) w.heap.size (j * 6) d) := hat
      have HK : Hid (wr.heap[w.heap.size]? = some (.cells cur 47 (0, 0))) := hblk
      clear hat hblk
      go_wp2
      go_ret
      refine ⟨w.heap.size, rfl, fun j d hj => ⟨w.heap.size, 0, rfl, (Array.getElem?_eq_some_iff.1 HK.out).1, ?_⟩, hb⟩
      rw [Nat.zero_add]
      exact (HA.out j d (List.getElem?_eq_some_iff.1 hj).1 hj).keep rfl fun b hb' => ⟨hb'.2, rfl⟩
end Go.Proofs.Ytpjafenpjigmkaa
set_option linter.unusedVariables false
namespace Go.Proofs.Ytpjafenpjigmkaa
open Go.ChangeShapes Go.WideShapes Go.ChangeAt Go.RowKit
theorem own_texts {w : World} {B g : Nat} {cur : Array Value} {ts : List ByteArray} (h : w.heap[g]? = some (.cells cur 9 (0, 0))) (hs : cur.size = ts.length) (hc : ∀ (j : Nat) (x : ByteArray), ts[j]? = some x → cur[j]? = some (Value.string x)) (hB : B ≤ g) (hn : ts.length ≤ 1048576) : OwnS w B (.slice (some ⟨g, 0, none⟩) ts.length ts.length) ts := by
  refine ⟨by simp, .inr ⟨g, ts.length, cur, rfl, hB, h, Nat.le_refl _, by unfold maxLen; omega, by omega, ?_⟩⟩
  rw [Nat.mul_one, List.take_of_length_le (by simp; omega)]
  apply List.ext_getElem?
  intro j
  rw [List.getElem?_map, Array.getElem?_toList]
  cases hj : ts[j]? with
  | none =>
    have : ts.length ≤ j := List.getElem?_eq_none_iff.1 hj
    simp
    omega
  | some x => rw [hc j x hj]; rfl
theorem own_block {w : World} {B g n s : Nat} {e : TypeId} {cur : Array Value} (h : w.heap[g]? = some (.cells cur e (0, 0))) (hs : cur.size = n * s) (hB : B ≤ g) (hn : n ≤ 1048576) : ∃ xs, w.ownsRow B e s (.slice (some ⟨g, 0, none⟩) n n) n xs :=
  ⟨cur.toList, by simpa using hs, .inr ⟨g, n, cur, rfl, hB, h, Nat.le_refl _, by unfold maxLen; omega, hs, List.take_of_length_le (by simp; omega)⟩⟩
theorem own_vals {w : World} {B g : Nat} {cur : Array Value} {cs : List Val} (h : w.heap[g]? = some (.cells cur 32 (0, 0))) (hs : cur.size = cs.length * 3) (hc : ∀ (j : Nat) (d : Val), cs[j]? = some d → ValAt w g (j * 3) d) (hB : B ≤ g) (hn : cs.length ≤ 1048576) : OwnV w B (.slice (some ⟨g, 0, none⟩) cs.length cs.length) cs := by
  refine ⟨cur.toList, ⟨by simpa using hs, .inr ⟨g, cs.length, cur, rfl, hB, h, Nat.le_refl _, by unfold maxLen; omega, hs, List.take_of_length_le (by simp; omega)⟩⟩, fun j d hj => ?_⟩
  have f : ∀ {o v}, w.cell? ⟨g, o, none⟩ = some v → cur.toList[o]? = some v := by
    intro o v hv
    rw [cell_of_row w g o cur 32 (0, 0) h] at hv
    simpa using hv
  obtain ⟨h0, h1, h2⟩ := hc j d hj
  exact ⟨f h0, f h1, f h2⟩
set_option maxRecDepth 100000 in
set_option maxHeartbeats 1000000 in
theorem toStringS_o (a : Option Addr) (ts : List ByteArray) (cap : Nat) (w : World) (hn : ts.length ≤ 1048576) (hr : RowS w w.heap.size a ts) :
    Calls Try.prog 33 #[.slice a ts.length cap] w fun e w' => ∃ g, e = .returned (.slice (some ⟨g, 0, none⟩) ts.length ts.length) ∧ w.heap.size ≤ g ∧ g < w'.heap.size ∧ OwnS w' w.heap.size (.slice (some ⟨g, 0, none⟩) ts.length ts.length) ts ∧ Below w.heap.size w w' := by
  obtain ⟨i0, hi, hz0, hz1, hz2⟩ := info_parts Try.info9
  have HR : Hid (RowS w w.heap.size a ts) := hr
  clear hr
  go_enter Try.func33, Try.ntmps33
  go_wp2_with (at_make; refine wpList_make_full _ rfl _ _ 40 rfl w.heap.size 9 i0 _ 1 Try.underlying40 hi hz0 hz1 .i64 .i64 _ _ ts.length rfl rfl rfl rfl ?c1 ?c2 ?c3 ?_)
  case c1 => rw [hz2]; omega
  case c2 => simp [maxLen]; omega
  case c3 => exact Nat.le_refl _
  intro w1 hown1 hgr1
  have hb1 : Below w.heap.size w w1 := (Below.refl _ _).grown hgr1 (Nat.le_refl _) (fun _ h => by cases h)
  obtain ⟨cur, hblk, hcs, _⟩ := made_row hown1
  clear hown1 hgr1
  go_wp2
  go_loopw [4] (fun o wr => ∃ (i : Nat) (cur : Array Value), i ≤ ts.length ∧ wr.heap[w.heap.size]? = some (.cells cur 9 (0, 0)) ∧ cur.size = ts.length ∧ (∀ j x, j < i → ts[j]? = some x → cur[j]? = some (.string x)) ∧ o = .int .i64 i ∧ Below w.heap.size w wr)
    (fun o _ => ts.length - (intOf o).toNat)
  case atStart => exact ⟨0, cur, by omega, hblk, by omega, fun j d h => absurd h (by omega), rfl, hb1⟩
  case round =>
    clear hblk hcs hb1
    obtain ⟨i, cur, hi, hblk, hcs, hat, rfl, hb⟩ := hrel
    by_cases hlt : i < ts.length
    · obtain ⟨d, hd⟩ : ∃ d, ts[i]? = some d := ⟨_, List.getElem?_eq_getElem hlt⟩
      obtain ⟨b, o, rfl, hbb, c0⟩ := (HR.out.below hb) i d hd
      have HA : Hid (∀ j x, j < i → ts[j]? = some x → cur[j]? = some (.string x)) := hat
      have HK : Hid (wr.heap[w.heap.size]? = some (.cells cur 9 (0, 0))) := hblk
      have f0 := frozen_blk hblk i
      obtain ⟨x0, e0⟩ := cell_blk' hblk i (by omega)
      clear hat hblk
      go_wp2
      go_roundw
      case rel =>
        refine ⟨i + 1, _, by omega, heap_setCell_same _ _ _ _ _ _ HK.out, by simp; omega, fun j x hj hx => ?_, by go_num, hb.setCell (p := ⟨_, _, none⟩) (Nat.le_refl _) _⟩
        rw [Array.getElem?_setIfInBounds]
        by_cases hji : i = j
        · subst hji
          obtain rfl : d = x := Option.some.inj (hd.symm.trans hx)
          rw [if_pos rfl, if_pos (by omega)]
        · rw [if_neg hji]
          exact HA.out j x (by omega) hx
      case measure => simp [intOf]; omega
    · have hlt' : decide ((i : Int) < (ts.length : Int)) = false := by simp; omega
      obtain rfl : i = ts.length := by omega
      have HA : Hid (∀ j x, j < ts.length → ts[j]? = some x → cur[j]? = some (.string x)) := hat
      have HK : Hid (wr.heap[w.heap.size]? = some (.cells cur 9 (0, 0))) := hblk
      clear hat hblk
      go_wp2
      go_ret
      exact ⟨w.heap.size, rfl, Nat.le_refl _, (Array.getElem?_eq_some_iff.1 HK.out).1, own_texts HK.out hcs (fun j x hx => HA.out j x (List.getElem?_eq_some_iff.1 hx).1 hx) (Nat.le_refl _) hn, hb⟩
set_option maxRecDepth 100000 in
set_option maxHeartbeats 1000000 in
theorem toValueS_o (a : Option Addr) (cs : List Val) (cap : Nat) (w : World) (hn : cs.length ≤ 1048576) (hr : RowV w w.heap.size a cs) :
    Calls Try.prog 34 #[.slice a cs.length cap] w fun e w' => ∃ g, e = .returned (.slice (some ⟨g, 0, none⟩) cs.length cs.length) ∧ w.heap.size ≤ g ∧ g < w'.heap.size ∧ OwnV w' w.heap.size (.slice (some ⟨g, 0, none⟩) cs.length cs.length) cs ∧ Below w.heap.size w w' := by
  obtain ⟨i0, hi, hz0, hz1, hz2⟩ := info_parts Try.info30
  have HR : Hid (RowV w w.heap.size a cs) := hr
  clear hr
  go_enter Try.func34, Try.ntmps34
  go_wp2_with (at_make; refine wpList_make_full _ rfl _ _ 27 rfl w.heap.size 32 i0 _ 3 Try.underlying27 hi hz0 hz1 .i64 .i64 _ _ cs.length rfl rfl rfl rfl ?c1 ?c2 ?c3 ?_)
  case c1 => rw [hz2]; omega
  case c2 => simp [maxLen]; omega
  case c3 => exact Nat.le_refl _
  intro w1 hown1 hgr1
  go_wp2
  have hb1 : Below w.heap.size w w1 := (Below.refl _ _).grown hgr1 (Nat.le_refl _) (fun _ h => by cases h)
  obtain ⟨hlen, ⟨h0, _⟩ | ⟨g, cp, cur, hv, _, hblk, _, _, hcs, _⟩⟩ := hown1
  · cases h0
  simp only [Value.slice.injEq, Option.some.injEq, Addr.mk.injEq] at hv
  obtain ⟨⟨rfl, _⟩, _, rfl⟩ := hv
  clear hlen
  go_loopw [4] (fun o wr => ∃ (i : Nat) (cur : Array Value), i ≤ cs.length ∧ wr.heap[w.heap.size]? = some (.cells cur 32 (0, 0)) ∧ cur.size = cs.length * 3 ∧ (∀ (j : Nat) (d : Val), j < i → cs[j]? = some d → ValAt wr w.heap.size (j * 3) d) ∧ o = .int .i64 i ∧ Below w.heap.size w wr)
    (fun o _ => cs.length - (intOf o).toNat)
  case atStart => exact ⟨0, cur, by omega, hblk, hcs, fun j d h => absurd h (by omega), rfl, hb1⟩
  case round =>
    clear hblk hcs hb1 hgr1
    obtain ⟨i, cur, hi, hblk, hcs, hat, rfl, hb⟩ := hrel
    by_cases hlt : i < cs.length
    · obtain ⟨d, hd⟩ : ∃ d, cs[i]? = some d := ⟨_, List.getElem?_eq_getElem hlt⟩
      obtain ⟨b1, o1, rfl, hbb, v0, v1, v2⟩ := HR.out i d hd
      have c0 := cell_keep v0 hb hbb
      have c1 := cell_keep v1 hb hbb
      have c2 := cell_keep v2 hb hbb
      have HA : Hid (∀ (j : Nat) (d : Val), j < i → cs[j]? = some d → ValAt wr w.heap.size (j * 3) d) := hat
      have HK : Hid (wr.heap[w.heap.size]? = some (.cells cur 32 (0, 0))) := hblk
      have hsz := hb.size
      have hlt2 : w.heap.size < wr.heap.size := (Array.getElem?_eq_some_iff.1 hblk).1
      have HT : Hid (Calls Try.prog 8 #[.agg #[.int .i64 d.k, .int .i64 d.n, .string d.s]] wr fun e w' => Ans wr (.agg #[.int .i64 d.k, .int .i64 d.n, .string d.s]) e w') := toValue_any d wr
      clear hat hblk v0 v1 v2
      go_wp2_with fail
      refine HT.out.mono ?_
      rintro e w2 ⟨rfl, hb2⟩
      have hk2 := blk_keep HK.out hb2 hlt2
      have f0 := frozen_blk hk2 (i * 3)
      have f1 := frozen_blk hk2 (i * 3 + 1)
      have f2 := frozen_blk hk2 (i * 3 + 2)
      obtain ⟨x0, e0⟩ := cell_blk' hk2 (i * 3) (by omega)
      obtain ⟨x1, e1⟩ := cell_blk' hk2 (i * 3 + 1) (by omega)
      obtain ⟨x2, e2⟩ := cell_blk' hk2 (i * 3 + 2) (by omega)
      have HK2 : Hid (w2.heap[w.heap.size]? = some (.cells cur 32 (0, 0))) := hk2
      have hs2 := hb2.size
      clear hk2 HT
      go_wp2
      go_roundw
      case rel =>
        obtain ⟨ys, hy1, hy2⟩ := put3_blk (i * 3) (.int .i64 d.k) (.int .i64 d.n) (.string d.s) HK2.out
        refine ⟨i + 1, ys, by omega, hy1, by omega, fun j d' hj hd' => ?_, by go_num, ?_⟩
        · by_cases hji : j = i
          · subst hji
            obtain rfl : d = d' := Option.some.inj (hd.symm.trans hd')
            exact put3_same (v0 := .int .i64 d.k) (v1 := .int .i64 d.n) (v2 := .string d.s) (o := j * 3) HK2.out (by omega)
          · have hq := (HA.out j d' (by omega) hd').keep (hb2.block _ hlt2)
            exact hq.beside (by omega)
        · exact put3_below (hb.trans (hb2.mono hsz)) (Nat.le_refl _) (i * 3) _ _ _
      case measure => simp [intOf]; omega
    · have hlt' : decide ((i : Int) < (cs.length : Int)) = false := by simp; omega
      obtain rfl : i = cs.length := by omega
      have HA : Hid (∀ (j : Nat) (d : Val), j < cs.length → cs[j]? = some d → ValAt wr w.heap.size (j * 3) d) := hat
      have HK : Hid (wr.heap[w.heap.size]? = some (.cells cur 32 (0, 0))) := hblk
      clear hat hblk
      go_wp2
      go_ret
      exact ⟨w.heap.size, rfl, Nat.le_refl _, (Array.getElem?_eq_some_iff.1 HK.out).1, own_vals HK.out hcs (fun j d hj => HA.out j d (List.getElem?_eq_some_iff.1 hj).1 hj) (Nat.le_refl _) hn, hb⟩
/-- What toCell leaves. -/
def TnPostO (d : Cel) (w : World) (e : Ending) (w' : World) : Prop := ∃ g h, e = .returned (.agg #[.int .i64 d.k, .string d.s, .int .i64 d.a, .int .i64 d.b, .slice (some ⟨g, 0, none⟩) d.names.length d.names.length, .slice (some ⟨h, 0, none⟩) d.vals.length d.vals.length]) ∧ g < w'.heap.size ∧ h < w'.heap.size ∧
  OwnS w' w.heap.size (.slice (some ⟨g, 0, none⟩) d.names.length d.names.length) d.names ∧ OwnV w' w.heap.size (.slice (some ⟨h, 0, none⟩) d.vals.length d.vals.length) d.vals ∧ Below w.heap.size w w'
set_option maxRecDepth 100000 in
set_option maxHeartbeats 2000000 in
theorem toCell_o (d : Cel) (an aa : Option Addr) (cn ca : Nat) (w : World) (hs : d.small) (hr : CelRows w (fun b => b < w.heap.size) an cn aa ca d) :
    Calls Try.prog 19 #[.agg #[.int .i64 d.k, .string d.s, .int .i64 d.a, .int .i64 d.b, .slice an d.names.length cn, .slice aa d.vals.length ca]] w fun e w' => TnPostO d w e w' := by
  obtain ⟨hrs, hri, -, -⟩ := hr
  obtain ⟨_, _, _, _, s4, s5, _⟩ := hs
  have HS : Hid (∀ w1, Below w.heap.size w w1 → Calls Try.prog 33 #[.slice an d.names.length cn] w1 fun e w' => ∃ g, e = .returned (.slice (some ⟨g, 0, none⟩) d.names.length d.names.length) ∧ w1.heap.size ≤ g ∧ g < w'.heap.size ∧ OwnS w' w1.heap.size (.slice (some ⟨g, 0, none⟩) d.names.length d.names.length) d.names ∧ Below w1.heap.size w1 w') := fun w1 h => toStringS_o an d.names cn w1 s4 (hrs.keep fun b hb => ⟨by have := h.size; omega, h.block b hb⟩)
  have HI : Hid (∀ w1, Below w.heap.size w w1 → Calls Try.prog 34 #[.slice aa d.vals.length ca] w1 fun e w' => ∃ g, e = .returned (.slice (some ⟨g, 0, none⟩) d.vals.length d.vals.length) ∧ w1.heap.size ≤ g ∧ g < w'.heap.size ∧ OwnV w' w1.heap.size (.slice (some ⟨g, 0, none⟩) d.vals.length d.vals.length) d.vals ∧ Below w1.heap.size w1 w') := fun w1 h => toValueS_o aa d.vals ca w1 s5 (hri.keep fun b hb => ⟨by have := h.size; omega, h.block b hb⟩)
  clear hrs hri
  go_enter Try.func19, Try.ntmps19
  go_wp2_with fail
  have hbA : Below w.heap.size w (((w.alloc (Obj.cells #[.int .i64 d.k, .string d.s, .int .i64 d.a, .int .i64 d.b, .slice an d.names.length cn, .slice aa d.vals.length ca] 43)).alloc (Obj.cells #[.int .i64 0, .string ⟨#[]⟩, .int .i64 0, .int .i64 0, .slice none 0 0, .slice none 0 0] 47)).alloc (Obj.cells #[.int .i64 d.k, .string d.s, .int .i64 d.a, .int .i64 d.b, .slice none 0 0, .slice none 0 0] 47)) := (((Below.refl _ _).alloc (Nat.le_refl _) _).alloc (by simp) _).alloc (by simp; omega) _
  have k0 : (((w.alloc (Obj.cells #[.int .i64 d.k, .string d.s, .int .i64 d.a, .int .i64 d.b, .slice an d.names.length cn, .slice aa d.vals.length ca] 43)).alloc (Obj.cells #[.int .i64 0, .string ⟨#[]⟩, .int .i64 0, .int .i64 0, .slice none 0 0, .slice none 0 0] 47)).alloc (Obj.cells #[.int .i64 d.k, .string d.s, .int .i64 d.a, .int .i64 d.b, .slice none 0 0, .slice none 0 0] 47)).heap[w.heap.size]? = some (Obj.cells #[.int .i64 d.k, .string d.s, .int .i64 d.a, .int .i64 d.b, .slice an d.names.length cn, .slice aa d.vals.length ca] 43) := blk_past (blk_past (blk_at _ _ _ rfl))
  have k1 : (((w.alloc (Obj.cells #[.int .i64 d.k, .string d.s, .int .i64 d.a, .int .i64 d.b, .slice an d.names.length cn, .slice aa d.vals.length ca] 43)).alloc (Obj.cells #[.int .i64 0, .string ⟨#[]⟩, .int .i64 0, .int .i64 0, .slice none 0 0, .slice none 0 0] 47)).alloc (Obj.cells #[.int .i64 d.k, .string d.s, .int .i64 d.a, .int .i64 d.b, .slice none 0 0, .slice none 0 0] 47)).heap[w.heap.size + 1]? = some (Obj.cells #[.int .i64 0, .string ⟨#[]⟩, .int .i64 0, .int .i64 0, .slice none 0 0, .slice none 0 0] 47) := blk_past (blk_at _ _ _ (by simp))
  have k2 : (((w.alloc (Obj.cells #[.int .i64 d.k, .string d.s, .int .i64 d.a, .int .i64 d.b, .slice an d.names.length cn, .slice aa d.vals.length ca] 43)).alloc (Obj.cells #[.int .i64 0, .string ⟨#[]⟩, .int .i64 0, .int .i64 0, .slice none 0 0, .slice none 0 0] 47)).alloc (Obj.cells #[.int .i64 d.k, .string d.s, .int .i64 d.a, .int .i64 d.b, .slice none 0 0, .slice none 0 0] 47)).heap[w.heap.size + 1 + 1]? = some (Obj.cells #[.int .i64 d.k, .string d.s, .int .i64 d.a, .int .i64 d.b, .slice none 0 0, .slice none 0 0] 47) := blk_at _ _ _ (by simp)
  have hsA : (((w.alloc (Obj.cells #[.int .i64 d.k, .string d.s, .int .i64 d.a, .int .i64 d.b, .slice an d.names.length cn, .slice aa d.vals.length ca] 43)).alloc (Obj.cells #[.int .i64 0, .string ⟨#[]⟩, .int .i64 0, .int .i64 0, .slice none 0 0, .slice none 0 0] 47)).alloc (Obj.cells #[.int .i64 d.k, .string d.s, .int .i64 d.a, .int .i64 d.b, .slice none 0 0, .slice none 0 0] 47)).heap.size = w.heap.size + 3 := by simp
  generalize (((w.alloc (Obj.cells #[.int .i64 d.k, .string d.s, .int .i64 d.a, .int .i64 d.b, .slice an d.names.length cn, .slice aa d.vals.length ca] 43)).alloc (Obj.cells #[.int .i64 0, .string ⟨#[]⟩, .int .i64 0, .int .i64 0, .slice none 0 0, .slice none 0 0] 47)).alloc (Obj.cells #[.int .i64 d.k, .string d.s, .int .i64 d.a, .int .i64 d.b, .slice none 0 0, .slice none 0 0] 47)) = wA at *
  refine (HS.out _ hbA).mono ?_
  rintro e w1 ⟨g, rfl, hg1, hg2, hrw, hb1⟩
  have hb2 : Below w.heap.size w w1 := hbA.trans (hb1.mono hbA.size)
  have k0 := blk_keep k0 hb1 (by omega)
  have k1 := blk_keep k1 hb1 (by omega)
  have k2 := blk_keep k2 hb1 (by omega)
  have hc0 := cell_blk (j := 5) k0 rfl
  have hc1 := cell_blk (j := 4) k2 rfl
  have hf1 := frozen_blk k2 4
  have hs1 := hb1.size
  have K1 : Hid (w1.heap[w.heap.size + 1]? = some (Obj.cells #[.int .i64 0, .string ⟨#[]⟩, .int .i64 0, .int .i64 0, .slice none 0 0, .slice none 0 0] 47)) := k1
  have K2 : Hid (w1.heap[w.heap.size + 1 + 1]? = some (Obj.cells #[.int .i64 d.k, .string d.s, .int .i64 d.a, .int .i64 d.b, .slice none 0 0, .slice none 0 0] 47)) := k2
  have HRW : Hid (OwnS w1 w.heap.size (.slice (some ⟨g, 0, none⟩) d.names.length d.names.length) d.names) := hrw.weak (by omega)
  clear k0 k1 k2 hbA hb1 hrw
  go_wp2_with fail
  clear hc0 hc1 hf1
  have k1 : (w1.setCell ⟨w.heap.size + 1 + 1, 4, none⟩ (.slice (some ⟨g, 0, none⟩) d.names.length d.names.length)).heap[w.heap.size + 1]? = some (Obj.cells #[.int .i64 0, .string ⟨#[]⟩, .int .i64 0, .int .i64 0, .slice none 0 0, .slice none 0 0] 47) := by
    rw [heap_setCell_other _ _ _ _ (by simp)]; exact K1.out
  have k2 : (w1.setCell ⟨w.heap.size + 1 + 1, 4, none⟩ (.slice (some ⟨g, 0, none⟩) d.names.length d.names.length)).heap[w.heap.size + 1 + 1]? = some (Obj.cells #[.int .i64 d.k, .string d.s, .int .i64 d.a, .int .i64 d.b, .slice (some ⟨g, 0, none⟩) d.names.length d.names.length, .slice none 0 0] 47) := heap_setCell_same _ _ _ _ _ _ K2.out
  have hb3 : Below w.heap.size w (w1.setCell ⟨w.heap.size + 1 + 1, 4, none⟩ (.slice (some ⟨g, 0, none⟩) d.names.length d.names.length)) := hb2.setCell (p := ⟨_, _, none⟩) (by simp; omega) _
  have hrw : OwnS (w1.setCell ⟨w.heap.size + 1 + 1, 4, none⟩ (.slice (some ⟨g, 0, none⟩) d.names.length d.names.length)) w.heap.size (.slice (some ⟨g, 0, none⟩) d.names.length d.names.length) d.names := HRW.out.keep fun b hb => by
    have hb' : g = b := by injection hb
    exact heap_setCell_other _ _ _ _ (by show b ≠ w.heap.size + 1 + 1; omega)
  have hsB : (w1.setCell ⟨w.heap.size + 1 + 1, 4, none⟩ (.slice (some ⟨g, 0, none⟩) d.names.length d.names.length)).heap.size = w1.heap.size := by simp
  generalize (w1.setCell ⟨w.heap.size + 1 + 1, 4, none⟩ (.slice (some ⟨g, 0, none⟩) d.names.length d.names.length)) = wB at *
  refine (HI.out _ hb3).mono ?_
  rintro e w2 ⟨h, rfl, hh1, hh2, hri, hb4⟩
  have hb5 : Below w.heap.size w w2 := hb3.trans (hb4.mono hb3.size)
  have k1 := blk_keep k1 hb4 (by omega)
  have k2 := blk_keep k2 hb4 (by omega)
  have hrw2 : OwnS w2 w.heap.size (.slice (some ⟨g, 0, none⟩) d.names.length d.names.length) d.names := hrw.keep fun b hb => by
    have hb' : g = b := by injection hb
    exact hb4.block b (by omega)
  have hs2 := hb4.size
  have p0 := cell_blk (j := 0) k1 rfl
  have r0 := cell_blk (j := 0) k2 rfl
  have f0 := frozen_blk k1 0
  have p1 := cell_blk (j := 1) k1 rfl
  have r1 := cell_blk (j := 1) k2 rfl
  have f1 := frozen_blk k1 1
  have p2 := cell_blk (j := 2) k1 rfl
  have r2 := cell_blk (j := 2) k2 rfl
  have f2 := frozen_blk k1 2
  have p3 := cell_blk (j := 3) k1 rfl
  have r3 := cell_blk (j := 3) k2 rfl
  have f3 := frozen_blk k1 3
  have p4 := cell_blk (j := 4) k1 rfl
  have r4 := cell_blk (j := 4) k2 rfl
  have f4 := frozen_blk k1 4
  have p5 := cell_blk (j := 5) k1 rfl
  have r5 := cell_blk (j := 5) k2 rfl
  have f5 := frozen_blk k1 5
  have g5 := frozen_blk k2 5
  have K1 : Hid (w2.heap[w.heap.size + 1]? = some (Obj.cells #[.int .i64 0, .string ⟨#[]⟩, .int .i64 0, .int .i64 0, .slice none 0 0, .slice none 0 0] 47)) := k1
  have HRE : Hid (OwnS w2 w.heap.size (.slice (some ⟨g, 0, none⟩) d.names.length d.names.length) d.names) := hrw2
  have HRI : Hid (OwnV w2 w.heap.size (.slice (some ⟨h, 0, none⟩) d.vals.length d.vals.length) d.vals) := hri.weak (by omega)
  clear k1 k2 hri hrw hrw2 hb3 hb4 HRW K2 HI HS
  go_wp2
  have K3 : (w2.setCell ⟨w.heap.size + 1 + 1, 5, none⟩ (.slice (some ⟨h, 0, none⟩) d.vals.length d.vals.length)).heap[w.heap.size + 1]? = some (Obj.cells #[.int .i64 0, .string ⟨#[]⟩, .int .i64 0, .int .i64 0, .slice none 0 0, .slice none 0 0] 47) := by
    rw [heap_setCell_other _ _ _ _ (by simp)]; exact K1.out
  refine bodyPost_ret (results_cell_row rfl _ _ (w.heap.size + 1) 47 #[.int .i64 d.k, .string d.s, .int .i64 d.a, .int .i64 d.b, .slice (some ⟨g, 0, none⟩) d.names.length d.names.length, .slice (some ⟨h, 0, none⟩) d.vals.length d.vals.length] (0, 0) _ rfl (heap_setCell_same _ _ _ _ _ _ (heap_setCell_same _ _ _ _ _ _ (heap_setCell_same _ _ _ _ _ _ (heap_setCell_same _ _ _ _ _ _ (heap_setCell_same _ _ _ _ _ _ (heap_setCell_same _ _ _ _ _ _ K3)))))) Try.underlying47 rfl (by kernel_rfl)) rfl ?_
  have hoth : ∀ b, b ≠ w.heap.size + 1 → b ≠ w.heap.size + 1 + 1 → (((((((w2.setCell ⟨w.heap.size + 1 + 1, 5, none⟩ (.slice (some ⟨h, 0, none⟩) d.vals.length d.vals.length)).setCell ⟨w.heap.size + 1, 0, none⟩ (.int .i64 d.k)).setCell ⟨w.heap.size + 1, 1, none⟩ (.string d.s)).setCell ⟨w.heap.size + 1, 2, none⟩ (.int .i64 d.a)).setCell ⟨w.heap.size + 1, 3, none⟩ (.int .i64 d.b)).setCell ⟨w.heap.size + 1, 4, none⟩ (.slice (some ⟨g, 0, none⟩) d.names.length d.names.length)).setCell ⟨w.heap.size + 1, 5, none⟩ (.slice (some ⟨h, 0, none⟩) d.vals.length d.vals.length)).heap[b]? = w2.heap[b]? := by
    intro b h1 h2
    rw [heap_setCell_other _ _ _ _ (by simpa using h1), heap_setCell_other _ _ _ _ (by simpa using h1), heap_setCell_other _ _ _ _ (by simpa using h1), heap_setCell_other _ _ _ _ (by simpa using h1), heap_setCell_other _ _ _ _ (by simpa using h1), heap_setCell_other _ _ _ _ (by simpa using h1), heap_setCell_other _ _ _ _ (by simpa using h2)]
  refine ⟨g, h, rfl, by simp; omega, by simp; omega, HRE.out.keep fun b hb => ?_, HRI.out.keep fun b hb => ?_, (((((((hb5.setCell (p := ⟨_, _, none⟩) (by simp; omega) _).setCell (p := ⟨_, _, none⟩) (by simp) _).setCell (p := ⟨_, _, none⟩) (by simp) _).setCell (p := ⟨_, _, none⟩) (by simp) _).setCell (p := ⟨_, _, none⟩) (by simp) _).setCell (p := ⟨_, _, none⟩) (by simp) _).setCell (p := ⟨_, _, none⟩) (by simp) _)⟩
  · have hb' : g = b := by injection hb
    exact hoth b (by omega) (by omega)
  · have hb' : h = b := by injection hb
    exact hoth b (by omega) (by omega)
/-- What toCellS leaves. -/
def TpPostO (cs : List Cel) (w : World) (e : Ending) (w' : World) : Prop := ∃ g, e = .returned (.slice (some ⟨g, 0, none⟩) cs.length cs.length) ∧ w.heap.size ≤ g ∧ OwnH w' w.heap.size w'.heap.size (.slice (some ⟨g, 0, none⟩) cs.length cs.length) cs ∧ Below w.heap.size w w'
set_option maxRecDepth 100000 in
set_option maxHeartbeats 2000000 in
theorem toCellS_o (a : Option Addr) (cs : List Cel) (cap : Nat) (w : World) (hn : cs.length ≤ 1048576) (hr : RowC w w.heap.size a cs) (hsm : ∀ d ∈ cs, d.small) :
    Calls Try.prog 7 #[.slice a cs.length cap] w fun e w' => TpPostO cs w e w' := by
  obtain ⟨i0, hi, hz0, hz1, hz2⟩ := info_parts Try.info46
  have HR : Hid (RowC w w.heap.size a cs) := hr
  have HS : Hid (∀ d ∈ cs, d.small) := hsm
  clear hr hsm
  go_enter Try.func7, Try.ntmps7
  go_wp2_with (at_make; refine wpList_make_full _ rfl _ _ 30 rfl w.heap.size 47 i0 _ 6 Try.underlying30 hi hz0 hz1 .i64 .i64 _ _ cs.length rfl rfl rfl rfl ?c1 ?c2 ?c3 ?_)
  case c1 => rw [hz2]; omega
  case c2 => simp [maxLen]; omega
  case c3 => exact Nat.le_refl _
  intro w1 hown1 hgr1
  go_wp2
  have hb1 : Below w.heap.size w w1 := (Below.refl _ _).grown hgr1 (Nat.le_refl _) (fun _ h => by cases h)
  obtain ⟨hlen, ⟨h0, _⟩ | ⟨g, cp, cur, hv, _, hblk, _, _, hcs, _⟩⟩ := hown1
  · cases h0
  simp only [Value.slice.injEq, Option.some.injEq, Addr.mk.injEq] at hv
  obtain ⟨⟨rfl, _⟩, _, rfl⟩ := hv
  clear hlen
  go_loopw [4] (fun o wr => ∃ (i : Nat) (cur : Array Value), i ≤ cs.length ∧ wr.heap[w.heap.size]? = some (.cells cur 47 (0, 0)) ∧ cur.size = cs.length * 6 ∧ (∃ β : Nat → Nat, w.heap.size ≤ β 0 ∧ (∀ j, β j ≤ β (j + 1)) ∧ β i ≤ wr.heap.size ∧ ∀ (j : Nat) (d : Cel), j < i → cs[j]? = some d → COwn wr (β j) (β (j + 1)) w.heap.size (j * 6) d) ∧ o = .int .i64 i ∧ Below w.heap.size w wr)
    (fun o _ => cs.length - (intOf o).toNat)
  case atStart => exact ⟨0, cur, by omega, hblk, hcs, ⟨fun _ => w.heap.size, Nat.le_refl _, fun _ => Nat.le_refl _, hb1.size, fun j d h => absurd h (by omega)⟩, rfl, hb1⟩
  case round =>
    clear hblk hcs hb1 hgr1
    obtain ⟨i, cur, hi, hblk, hcs, hat, rfl, hb⟩ := hrel
    by_cases hlt : i < cs.length
    · obtain ⟨d, hd⟩ : ∃ d, cs[i]? = some d := ⟨_, List.getElem?_eq_getElem hlt⟩
      obtain ⟨b1, o1, rfl, hbb, an, cn, aa, ca, v0, v1, v2, v3, v4, v5, hrows⟩ := HR.out i d hd
      have c0 := cell_keep v0 hb hbb
      have c1 := cell_keep v1 hb hbb
      have c2 := cell_keep v2 hb hbb
      have c3 := cell_keep v3 hb hbb
      have c4 := cell_keep v4 hb hbb
      have c5 := cell_keep v5 hb hbb
      have HA : Hid (∃ β : Nat → Nat, w.heap.size ≤ β 0 ∧ (∀ j, β j ≤ β (j + 1)) ∧ β i ≤ wr.heap.size ∧ ∀ (j : Nat) (d : Cel), j < i → cs[j]? = some d → COwn wr (β j) (β (j + 1)) w.heap.size (j * 6) d) := hat
      have HK : Hid (wr.heap[w.heap.size]? = some (.cells cur 47 (0, 0))) := hblk
      have hsz := hb.size
      have hlt2 : w.heap.size < wr.heap.size := (Array.getElem?_eq_some_iff.1 hblk).1
      have HT : Hid (Calls Try.prog 19 #[.agg #[.int .i64 d.k, .string d.s, .int .i64 d.a, .int .i64 d.b, .slice an d.names.length cn, .slice aa d.vals.length ca]] wr fun e w' => TnPostO d wr e w') := toCell_o d an aa cn ca wr (HS.out d (List.mem_of_getElem? hd)) (hrows.keep fun b h => ⟨by omega, hb.block b h⟩)
      clear hat hblk v0 v1 v2 v3 v4 v5 hrows
      go_wp2_with fail
      refine HT.out.mono ?_
      rintro e w2 ⟨g2, h2, rfl, hlg, hlh, hnv2, hvv2, hb2⟩
      have hk2 := blk_keep HK.out hb2 hlt2
      have f0 := frozen_blk hk2 (i * 6)
      obtain ⟨x0, e0⟩ := cell_blk' hk2 (i * 6) (by omega)
      have f1 := frozen_blk hk2 (i * 6 + 1)
      obtain ⟨x1, e1⟩ := cell_blk' hk2 (i * 6 + 1) (by omega)
      have f2 := frozen_blk hk2 (i * 6 + 2)
      obtain ⟨x2, e2⟩ := cell_blk' hk2 (i * 6 + 2) (by omega)
      have f3 := frozen_blk hk2 (i * 6 + 3)
      obtain ⟨x3, e3⟩ := cell_blk' hk2 (i * 6 + 3) (by omega)
      have f4 := frozen_blk hk2 (i * 6 + 4)
      obtain ⟨x4, e4⟩ := cell_blk' hk2 (i * 6 + 4) (by omega)
      have f5 := frozen_blk hk2 (i * 6 + 5)
      obtain ⟨x5, e5⟩ := cell_blk' hk2 (i * 6 + 5) (by omega)
      have HK2 : Hid (w2.heap[w.heap.size]? = some (.cells cur 47 (0, 0))) := hk2
      have HN2 : Hid (OwnS w2 wr.heap.size (.slice (some ⟨g2, 0, none⟩) d.names.length d.names.length) d.names) := hnv2
      have HV2 : Hid (OwnV w2 wr.heap.size (.slice (some ⟨h2, 0, none⟩) d.vals.length d.vals.length) d.vals) := hvv2
      have hs2 := hb2.size
      clear hk2 hnv2 hvv2 HT
      go_wp2
      go_roundw
      case rel =>
        obtain ⟨ys, hy1, hy2⟩ := put6_blk (i * 6) (.int .i64 d.k) (.string d.s) (.int .i64 d.a) (.int .i64 d.b) (.slice (some ⟨g2, 0, none⟩) d.names.length d.names.length) (.slice (some ⟨h2, 0, none⟩) d.vals.length d.vals.length) HK2.out
        obtain ⟨β, b0, bm, bt, hc⟩ := HA.out
        refine ⟨i + 1, ys, by omega, hy1, by omega, ⟨fun j => if j ≤ i then β j else w2.heap.size, by simpa using b0, fun j => ?_, ?_, fun j d' hj hd' => ?_⟩, by go_num, ?_⟩
        · show (if j ≤ i then β j else w2.heap.size) ≤ (if j + 1 ≤ i then β (j + 1) else w2.heap.size)
          by_cases h1 : j + 1 ≤ i
          · rw [if_pos (by omega), if_pos h1]; exact bm j
          · rw [if_neg h1]
            by_cases h0 : j ≤ i
            · rw [if_pos h0]
              have q1 : β j ≤ β i := beta_mono bm h0
              omega
            · rw [if_neg h0]; exact Nat.le_refl _
        · show (if i + 1 ≤ i then β (i + 1) else w2.heap.size) ≤ _
          rw [if_neg (by omega)]
          simp
        · show COwn _ (if j ≤ i then β j else w2.heap.size) (if j + 1 ≤ i then β (j + 1) else w2.heap.size) w.heap.size (j * 6) d'
          by_cases hji : j = i
          · subst hji
            obtain rfl : d = d' := Option.some.inj (hd.symm.trans hd')
            obtain ⟨p0, p1, p2, p3, p4, p5⟩ := put6_same (v0 := .int .i64 d.k) (v1 := .string d.s) (v2 := .int .i64 d.a) (v3 := .int .i64 d.b) (v4 := .slice (some ⟨g2, 0, none⟩) d.names.length d.names.length) (v5 := .slice (some ⟨h2, 0, none⟩) d.vals.length d.vals.length) (o := j * 6) HK2.out (by omega)
            rw [if_pos (Nat.le_refl _), if_neg (by omega)]
            refine ⟨_, _, p0, p1, p2, p3, p4, p5, (HN2.out.weak bt).keep fun b hb' => put6_other ?_, (HV2.out.weak bt).keep fun b hb' => put6_other ?_, fun k hk => (HN2.out.blk hk).2.1, fun k hk => (HV2.out.blk hk).2.1⟩
            · have := (HN2.out.blk hb').1; omega
            · have := (HV2.out.blk hb').1; omega
          · rw [if_pos (by omega), if_pos (by omega)]
            have q1 : β (j + 1) ≤ β i := beta_mono bm (by omega)
            refine (hc j d' (by omega) hd').keep (fun k hk => (put6_out (by omega)).trans (World.cell?_of_block (w := wr) (a := ⟨w.heap.size, _, none⟩) (hb2.block _ hlt2))) fun b k1 k2 k3 ⟨cur', k4⟩ => (put6_other ?_).trans (hb2.block b k3)
            rintro rfl
            rw [HK.out] at k4
            simp at k4
        · exact put6_below (hb.trans (hb2.mono hsz)) (Nat.le_refl _) (i * 6) _ _ _ _ _ _
      case measure => simp [intOf]; omega
    · have hlt' : decide ((i : Int) < (cs.length : Int)) = false := by simp; omega
      obtain rfl : i = cs.length := by omega
      have HA : Hid (∃ β : Nat → Nat, w.heap.size ≤ β 0 ∧ (∀ j, β j ≤ β (j + 1)) ∧ β cs.length ≤ wr.heap.size ∧ ∀ (j : Nat) (d : Cel), j < cs.length → cs[j]? = some d → COwn wr (β j) (β (j + 1)) w.heap.size (j * 6) d) := hat
      have HK : Hid (wr.heap[w.heap.size]? = some (.cells cur 47 (0, 0))) := hblk
      clear hat hblk
      go_wp2
      go_ret
      obtain ⟨β, b0, bm, bt, hc⟩ := HA.out
      refine ⟨w.heap.size, rfl, Nat.le_refl _, ⟨own_block HK.out hcs (Nat.le_refl _) hn, fun k hk => ?_, β, b0, bm, bt, fun g cap hv j c hj => ?_⟩, hb⟩
      · have : w.heap.size = k := by injection hk
        subst this
        exact (Array.getElem?_eq_some_iff.1 HK.out).1
      · simp only [Value.slice.injEq, Option.some.injEq, Addr.mk.injEq] at hv
        obtain ⟨⟨rfl, _⟩, _⟩ := hv
        exact hc j c (List.getElem?_eq_some_iff.1 hj).1 hj
end Go.Proofs.Ytpjafenpjigmkaa
