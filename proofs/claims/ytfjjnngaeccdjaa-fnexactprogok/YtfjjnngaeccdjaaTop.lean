/- A program that comes in, copied whole. -/
import Derived.Test.YtfjjnngaeccdjaaToo
namespace Go.Proofs.Ytfjjnngaeccdjaa
open Go.ChangeShapes Go.WideShapes Go.ChangeAt Go.RowKit
/-- Five cells laid. -/
def put5 (w : World) (g o : Nat) (v0 v1 v2 v3 v4 : Value) : World :=
  ((((w.setCell ⟨g, o, none⟩ v0).setCell ⟨g, o + 1, none⟩ v1).setCell ⟨g, o + 2, none⟩ v2).setCell ⟨g, o + 3, none⟩ v3).setCell ⟨g, o + 4, none⟩ v4
theorem put5_blk {w : World} {g : Nat} {xs : Array Value} {t : TypeId} (o : Nat) (v0 v1 v2 v3 v4 : Value) (h : w.heap[g]? = some (.cells xs t (0, 0))) : ∃ ys, (put5 w g o v0 v1 v2 v3 v4).heap[g]? = some (.cells ys t (0, 0)) ∧ ys.size = xs.size :=
  ⟨_, heap_setCell_same _ _ _ _ _ _ (heap_setCell_same _ _ _ _ _ _ (heap_setCell_same _ _ _ _ _ _ (heap_setCell_same _ _ _ _ _ _ (heap_setCell_same _ _ _ _ _ _ h)))), by simp⟩
theorem put5_below {B g : Nat} {w0 w : World} (h : Below B w0 w) (hg : B ≤ g) (o : Nat) (v0 v1 v2 v3 v4 : Value) : Below B w0 (put5 w g o v0 v1 v2 v3 v4) :=
  ((((h.setCell (p := ⟨g, _, none⟩) hg _).setCell (p := ⟨g, _, none⟩) hg _).setCell (p := ⟨g, _, none⟩) hg _).setCell (p := ⟨g, _, none⟩) hg _).setCell (p := ⟨g, _, none⟩) hg _
theorem put5_other {w : World} {g o : Nat} {v0 v1 v2 v3 v4 : Value} {b : Nat} (h : b ≠ g) : (put5 w g o v0 v1 v2 v3 v4).heap[b]? = w.heap[b]? := by
  unfold put5
  rw [heap_setCell_other _ _ _ _ h, heap_setCell_other _ _ _ _ h, heap_setCell_other _ _ _ _ h, heap_setCell_other _ _ _ _ h, heap_setCell_other _ _ _ _ h]
theorem put5_size {w : World} {g o : Nat} {v0 v1 v2 v3 v4 : Value} : (put5 w g o v0 v1 v2 v3 v4).heap.size = w.heap.size := by
  simp [put5]
theorem sc_other (w : World) (c j k : Nat) (v : Value) (h : j ≠ k) : (w.setCell ⟨c, j, none⟩ v).cell? ⟨c, k, none⟩ = w.cell? ⟨c, k, none⟩ := by
  apply World.cell?_setCell_other
  intro e
  injection e with _ e2
  exact h e2
theorem put5_out {w : World} {g o k : Nat} {v0 v1 v2 v3 v4 : Value} (h : k < o ∨ o + 5 ≤ k) : (put5 w g o v0 v1 v2 v3 v4).cell? ⟨g, k, none⟩ = w.cell? ⟨g, k, none⟩ := by
  unfold put5
  rw [sc_other _ _ _ _ _ (by omega), sc_other _ _ _ _ _ (by omega), sc_other _ _ _ _ _ (by omega), sc_other _ _ _ _ _ (by omega), sc_other _ _ _ _ _ (by omega)]
theorem put5_same {w : World} {g o : Nat} {v0 v1 v2 v3 v4 : Value} {xs : Array Value} {t : TypeId} (h : w.heap[g]? = some (.cells xs t (0, 0))) (hs : o + 5 ≤ xs.size) :
    (put5 w g o v0 v1 v2 v3 v4).cell? ⟨g, o, none⟩ = some v0 ∧ (put5 w g o v0 v1 v2 v3 v4).cell? ⟨g, o + 1, none⟩ = some v1 ∧ (put5 w g o v0 v1 v2 v3 v4).cell? ⟨g, o + 2, none⟩ = some v2 ∧ (put5 w g o v0 v1 v2 v3 v4).cell? ⟨g, o + 3, none⟩ = some v3 ∧ (put5 w g o v0 v1 v2 v3 v4).cell? ⟨g, o + 4, none⟩ = some v4 := by
  have key := heap_setCell_same _ g (o + 4) _ _ v4 (heap_setCell_same _ g (o + 3) _ _ v3 (heap_setCell_same _ g (o + 2) _ _ v2 (heap_setCell_same _ g (o + 1) _ _ v1 (heap_setCell_same _ g o _ _ v0 h))))
  have e : (put5 w g o v0 v1 v2 v3 v4).heap[g]? = _ := key
  refine ⟨cell_blk e ?_, cell_blk e ?_, cell_blk e ?_, cell_blk e ?_, cell_blk e ?_⟩
  all_goals
    simp only [Array.getElem?_setIfInBounds, Array.size_setIfInBounds]
    simp
    try omega
theorem Try.info41 : (Try.prog.info? 41).map (fun i => (i.zero, i.size, i.bytes)) = some (some (.agg #[.int .i64 0, .int .i64 0, .string ⟨#[]⟩, .slice none 0 0, .slice none 0 0]), 5, 80) := by kernel_rfl
/-- The cells of one row are laid beside another's. -/
theorem NodAt.beside {w : World} {p q : Nat → Prop} {g o k : Nat} {v0 v1 v2 v3 v4 : Value} {d : Nod} (h : NodAt w p g k d) (ho : k + 5 ≤ o ∨ o + 5 ≤ k) (hk : ∀ b, p b → q b ∧ b ≠ g) : NodAt (put5 w g o v0 v1 v2 v3 v4) q g k d := by
  obtain ⟨an, cn, aa, ca, h0, h1, h2, h3, h4, hr⟩ := h
  exact ⟨an, cn, aa, ca, (put5_out (by omega)).trans h0, (put5_out (by omega)).trans h1, (put5_out (by omega)).trans h2, (put5_out (by omega)).trans h3, (put5_out (by omega)).trans h4, hr.keep fun b hb => ⟨(hk b hb).1, put5_other (hk b hb).2⟩⟩
set_option maxRecDepth 100000 in
set_option maxHeartbeats 1000000 in
theorem toNodeS_any (a : Option Addr) (cs : List Nod) (cap : Nat) (w : World) (hn : cs.length ≤ 1048576) (hr : RowN w w.heap.size a cs) (hsm : ∀ d ∈ cs, d.small) :
    Calls Try.prog 18 #[.slice a cs.length cap] w fun e w' => ∃ g, e = .returned (.slice (some ⟨g, 0, none⟩) cs.length cs.length) ∧ w.heap.size ≤ g ∧ g < w'.heap.size ∧ (∀ (j : Nat) (d : Nod), cs[j]? = some d → NodAt w' (fun b => w.heap.size < b ∧ b < w'.heap.size) g (j * 5) d) ∧ Below w.heap.size w w' := by
  obtain ⟨i0, hi, hz0, hz1, hz2⟩ := info_parts Try.info41
  have HR : Hid (RowN w w.heap.size a cs) := hr
  have HS : Hid (∀ d ∈ cs, d.small) := hsm
  clear hr hsm
  go_enter Try.func18, Try.ntmps18
  go_wp2_with (at_make; refine wpList_make_full _ rfl _ _ 27 rfl w.heap.size 41 i0 _ 5 Try.underlying27 hi hz0 hz1 .i64 .i64 _ _ cs.length rfl rfl rfl rfl ?c1 ?c2 ?c3 ?_)
  case c1 => rw [hz2]; omega
  case c2 => simp [maxLen]; omega
  case c3 => exact Nat.le_refl _
  intro w1 hown1 hgr1
  go_wp2
  have hb1 : Below w.heap.size w w1 := (Below.refl _ _).grown hgr1 (Nat.le_refl _) (fun _ h => by cases h)
  obtain ⟨hlen, ⟨h0, _⟩ | ⟨g, cp, cur, hv, _, hblk, _, _, hcs, _⟩⟩ := hown1
  · cases h0
  simp only [Value.slice.injEq, Option.some.injEq, Addr.mk.injEq] at hv
  obtain ⟨⟨rfl, _⟩, _, rfl⟩ := hv
  clear hlen
  go_loopw [4] (fun o wr => ∃ (i : Nat) (cur : Array Value), i ≤ cs.length ∧ wr.heap[w.heap.size]? = some (.cells cur 41 (0, 0)) ∧ cur.size = cs.length * 5 ∧ (∀ (j : Nat) (d : Nod), j < i → cs[j]? = some d → NodAt wr (fun b => w.heap.size < b ∧ b < wr.heap.size) w.heap.size (j * 5) d) ∧ o = .int .i64 i ∧ Below w.heap.size w wr)
    (fun o _ => cs.length - (intOf o).toNat)
  case atStart => exact ⟨0, cur, by omega, hblk, hcs, fun j d h => absurd h (by omega), rfl, hb1⟩
  case round =>
    clear hblk hcs hb1 hgr1
    obtain ⟨i, cur, hi, hblk, hcs, hat, rfl, hb⟩ := hrel
    by_cases hlt : i < cs.length
    · obtain ⟨d, hd⟩ : ∃ d, cs[i]? = some d := ⟨_, List.getElem?_eq_getElem hlt⟩
      obtain ⟨b1, o1, rfl, hbb, an, cn, aa, ca, v0, v1, v2, v3, v4, hrows⟩ := HR.out i d hd
      have c0 := cell_keep v0 hb hbb
      have c1 := cell_keep v1 hb hbb
      have c2 := cell_keep v2 hb hbb
      have c3 := cell_keep v3 hb hbb
      have c4 := cell_keep v4 hb hbb
      have HA : Hid (∀ (j : Nat) (d : Nod), j < i → cs[j]? = some d → NodAt wr (fun b => w.heap.size < b ∧ b < wr.heap.size) w.heap.size (j * 5) d) := hat
      have HK : Hid (wr.heap[w.heap.size]? = some (.cells cur 41 (0, 0))) := hblk
      have hsz := hb.size
      have hlt2 : w.heap.size < wr.heap.size := (Array.getElem?_eq_some_iff.1 hblk).1
      have HT : Hid (Calls Try.prog 30 #[.agg #[.int .i64 d.k, .int .i64 d.n, .string d.s, .slice an d.names.length cn, .slice aa d.args.length ca]] wr fun e w' => TnPost d wr e w') := toNode_any d an aa cn ca wr (HS.out d (List.mem_of_getElem? hd)) (hrows.keep fun b h => ⟨by omega, hb.block b h⟩)
      clear hat hblk v0 v1 v2 v3 v4 hrows
      go_wp2_with fail
      refine HT.out.mono ?_
      rintro e w2 ⟨g2, h2, rfl, hrows2, hb2⟩
      have hk2 := blk_keep HK.out hb2 hlt2
      have f0 := frozen_blk hk2 (i * 5)
      have f1 := frozen_blk hk2 (i * 5 + 1)
      have f2 := frozen_blk hk2 (i * 5 + 2)
      have f3 := frozen_blk hk2 (i * 5 + 3)
      have f4 := frozen_blk hk2 (i * 5 + 4)
      obtain ⟨x0, e0⟩ := cell_blk' hk2 (i * 5) (by omega)
      obtain ⟨x1, e1⟩ := cell_blk' hk2 (i * 5 + 1) (by omega)
      obtain ⟨x2, e2⟩ := cell_blk' hk2 (i * 5 + 2) (by omega)
      obtain ⟨x3, e3⟩ := cell_blk' hk2 (i * 5 + 3) (by omega)
      obtain ⟨x4, e4⟩ := cell_blk' hk2 (i * 5 + 4) (by omega)
      have HK2 : Hid (w2.heap[w.heap.size]? = some (.cells cur 41 (0, 0))) := hk2
      have HR2 : Hid (NodRows w2 (fun b => wr.heap.size ≤ b ∧ b < w2.heap.size) (some ⟨g2, 0, none⟩) d.names.length (some ⟨h2, 0, none⟩) d.args.length d) := hrows2
      have hs2 := hb2.size
      clear hk2 hrows2 HT
      go_wp2
      go_roundw
      case rel =>
        obtain ⟨ys, hy1, hy2⟩ := put5_blk (i * 5) (.int .i64 d.k) (.int .i64 d.n) (.string d.s) (.slice (some ⟨g2, 0, none⟩) d.names.length d.names.length) (.slice (some ⟨h2, 0, none⟩) d.args.length d.args.length) HK2.out
        refine ⟨i + 1, ys, by omega, hy1, by omega, fun j d' hj hd' => ?_, by go_num, ?_⟩
        · by_cases hji : j = i
          · subst hji
            obtain rfl : d = d' := Option.some.inj (hd.symm.trans hd')
            obtain ⟨p0, p1, p2, p3, p4⟩ := put5_same (v0 := .int .i64 d.k) (v1 := .int .i64 d.n) (v2 := .string d.s) (v3 := .slice (some ⟨g2, 0, none⟩) d.names.length d.names.length) (v4 := .slice (some ⟨h2, 0, none⟩) d.args.length d.args.length) (o := j * 5) HK2.out (by omega)
            refine ⟨_, _, _, _, p0, p1, p2, p3, p4, HR2.out.keep fun b hb' => ?_⟩
            have hb' : wr.heap.size ≤ b ∧ b < w2.heap.size := hb'
            have e5 := put5_other (w := w2) (g := w.heap.size) (o := j * 5) (v0 := .int .i64 d.k) (v1 := .int .i64 d.n) (v2 := .string d.s) (v3 := .slice (some ⟨g2, 0, none⟩) d.names.length d.names.length) (v4 := .slice (some ⟨h2, 0, none⟩) d.args.length d.args.length) (b := b) (by omega)
            exact ⟨⟨by omega, by simp; omega⟩, e5⟩
          · have hq := (HA.out j d' (by omega) hd').keep (q := fun b => w.heap.size < b ∧ b < wr.heap.size) (hb2.block _ hlt2) fun b hb' => ⟨hb', hb2.block b hb'.2⟩
            exact hq.beside (by omega) fun b hb' => by
              have hb' : w.heap.size < b ∧ b < wr.heap.size := hb'
              exact ⟨⟨hb'.1, by simp; omega⟩, by omega⟩
        · exact put5_below (hb.trans (hb2.mono hsz)) (Nat.le_refl _) (i * 5) _ _ _ _ _
      case measure => simp [intOf]; omega
    · have hlt' : decide ((i : Int) < (cs.length : Int)) = false := by simp; omega
      obtain rfl : i = cs.length := by omega
      have HA : Hid (∀ (j : Nat) (d : Nod), j < cs.length → cs[j]? = some d → NodAt wr (fun b => w.heap.size < b ∧ b < wr.heap.size) w.heap.size (j * 5) d) := hat
      have HK : Hid (wr.heap[w.heap.size]? = some (.cells cur 41 (0, 0))) := hblk
      clear hat hblk
      go_wp2
      go_ret
      exact ⟨w.heap.size, rfl, Nat.le_refl _, (Array.getElem?_eq_some_iff.1 HK.out).1, fun j d hj => HA.out j d (List.getElem?_eq_some_iff.1 hj).1 hj, hb⟩
end Go.Proofs.Ytfjjnngaeccdjaa
