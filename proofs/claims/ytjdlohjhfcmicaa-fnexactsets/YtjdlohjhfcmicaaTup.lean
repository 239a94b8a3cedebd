/- A program that comes in, copied whole. -/
import Derived.Test.YtjdlohjhfcmicaaTuo
namespace Go.Proofs.Ytjdlohjhfcmicaa
open Go.ChangeShapes Go.WideShapes Go.ChangeAt Go.RowKit
set_option maxRecDepth 100000 in
set_option maxHeartbeats 1000000 in
theorem toNodeSU_any (a : Option Addr) (cs : List Nod) (cap : Nat) (w : World) (hn : cs.length ≤ 1048576) (hr : RowN w w.heap.size a cs) (hsm : ∀ d ∈ cs, d.small) :
    Calls Try.prog 22 #[.slice a cs.length cap] w fun e w' => ∃ g, e = .returned (.slice (some ⟨g, 0, none⟩) cs.length cs.length) ∧ w.heap.size ≤ g ∧ g < w'.heap.size ∧ (∀ (j : Nat) (d : Nod), cs[j]? = some d → NodAt w' (fun b => w.heap.size < b ∧ b < w'.heap.size ∧ Unf w' b) g (j * 5) d) ∧ (∃ cur : Array Value, w'.heap[g]? = some (.cells cur 48 (0, 0)) ∧ cur.size = cs.length * 5) ∧ Below w.heap.size w w' := by
  obtain ⟨i0, hi, hz0, hz1, hz2⟩ := info_parts Try.info41
  have HR : Hid (RowN w w.heap.size a cs) := hr
  have HS : Hid (∀ d ∈ cs, d.small) := hsm
  clear hr hsm
  go_enter Try.func22, Try.ntmps22
  go_wp2_with (at_make; refine wpList_make_full _ rfl _ _ 28 rfl w.heap.size 48 i0 _ 5 Try.underlying28 hi hz0 hz1 .i64 .i64 _ _ cs.length rfl rfl rfl rfl ?c1 ?c2 ?c3 ?_)
  case c1 => rw [hz2]; omega
  case c2 => simp [maxLen]; omega
  case c3 => exact Nat.le_refl _
  intro w1 hown1 hgr1
  go_wp2
  have hb1 : Below w.heap.size w w1 := (Below.refl _ _).grown hgr1 (Nat.le_refl _) (fun _ h => by cases h)
  obtain ⟨hlen, ⟨h0, _⟩ | ⟨g, cp, cur, hv, _, hblk, _, _, hcs, _⟩⟩ := hown1
  · cases h0
  simp only [Value.slice.injEq, Option.some.injEq, Addr.mk.injEq] at hv
  obtain ⟨⟨rfl, _⟩, _, rfl⟩ := hv
  clear hlen
  go_loopw [4] (fun o wr => ∃ (i : Nat) (cur : Array Value), i ≤ cs.length ∧ wr.heap[w.heap.size]? = some (.cells cur 48 (0, 0)) ∧ cur.size = cs.length * 5 ∧ (∀ (j : Nat) (d : Nod), j < i → cs[j]? = some d → NodAt wr (fun b => w.heap.size < b ∧ b < wr.heap.size ∧ Unf wr b) w.heap.size (j * 5) d) ∧ o = .int .i64 i ∧ Below w.heap.size w wr)
    (fun o _ => cs.length - (intOf o).toNat)
  case atStart => exact ⟨0, cur, by omega, hblk, hcs, fun j d h => absurd h (by omega), rfl, hb1⟩
  case round =>
    clear hblk hcs hb1 hgr1
    obtain ⟨i, cur, hi, hblk, hcs, hat, rfl, hb⟩ := hrel
    by_cases hlt : i < cs.length
    · obtain ⟨d, hd⟩ : ∃ d, cs[i]? = some d := ⟨_, List.getElem?_eq_getElem hlt⟩
      obtain ⟨b1, o1, rfl, hbb, an, cn, aa, ca, v0, v1, v2, v3, v4, hrows⟩ := HR.out i d hd
      have c0 := cell_keep v0 hb hbb
      have c1 := cell_keep v1 hb hbb
      have c2 := cell_keep v2 hb hbb
      have c3 := cell_keep v3 hb hbb
      have c4 := cell_keep v4 hb hbb
      have HA : Hid (∀ (j : Nat) (d : Nod), j < i → cs[j]? = some d → NodAt wr (fun b => w.heap.size < b ∧ b < wr.heap.size ∧ Unf wr b) w.heap.size (j * 5) d) := hat
      have HK : Hid (wr.heap[w.heap.size]? = some (.cells cur 48 (0, 0))) := hblk
      have hsz := hb.size
      have hlt2 : w.heap.size < wr.heap.size := (Array.getElem?_eq_some_iff.1 hblk).1
      have HT : Hid (Calls Try.prog 35 #[.agg #[.int .i64 d.k, .int .i64 d.n, .string d.s, .slice an d.names.length cn, .slice aa d.args.length ca]] wr fun e w' => TnPostU d wr e w') := toNodeU_any d an aa cn ca wr (HS.out d (List.mem_of_getElem? hd)) (hrows.keep fun b h => ⟨by omega, hb.block b h⟩)
      clear hat hblk v0 v1 v2 v3 v4 hrows
      go_wp2_with fail
      refine HT.out.mono ?_
      rintro e w2 ⟨g2, h2, rfl, hrows2, hb2⟩
      have hk2 := blk_keep HK.out hb2 hlt2
      have f0 := frozen_blk hk2 (i * 5)
      have f1 := frozen_blk hk2 (i * 5 + 1)
      have f2 := frozen_blk hk2 (i * 5 + 2)
      have f3 := frozen_blk hk2 (i * 5 + 3)
      have f4 := frozen_blk hk2 (i * 5 + 4)
      obtain ⟨x0, e0⟩ := cell_blk' hk2 (i * 5) (by omega)
      obtain ⟨x1, e1⟩ := cell_blk' hk2 (i * 5 + 1) (by omega)
      obtain ⟨x2, e2⟩ := cell_blk' hk2 (i * 5 + 2) (by omega)
      obtain ⟨x3, e3⟩ := cell_blk' hk2 (i * 5 + 3) (by omega)
      obtain ⟨x4, e4⟩ := cell_blk' hk2 (i * 5 + 4) (by omega)
      have HK2 : Hid (w2.heap[w.heap.size]? = some (.cells cur 48 (0, 0))) := hk2
      have HR2 : Hid (NodRows w2 (fun b => wr.heap.size ≤ b ∧ b < w2.heap.size ∧ Unf w2 b) (some ⟨g2, 0, none⟩) d.names.length (some ⟨h2, 0, none⟩) d.args.length d) := hrows2
      have hs2 := hb2.size
      clear hk2 hrows2 HT
      go_wp2
      go_roundw
      case rel =>
        obtain ⟨ys, hy1, hy2⟩ := put5_blk (i * 5) (.int .i64 d.k) (.int .i64 d.n) (.string d.s) (.slice (some ⟨g2, 0, none⟩) d.names.length d.names.length) (.slice (some ⟨h2, 0, none⟩) d.args.length d.args.length) HK2.out
        refine ⟨i + 1, ys, by omega, hy1, by omega, fun j d' hj hd' => ?_, by go_num, ?_⟩
        · by_cases hji : j = i
          · subst hji
            obtain rfl : d = d' := Option.some.inj (hd.symm.trans hd')
            obtain ⟨p0, p1, p2, p3, p4⟩ := put5_same (v0 := .int .i64 d.k) (v1 := .int .i64 d.n) (v2 := .string d.s) (v3 := .slice (some ⟨g2, 0, none⟩) d.names.length d.names.length) (v4 := .slice (some ⟨h2, 0, none⟩) d.args.length d.args.length) (o := j * 5) HK2.out (by omega)
            refine ⟨_, _, _, _, p0, p1, p2, p3, p4, HR2.out.keep fun b hb' => ?_⟩
            have hb' : wr.heap.size ≤ b ∧ b < w2.heap.size ∧ Unf w2 b := hb'
            have e5 := put5_other (w := w2) (g := w.heap.size) (o := j * 5) (v0 := .int .i64 d.k) (v1 := .int .i64 d.n) (v2 := .string d.s) (v3 := .slice (some ⟨g2, 0, none⟩) d.names.length d.names.length) (v4 := .slice (some ⟨h2, 0, none⟩) d.args.length d.args.length) (b := b) (by omega)
            exact ⟨⟨by omega, by simp; omega, hb'.2.2.keep e5⟩, e5⟩
          · have hq := (HA.out j d' (by omega) hd').keep (q := fun b => w.heap.size < b ∧ b < wr.heap.size ∧ Unf w2 b) (hb2.block _ hlt2) fun b hb' => ⟨⟨hb'.1, hb'.2.1, hb'.2.2.keep (hb2.block b hb'.2.1)⟩, hb2.block b hb'.2.1⟩
            exact hq.beside (by omega) fun b hb' => by
              have hb' : w.heap.size < b ∧ b < wr.heap.size ∧ Unf w2 b := hb'
              exact ⟨⟨hb'.1, by simp; omega, hb'.2.2.keep (put5_other (o := i * 5) (v0 := .int .i64 d.k) (v1 := .int .i64 d.n) (v2 := .string d.s) (v3 := .slice (some ⟨g2, 0, none⟩) d.names.length d.names.length) (v4 := .slice (some ⟨h2, 0, none⟩) d.args.length d.args.length) (by omega))⟩, by omega⟩
        · exact put5_below (hb.trans (hb2.mono hsz)) (Nat.le_refl _) (i * 5) _ _ _ _ _
      case measure => simp [intOf]; omega
    · have hlt' : decide ((i : Int) < (cs.length : Int)) = false := by simp; omega
      obtain rfl : i = cs.length := by omega
      have HA : Hid (∀ (j : Nat) (d : Nod), j < cs.length → cs[j]? = some d → NodAt wr (fun b => w.heap.size < b ∧ b < wr.heap.size ∧ Unf wr b) w.heap.size (j * 5) d) := hat
      have HK : Hid (wr.heap[w.heap.size]? = some (.cells cur 48 (0, 0))) := hblk
      clear hat hblk
      go_wp2
      go_ret
      exact ⟨w.heap.size, rfl, Nat.le_refl _, (Array.getElem?_eq_some_iff.1 HK.out).1, fun j d hj => HA.out j d (List.getElem?_eq_some_iff.1 hj).1 hj, ⟨cur, HK.out, hcs⟩, hb⟩
end Go.Proofs.Ytjdlohjhfcmicaa
