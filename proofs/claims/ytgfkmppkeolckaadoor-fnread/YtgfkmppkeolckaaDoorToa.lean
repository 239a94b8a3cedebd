/- Data that come in, copied. -/
import Derived.Test.YtgfkmppkeolckaaDoorDat
namespace Go.Proofs.YtgfkmppkeolckaaDoor
open Go.ChangeShapes Go.WideShapes Go.ChangeAt Go.RowKit
def Dat.val (d : Dat) : Value := .agg #[.int .i64 d.k, .int .i64 d.n, .string d.s, .int .i64 d.l, .int .i64 d.r]
theorem toDatum_any (d : Dat) (w : World) :
    Calls Tryd.prog 71 #[.agg #[.int .i64 d.k, .int .i64 d.n, .string d.s, .int .i64 d.l, .int .i64 d.r]] w fun e w' => Ans w (.agg #[.int .i64 d.k, .int .i64 d.n, .string d.s, .int .i64 d.l, .int .i64 d.r]) e w' := by
  go_enter Tryd.func71, Tryd.ntmps71
  go_wp2
  refine bodyPost_ret (results_cell_row rfl _ _ (w.heap.size + 1) 67 #[.int .i64 d.k, .int .i64 d.n, .string d.s, .int .i64 d.l, .int .i64 d.r] (0, 0) _ rfl (blk_past (blk_at _ _ _ (by simp))) Tryd.underlying67 rfl (by kernel_rfl)) rfl ?_
  exact ⟨rfl, (((Below.refl _ _).alloc (Nat.le_refl _) _).alloc (by simp) _).alloc (by simp; omega) _⟩
theorem Tryd.info67 : (Tryd.prog.info? 67).map (fun i => (i.zero, i.size, i.bytes)) = some (some (.agg #[.int .i64 0, .int .i64 0, .string ⟨#[]⟩, .int .i64 0, .int .i64 0]), 5, 48) := by kernel_rfl
set_option maxRecDepth 100000 in
set_option maxHeartbeats 1000000 in
theorem toDatumS_any (a : Option Addr) (cs : List Dat) (cap : Nat) (w : World) (hn : cs.length ≤ 1048576) (hr : RowD w w.heap.size a cs) :
    Calls Tryd.prog 42 #[.slice a cs.length cap] w fun e w' => ∃ g, e = .returned (.slice (some ⟨g, 0, none⟩) cs.length cs.length) ∧ w.heap.size ≤ g ∧ RowD w' w'.heap.size (some ⟨g, 0, none⟩) cs ∧ (∃ cur, w'.heap[g]? = some (.cells cur 67 (0, 0)) ∧ cur.size = cs.length * 5) ∧ Below w.heap.size w w' := by
  obtain ⟨i0, hi, hz0, hz1, hz2⟩ := info_parts Tryd.info67
  have HR : Hid (RowD w w.heap.size a cs) := hr
  clear hr
  go_enter Tryd.func42, Tryd.ntmps42
  go_wp2_with (at_make; refine wpList_make_full _ rfl _ _ 25 rfl w.heap.size 67 i0 _ 5 Tryd.underlying25 hi hz0 hz1 .i64 .i64 _ _ cs.length rfl rfl rfl rfl ?c1 ?c2 ?c3 ?_)
  case c1 => rw [hz2]; omega
  case c2 => simp [maxLen]; omega
  case c3 => exact Nat.le_refl _
  intro w1 hown1 hgr1
  go_wp2
  have hb1 : Below w.heap.size w w1 := (Below.refl _ _).grown hgr1 (Nat.le_refl _) (fun _ h => by cases h)
  obtain ⟨hlen, ⟨h0, _⟩ | ⟨g, cp, cur, hv, _, hblk, _, _, hcs, _⟩⟩ := hown1
  · cases h0
  simp only [Value.slice.injEq, Option.some.injEq, Addr.mk.injEq] at hv
  obtain ⟨⟨rfl, _⟩, _, rfl⟩ := hv
  have HB1 : Hid (w1.heap[w.heap.size]? = some (.cells cur 67 (0, 0))) := hblk
  clear hlen
  go_loopw [4] (fun o wr => ∃ (i : Nat) (cur : Array Value), i ≤ cs.length ∧ wr.heap[w.heap.size]? = some (.cells cur 67 (0, 0)) ∧ cur.size = cs.length * 5 ∧ (∀ j d, j < i → cs[j]? = some d → DatAt wr w.heap.size (j * 5) d) ∧ o = .int .i64 i ∧ Below w.heap.size w wr)
    (fun o _ => cs.length - (intOf o).toNat)
  case atStart => exact ⟨0, cur, by omega, hblk, hcs, fun j d h => absurd h (by omega), rfl, hb1⟩
  case round =>
    clear hblk hcs HB1 hb1 hgr1
    obtain ⟨i, cur, hi, hblk, hcs, hat, rfl, hb⟩ := hrel
    by_cases hlt : i < cs.length
    · obtain ⟨d, hd⟩ : ∃ d, cs[i]? = some d := ⟨_, List.getElem?_eq_getElem hlt⟩
      obtain ⟨b, o, rfl, hbb, c0, c1, c2, c3, c4⟩ := (HR.out.below hb) i d hd
      have HA : Hid (∀ j d, j < i → cs[j]? = some d → DatAt wr w.heap.size (j * 5) d) := hat
      have HK : Hid (wr.heap[w.heap.size]? = some (.cells cur 67 (0, 0))) := hblk
      have hsz := hb.size
      have hlt2 : w.heap.size < wr.heap.size := (Array.getElem?_eq_some_iff.1 hblk).1
      clear hat hblk
      go_wp2_with fail
      refine (toDatum_any d _).mono ?_
      rintro e w2 ⟨rfl, hb2⟩
      have hk2 := blk_keep HK.out hb2 hlt2
      have f0 := frozen_blk hk2 (i * 5)
      have f1 := frozen_blk hk2 (i * 5 + 1)
      have f2 := frozen_blk hk2 (i * 5 + 2)
      have f3 := frozen_blk hk2 (i * 5 + 3)
      have f4 := frozen_blk hk2 (i * 5 + 4)
      obtain ⟨x0, e0⟩ := cell_blk' hk2 (i * 5) (by omega)
      obtain ⟨x1, e1⟩ := cell_blk' hk2 (i * 5 + 1) (by omega)
      obtain ⟨x2, e2⟩ := cell_blk' hk2 (i * 5 + 2) (by omega)
      obtain ⟨x3, e3⟩ := cell_blk' hk2 (i * 5 + 3) (by omega)
      obtain ⟨x4, e4⟩ := cell_blk' hk2 (i * 5 + 4) (by omega)
      have HK2 : Hid _ := hk2
      clear hk2
      go_wp2
      go_roundw
      case rel =>
        obtain ⟨ys, hy1, hy2⟩ := putDat_blk (i * 5) d HK2.out
        refine ⟨i + 1, ys, by omega, hy1, by omega, fun j d' hj hd' => ?_, by go_num, ?_⟩
        · by_cases hji : j = i
          · subst hji
            obtain rfl : d = d' := Option.some.inj (hd.symm.trans hd')
            exact putDat_same HK2.out (by omega)
          · exact putDat_other (by omega) ((HA.out j d' (by omega) hd').block (hb2.block _ hlt2))
        · exact putDat_below (hb.trans (hb2.mono hsz)) (Nat.le_refl _) (i * 5) d
      case measure => simp [intOf]; omega
    · have hlt' : decide ((i : Int) < (cs.length : Int)) = false := by simp; omega
      obtain rfl : i = cs.length := by omega
      have HA : Hid (∀ j d, j < cs.length → cs[j]? = some d → DatAt wr w.heap.size (j * 5) d) := hat
      have HK : Hid (wr.heap[w.heap.size]? = some (.cells cur 67 (0, 0))) := hblk
      clear hat hblk
      go_wp2
      go_ret
      refine ⟨w.heap.size, rfl, Nat.le_refl _, ?_, ⟨cur, HK.out, hcs⟩, hb⟩
      intro j d hj
      have hjl := (List.getElem?_eq_some_iff.1 hj).1
      refine ⟨w.heap.size, 0, rfl, (Array.getElem?_eq_some_iff.1 HK.out).1, ?_⟩
      rw [Nat.zero_add]
      exact HA.out j d hjl hj
end Go.Proofs.YtgfkmppkeolckaaDoor
