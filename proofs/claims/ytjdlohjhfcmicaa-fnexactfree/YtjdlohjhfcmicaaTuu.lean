/- A program that comes in, copied: its rows and its nodes, into blocks that can be written. A node that comes in, copied. A program that comes in, copied whole. A program copied whole, into blocks that can be written. -/
import Derived.Test.YtjdlohjhfcmicaaToq
import Derived.Deep.RegionWith
namespace Go.Proofs.Ytjdlohjhfcmicaa
open Go.ChangeShapes Go.WideShapes Go.ChangeAt Go.RowKit
/-- A block that can be written, and is no row of nodes. -/
def Unf (w : World) (b : Nat) : Prop := ∃ (X : Array Value) (t : TypeId), w.heap[b]? = some (.cells X t (0, 0)) ∧ t ≠ 48
theorem Unf.keep {w w' : World} {b : Nat} (h : Unf w b) (hk : w'.heap[b]? = w.heap[b]?) : Unf w' b := by
  obtain ⟨X, t, h1, h2⟩ := h
  exact ⟨X, t, hk.trans h1, h2⟩
set_option maxRecDepth 100000 in
set_option maxHeartbeats 1000000 in
theorem toIntSU_any (a : Option Addr) (ts : List Int) (cap : Nat) (w : World) (hn : ts.length ≤ 1048576) (hr : RowI w w.heap.size a ts) :
    Calls Try.prog 50 #[.slice a ts.length cap] w fun e w' => ∃ g, e = .returned (.slice (some ⟨g, 0, none⟩) ts.length ts.length) ∧ w.heap.size ≤ g ∧ g < w'.heap.size ∧ Unf w' g ∧ RowIP w' (fun b => b = g) (some ⟨g, 0, none⟩) ts ∧ Below w.heap.size w w' := by
  obtain ⟨i0, hi, hz0, hz1, hz2⟩ := info_parts Try.info3
  have HR : Hid (RowI w w.heap.size a ts) := hr
  clear hr
  go_enter Try.func50, Try.ntmps50
  go_wp2_with (at_make; refine wpList_make_full _ rfl _ _ 46 rfl w.heap.size 3 i0 _ 1 Try.underlying46 hi hz0 hz1 .i64 .i64 _ _ ts.length rfl rfl rfl rfl ?c1 ?c2 ?c3 ?_)
  case c1 => rw [hz2]; omega
  case c2 => simp [maxLen]; omega
  case c3 => exact Nat.le_refl _
  intro w1 hown1 hgr1
  have hb1 : Below w.heap.size w w1 := (Below.refl _ _).grown hgr1 (Nat.le_refl _) (fun _ h => by cases h)
  obtain ⟨cur, hblk, hcs, _⟩ := made_row hown1
  clear hown1 hgr1
  go_wp2
  go_loopw [4] (fun o wr => ∃ (i : Nat) (cur : Array Value), i ≤ ts.length ∧ wr.heap[w.heap.size]? = some (.cells cur 3 (0, 0)) ∧ cur.size = ts.length ∧ (∀ j x, j < i → ts[j]? = some x → cur[j]? = some (.int .i64 x)) ∧ o = .int .i64 i ∧ Below w.heap.size w wr)
    (fun o _ => ts.length - (intOf o).toNat)
  case atStart => exact ⟨0, cur, by omega, hblk, by omega, fun j d h => absurd h (by omega), rfl, hb1⟩
  case round =>
    clear hblk hcs hb1
    obtain ⟨i, cur, hi, hblk, hcs, hat, rfl, hb⟩ := hrel
    by_cases hlt : i < ts.length
    · obtain ⟨d, hd⟩ : ∃ d, ts[i]? = some d := ⟨_, List.getElem?_eq_getElem hlt⟩
      obtain ⟨b, o, rfl, hbb, c0⟩ := (HR.out.below hb) i d hd
      have HA : Hid (∀ j x, j < i → ts[j]? = some x → cur[j]? = some (.int .i64 x)) := hat
      have HK : Hid (wr.heap[w.heap.size]? = some (.cells cur 3 (0, 0))) := hblk
      have f0 := frozen_blk hblk i
      obtain ⟨x0, e0⟩ := cell_blk' hblk i (by omega)
      clear hat hblk
      go_wp2
      go_roundw
      case rel =>
        refine ⟨i + 1, _, by omega, heap_setCell_same _ _ _ _ _ _ HK.out, by simp; omega, fun j x hj hx => ?_, by go_num, hb.setCell (p := ⟨_, _, none⟩) (Nat.le_refl _) _⟩
        rw [Array.getElem?_setIfInBounds]
        by_cases hji : i = j
        · subst hji
          obtain rfl : d = x := Option.some.inj (hd.symm.trans hx)
          rw [if_pos rfl, if_pos (by omega)]
        · rw [if_neg hji]
          exact HA.out j x (by omega) hx
      case measure => simp [intOf]; omega
    · have hlt' : decide ((i : Int) < (ts.length : Int)) = false := by simp; omega
      obtain rfl : i = ts.length := by omega
      have HA : Hid (∀ j x, j < ts.length → ts[j]? = some x → cur[j]? = some (.int .i64 x)) := hat
      have HK : Hid (wr.heap[w.heap.size]? = some (.cells cur 3 (0, 0))) := hblk
      clear hat hblk
      go_wp2
      go_ret
      refine ⟨w.heap.size, rfl, Nat.le_refl _, (Array.getElem?_eq_some_iff.1 HK.out).1, ⟨cur, 3, HK.out, by decide⟩, ?_, hb⟩
      intro j d hj
      have hjl := (List.getElem?_eq_some_iff.1 hj).1
      refine ⟨w.heap.size, 0, rfl, rfl, ?_⟩
      rw [Nat.zero_add]
      exact cell_blk HK.out (HA.out j d hjl hj)
set_option maxRecDepth 100000 in
set_option maxHeartbeats 1000000 in
theorem toStringSU_any (a : Option Addr) (ts : List ByteArray) (cap : Nat) (w : World) (hn : ts.length ≤ 1048576) (hr : RowS w w.heap.size a ts) :
    Calls Try.prog 49 #[.slice a ts.length cap] w fun e w' => ∃ g, e = .returned (.slice (some ⟨g, 0, none⟩) ts.length ts.length) ∧ w.heap.size ≤ g ∧ g < w'.heap.size ∧ Unf w' g ∧ RowSP w' (fun b => b = g) (some ⟨g, 0, none⟩) ts ∧ Below w.heap.size w w' := by
  obtain ⟨i0, hi, hz0, hz1, hz2⟩ := info_parts Try.info9
  have HR : Hid (RowS w w.heap.size a ts) := hr
  clear hr
  go_enter Try.func49, Try.ntmps49
  go_wp2_with (at_make; refine wpList_make_full _ rfl _ _ 26 rfl w.heap.size 9 i0 _ 1 Try.underlying26 hi hz0 hz1 .i64 .i64 _ _ ts.length rfl rfl rfl rfl ?c1 ?c2 ?c3 ?_)
  case c1 => rw [hz2]; omega
  case c2 => simp [maxLen]; omega
  case c3 => exact Nat.le_refl _
  intro w1 hown1 hgr1
  have hb1 : Below w.heap.size w w1 := (Below.refl _ _).grown hgr1 (Nat.le_refl _) (fun _ h => by cases h)
  obtain ⟨cur, hblk, hcs, _⟩ := made_row hown1
  clear hown1 hgr1
  go_wp2
  go_loopw [4] (fun o wr => ∃ (i : Nat) (cur : Array Value), i ≤ ts.length ∧ wr.heap[w.heap.size]? = some (.cells cur 9 (0, 0)) ∧ cur.size = ts.length ∧ (∀ j x, j < i → ts[j]? = some x → cur[j]? = some (.string x)) ∧ o = .int .i64 i ∧ Below w.heap.size w wr)
    (fun o _ => ts.length - (intOf o).toNat)
  case atStart => exact ⟨0, cur, by omega, hblk, by omega, fun j d h => absurd h (by omega), rfl, hb1⟩
  case round =>
    clear hblk hcs hb1
    obtain ⟨i, cur, hi, hblk, hcs, hat, rfl, hb⟩ := hrel
    by_cases hlt : i < ts.length
    · obtain ⟨d, hd⟩ : ∃ d, ts[i]? = some d := ⟨_, List.getElem?_eq_getElem hlt⟩
      obtain ⟨b, o, rfl, hbb, c0⟩ := (HR.out.below hb) i d hd
      have HA : Hid (∀ j x, j < i → ts[j]? = some x → cur[j]? = some (.string x)) := hat
      have HK : Hid (wr.heap[w.heap.size]? = some (.cells cur 9 (0, 0))) := hblk
      have f0 := frozen_blk hblk i
      obtain ⟨x0, e0⟩ := cell_blk' hblk i (by omega)
      clear hat hblk
      go_wp2
      go_roundw
      case rel =>
        refine ⟨i + 1, _, by omega, heap_setCell_same _ _ _ _ _ _ HK.out, by simp; omega, fun j x hj hx => ?_, by go_num, hb.setCell (p := ⟨_, _, none⟩) (Nat.le_refl _) _⟩
        rw [Array.getElem?_setIfInBounds]
        by_cases hji : i = j
        · subst hji
          obtain rfl : d = x := Option.some.inj (hd.symm.trans hx)
          rw [if_pos rfl, if_pos (by omega)]
        · rw [if_neg hji]
          exact HA.out j x (by omega) hx
      case measure => simp [intOf]; omega
    · have hlt' : decide ((i : Int) < (ts.length : Int)) = false := by simp; omega
      obtain rfl : i = ts.length := by omega
      have HA : Hid (∀ j x, j < ts.length → ts[j]? = some x → cur[j]? = some (.string x)) := hat
      have HK : Hid (wr.heap[w.heap.size]? = some (.cells cur 9 (0, 0))) := hblk
      clear hat hblk
      go_wp2
      go_ret
      refine ⟨w.heap.size, rfl, Nat.le_refl _, (Array.getElem?_eq_some_iff.1 HK.out).1, ⟨cur, 9, HK.out, by decide⟩, ?_, hb⟩
      intro j d hj
      have hjl := (List.getElem?_eq_some_iff.1 hj).1
      refine ⟨w.heap.size, 0, rfl, rfl, ?_⟩
      rw [Nat.zero_add]
      exact cell_blk HK.out (HA.out j d hjl hj)
end Go.Proofs.Ytjdlohjhfcmicaa
namespace Go.Proofs.Ytjdlohjhfcmicaa
open Go.ChangeShapes Go.WideShapes Go.ChangeAt Go.RowKit
/-- What toNode leaves. -/
def TnPostU (d : Nod) (w : World) (e : Ending) (w' : World) : Prop := ∃ g h, e = .returned (.agg #[.int .i64 d.k, .int .i64 d.n, .string d.s, .slice (some ⟨g, 0, none⟩) d.names.length d.names.length, .slice (some ⟨h, 0, none⟩) d.args.length d.args.length]) ∧
  NodRows w' (fun b => w.heap.size ≤ b ∧ b < w'.heap.size ∧ Unf w' b) (some ⟨g, 0, none⟩) d.names.length (some ⟨h, 0, none⟩) d.args.length d ∧ Below w.heap.size w w'
set_option maxRecDepth 100000 in
set_option maxHeartbeats 1000000 in
theorem toNodeU_any (d : Nod) (an aa : Option Addr) (cn ca : Nat) (w : World) (hs : d.small) (hr : NodRows w (fun b => b < w.heap.size) an cn aa ca d) :
    Calls Try.prog 35 #[.agg #[.int .i64 d.k, .int .i64 d.n, .string d.s, .slice an d.names.length cn, .slice aa d.args.length ca]] w fun e w' => TnPostU d w e w' := by
  obtain ⟨hrs, hri, -, -⟩ := hr
  obtain ⟨_, _, _, s4, s5, _⟩ := hs
  have HS : Hid (∀ w1, Below w.heap.size w w1 → Calls Try.prog 49 #[.slice an d.names.length cn] w1 fun e w' => ∃ g, e = .returned (.slice (some ⟨g, 0, none⟩) d.names.length d.names.length) ∧ w1.heap.size ≤ g ∧ g < w'.heap.size ∧ Unf w' g ∧ RowSP w' (fun b => b = g) (some ⟨g, 0, none⟩) d.names ∧ Below w1.heap.size w1 w') := fun w1 h => toStringSU_any an d.names cn w1 s4 (hrs.keep fun b hb => ⟨by have := h.size; omega, h.block b hb⟩)
  have HI : Hid (∀ w1, Below w.heap.size w w1 → Calls Try.prog 50 #[.slice aa d.args.length ca] w1 fun e w' => ∃ g, e = .returned (.slice (some ⟨g, 0, none⟩) d.args.length d.args.length) ∧ w1.heap.size ≤ g ∧ g < w'.heap.size ∧ Unf w' g ∧ RowIP w' (fun b => b = g) (some ⟨g, 0, none⟩) d.args ∧ Below w1.heap.size w1 w') := fun w1 h => toIntSU_any aa d.args ca w1 s5 (hri.keep fun b hb => ⟨by have := h.size; omega, h.block b hb⟩)
  clear hrs hri
  go_enter Try.func35, Try.ntmps35
  go_wp2_with fail
  have hbA : Below w.heap.size w (((w.alloc (Obj.cells #[.int .i64 d.k, .int .i64 d.n, .string d.s, .slice an d.names.length cn, .slice aa d.args.length ca] 58)).alloc (Obj.cells #[.int .i64 0, .int .i64 0, .string ⟨#[]⟩, .slice none 0 0, .slice none 0 0] 48)).alloc (Obj.cells #[.int .i64 d.k, .int .i64 d.n, .string d.s, .slice none 0 0, .slice none 0 0] 48)) := (((Below.refl _ _).alloc (Nat.le_refl _) _).alloc (by simp) _).alloc (by simp; omega) _
  have k0 : (((w.alloc (Obj.cells #[.int .i64 d.k, .int .i64 d.n, .string d.s, .slice an d.names.length cn, .slice aa d.args.length ca] 58)).alloc (Obj.cells #[.int .i64 0, .int .i64 0, .string ⟨#[]⟩, .slice none 0 0, .slice none 0 0] 48)).alloc (Obj.cells #[.int .i64 d.k, .int .i64 d.n, .string d.s, .slice none 0 0, .slice none 0 0] 48)).heap[w.heap.size]? = some (Obj.cells #[.int .i64 d.k, .int .i64 d.n, .string d.s, .slice an d.names.length cn, .slice aa d.args.length ca] 58) := blk_past (blk_past (blk_at _ _ _ rfl))
  have k1 : (((w.alloc (Obj.cells #[.int .i64 d.k, .int .i64 d.n, .string d.s, .slice an d.names.length cn, .slice aa d.args.length ca] 58)).alloc (Obj.cells #[.int .i64 0, .int .i64 0, .string ⟨#[]⟩, .slice none 0 0, .slice none 0 0] 48)).alloc (Obj.cells #[.int .i64 d.k, .int .i64 d.n, .string d.s, .slice none 0 0, .slice none 0 0] 48)).heap[w.heap.size + 1]? = some (Obj.cells #[.int .i64 0, .int .i64 0, .string ⟨#[]⟩, .slice none 0 0, .slice none 0 0] 48) := blk_past (blk_at _ _ _ (by simp))
  have k2 : (((w.alloc (Obj.cells #[.int .i64 d.k, .int .i64 d.n, .string d.s, .slice an d.names.length cn, .slice aa d.args.length ca] 58)).alloc (Obj.cells #[.int .i64 0, .int .i64 0, .string ⟨#[]⟩, .slice none 0 0, .slice none 0 0] 48)).alloc (Obj.cells #[.int .i64 d.k, .int .i64 d.n, .string d.s, .slice none 0 0, .slice none 0 0] 48)).heap[w.heap.size + 1 + 1]? = some (Obj.cells #[.int .i64 d.k, .int .i64 d.n, .string d.s, .slice none 0 0, .slice none 0 0] 48) := blk_at _ _ _ (by simp)
  have hsA : (((w.alloc (Obj.cells #[.int .i64 d.k, .int .i64 d.n, .string d.s, .slice an d.names.length cn, .slice aa d.args.length ca] 58)).alloc (Obj.cells #[.int .i64 0, .int .i64 0, .string ⟨#[]⟩, .slice none 0 0, .slice none 0 0] 48)).alloc (Obj.cells #[.int .i64 d.k, .int .i64 d.n, .string d.s, .slice none 0 0, .slice none 0 0] 48)).heap.size = w.heap.size + 3 := by simp
  generalize (((w.alloc (Obj.cells #[.int .i64 d.k, .int .i64 d.n, .string d.s, .slice an d.names.length cn, .slice aa d.args.length ca] 58)).alloc (Obj.cells #[.int .i64 0, .int .i64 0, .string ⟨#[]⟩, .slice none 0 0, .slice none 0 0] 48)).alloc (Obj.cells #[.int .i64 d.k, .int .i64 d.n, .string d.s, .slice none 0 0, .slice none 0 0] 48)) = wA at *
  refine (HS.out _ hbA).mono ?_
  rintro e w1 ⟨g, rfl, hg1, hg2, hun, hrw, hb1⟩
  have HUN : Hid (Unf w1 g) := hun
  clear hun
  have hb2 : Below w.heap.size w w1 := hbA.trans (hb1.mono hbA.size)
  have k0 := blk_keep k0 hb1 (by omega)
  have k1 := blk_keep k1 hb1 (by omega)
  have k2 := blk_keep k2 hb1 (by omega)
  have hc0 := cell_blk (j := 4) k0 rfl
  have hc1 := cell_blk (j := 3) k2 rfl
  have hf1 := frozen_blk k2 3
  have hs1 := hb1.size
  have K1 : Hid (w1.heap[w.heap.size + 1]? = some (Obj.cells #[.int .i64 0, .int .i64 0, .string ⟨#[]⟩, .slice none 0 0, .slice none 0 0] 48)) := k1
  have K2 : Hid (w1.heap[w.heap.size + 1 + 1]? = some (Obj.cells #[.int .i64 d.k, .int .i64 d.n, .string d.s, .slice none 0 0, .slice none 0 0] 48)) := k2
  have HRW : Hid (RowSP w1 (fun b => b = g) (some ⟨g, 0, none⟩) d.names) := hrw
  clear k0 k1 k2 hbA hb1 hrw
  go_wp2_with fail
  clear hc0 hc1 hf1
  have k1 : (w1.setCell ⟨w.heap.size + 1 + 1, 3, none⟩ (.slice (some ⟨g, 0, none⟩) d.names.length d.names.length)).heap[w.heap.size + 1]? = some (Obj.cells #[.int .i64 0, .int .i64 0, .string ⟨#[]⟩, .slice none 0 0, .slice none 0 0] 48) := by
    rw [heap_setCell_other _ _ _ _ (by simp)]; exact K1.out
  have k2 : (w1.setCell ⟨w.heap.size + 1 + 1, 3, none⟩ (.slice (some ⟨g, 0, none⟩) d.names.length d.names.length)).heap[w.heap.size + 1 + 1]? = some (Obj.cells #[.int .i64 d.k, .int .i64 d.n, .string d.s, .slice (some ⟨g, 0, none⟩) d.names.length d.names.length, .slice none 0 0] 48) := heap_setCell_same _ _ _ _ _ _ K2.out
  have hb3 : Below w.heap.size w (w1.setCell ⟨w.heap.size + 1 + 1, 3, none⟩ (.slice (some ⟨g, 0, none⟩) d.names.length d.names.length)) := hb2.setCell (p := ⟨_, _, none⟩) (by simp; omega) _
  have hrw : RowSP (w1.setCell ⟨w.heap.size + 1 + 1, 3, none⟩ (.slice (some ⟨g, 0, none⟩) d.names.length d.names.length)) (fun b => b = g) (some ⟨g, 0, none⟩) d.names := HRW.out.keep fun b hb => by
    have hb' : b = g := hb
    exact ⟨hb, heap_setCell_other _ _ _ _ (by show b ≠ w.heap.size + 1 + 1; omega)⟩
  have hunB : Unf (w1.setCell ⟨w.heap.size + 1 + 1, 3, none⟩ (.slice (some ⟨g, 0, none⟩) d.names.length d.names.length)) g := HUN.out.keep (heap_setCell_other _ _ _ _ (by show g ≠ w.heap.size + 1 + 1; omega))
  have hsB : (w1.setCell ⟨w.heap.size + 1 + 1, 3, none⟩ (.slice (some ⟨g, 0, none⟩) d.names.length d.names.length)).heap.size = w1.heap.size := by simp
  generalize w1.setCell ⟨w.heap.size + 1 + 1, 3, none⟩ (.slice (some ⟨g, 0, none⟩) d.names.length d.names.length) = wB at *
  refine (HI.out _ hb3).mono ?_
  rintro e w2 ⟨h, rfl, hh1, hh2, hui, hri, hb4⟩
  have HUI : Hid (Unf w2 h) := hui
  have HUG : Hid (Unf w2 g) := hunB.keep (hb4.block g (by omega))
  clear hui hunB HUN
  have hb5 : Below w.heap.size w w2 := hb3.trans (hb4.mono hb3.size)
  have k1 := blk_keep k1 hb4 (by omega)
  have k2 := blk_keep k2 hb4 (by omega)
  have hrw2 : RowSP w2 (fun b => b = g) (some ⟨g, 0, none⟩) d.names := hrw.keep fun b hb => by
    have hb' : b = g := hb
    exact ⟨hb, hb4.block b (by omega)⟩
  have hs2 := hb4.size
  have p0 := cell_blk (j := 0) k1 rfl
  have p1 := cell_blk (j := 1) k1 rfl
  have p2 := cell_blk (j := 2) k1 rfl
  have p3 := cell_blk (j := 3) k1 rfl
  have p4 := cell_blk (j := 4) k1 rfl
  have r0 := cell_blk (j := 0) k2 rfl
  have r1 := cell_blk (j := 1) k2 rfl
  have r2 := cell_blk (j := 2) k2 rfl
  have r3 := cell_blk (j := 3) k2 rfl
  have r4 := cell_blk (j := 4) k2 rfl
  have f0 := frozen_blk k1 0
  have f1 := frozen_blk k1 1
  have f2 := frozen_blk k1 2
  have f3 := frozen_blk k1 3
  have f4 := frozen_blk k1 4
  have g4 := frozen_blk k2 4
  have K1 : Hid (w2.heap[w.heap.size + 1]? = some (Obj.cells #[.int .i64 0, .int .i64 0, .string ⟨#[]⟩, .slice none 0 0, .slice none 0 0] 48)) := k1
  have HRE : Hid (RowSP w2 (fun b => b = g) (some ⟨g, 0, none⟩) d.names) := hrw2
  have HRI : Hid (RowIP w2 (fun b => b = h) (some ⟨h, 0, none⟩) d.args) := hri
  clear k1 k2 hri hrw hrw2 hb3 hb4 HRW K2 HI HS
  go_wp2
  have K3 : (w2.setCell ⟨w.heap.size + 1 + 1, 4, none⟩ (.slice (some ⟨h, 0, none⟩) d.args.length d.args.length)).heap[w.heap.size + 1]? = some (Obj.cells #[.int .i64 0, .int .i64 0, .string ⟨#[]⟩, .slice none 0 0, .slice none 0 0] 48) := by
    rw [heap_setCell_other _ _ _ _ (by simp)]; exact K1.out
  refine bodyPost_ret (results_cell_row rfl _ _ (w.heap.size + 1) 48 #[.int .i64 d.k, .int .i64 d.n, .string d.s, (.slice (some ⟨g, 0, none⟩) d.names.length d.names.length), (.slice (some ⟨h, 0, none⟩) d.args.length d.args.length)] (0, 0) _ rfl (heap_setCell_same _ _ _ _ _ _ (heap_setCell_same _ _ _ _ _ _ (heap_setCell_same _ _ _ _ _ _ (heap_setCell_same _ _ _ _ _ _ (heap_setCell_same _ _ _ _ _ _ K3))))) Try.underlying48 rfl (by kernel_rfl)) rfl ?_
  have hoth : ∀ b, b ≠ w.heap.size + 1 → b ≠ w.heap.size + 1 + 1 → ((((((w2.setCell ⟨w.heap.size + 1 + 1, 4, none⟩ (.slice (some ⟨h, 0, none⟩) d.args.length d.args.length)).setCell ⟨w.heap.size + 1, 0, none⟩ (.int .i64 d.k)).setCell ⟨w.heap.size + 1, 1, none⟩ (.int .i64 d.n)).setCell ⟨w.heap.size + 1, 2, none⟩ (.string d.s)).setCell ⟨w.heap.size + 1, 3, none⟩ (.slice (some ⟨g, 0, none⟩) d.names.length d.names.length)).setCell ⟨w.heap.size + 1, 4, none⟩ (.slice (some ⟨h, 0, none⟩) d.args.length d.args.length)).heap[b]? = w2.heap[b]? := by
    intro b h1 h2
    rw [heap_setCell_other _ _ _ _ (by simpa using h1), heap_setCell_other _ _ _ _ (by simpa using h1), heap_setCell_other _ _ _ _ (by simpa using h1), heap_setCell_other _ _ _ _ (by simpa using h1), heap_setCell_other _ _ _ _ (by simpa using h1), heap_setCell_other _ _ _ _ (by simpa using h2)]
  refine ⟨g, h, rfl, ⟨HRE.out.keep fun b hb => ?_, HRI.out.keep fun b hb => ?_, Nat.le_refl _, Nat.le_refl _⟩, (((((hb5.setCell (p := ⟨_, _, none⟩) (by simp; omega) _).setCell (p := ⟨_, _, none⟩) (by simp) _).setCell (p := ⟨_, _, none⟩) (by simp) _).setCell (p := ⟨_, _, none⟩) (by simp) _).setCell (p := ⟨_, _, none⟩) (by simp) _).setCell (p := ⟨_, _, none⟩) (by simp) _⟩
  · have hb' : b = g := hb
    have ho := hoth b (by omega) (by omega)
    refine ⟨⟨by omega, by simp; omega, ?_⟩, ho⟩
    rw [hb'] at ho ⊢
    exact HUG.out.keep ho
  · have hb' : b = h := hb
    have ho := hoth b (by omega) (by omega)
    refine ⟨⟨by omega, by simp; omega, ?_⟩, ho⟩
    rw [hb'] at ho ⊢
    exact HUI.out.keep ho
end Go.Proofs.Ytjdlohjhfcmicaa
namespace Go.Proofs.Ytjdlohjhfcmicaa
open Go.ChangeShapes Go.WideShapes Go.ChangeAt Go.RowKit
set_option maxRecDepth 100000 in
set_option maxHeartbeats 1000000 in
theorem toNodeSU_any (a : Option Addr) (cs : List Nod) (cap : Nat) (w : World) (hn : cs.length ≤ 1048576) (hr : RowN w w.heap.size a cs) (hsm : ∀ d ∈ cs, d.small) :
    Calls Try.prog 22 #[.slice a cs.length cap] w fun e w' => ∃ g, e = .returned (.slice (some ⟨g, 0, none⟩) cs.length cs.length) ∧ w.heap.size ≤ g ∧ g < w'.heap.size ∧ (∀ (j : Nat) (d : Nod), cs[j]? = some d → NodAt w' (fun b => w.heap.size < b ∧ b < w'.heap.size ∧ Unf w' b) g (j * 5) d) ∧ (∃ cur : Array Value, w'.heap[g]? = some (.cells cur 48 (0, 0)) ∧ cur.size = cs.length * 5) ∧ Below w.heap.size w w' := by
  obtain ⟨i0, hi, hz0, hz1, hz2⟩ := info_parts Try.info41
  have HR : Hid (RowN w w.heap.size a cs) := hr
  have HS : Hid (∀ d ∈ cs, d.small) := hsm
  clear hr hsm
  go_enter Try.func22, Try.ntmps22
  go_wp2_with (at_make; refine wpList_make_full _ rfl _ _ 28 rfl w.heap.size 48 i0 _ 5 Try.underlying28 hi hz0 hz1 .i64 .i64 _ _ cs.length rfl rfl rfl rfl ?c1 ?c2 ?c3 ?_)
  case c1 => rw [hz2]; omega
  case c2 => simp [maxLen]; omega
  case c3 => exact Nat.le_refl _
  intro w1 hown1 hgr1
  go_wp2
  have hb1 : Below w.heap.size w w1 := (Below.refl _ _).grown hgr1 (Nat.le_refl _) (fun _ h => by cases h)
  obtain ⟨hlen, ⟨h0, _⟩ | ⟨g, cp, cur, hv, _, hblk, _, _, hcs, _⟩⟩ := hown1
  · cases h0
  simp only [Value.slice.injEq, Option.some.injEq, Addr.mk.injEq] at hv
  obtain ⟨⟨rfl, _⟩, _, rfl⟩ := hv
  clear hlen
  go_loopw [4] (fun o wr => ∃ (i : Nat) (cur : Array Value), i ≤ cs.length ∧ wr.heap[w.heap.size]? = some (.cells cur 48 (0, 0)) ∧ cur.size = cs.length * 5 ∧ (∀ (j : Nat) (d : Nod), j < i → cs[j]? = some d → NodAt wr (fun b => w.heap.size < b ∧ b < wr.heap.size ∧ Unf wr b) w.heap.size (j * 5) d) ∧ o = .int .i64 i ∧ Below w.heap.size w wr)
    (fun o _ => cs.length - (intOf o).toNat)
  case atStart => exact ⟨0, cur, by omega, hblk, hcs, fun j d h => absurd h (by omega), rfl, hb1⟩
  case round =>
    clear hblk hcs hb1 hgr1
    obtain ⟨i, cur, hi, hblk, hcs, hat, rfl, hb⟩ := hrel
    by_cases hlt : i < cs.length
    · obtain ⟨d, hd⟩ : ∃ d, cs[i]? = some d := ⟨_, List.getElem?_eq_getElem hlt⟩
      obtain ⟨b1, o1, rfl, hbb, an, cn, aa, ca, v0, v1, v2, v3, v4, hrows⟩ := HR.out i d hd
      have c0 := cell_keep v0 hb hbb
      have c1 := cell_keep v1 hb hbb
      have c2 := cell_keep v2 hb hbb
      have c3 := cell_keep v3 hb hbb
      have c4 := cell_keep v4 hb hbb
      have HA : Hid (∀ (j : Nat) (d : Nod), j < i → cs[j]? = some d → NodAt wr (fun b => w.heap.size < b ∧ b < wr.heap.size ∧ Unf wr b) w.heap.size (j * 5) d) := hat
      have HK : Hid (wr.heap[w.heap.size]? = some (.cells cur 48 (0, 0))) := hblk
      have hsz := hb.size
      have hlt2 : w.heap.size < wr.heap.size := (Array.getElem?_eq_some_iff.1 hblk).1
      have HT : Hid (Calls Try.prog 35 #[.agg #[.int .i64 d.k, .int .i64 d.n, .string d.s, .slice an d.names.length cn, .slice aa d.args.length ca]] wr fun e w' => TnPostU d wr e w') := toNodeU_any d an aa cn ca wr (HS.out d (List.mem_of_getElem? hd)) (hrows.keep fun b h => ⟨by omega, hb.block b h⟩)
      clear hat hblk v0 v1 v2 v3 v4 hrows
      go_wp2_with fail
      refine HT.out.mono ?_
      rintro e w2 ⟨g2, h2, rfl, hrows2, hb2⟩
      have hk2 := blk_keep HK.out hb2 hlt2
      have f0 := frozen_blk hk2 (i * 5)
      have f1 := frozen_blk hk2 (i * 5 + 1)
      have f2 := frozen_blk hk2 (i * 5 + 2)
      have f3 := frozen_blk hk2 (i * 5 + 3)
      have f4 := frozen_blk hk2 (i * 5 + 4)
      obtain ⟨x0, e0⟩ := cell_blk' hk2 (i * 5) (by omega)
      obtain ⟨x1, e1⟩ := cell_blk' hk2 (i * 5 + 1) (by omega)
      obtain ⟨x2, e2⟩ := cell_blk' hk2 (i * 5 + 2) (by omega)
      obtain ⟨x3, e3⟩ := cell_blk' hk2 (i * 5 + 3) (by omega)
      obtain ⟨x4, e4⟩ := cell_blk' hk2 (i * 5 + 4) (by omega)
      have HK2 : Hid (w2.heap[w.heap.size]? = some (.cells cur 48 (0, 0))) := hk2
      have HR2 : Hid (NodRows w2 (fun b => wr.heap.size ≤ b ∧ b < w2.heap.size ∧ Unf w2 b) (some ⟨g2, 0, none⟩) d.names.length (some ⟨h2, 0, none⟩) d.args.length d) := hrows2
      have hs2 := hb2.size
      clear hk2 hrows2 HT
      go_wp2
      go_roundw
      case rel =>
        obtain ⟨ys, hy1, hy2⟩ := put5_blk (i * 5) (.int .i64 d.k) (.int .i64 d.n) (.string d.s) (.slice (some ⟨g2, 0, none⟩) d.names.length d.names.length) (.slice (some ⟨h2, 0, none⟩) d.args.length d.args.length) HK2.out
        refine ⟨i + 1, ys, by omega, hy1, by omega, fun j d' hj hd' => ?_, by go_num, ?_⟩
        · by_cases hji : j = i
          · subst hji
            obtain rfl : d = d' := Option.some.inj (hd.symm.trans hd')
            obtain ⟨p0, p1, p2, p3, p4⟩ := put5_same (v0 := .int .i64 d.k) (v1 := .int .i64 d.n) (v2 := .string d.s) (v3 := .slice (some ⟨g2, 0, none⟩) d.names.length d.names.length) (v4 := .slice (some ⟨h2, 0, none⟩) d.args.length d.args.length) (o := j * 5) HK2.out (by omega)
            refine ⟨_, _, _, _, p0, p1, p2, p3, p4, HR2.out.keep fun b hb' => ?_⟩
            have hb' : wr.heap.size ≤ b ∧ b < w2.heap.size ∧ Unf w2 b := hb'
            have e5 := put5_other (w := w2) (g := w.heap.size) (o := j * 5) (v0 := .int .i64 d.k) (v1 := .int .i64 d.n) (v2 := .string d.s) (v3 := .slice (some ⟨g2, 0, none⟩) d.names.length d.names.length) (v4 := .slice (some ⟨h2, 0, none⟩) d.args.length d.args.length) (b := b) (by omega)
            exact ⟨⟨by omega, by simp; omega, hb'.2.2.keep e5⟩, e5⟩
          · have hq := (HA.out j d' (by omega) hd').keep (q := fun b => w.heap.size < b ∧ b < wr.heap.size ∧ Unf w2 b) (hb2.block _ hlt2) fun b hb' => ⟨⟨hb'.1, hb'.2.1, hb'.2.2.keep (hb2.block b hb'.2.1)⟩, hb2.block b hb'.2.1⟩
            exact hq.beside (by omega) fun b hb' => by
              have hb' : w.heap.size < b ∧ b < wr.heap.size ∧ Unf w2 b := hb'
              exact ⟨⟨hb'.1, by simp; omega, hb'.2.2.keep (put5_other (o := i * 5) (v0 := .int .i64 d.k) (v1 := .int .i64 d.n) (v2 := .string d.s) (v3 := .slice (some ⟨g2, 0, none⟩) d.names.length d.names.length) (v4 := .slice (some ⟨h2, 0, none⟩) d.args.length d.args.length) (by omega))⟩, by omega⟩
        · exact put5_below (hb.trans (hb2.mono hsz)) (Nat.le_refl _) (i * 5) _ _ _ _ _
      case measure => simp [intOf]; omega
    · have hlt' : decide ((i : Int) < (cs.length : Int)) = false := by simp; omega
      obtain rfl : i = cs.length := by omega
      have HA : Hid (∀ (j : Nat) (d : Nod), j < cs.length → cs[j]? = some d → NodAt wr (fun b => w.heap.size < b ∧ b < wr.heap.size ∧ Unf wr b) w.heap.size (j * 5) d) := hat
      have HK : Hid (wr.heap[w.heap.size]? = some (.cells cur 48 (0, 0))) := hblk
      clear hat hblk
      go_wp2
      go_ret
      exact ⟨w.heap.size, rfl, Nat.le_refl _, (Array.getElem?_eq_some_iff.1 HK.out).1, fun j d hj => HA.out j d (List.getElem?_eq_some_iff.1 hj).1 hj, ⟨cur, HK.out, hcs⟩, hb⟩
end Go.Proofs.Ytjdlohjhfcmicaa
namespace Go.Proofs.Ytjdlohjhfcmicaa
open Go.ChangeShapes Go.WideShapes Go.ChangeAt Go.RowKit
/-- What toProg leaves. -/
def TpPostU (cs : List Nod) (root : Int) (w : World) (e : Ending) (w' : World) : Prop := ∃ g, e = .returned (.agg #[.slice (some ⟨g, 0, none⟩) cs.length cs.length, .int .i64 root]) ∧ RowN w' w'.heap.size (some ⟨g, 0, none⟩) cs ∧ w.heap.size ≤ g ∧ (∀ (j : Nat) (d : Nod), cs[j]? = some d → NodAt w' (fun b => w.heap.size ≤ b ∧ b < w'.heap.size ∧ Unf w' b) g (j * 5) d) ∧ (∃ cur : Array Value, w'.heap[g]? = some (.cells cur 48 (0, 0)) ∧ cur.size = cs.length * 5) ∧ Below w.heap.size w w'
set_option maxRecDepth 100000 in
set_option maxHeartbeats 1000000 in
theorem toProgU_any (a : Option Addr) (cs : List Nod) (cap : Nat) (root : Int) (w : World) (hn : cs.length ≤ 1048576) (hr : RowN w w.heap.size a cs) (hsm : ∀ d ∈ cs, d.small) :
    Calls Try.prog 8 #[.agg #[.slice a cs.length cap, .int .i64 root]] w fun e w' => TpPostU cs root w e w' := by
  have HS : Hid (∀ w1, Below w.heap.size w w1 → Calls Try.prog 22 #[.slice a cs.length cap] w1 fun e w' => ∃ g, e = .returned (.slice (some ⟨g, 0, none⟩) cs.length cs.length) ∧ w1.heap.size ≤ g ∧ g < w'.heap.size ∧ (∀ (j : Nat) (d : Nod), cs[j]? = some d → NodAt w' (fun b => w1.heap.size < b ∧ b < w'.heap.size ∧ Unf w' b) g (j * 5) d) ∧ (∃ cur : Array Value, w'.heap[g]? = some (.cells cur 48 (0, 0)) ∧ cur.size = cs.length * 5) ∧ Below w1.heap.size w1 w') := fun w1 h => toNodeSU_any a cs cap w1 hn ((hr.below h).mono h.size) hsm
  clear hr hsm
  go_enter Try.func8, Try.ntmps8
  go_wp2_with fail
  have hbA : Below w.heap.size w (((w.alloc (Obj.cells #[.slice a cs.length cap, .int .i64 root] 24)).alloc (Obj.cells #[.slice none 0 0, .int .i64 0] 30)).alloc (Obj.cells #[.slice none 0 0, .int .i64 0] 30)) := (((Below.refl _ _).alloc (Nat.le_refl _) _).alloc (by simp) _).alloc (by simp; omega) _
  have k0 : (((w.alloc (Obj.cells #[.slice a cs.length cap, .int .i64 root] 24)).alloc (Obj.cells #[.slice none 0 0, .int .i64 0] 30)).alloc (Obj.cells #[.slice none 0 0, .int .i64 0] 30)).heap[w.heap.size]? = some (Obj.cells #[.slice a cs.length cap, .int .i64 root] 24) := blk_past (blk_past (blk_at _ _ _ rfl))
  have k1 : (((w.alloc (Obj.cells #[.slice a cs.length cap, .int .i64 root] 24)).alloc (Obj.cells #[.slice none 0 0, .int .i64 0] 30)).alloc (Obj.cells #[.slice none 0 0, .int .i64 0] 30)).heap[w.heap.size + 1]? = some (Obj.cells #[.slice none 0 0, .int .i64 0] 30) := blk_past (blk_at _ _ _ (by simp))
  have k2 : (((w.alloc (Obj.cells #[.slice a cs.length cap, .int .i64 root] 24)).alloc (Obj.cells #[.slice none 0 0, .int .i64 0] 30)).alloc (Obj.cells #[.slice none 0 0, .int .i64 0] 30)).heap[w.heap.size + 1 + 1]? = some (Obj.cells #[.slice none 0 0, .int .i64 0] 30) := blk_at _ _ _ (by simp)
  have hsA : (((w.alloc (Obj.cells #[.slice a cs.length cap, .int .i64 root] 24)).alloc (Obj.cells #[.slice none 0 0, .int .i64 0] 30)).alloc (Obj.cells #[.slice none 0 0, .int .i64 0] 30)).heap.size = w.heap.size + 3 := by simp
  generalize (((w.alloc (Obj.cells #[.slice a cs.length cap, .int .i64 root] 24)).alloc (Obj.cells #[.slice none 0 0, .int .i64 0] 30)).alloc (Obj.cells #[.slice none 0 0, .int .i64 0] 30)) = wA at *
  refine (HS.out _ hbA).mono ?_
  rintro e w1 ⟨g, rfl, hg1, hg2, hrw, hcu, hb1⟩
  have HCU : Hid (∃ cur : Array Value, w1.heap[g]? = some (.cells cur 48 (0, 0)) ∧ cur.size = cs.length * 5) := hcu
  clear hcu
  have hb2 : Below w.heap.size w w1 := hbA.trans (hb1.mono hbA.size)
  have k0 := blk_keep k0 hb1 (by omega)
  have k1 := blk_keep k1 hb1 (by omega)
  have k2 := blk_keep k2 hb1 (by omega)
  have q1 := cell_blk (j := 1) k0 rfl
  have p0 := cell_blk (j := 0) k1 rfl
  have p1 := cell_blk (j := 1) k1 rfl
  have r0 := cell_blk (j := 0) k2 rfl
  have r1 := cell_blk (j := 1) k2 rfl
  have f0 := frozen_blk k1 0
  have f1 := frozen_blk k1 1
  have g0 := frozen_blk k2 0
  have g1 := frozen_blk k2 1
  have hs1 := hb1.size
  have K1 : Hid (w1.heap[w.heap.size + 1]? = some (Obj.cells #[.slice none 0 0, .int .i64 0] 30)) := k1
  have HRW : Hid (∀ (j : Nat) (d : Nod), cs[j]? = some d → NodAt w1 (fun b => wA.heap.size < b ∧ b < w1.heap.size ∧ Unf w1 b) g (j * 5) d) := hrw
  clear k0 k1 k2 hbA hb1 hrw
  go_wp2
  have K3 : ((w1.setCell ⟨w.heap.size + 1 + 1, 0, none⟩ (.slice (some ⟨g, 0, none⟩) cs.length cs.length)).setCell ⟨w.heap.size + 1 + 1, 1, none⟩ (.int .i64 root)).heap[w.heap.size + 1]? = some (Obj.cells #[.slice none 0 0, .int .i64 0] 30) := by
    rw [heap_setCell_other _ _ _ _ (by simp), heap_setCell_other _ _ _ _ (by simp)]; exact K1.out
  refine bodyPost_ret (results_cell_row rfl _ _ (w.heap.size + 1) 30 #[(.slice (some ⟨g, 0, none⟩) cs.length cs.length), .int .i64 root] (0, 0) _ rfl (heap_setCell_same _ _ _ _ _ _ (heap_setCell_same _ _ _ _ _ _ K3)) Try.underlying30 rfl (by kernel_rfl)) rfl ?_
  have hoth : ∀ b, b ≠ w.heap.size + 1 → b ≠ w.heap.size + 1 + 1 → ((((w1.setCell ⟨w.heap.size + 1 + 1, 0, none⟩ (.slice (some ⟨g, 0, none⟩) cs.length cs.length)).setCell ⟨w.heap.size + 1 + 1, 1, none⟩ (.int .i64 root)).setCell ⟨w.heap.size + 1, 0, none⟩ (.slice (some ⟨g, 0, none⟩) cs.length cs.length)).setCell ⟨w.heap.size + 1, 1, none⟩ (.int .i64 root)).heap[b]? = w1.heap[b]? := by
    intro b h1 h2
    rw [heap_setCell_other _ _ _ _ (by simpa using h1), heap_setCell_other _ _ _ _ (by simpa using h1), heap_setCell_other _ _ _ _ (by simpa using h2), heap_setCell_other _ _ _ _ (by simpa using h2)]
  have hog := hoth g (by omega) (by omega)
  refine ⟨g, rfl, fun i d hi => ?_, by omega, fun j d hj => ?_, ?_, (((hb2.setCell (p := ⟨_, _, none⟩) (by simp; omega) _).setCell (p := ⟨_, _, none⟩) (by simp; omega) _).setCell (p := ⟨_, _, none⟩) (by simp) _).setCell (p := ⟨_, _, none⟩) (by simp) _⟩
  · refine ⟨g, 0, rfl, by simp; omega, ?_⟩
    rw [Nat.zero_add]
    exact (HRW.out i d hi).keep hog fun b hb' => by
      have hb' : wA.heap.size < b ∧ b < w1.heap.size ∧ Unf w1 b := hb'
      exact ⟨by simp; omega, hoth b (by omega) (by omega)⟩
  · exact (HRW.out j d hj).keep hog fun b hb' => by
      have hb' : wA.heap.size < b ∧ b < w1.heap.size ∧ Unf w1 b := hb'
      have ho := hoth b (by omega) (by omega)
      exact ⟨⟨by omega, by simp; omega, hb'.2.2.keep ho⟩, ho⟩
  · obtain ⟨cur, h1, h2⟩ := HCU.out
    exact ⟨cur, hog.trans h1, h2⟩
end Go.Proofs.Ytjdlohjhfcmicaa
