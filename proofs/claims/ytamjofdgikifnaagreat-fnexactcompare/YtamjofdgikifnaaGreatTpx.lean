/- A program that comes in, copied: its rows and its nodes. A node that comes in, copied. A program that comes in, copied whole. A program copied whole; like programs are told alike. -/
import Derived.Test.YtamjofdgikifnaaGreatPsa
import Derived.Deep.RegionWith
namespace Go.Proofs.YtamjofdgikifnaaGreat
open Go.ChangeShapes Go.WideShapes Go.ChangeAt Go.RowKit
theorem Tryz.info9N : (Tryz.prog.info? 9).map (fun i => (i.zero, i.size, i.bytes)) = some (some (.string ⟨#[]⟩), 1, 16) := by kernel_rfl
set_option maxRecDepth 100000 in
set_option maxHeartbeats 1000000 in
theorem toIntS_any (a : Option Addr) (ts : List Int) (cap : Nat) (w : World) (hn : ts.length ≤ 1048576) (hr : RowI w w.heap.size a ts) :
    Calls Tryz.prog 123 #[.slice a ts.length cap] w fun e w' => ∃ g, e = .returned (.slice (some ⟨g, 0, none⟩) ts.length ts.length) ∧ w.heap.size ≤ g ∧ g < w'.heap.size ∧ RowIP w' (fun b => b = g) (some ⟨g, 0, none⟩) ts ∧ Below w.heap.size w w' := by
  obtain ⟨i0, hi, hz0, hz1, hz2⟩ := info_parts Tryz.info3
  have HR : Hid (RowI w w.heap.size a ts) := hr
  clear hr
  go_enter Tryz.func123, Tryz.ntmps123
  go_wp2_with (at_make; refine wpList_make_full _ rfl _ _ 94 rfl w.heap.size 3 i0 _ 1 Tryz.underlying94 hi hz0 hz1 .i64 .i64 _ _ ts.length rfl rfl rfl rfl ?c1 ?c2 ?c3 ?_)
  case c1 => rw [hz2]; omega
  case c2 => simp [maxLen]; omega
  case c3 => exact Nat.le_refl _
  intro w1 hown1 hgr1
  have hb1 : Below w.heap.size w w1 := (Below.refl _ _).grown hgr1 (Nat.le_refl _) (fun _ h => by cases h)
  obtain ⟨cur, hblk, hcs, _⟩ := made_rowN hown1
  clear hown1 hgr1
  go_wp2
  go_loopw [4] (fun o wr => ∃ (i : Nat) (cur : Array Value), i ≤ ts.length ∧ wr.heap[w.heap.size]? = some (.cells cur 3 (0, 0)) ∧ cur.size = ts.length ∧ (∀ j x, j < i → ts[j]? = some x → cur[j]? = some (.int .i64 x)) ∧ o = .int .i64 i ∧ Below w.heap.size w wr)
    (fun o _ => ts.length - (intOf o).toNat)
  case atStart => exact ⟨0, cur, by omega, hblk, by omega, fun j d h => absurd h (by omega), rfl, hb1⟩
  case round =>
    clear hblk hcs hb1
    obtain ⟨i, cur, hi, hblk, hcs, hat, rfl, hb⟩ := hrel
    by_cases hlt : i < ts.length
    · obtain ⟨d, hd⟩ : ∃ d, ts[i]? = some d := ⟨_, List.getElem?_eq_getElem hlt⟩
      obtain ⟨b, o, rfl, hbb, c0⟩ := (HR.out.below hb) i d hd
      have HA : Hid (∀ j x, j < i → ts[j]? = some x → cur[j]? = some (.int .i64 x)) := hat
      have HK : Hid (wr.heap[w.heap.size]? = some (.cells cur 3 (0, 0))) := hblk
      have f0 := frozen_blk hblk i
      obtain ⟨x0, e0⟩ := cell_blk' hblk i (by omega)
      clear hat hblk
      go_wp2
      go_roundw
      case rel =>
        refine ⟨i + 1, _, by omega, heap_setCell_same _ _ _ _ _ _ HK.out, by simp; omega, fun j x hj hx => ?_, by go_num, hb.setCell (p := ⟨_, _, none⟩) (Nat.le_refl _) _⟩
        rw [Array.getElem?_setIfInBounds]
        by_cases hji : i = j
        · subst hji
          obtain rfl : d = x := Option.some.inj (hd.symm.trans hx)
          rw [if_pos rfl, if_pos (by omega)]
        · rw [if_neg hji]
          exact HA.out j x (by omega) hx
      case measure => simp [intOf]; omega
    · have hlt' : decide ((i : Int) < (ts.length : Int)) = false := by simp; omega
      obtain rfl : i = ts.length := by omega
      have HA : Hid (∀ j x, j < ts.length → ts[j]? = some x → cur[j]? = some (.int .i64 x)) := hat
      have HK : Hid (wr.heap[w.heap.size]? = some (.cells cur 3 (0, 0))) := hblk
      clear hat hblk
      go_wp2
      go_ret
      refine ⟨w.heap.size, rfl, Nat.le_refl _, (Array.getElem?_eq_some_iff.1 HK.out).1, ?_, hb⟩
      intro j d hj
      have hjl := (List.getElem?_eq_some_iff.1 hj).1
      refine ⟨w.heap.size, 0, rfl, rfl, ?_⟩
      rw [Nat.zero_add]
      exact cell_blk HK.out (HA.out j d hjl hj)
set_option maxRecDepth 100000 in
set_option maxHeartbeats 1000000 in
theorem toStringS_anyN (a : Option Addr) (ts : List ByteArray) (cap : Nat) (w : World) (hn : ts.length ≤ 1048576) (hr : RowS w w.heap.size a ts) :
    Calls Tryz.prog 9 #[.slice a ts.length cap] w fun e w' => ∃ g, e = .returned (.slice (some ⟨g, 0, none⟩) ts.length ts.length) ∧ w.heap.size ≤ g ∧ g < w'.heap.size ∧ RowSPN w' (fun b => b = g) (some ⟨g, 0, none⟩) ts ∧ Below w.heap.size w w' := by
  obtain ⟨i0, hi, hz0, hz1, hz2⟩ := info_parts Tryz.info9N
  have HR : Hid (RowS w w.heap.size a ts) := hr
  clear hr
  go_enter Tryz.func9, Tryz.ntmps9
  go_wp2_with (at_make; refine wpList_make_full _ rfl _ _ 22 rfl w.heap.size 9 i0 _ 1 Tryz.underlying22 hi hz0 hz1 .i64 .i64 _ _ ts.length rfl rfl rfl rfl ?c1 ?c2 ?c3 ?_)
  case c1 => rw [hz2]; omega
  case c2 => simp [maxLen]; omega
  case c3 => exact Nat.le_refl _
  intro w1 hown1 hgr1
  have hb1 : Below w.heap.size w w1 := (Below.refl _ _).grown hgr1 (Nat.le_refl _) (fun _ h => by cases h)
  obtain ⟨cur, hblk, hcs, _⟩ := made_rowN hown1
  clear hown1 hgr1
  go_wp2
  go_loopw [4] (fun o wr => ∃ (i : Nat) (cur : Array Value), i ≤ ts.length ∧ wr.heap[w.heap.size]? = some (.cells cur 9 (0, 0)) ∧ cur.size = ts.length ∧ (∀ j x, j < i → ts[j]? = some x → cur[j]? = some (.string x)) ∧ o = .int .i64 i ∧ Below w.heap.size w wr)
    (fun o _ => ts.length - (intOf o).toNat)
  case atStart => exact ⟨0, cur, by omega, hblk, by omega, fun j d h => absurd h (by omega), rfl, hb1⟩
  case round =>
    clear hblk hcs hb1
    obtain ⟨i, cur, hi, hblk, hcs, hat, rfl, hb⟩ := hrel
    by_cases hlt : i < ts.length
    · obtain ⟨d, hd⟩ : ∃ d, ts[i]? = some d := ⟨_, List.getElem?_eq_getElem hlt⟩
      obtain ⟨b, o, rfl, hbb, c0⟩ := (HR.out.below hb) i d hd
      have HA : Hid (∀ j x, j < i → ts[j]? = some x → cur[j]? = some (.string x)) := hat
      have HK : Hid (wr.heap[w.heap.size]? = some (.cells cur 9 (0, 0))) := hblk
      have f0 := frozen_blk hblk i
      obtain ⟨x0, e0⟩ := cell_blk' hblk i (by omega)
      clear hat hblk
      go_wp2
      go_roundw
      case rel =>
        refine ⟨i + 1, _, by omega, heap_setCell_same _ _ _ _ _ _ HK.out, by simp; omega, fun j x hj hx => ?_, by go_num, hb.setCell (p := ⟨_, _, none⟩) (Nat.le_refl _) _⟩
        rw [Array.getElem?_setIfInBounds]
        by_cases hji : i = j
        · subst hji
          obtain rfl : d = x := Option.some.inj (hd.symm.trans hx)
          rw [if_pos rfl, if_pos (by omega)]
        · rw [if_neg hji]
          exact HA.out j x (by omega) hx
      case measure => simp [intOf]; omega
    · have hlt' : decide ((i : Int) < (ts.length : Int)) = false := by simp; omega
      obtain rfl : i = ts.length := by omega
      have HA : Hid (∀ j x, j < ts.length → ts[j]? = some x → cur[j]? = some (.string x)) := hat
      have HK : Hid (wr.heap[w.heap.size]? = some (.cells cur 9 (0, 0))) := hblk
      clear hat hblk
      go_wp2
      go_ret
      refine ⟨w.heap.size, rfl, Nat.le_refl _, (Array.getElem?_eq_some_iff.1 HK.out).1, ?_, hb⟩
      intro j d hj
      have hjl := (List.getElem?_eq_some_iff.1 hj).1
      refine ⟨w.heap.size, 0, rfl, rfl, ?_⟩
      rw [Nat.zero_add]
      exact cell_blk HK.out (HA.out j d hjl hj)
end Go.Proofs.YtamjofdgikifnaaGreat
namespace Go.Proofs.YtamjofdgikifnaaGreat
open Go.ChangeShapes Go.WideShapes Go.ChangeAt Go.RowKit
/-- What toNode leaves. -/
def TnPostN (d : Nod) (w : World) (e : Ending) (w' : World) : Prop := ∃ g h, e = .returned (.agg #[.int .i64 d.k, .int .i64 d.n, .string d.s, .slice (some ⟨g, 0, none⟩) d.names.length d.names.length, .slice (some ⟨h, 0, none⟩) d.args.length d.args.length]) ∧
  NodRows w' (fun b => w.heap.size ≤ b ∧ b < w'.heap.size) (some ⟨g, 0, none⟩) d.names.length (some ⟨h, 0, none⟩) d.args.length d ∧ Below w.heap.size w w'
set_option maxRecDepth 100000 in
set_option maxHeartbeats 1000000 in
theorem toNode_any (d : Nod) (an aa : Option Addr) (cn ca : Nat) (w : World) (hs : d.small) (hr : NodRows w (fun b => b < w.heap.size) an cn aa ca d) :
    Calls Tryz.prog 116 #[.agg #[.int .i64 d.k, .int .i64 d.n, .string d.s, .slice an d.names.length cn, .slice aa d.args.length ca]] w fun e w' => TnPostN d w e w' := by
  obtain ⟨hrs, hri, -, -⟩ := hr
  obtain ⟨_, _, _, s4, s5, _⟩ := hs
  have HS : Hid (∀ w1, Below w.heap.size w w1 → Calls Tryz.prog 9 #[.slice an d.names.length cn] w1 fun e w' => ∃ g, e = .returned (.slice (some ⟨g, 0, none⟩) d.names.length d.names.length) ∧ w1.heap.size ≤ g ∧ g < w'.heap.size ∧ RowSPN w' (fun b => b = g) (some ⟨g, 0, none⟩) d.names ∧ Below w1.heap.size w1 w') := fun w1 h => toStringS_anyN an d.names cn w1 s4 (hrs.keep fun b hb => ⟨by have := h.size; omega, h.block b hb⟩)
  have HI : Hid (∀ w1, Below w.heap.size w w1 → Calls Tryz.prog 123 #[.slice aa d.args.length ca] w1 fun e w' => ∃ g, e = .returned (.slice (some ⟨g, 0, none⟩) d.args.length d.args.length) ∧ w1.heap.size ≤ g ∧ g < w'.heap.size ∧ RowIP w' (fun b => b = g) (some ⟨g, 0, none⟩) d.args ∧ Below w1.heap.size w1 w') := fun w1 h => toIntS_any aa d.args ca w1 s5 (hri.keep fun b hb => ⟨by have := h.size; omega, h.block b hb⟩)
  clear hrs hri
  go_enter Tryz.func116, Tryz.ntmps116
  go_wp2_with fail
  have hbA : Below w.heap.size w (((w.alloc (Obj.cells #[.int .i64 d.k, .int .i64 d.n, .string d.s, .slice an d.names.length cn, .slice aa d.args.length ca] 146)).alloc (Obj.cells #[.int .i64 0, .int .i64 0, .string ⟨#[]⟩, .slice none 0 0, .slice none 0 0] 96)).alloc (Obj.cells #[.int .i64 d.k, .int .i64 d.n, .string d.s, .slice none 0 0, .slice none 0 0] 96)) := (((Below.refl _ _).alloc (Nat.le_refl _) _).alloc (by simp) _).alloc (by simp; omega) _
  have k0 : (((w.alloc (Obj.cells #[.int .i64 d.k, .int .i64 d.n, .string d.s, .slice an d.names.length cn, .slice aa d.args.length ca] 146)).alloc (Obj.cells #[.int .i64 0, .int .i64 0, .string ⟨#[]⟩, .slice none 0 0, .slice none 0 0] 96)).alloc (Obj.cells #[.int .i64 d.k, .int .i64 d.n, .string d.s, .slice none 0 0, .slice none 0 0] 96)).heap[w.heap.size]? = some (Obj.cells #[.int .i64 d.k, .int .i64 d.n, .string d.s, .slice an d.names.length cn, .slice aa d.args.length ca] 146) := blk_past (blk_past (blk_at _ _ _ rfl))
  have k1 : (((w.alloc (Obj.cells #[.int .i64 d.k, .int .i64 d.n, .string d.s, .slice an d.names.length cn, .slice aa d.args.length ca] 146)).alloc (Obj.cells #[.int .i64 0, .int .i64 0, .string ⟨#[]⟩, .slice none 0 0, .slice none 0 0] 96)).alloc (Obj.cells #[.int .i64 d.k, .int .i64 d.n, .string d.s, .slice none 0 0, .slice none 0 0] 96)).heap[w.heap.size + 1]? = some (Obj.cells #[.int .i64 0, .int .i64 0, .string ⟨#[]⟩, .slice none 0 0, .slice none 0 0] 96) := blk_past (blk_at _ _ _ (by simp))
  have k2 : (((w.alloc (Obj.cells #[.int .i64 d.k, .int .i64 d.n, .string d.s, .slice an d.names.length cn, .slice aa d.args.length ca] 146)).alloc (Obj.cells #[.int .i64 0, .int .i64 0, .string ⟨#[]⟩, .slice none 0 0, .slice none 0 0] 96)).alloc (Obj.cells #[.int .i64 d.k, .int .i64 d.n, .string d.s, .slice none 0 0, .slice none 0 0] 96)).heap[w.heap.size + 1 + 1]? = some (Obj.cells #[.int .i64 d.k, .int .i64 d.n, .string d.s, .slice none 0 0, .slice none 0 0] 96) := blk_at _ _ _ (by simp)
  have hsA : (((w.alloc (Obj.cells #[.int .i64 d.k, .int .i64 d.n, .string d.s, .slice an d.names.length cn, .slice aa d.args.length ca] 146)).alloc (Obj.cells #[.int .i64 0, .int .i64 0, .string ⟨#[]⟩, .slice none 0 0, .slice none 0 0] 96)).alloc (Obj.cells #[.int .i64 d.k, .int .i64 d.n, .string d.s, .slice none 0 0, .slice none 0 0] 96)).heap.size = w.heap.size + 3 := by simp
  generalize (((w.alloc (Obj.cells #[.int .i64 d.k, .int .i64 d.n, .string d.s, .slice an d.names.length cn, .slice aa d.args.length ca] 146)).alloc (Obj.cells #[.int .i64 0, .int .i64 0, .string ⟨#[]⟩, .slice none 0 0, .slice none 0 0] 96)).alloc (Obj.cells #[.int .i64 d.k, .int .i64 d.n, .string d.s, .slice none 0 0, .slice none 0 0] 96)) = wA at *
  refine (HS.out _ hbA).mono ?_
  rintro e w1 ⟨g, rfl, hg1, hg2, hrw, hb1⟩
  have hb2 : Below w.heap.size w w1 := hbA.trans (hb1.mono hbA.size)
  have k0 := blk_keep k0 hb1 (by omega)
  have k1 := blk_keep k1 hb1 (by omega)
  have k2 := blk_keep k2 hb1 (by omega)
  have hc0 := cell_blk (j := 4) k0 rfl
  have hc1 := cell_blk (j := 3) k2 rfl
  have hf1 := frozen_blk k2 3
  have hs1 := hb1.size
  have K1 : Hid (w1.heap[w.heap.size + 1]? = some (Obj.cells #[.int .i64 0, .int .i64 0, .string ⟨#[]⟩, .slice none 0 0, .slice none 0 0] 96)) := k1
  have K2 : Hid (w1.heap[w.heap.size + 1 + 1]? = some (Obj.cells #[.int .i64 d.k, .int .i64 d.n, .string d.s, .slice none 0 0, .slice none 0 0] 96)) := k2
  have HRW : Hid (RowSPN w1 (fun b => b = g) (some ⟨g, 0, none⟩) d.names) := hrw
  clear k0 k1 k2 hbA hb1 hrw
  go_wp2_with fail
  clear hc0 hc1 hf1
  have k1 : (w1.setCell ⟨w.heap.size + 1 + 1, 3, none⟩ (.slice (some ⟨g, 0, none⟩) d.names.length d.names.length)).heap[w.heap.size + 1]? = some (Obj.cells #[.int .i64 0, .int .i64 0, .string ⟨#[]⟩, .slice none 0 0, .slice none 0 0] 96) := by
    rw [heap_setCell_other _ _ _ _ (by simp)]; exact K1.out
  have k2 : (w1.setCell ⟨w.heap.size + 1 + 1, 3, none⟩ (.slice (some ⟨g, 0, none⟩) d.names.length d.names.length)).heap[w.heap.size + 1 + 1]? = some (Obj.cells #[.int .i64 d.k, .int .i64 d.n, .string d.s, .slice (some ⟨g, 0, none⟩) d.names.length d.names.length, .slice none 0 0] 96) := heap_setCell_same _ _ _ _ _ _ K2.out
  have hb3 : Below w.heap.size w (w1.setCell ⟨w.heap.size + 1 + 1, 3, none⟩ (.slice (some ⟨g, 0, none⟩) d.names.length d.names.length)) := hb2.setCell (p := ⟨_, _, none⟩) (by simp; omega) _
  have hrw : RowSPN (w1.setCell ⟨w.heap.size + 1 + 1, 3, none⟩ (.slice (some ⟨g, 0, none⟩) d.names.length d.names.length)) (fun b => b = g) (some ⟨g, 0, none⟩) d.names := HRW.out.keep fun b hb => by
    have hb' : b = g := hb
    exact ⟨hb, heap_setCell_other _ _ _ _ (by show b ≠ w.heap.size + 1 + 1; omega)⟩
  have hsB : (w1.setCell ⟨w.heap.size + 1 + 1, 3, none⟩ (.slice (some ⟨g, 0, none⟩) d.names.length d.names.length)).heap.size = w1.heap.size := by simp
  generalize w1.setCell ⟨w.heap.size + 1 + 1, 3, none⟩ (.slice (some ⟨g, 0, none⟩) d.names.length d.names.length) = wB at *
  refine (HI.out _ hb3).mono ?_
  rintro e w2 ⟨h, rfl, hh1, hh2, hri, hb4⟩
  have hb5 : Below w.heap.size w w2 := hb3.trans (hb4.mono hb3.size)
  have k1 := blk_keep k1 hb4 (by omega)
  have k2 := blk_keep k2 hb4 (by omega)
  have hrw2 : RowSPN w2 (fun b => b = g) (some ⟨g, 0, none⟩) d.names := hrw.keep fun b hb => by
    have hb' : b = g := hb
    exact ⟨hb, hb4.block b (by omega)⟩
  have hs2 := hb4.size
  have p0 := cell_blk (j := 0) k1 rfl
  have p1 := cell_blk (j := 1) k1 rfl
  have p2 := cell_blk (j := 2) k1 rfl
  have p3 := cell_blk (j := 3) k1 rfl
  have p4 := cell_blk (j := 4) k1 rfl
  have r0 := cell_blk (j := 0) k2 rfl
  have r1 := cell_blk (j := 1) k2 rfl
  have r2 := cell_blk (j := 2) k2 rfl
  have r3 := cell_blk (j := 3) k2 rfl
  have r4 := cell_blk (j := 4) k2 rfl
  have f0 := frozen_blk k1 0
  have f1 := frozen_blk k1 1
  have f2 := frozen_blk k1 2
  have f3 := frozen_blk k1 3
  have f4 := frozen_blk k1 4
  have g4 := frozen_blk k2 4
  have K1 : Hid (w2.heap[w.heap.size + 1]? = some (Obj.cells #[.int .i64 0, .int .i64 0, .string ⟨#[]⟩, .slice none 0 0, .slice none 0 0] 96)) := k1
  have HRE : Hid (RowSPN w2 (fun b => b = g) (some ⟨g, 0, none⟩) d.names) := hrw2
  have HRI : Hid (RowIP w2 (fun b => b = h) (some ⟨h, 0, none⟩) d.args) := hri
  clear k1 k2 hri hrw hrw2 hb3 hb4 HRW K2 HI HS
  go_wp2
  have K3 : (w2.setCell ⟨w.heap.size + 1 + 1, 4, none⟩ (.slice (some ⟨h, 0, none⟩) d.args.length d.args.length)).heap[w.heap.size + 1]? = some (Obj.cells #[.int .i64 0, .int .i64 0, .string ⟨#[]⟩, .slice none 0 0, .slice none 0 0] 96) := by
    rw [heap_setCell_other _ _ _ _ (by simp)]; exact K1.out
  refine bodyPost_ret (results_cell_row rfl _ _ (w.heap.size + 1) 96 #[.int .i64 d.k, .int .i64 d.n, .string d.s, (.slice (some ⟨g, 0, none⟩) d.names.length d.names.length), (.slice (some ⟨h, 0, none⟩) d.args.length d.args.length)] (0, 0) _ rfl (heap_setCell_same _ _ _ _ _ _ (heap_setCell_same _ _ _ _ _ _ (heap_setCell_same _ _ _ _ _ _ (heap_setCell_same _ _ _ _ _ _ (heap_setCell_same _ _ _ _ _ _ K3))))) Tryz.underlying96 rfl (by kernel_rfl)) rfl ?_
  have hoth : ∀ b, b ≠ w.heap.size + 1 → b ≠ w.heap.size + 1 + 1 → ((((((w2.setCell ⟨w.heap.size + 1 + 1, 4, none⟩ (.slice (some ⟨h, 0, none⟩) d.args.length d.args.length)).setCell ⟨w.heap.size + 1, 0, none⟩ (.int .i64 d.k)).setCell ⟨w.heap.size + 1, 1, none⟩ (.int .i64 d.n)).setCell ⟨w.heap.size + 1, 2, none⟩ (.string d.s)).setCell ⟨w.heap.size + 1, 3, none⟩ (.slice (some ⟨g, 0, none⟩) d.names.length d.names.length)).setCell ⟨w.heap.size + 1, 4, none⟩ (.slice (some ⟨h, 0, none⟩) d.args.length d.args.length)).heap[b]? = w2.heap[b]? := by
    intro b h1 h2
    rw [heap_setCell_other _ _ _ _ (by simpa using h1), heap_setCell_other _ _ _ _ (by simpa using h1), heap_setCell_other _ _ _ _ (by simpa using h1), heap_setCell_other _ _ _ _ (by simpa using h1), heap_setCell_other _ _ _ _ (by simpa using h1), heap_setCell_other _ _ _ _ (by simpa using h2)]
  refine ⟨g, h, rfl, ⟨HRE.out.keep fun b hb => ?_, HRI.out.keep fun b hb => ?_, Nat.le_refl _, Nat.le_refl _⟩, (((((hb5.setCell (p := ⟨_, _, none⟩) (by simp; omega) _).setCell (p := ⟨_, _, none⟩) (by simp) _).setCell (p := ⟨_, _, none⟩) (by simp) _).setCell (p := ⟨_, _, none⟩) (by simp) _).setCell (p := ⟨_, _, none⟩) (by simp) _).setCell (p := ⟨_, _, none⟩) (by simp) _⟩
  · have hb' : b = g := hb
    exact ⟨⟨by omega, by simp; omega⟩, hoth b (by omega) (by omega)⟩
  · have hb' : b = h := hb
    exact ⟨⟨by omega, by simp; omega⟩, hoth b (by omega) (by omega)⟩
end Go.Proofs.YtamjofdgikifnaaGreat
namespace Go.Proofs.YtamjofdgikifnaaGreat
open Go.ChangeShapes Go.WideShapes Go.ChangeAt Go.RowKit
/-- Five cells laid. -/
def put5 (w : World) (g o : Nat) (v0 v1 v2 v3 v4 : Value) : World :=
  ((((w.setCell ⟨g, o, none⟩ v0).setCell ⟨g, o + 1, none⟩ v1).setCell ⟨g, o + 2, none⟩ v2).setCell ⟨g, o + 3, none⟩ v3).setCell ⟨g, o + 4, none⟩ v4
theorem put5_blk {w : World} {g : Nat} {xs : Array Value} {t : TypeId} (o : Nat) (v0 v1 v2 v3 v4 : Value) (h : w.heap[g]? = some (.cells xs t (0, 0))) : ∃ ys, (put5 w g o v0 v1 v2 v3 v4).heap[g]? = some (.cells ys t (0, 0)) ∧ ys.size = xs.size :=
  ⟨_, heap_setCell_same _ _ _ _ _ _ (heap_setCell_same _ _ _ _ _ _ (heap_setCell_same _ _ _ _ _ _ (heap_setCell_same _ _ _ _ _ _ (heap_setCell_same _ _ _ _ _ _ h)))), by simp⟩
theorem put5_below {B g : Nat} {w0 w : World} (h : Below B w0 w) (hg : B ≤ g) (o : Nat) (v0 v1 v2 v3 v4 : Value) : Below B w0 (put5 w g o v0 v1 v2 v3 v4) :=
  ((((h.setCell (p := ⟨g, _, none⟩) hg _).setCell (p := ⟨g, _, none⟩) hg _).setCell (p := ⟨g, _, none⟩) hg _).setCell (p := ⟨g, _, none⟩) hg _).setCell (p := ⟨g, _, none⟩) hg _
theorem put5_other {w : World} {g o : Nat} {v0 v1 v2 v3 v4 : Value} {b : Nat} (h : b ≠ g) : (put5 w g o v0 v1 v2 v3 v4).heap[b]? = w.heap[b]? := by
  unfold put5
  rw [heap_setCell_other _ _ _ _ h, heap_setCell_other _ _ _ _ h, heap_setCell_other _ _ _ _ h, heap_setCell_other _ _ _ _ h, heap_setCell_other _ _ _ _ h]
theorem put5_size {w : World} {g o : Nat} {v0 v1 v2 v3 v4 : Value} : (put5 w g o v0 v1 v2 v3 v4).heap.size = w.heap.size := by
  simp [put5]
theorem sc_otherN (w : World) (c j k : Nat) (v : Value) (h : j ≠ k) : (w.setCell ⟨c, j, none⟩ v).cell? ⟨c, k, none⟩ = w.cell? ⟨c, k, none⟩ := by
  apply World.cell?_setCell_other
  intro e
  injection e with _ e2
  exact h e2
theorem put5_out {w : World} {g o k : Nat} {v0 v1 v2 v3 v4 : Value} (h : k < o ∨ o + 5 ≤ k) : (put5 w g o v0 v1 v2 v3 v4).cell? ⟨g, k, none⟩ = w.cell? ⟨g, k, none⟩ := by
  unfold put5
  rw [sc_otherN _ _ _ _ _ (by omega), sc_otherN _ _ _ _ _ (by omega), sc_otherN _ _ _ _ _ (by omega), sc_otherN _ _ _ _ _ (by omega), sc_otherN _ _ _ _ _ (by omega)]
theorem put5_same {w : World} {g o : Nat} {v0 v1 v2 v3 v4 : Value} {xs : Array Value} {t : TypeId} (h : w.heap[g]? = some (.cells xs t (0, 0))) (hs : o + 5 ≤ xs.size) :
    (put5 w g o v0 v1 v2 v3 v4).cell? ⟨g, o, none⟩ = some v0 ∧ (put5 w g o v0 v1 v2 v3 v4).cell? ⟨g, o + 1, none⟩ = some v1 ∧ (put5 w g o v0 v1 v2 v3 v4).cell? ⟨g, o + 2, none⟩ = some v2 ∧ (put5 w g o v0 v1 v2 v3 v4).cell? ⟨g, o + 3, none⟩ = some v3 ∧ (put5 w g o v0 v1 v2 v3 v4).cell? ⟨g, o + 4, none⟩ = some v4 := by
  have key := heap_setCell_same _ g (o + 4) _ _ v4 (heap_setCell_same _ g (o + 3) _ _ v3 (heap_setCell_same _ g (o + 2) _ _ v2 (heap_setCell_same _ g (o + 1) _ _ v1 (heap_setCell_same _ g o _ _ v0 h))))
  have e : (put5 w g o v0 v1 v2 v3 v4).heap[g]? = _ := key
  refine ⟨cell_blk e ?_, cell_blk e ?_, cell_blk e ?_, cell_blk e ?_, cell_blk e ?_⟩
  all_goals
    simp only [Array.getElem?_setIfInBounds, Array.size_setIfInBounds]
    simp
    try omega
theorem Tryz.info41 : (Tryz.prog.info? 96).map (fun i => (i.zero, i.size, i.bytes)) = some (some (.agg #[.int .i64 0, .int .i64 0, .string ⟨#[]⟩, .slice none 0 0, .slice none 0 0]), 5, 80) := by kernel_rfl
/-- The cells of one row are laid beside another's. -/
theorem NodAt.beside {w : World} {p q : Nat → Prop} {g o k : Nat} {v0 v1 v2 v3 v4 : Value} {d : Nod} (h : NodAt w p g k d) (ho : k + 5 ≤ o ∨ o + 5 ≤ k) (hk : ∀ b, p b → q b ∧ b ≠ g) : NodAt (put5 w g o v0 v1 v2 v3 v4) q g k d := by
  obtain ⟨an, cn, aa, ca, h0, h1, h2, h3, h4, hr⟩ := h
  exact ⟨an, cn, aa, ca, (put5_out (by omega)).trans h0, (put5_out (by omega)).trans h1, (put5_out (by omega)).trans h2, (put5_out (by omega)).trans h3, (put5_out (by omega)).trans h4, hr.keep fun b hb => ⟨(hk b hb).1, put5_other (hk b hb).2⟩⟩
set_option maxRecDepth 100000 in
set_option maxHeartbeats 1000000 in
theorem toNodeS_any (a : Option Addr) (cs : List Nod) (cap : Nat) (w : World) (hn : cs.length ≤ 1048576) (hr : RowN w w.heap.size a cs) (hsm : ∀ d ∈ cs, d.small) :
    Calls Tryz.prog 105 #[.slice a cs.length cap] w fun e w' => ∃ g, e = .returned (.slice (some ⟨g, 0, none⟩) cs.length cs.length) ∧ w.heap.size ≤ g ∧ g < w'.heap.size ∧ (∀ (j : Nat) (d : Nod), cs[j]? = some d → NodAt w' (fun b => w.heap.size < b ∧ b < w'.heap.size) g (j * 5) d) ∧ Below w.heap.size w w' := by
  obtain ⟨i0, hi, hz0, hz1, hz2⟩ := info_parts Tryz.info41
  have HR : Hid (RowN w w.heap.size a cs) := hr
  have HS : Hid (∀ d ∈ cs, d.small) := hsm
  clear hr hsm
  go_enter Tryz.func105, Tryz.ntmps105
  go_wp2_with (at_make; refine wpList_make_full _ rfl _ _ 52 rfl w.heap.size 96 i0 _ 5 Tryz.underlying52 hi hz0 hz1 .i64 .i64 _ _ cs.length rfl rfl rfl rfl ?c1 ?c2 ?c3 ?_)
  case c1 => rw [hz2]; omega
  case c2 => simp [maxLen]; omega
  case c3 => exact Nat.le_refl _
  intro w1 hown1 hgr1
  go_wp2
  have hb1 : Below w.heap.size w w1 := (Below.refl _ _).grown hgr1 (Nat.le_refl _) (fun _ h => by cases h)
  obtain ⟨hlen, ⟨h0, _⟩ | ⟨g, cp, cur, hv, _, hblk, _, _, hcs, _⟩⟩ := hown1
  · cases h0
  simp only [Value.slice.injEq, Option.some.injEq, Addr.mk.injEq] at hv
  obtain ⟨⟨rfl, _⟩, _, rfl⟩ := hv
  clear hlen
  go_loopw [4] (fun o wr => ∃ (i : Nat) (cur : Array Value), i ≤ cs.length ∧ wr.heap[w.heap.size]? = some (.cells cur 96 (0, 0)) ∧ cur.size = cs.length * 5 ∧ (∀ (j : Nat) (d : Nod), j < i → cs[j]? = some d → NodAt wr (fun b => w.heap.size < b ∧ b < wr.heap.size) w.heap.size (j * 5) d) ∧ o = .int .i64 i ∧ Below w.heap.size w wr)
    (fun o _ => cs.length - (intOf o).toNat)
  case atStart => exact ⟨0, cur, by omega, hblk, hcs, fun j d h => absurd h (by omega), rfl, hb1⟩
  case round =>
    clear hblk hcs hb1 hgr1
    obtain ⟨i, cur, hi, hblk, hcs, hat, rfl, hb⟩ := hrel
    by_cases hlt : i < cs.length
    · obtain ⟨d, hd⟩ : ∃ d, cs[i]? = some d := ⟨_, List.getElem?_eq_getElem hlt⟩
      obtain ⟨b1, o1, rfl, hbb, an, cn, aa, ca, v0, v1, v2, v3, v4, hrows⟩ := HR.out i d hd
      have c0 := cell_keepN v0 hb hbb
      have c1 := cell_keepN v1 hb hbb
      have c2 := cell_keepN v2 hb hbb
      have c3 := cell_keepN v3 hb hbb
      have c4 := cell_keepN v4 hb hbb
      have HA : Hid (∀ (j : Nat) (d : Nod), j < i → cs[j]? = some d → NodAt wr (fun b => w.heap.size < b ∧ b < wr.heap.size) w.heap.size (j * 5) d) := hat
      have HK : Hid (wr.heap[w.heap.size]? = some (.cells cur 96 (0, 0))) := hblk
      have hsz := hb.size
      have hlt2 : w.heap.size < wr.heap.size := (Array.getElem?_eq_some_iff.1 hblk).1
      have HT : Hid (Calls Tryz.prog 116 #[.agg #[.int .i64 d.k, .int .i64 d.n, .string d.s, .slice an d.names.length cn, .slice aa d.args.length ca]] wr fun e w' => TnPostN d wr e w') := toNode_any d an aa cn ca wr (HS.out d (List.mem_of_getElem? hd)) (hrows.keep fun b h => ⟨by omega, hb.block b h⟩)
      clear hat hblk v0 v1 v2 v3 v4 hrows
      go_wp2_with fail
      refine HT.out.mono ?_
      rintro e w2 ⟨g2, h2, rfl, hrows2, hb2⟩
      have hk2 := blk_keep HK.out hb2 hlt2
      have f0 := frozen_blk hk2 (i * 5)
      have f1 := frozen_blk hk2 (i * 5 + 1)
      have f2 := frozen_blk hk2 (i * 5 + 2)
      have f3 := frozen_blk hk2 (i * 5 + 3)
      have f4 := frozen_blk hk2 (i * 5 + 4)
      obtain ⟨x0, e0⟩ := cell_blk' hk2 (i * 5) (by omega)
      obtain ⟨x1, e1⟩ := cell_blk' hk2 (i * 5 + 1) (by omega)
      obtain ⟨x2, e2⟩ := cell_blk' hk2 (i * 5 + 2) (by omega)
      obtain ⟨x3, e3⟩ := cell_blk' hk2 (i * 5 + 3) (by omega)
      obtain ⟨x4, e4⟩ := cell_blk' hk2 (i * 5 + 4) (by omega)
      have HK2 : Hid (w2.heap[w.heap.size]? = some (.cells cur 96 (0, 0))) := hk2
      have HR2 : Hid (NodRows w2 (fun b => wr.heap.size ≤ b ∧ b < w2.heap.size) (some ⟨g2, 0, none⟩) d.names.length (some ⟨h2, 0, none⟩) d.args.length d) := hrows2
      have hs2 := hb2.size
      clear hk2 hrows2 HT
      go_wp2
      go_roundw
      case rel =>
        obtain ⟨ys, hy1, hy2⟩ := put5_blk (i * 5) (.int .i64 d.k) (.int .i64 d.n) (.string d.s) (.slice (some ⟨g2, 0, none⟩) d.names.length d.names.length) (.slice (some ⟨h2, 0, none⟩) d.args.length d.args.length) HK2.out
        refine ⟨i + 1, ys, by omega, hy1, by omega, fun j d' hj hd' => ?_, by go_num, ?_⟩
        · by_cases hji : j = i
          · subst hji
            obtain rfl : d = d' := Option.some.inj (hd.symm.trans hd')
            obtain ⟨p0, p1, p2, p3, p4⟩ := put5_same (v0 := .int .i64 d.k) (v1 := .int .i64 d.n) (v2 := .string d.s) (v3 := .slice (some ⟨g2, 0, none⟩) d.names.length d.names.length) (v4 := .slice (some ⟨h2, 0, none⟩) d.args.length d.args.length) (o := j * 5) HK2.out (by omega)
            refine ⟨_, _, _, _, p0, p1, p2, p3, p4, HR2.out.keep fun b hb' => ?_⟩
            have hb' : wr.heap.size ≤ b ∧ b < w2.heap.size := hb'
            have e5 := put5_other (w := w2) (g := w.heap.size) (o := j * 5) (v0 := .int .i64 d.k) (v1 := .int .i64 d.n) (v2 := .string d.s) (v3 := .slice (some ⟨g2, 0, none⟩) d.names.length d.names.length) (v4 := .slice (some ⟨h2, 0, none⟩) d.args.length d.args.length) (b := b) (by omega)
            exact ⟨⟨by omega, by simp; omega⟩, e5⟩
          · have hq := (HA.out j d' (by omega) hd').keep (q := fun b => w.heap.size < b ∧ b < wr.heap.size) (hb2.block _ hlt2) fun b hb' => ⟨hb', hb2.block b hb'.2⟩
            exact hq.beside (by omega) fun b hb' => by
              have hb' : w.heap.size < b ∧ b < wr.heap.size := hb'
              exact ⟨⟨hb'.1, by simp; omega⟩, by omega⟩
        · exact put5_below (hb.trans (hb2.mono hsz)) (Nat.le_refl _) (i * 5) _ _ _ _ _
      case measure => simp [intOf]; omega
    · have hlt' : decide ((i : Int) < (cs.length : Int)) = false := by simp; omega
      obtain rfl : i = cs.length := by omega
      have HA : Hid (∀ (j : Nat) (d : Nod), j < cs.length → cs[j]? = some d → NodAt wr (fun b => w.heap.size < b ∧ b < wr.heap.size) w.heap.size (j * 5) d) := hat
      have HK : Hid (wr.heap[w.heap.size]? = some (.cells cur 96 (0, 0))) := hblk
      clear hat hblk
      go_wp2
      go_ret
      exact ⟨w.heap.size, rfl, Nat.le_refl _, (Array.getElem?_eq_some_iff.1 HK.out).1, fun j d hj => HA.out j d (List.getElem?_eq_some_iff.1 hj).1 hj, hb⟩
end Go.Proofs.YtamjofdgikifnaaGreat
namespace Go.Proofs.YtamjofdgikifnaaGreat
open Go.ChangeShapes Go.WideShapes Go.ChangeAt Go.RowKit
/-- What toProg leaves. -/
def TpPostN (cs : List Nod) (root : Int) (w : World) (e : Ending) (w' : World) : Prop := ∃ g, e = .returned (.agg #[.slice (some ⟨g, 0, none⟩) cs.length cs.length, .int .i64 root]) ∧ RowN w' w'.heap.size (some ⟨g, 0, none⟩) cs ∧ Below w.heap.size w w'
set_option maxRecDepth 100000 in
set_option maxHeartbeats 1000000 in
theorem toProg_any (a : Option Addr) (cs : List Nod) (cap : Nat) (root : Int) (w : World) (hn : cs.length ≤ 1048576) (hr : RowN w w.heap.size a cs) (hsm : ∀ d ∈ cs, d.small) :
    Calls Tryz.prog 85 #[.agg #[.slice a cs.length cap, .int .i64 root]] w fun e w' => TpPostN cs root w e w' := by
  have HS : Hid (∀ w1, Below w.heap.size w w1 → Calls Tryz.prog 105 #[.slice a cs.length cap] w1 fun e w' => ∃ g, e = .returned (.slice (some ⟨g, 0, none⟩) cs.length cs.length) ∧ w1.heap.size ≤ g ∧ g < w'.heap.size ∧ (∀ (j : Nat) (d : Nod), cs[j]? = some d → NodAt w' (fun b => w1.heap.size < b ∧ b < w'.heap.size) g (j * 5) d) ∧ Below w1.heap.size w1 w') := fun w1 h => toNodeS_any a cs cap w1 hn ((hr.below h).mono h.size) hsm
  clear hr hsm
  go_enter Tryz.func85, Tryz.ntmps85
  go_wp2_with fail
  have hbA : Below w.heap.size w (((w.alloc (Obj.cells #[.slice a cs.length cap, .int .i64 root] 86)).alloc (Obj.cells #[.slice none 0 0, .int .i64 0] 54)).alloc (Obj.cells #[.slice none 0 0, .int .i64 0] 54)) := (((Below.refl _ _).alloc (Nat.le_refl _) _).alloc (by simp) _).alloc (by simp; omega) _
  have k0 : (((w.alloc (Obj.cells #[.slice a cs.length cap, .int .i64 root] 86)).alloc (Obj.cells #[.slice none 0 0, .int .i64 0] 54)).alloc (Obj.cells #[.slice none 0 0, .int .i64 0] 54)).heap[w.heap.size]? = some (Obj.cells #[.slice a cs.length cap, .int .i64 root] 86) := blk_past (blk_past (blk_at _ _ _ rfl))
  have k1 : (((w.alloc (Obj.cells #[.slice a cs.length cap, .int .i64 root] 86)).alloc (Obj.cells #[.slice none 0 0, .int .i64 0] 54)).alloc (Obj.cells #[.slice none 0 0, .int .i64 0] 54)).heap[w.heap.size + 1]? = some (Obj.cells #[.slice none 0 0, .int .i64 0] 54) := blk_past (blk_at _ _ _ (by simp))
  have k2 : (((w.alloc (Obj.cells #[.slice a cs.length cap, .int .i64 root] 86)).alloc (Obj.cells #[.slice none 0 0, .int .i64 0] 54)).alloc (Obj.cells #[.slice none 0 0, .int .i64 0] 54)).heap[w.heap.size + 1 + 1]? = some (Obj.cells #[.slice none 0 0, .int .i64 0] 54) := blk_at _ _ _ (by simp)
  have hsA : (((w.alloc (Obj.cells #[.slice a cs.length cap, .int .i64 root] 86)).alloc (Obj.cells #[.slice none 0 0, .int .i64 0] 54)).alloc (Obj.cells #[.slice none 0 0, .int .i64 0] 54)).heap.size = w.heap.size + 3 := by simp
  generalize (((w.alloc (Obj.cells #[.slice a cs.length cap, .int .i64 root] 86)).alloc (Obj.cells #[.slice none 0 0, .int .i64 0] 54)).alloc (Obj.cells #[.slice none 0 0, .int .i64 0] 54)) = wA at *
  refine (HS.out _ hbA).mono ?_
  rintro e w1 ⟨g, rfl, hg1, hg2, hrw, hb1⟩
  have hb2 : Below w.heap.size w w1 := hbA.trans (hb1.mono hbA.size)
  have k0 := blk_keep k0 hb1 (by omega)
  have k1 := blk_keep k1 hb1 (by omega)
  have k2 := blk_keep k2 hb1 (by omega)
  have q1 := cell_blk (j := 1) k0 rfl
  have p0 := cell_blk (j := 0) k1 rfl
  have p1 := cell_blk (j := 1) k1 rfl
  have r0 := cell_blk (j := 0) k2 rfl
  have r1 := cell_blk (j := 1) k2 rfl
  have f0 := frozen_blk k1 0
  have f1 := frozen_blk k1 1
  have g0 := frozen_blk k2 0
  have g1 := frozen_blk k2 1
  have hs1 := hb1.size
  have K1 : Hid (w1.heap[w.heap.size + 1]? = some (Obj.cells #[.slice none 0 0, .int .i64 0] 54)) := k1
  have HRW : Hid (∀ (j : Nat) (d : Nod), cs[j]? = some d → NodAt w1 (fun b => wA.heap.size < b ∧ b < w1.heap.size) g (j * 5) d) := hrw
  clear k0 k1 k2 hbA hb1 hrw
  go_wp2
  have K3 : ((w1.setCell ⟨w.heap.size + 1 + 1, 0, none⟩ (.slice (some ⟨g, 0, none⟩) cs.length cs.length)).setCell ⟨w.heap.size + 1 + 1, 1, none⟩ (.int .i64 root)).heap[w.heap.size + 1]? = some (Obj.cells #[.slice none 0 0, .int .i64 0] 54) := by
    rw [heap_setCell_other _ _ _ _ (by simp), heap_setCell_other _ _ _ _ (by simp)]; exact K1.out
  refine bodyPost_ret (results_cell_row rfl _ _ (w.heap.size + 1) 54 #[(.slice (some ⟨g, 0, none⟩) cs.length cs.length), .int .i64 root] (0, 0) _ rfl (heap_setCell_same _ _ _ _ _ _ (heap_setCell_same _ _ _ _ _ _ K3)) Tryz.underlying54 rfl (by kernel_rfl)) rfl ?_
  have hoth : ∀ b, b ≠ w.heap.size + 1 → b ≠ w.heap.size + 1 + 1 → ((((w1.setCell ⟨w.heap.size + 1 + 1, 0, none⟩ (.slice (some ⟨g, 0, none⟩) cs.length cs.length)).setCell ⟨w.heap.size + 1 + 1, 1, none⟩ (.int .i64 root)).setCell ⟨w.heap.size + 1, 0, none⟩ (.slice (some ⟨g, 0, none⟩) cs.length cs.length)).setCell ⟨w.heap.size + 1, 1, none⟩ (.int .i64 root)).heap[b]? = w1.heap[b]? := by
    intro b h1 h2
    rw [heap_setCell_other _ _ _ _ (by simpa using h1), heap_setCell_other _ _ _ _ (by simpa using h1), heap_setCell_other _ _ _ _ (by simpa using h2), heap_setCell_other _ _ _ _ (by simpa using h2)]
  refine ⟨g, rfl, fun i d hi => ?_, (((hb2.setCell (p := ⟨_, _, none⟩) (by simp; omega) _).setCell (p := ⟨_, _, none⟩) (by simp; omega) _).setCell (p := ⟨_, _, none⟩) (by simp) _).setCell (p := ⟨_, _, none⟩) (by simp) _⟩
  refine ⟨g, 0, rfl, by simp; omega, ?_⟩
  rw [Nat.zero_add]
  exact (HRW.out i d hi).keep (hoth g (by omega) (by omega)) fun b hb' => by
    have hb' : wA.heap.size < b ∧ b < w1.heap.size := hb'
    exact ⟨by simp; omega, hoth b (by omega) (by omega)⟩
end Go.Proofs.YtamjofdgikifnaaGreat
