/- A system that comes in, copied. -/
import Derived.Test.YtlacidojljilaaaGreatDoorSyp
import Derived.Test.YtlacidojljilaaaGreatDoorToc
import Derived.Test.YtlacidojljilaaaGreatDoorTpx
set_option linter.unusedVariables false
set_option maxRecDepth 100000
set_option maxHeartbeats 8000000
namespace Go.Proofs.YtlacidojljilaaaGreatDoor
open Go.ChangeShapes Go.WideShapes Go.ChangeAt Go.RowKit
theorem to_string (a : Option Addr) (l : List ByteArray) (cap : Nat) (w : World) (hn : l.length ≤ 1048576) (hsm : ∀ d ∈ l, smS d) (hr : rgS.Row w (fun b => b < w.heap.size) a l) :
  Calls Tryz.prog 24 #[.slice a l.length cap] w fun e w' => Made rgS l w e w' :=
 (toStringS_any a l cap w hn (rowS_iff.1 hr)).mono fun e w' ⟨g, he, h1, h2, hrow, hb⟩ => ⟨g, he, rowSP_iff.2 (hrow.keep fun b hbg => ⟨⟨by have : b = g := hbg; omega, by have : b = g := hbg; omega⟩, rfl⟩), hb⟩
theorem to_Value (a : Option Addr) (l : List Val) (cap : Nat) (w : World) (hn : l.length ≤ 1048576) (hsm : ∀ d ∈ l, Val.small d) (hr : rgV.Row w (fun b => b < w.heap.size) a l) :
  Calls Tryz.prog 77 #[.slice a l.length cap] w fun e w' => Made rgV l w e w' :=
 (toValueS_any a l cap w hn (rowV_iff.1 hr)).mono fun e w' ⟨g, he, h1, h2, hrow, hb⟩ => ⟨g, he, rowVP_iff.2 (hrow.keep fun b hbg => ⟨⟨by have : b = g := hbg; omega, by have : b = g := hbg; omega⟩, rfl⟩), hb⟩
theorem to_Node (a : Option Addr) (l : List Nod) (cap : Nat) (w : World) (hn : l.length ≤ 1048576) (hsm : ∀ d ∈ l, Nod.small d) (hr : rgN.Row w (fun b => b < w.heap.size) a l) :
  Calls Tryz.prog 113 #[.slice a l.length cap] w fun e w' => Made rgN l w e w' :=
 (toNodeS_any a l cap w hn (rowN_iff.1 hr) hsm).mono fun e w' ⟨g, he, h1, h2, hrow, hb⟩ => ⟨g, he, rowN_of_at ⟨h1, h2⟩ fun j d hj => by
  rw [Nat.zero_add]
  exact (hrow j d hj).keep rfl fun b hb' => ⟨⟨by have := hb'.1; omega, hb'.2⟩, rfl⟩, hb⟩
theorem toE_Cell (x : Cel) (a1 a2 : Option Addr) (c1 c2 : Nat) (w : World) (hs : x.small) (hr : CelRows w (fun b => b < w.heap.size) a1 c1 a2 c2 x) :
  Calls Tryz.prog 50 #[.agg #[.int .i64 x.k, .string x.s, .int .i64 x.a, .int .i64 x.b, .slice a1 x.names.length c1, .slice a2 x.vals.length c2]] w fun e w' => MadeE rgC x w e w' :=
 (toCell_any x a1 a2 c1 c2 w hs hr).mono fun e w' ⟨g, h, he, hrow, hb⟩ => ⟨_, he, ⟨_, _, _, _, rfl, hrow⟩, hb⟩
theorem Tryz.inf_Cell : (Tryz.prog.info? 107).map (fun i => (i.zero, i.size, i.bytes)) = some (some (.agg #[.int .i64 0, .string ⟨#[]⟩, .int .i64 0, .int .i64 0, .slice none 0 0, .slice none 0 0]), 6, 88) := by kernel_rfl
theorem to_Cell (a : Option Addr) (l : List Cel) (cap : Nat) (w : World) (hn : l.length ≤ 1048576) (hsm : ∀ d ∈ l, Cel.small d) (hr : rgC.Row w (fun b => b < w.heap.size) a l) :
  Calls Tryz.prog 21 #[.slice a l.length cap] w fun e w' => Made rgC l w e w' := by
 obtain ⟨i0, hi, hz0, hz1, hz2⟩ := info_parts Tryz.inf_Cell
 have HR : Hid (rgC.Row w (fun b => b < w.heap.size) a l) := hr
 have HS : Hid (∀ d ∈ l, Cel.small d) := hsm
 clear hr hsm
 go_enter Tryz.func21, Tryz.ntmps21
 go_wp2_with (at_make; refine wpList_make_full _ rfl _ _ 37 rfl w.heap.size 107 i0 _ 6 Tryz.underlying37 hi hz0 hz1 .i64 .i64 _ _ l.length rfl rfl rfl rfl ?c1 ?c2 ?c3 ?_)
 case c1 => rw [hz2]; omega
 case c2 => simp [maxLen]; omega
 case c3 => exact Nat.le_refl _
 intro w1 hown1 hgr1
 go_wp2
 have hb1 : Below w.heap.size w w1 := (Below.refl _ _).grown hgr1 (Nat.le_refl _) (fun _ h => by cases h)
 obtain ⟨hlen, ⟨h0, _⟩ | ⟨g, cp, cur, hv, _, hblk, _, _, hcs, _⟩⟩ := hown1
 ·cases h0
 simp only [Value.slice.injEq, Option.some.injEq, Addr.mk.injEq] at hv
 obtain ⟨⟨rfl, _⟩, _, rfl⟩ := hv
 clear hlen
 go_loopw [4] (fun o wr => ∃ (i : Nat) (cur : Array Value), i ≤ l.length ∧ wr.heap[w.heap.size]? = some (.cells cur 107 (0, 0)) ∧ cur.size = l.length * 6 ∧ Laid rgC wr w.heap.size i l ∧ o = .int .i64 i ∧ Below w.heap.size w wr)
  (fun o _ => l.length - (intOf o).toNat)
 case atStart => exact ⟨0, cur, by omega, hblk, hcs, Laid.zero, rfl, hb1⟩
 case round =>
  clear hblk hcs hb1 hgr1
  obtain ⟨i, cur, hi, hblk, hcs, hat0, rfl, hb⟩ := hrel
  have HA : Hid (Laid rgC wr w.heap.size i l) := hat0
  have HK : Hid (wr.heap[w.heap.size]? = some (.cells cur 107 (0, 0))) := hblk
  have hlt2 : w.heap.size < wr.heap.size := (Array.getElem?_eq_some_iff.1 hblk).1
  clear hat0 hblk
  by_cases hlt : i < l.length
  ·obtain ⟨d, hd⟩ : ∃ d, l[i]? = some d := ⟨_, List.getElem?_eq_getElem hlt⟩
   obtain ⟨b1, o1, cs, rfl, hbb, hat, hlies⟩ := HR.out i d hd
   obtain ⟨a1, c1, a2, c2, rfl, hrows⟩ := hat
   have cx0 : wr.cell? ⟨b1, o1 + i * 6, none⟩ = some (.int .i64 d.k) := cell_keep (hlies 0 _ rfl) hb hbb
   have cx1 : wr.cell? ⟨b1, o1 + i * 6 + 1, none⟩ = some (.string d.s) := cell_keep (hlies 1 _ rfl) hb hbb
   have cx2 : wr.cell? ⟨b1, o1 + i * 6 + 2, none⟩ = some (.int .i64 d.a) := cell_keep (hlies 2 _ rfl) hb hbb
   have cx3 : wr.cell? ⟨b1, o1 + i * 6 + 3, none⟩ = some (.int .i64 d.b) := cell_keep (hlies 3 _ rfl) hb hbb
   have cx4 : wr.cell? ⟨b1, o1 + i * 6 + 4, none⟩ = some (.slice a1 d.names.length c1) := cell_keep (hlies 4 _ rfl) hb hbb
   have cx5 : wr.cell? ⟨b1, o1 + i * 6 + 5, none⟩ = some (.slice a2 d.vals.length c2) := cell_keep (hlies 5 _ rfl) hb hbb
   have hsz := hb.size
   have HT : Hid (Calls Tryz.prog 50 #[.agg #[.int .i64 d.k, .string d.s, .int .i64 d.a, .int .i64 d.b, .slice a1 d.names.length c1, .slice a2 d.vals.length c2]] wr fun e w' => MadeE rgC d wr e w') := toE_Cell d a1 a2 c1 c2 wr (HS.out d (List.mem_of_getElem? hd)) (hrows.keep fun b h => ⟨by omega, hb.block b h⟩)
   have HD : Hid (l[i]? = some d) := hd
   clear hlies hd hrows
   go_wp2_with fail
   refine HT.out.mono ?_
   rintro e w2 ⟨cs2, rfl, hat2, hb2⟩
   obtain ⟨a1', c1', a2', c2', rfl, hrows2⟩ := hat2
   have HA2 : Hid (rgC.At w2 (fun b => wr.heap.size ≤ b ∧ b < w2.heap.size) [.int .i64 d.k, .string d.s, .int .i64 d.a, .int .i64 d.b, .slice a1' d.names.length c1', .slice a2' d.vals.length c2'] d) := ⟨a1', c1', a2', c2', rfl, hrows2⟩
   have hk2 := blk_keep HK.out hb2 hlt2
   have f0 := frozen_blk hk2 (i * 6)
   obtain ⟨x0, e0⟩ := cell_blk' hk2 (i * 6) (by omega)
   have f1 := frozen_blk hk2 (i * 6 + 1)
   obtain ⟨x1, e1⟩ := cell_blk' hk2 (i * 6 + 1) (by omega)
   have f2 := frozen_blk hk2 (i * 6 + 2)
   obtain ⟨x2, e2⟩ := cell_blk' hk2 (i * 6 + 2) (by omega)
   have f3 := frozen_blk hk2 (i * 6 + 3)
   obtain ⟨x3, e3⟩ := cell_blk' hk2 (i * 6 + 3) (by omega)
   have f4 := frozen_blk hk2 (i * 6 + 4)
   obtain ⟨x4, e4⟩ := cell_blk' hk2 (i * 6 + 4) (by omega)
   have f5 := frozen_blk hk2 (i * 6 + 5)
   obtain ⟨x5, e5⟩ := cell_blk' hk2 (i * 6 + 5) (by omega)
   have HK2 : Hid (w2.heap[w.heap.size]? = some (.cells cur 107 (0, 0))) := hk2
   have HB2 : Hid (Below wr.heap.size wr w2) := hb2
   clear hk2 HT hb2 hrows2
   go_wp2
   go_roundw
   case rel =>
    have hput : putL w2 w.heap.size (i * 6) [.int .i64 d.k, .string d.s, .int .i64 d.a, .int .i64 d.b, .slice a1' d.names.length c1', .slice a2' d.vals.length c2'] = ((((((w2.setCell ⟨w.heap.size, i * 6, none⟩ (.int .i64 d.k)).setCell ⟨w.heap.size, i * 6 + 1, none⟩ (.string d.s)).setCell ⟨w.heap.size, i * 6 + 2, none⟩ (.int .i64 d.a)).setCell ⟨w.heap.size, i * 6 + 3, none⟩ (.int .i64 d.b)).setCell ⟨w.heap.size, i * 6 + 4, none⟩ (.slice a1' d.names.length c1')).setCell ⟨w.heap.size, i * 6 + 5, none⟩ (.slice a2' d.vals.length c2')) := by simp only [putL, Nat.add_assoc, Nat.reduceAdd]
    rw [← hput]
    obtain ⟨ys, hy1, hy2⟩ := putL_blk [.int .i64 d.k, .string d.s, .int .i64 d.a, .int .i64 d.b, .slice a1' d.names.length c1', .slice a2' d.vals.length c2'] (i * 6) HK2.out
    refine ⟨i + 1, ys, by omega, hy1, by omega, HA.out.next HD.out hlt2 HB2.out HA2.out HK2.out (by show i * 6 + 6 ≤ cur.size; omega), by go_num, putL_below [.int .i64 d.k, .string d.s, .int .i64 d.a, .int .i64 d.b, .slice a1' d.names.length c1', .slice a2' d.vals.length c2'] (i * 6) (hb.trans (HB2.out.mono hsz)) (Nat.le_refl _)⟩
   case measure => simp [intOf]; omega
  ·have hlt' : decide ((i : Int) < (l.length : Int)) = false := by simp; omega
   obtain rfl : i = l.length := by omega
   go_wp2
   go_ret
   exact ⟨w.heap.size, rfl, HA.out.row hlt2, hb⟩
theorem toE_Prog (x : Prg) (a1 : Option Addr) (c1 : Nat) (w : World) (hs : x.small) (hr : PrgRows w (fun b => b < w.heap.size) a1 c1 x) :
  Calls Tryz.prog 80 #[.agg #[.slice a1 x.nodes.length c1, .int .i64 x.root]] w fun e w' => MadeE rgP x w e w' := by
 obtain ⟨u0, u1⟩ := hs
 obtain ⟨r1, t1⟩ := hr
 have HC0 : Hid (∀ w2, Below w.heap.size w w2 → Calls Tryz.prog 113 #[.slice a1 x.nodes.length c1] w2 fun e w' => Made rgN x.nodes w2 e w') := fun w2 h2 => to_Node a1 x.nodes c1 w2 u0.1 u0.2 (r1.keep fun b h => ⟨by have := h2.size; omega, h2.block b h⟩)
 clear r1
 go_enter Tryz.func80, Tryz.ntmps80
 go_wp2_with fail
 have hb : Below w.heap.size w (((w.alloc (Obj.cells #[.slice a1 x.nodes.length c1, .int .i64 x.root] 88)).alloc (Obj.cells #[.slice none 0 0, .int .i64 0] 116)).alloc (Obj.cells #[.slice none 0 0, .int .i64 0] 116)) := ((bR _ _).alloc (by simp) _).alloc (by simp; omega) _
 have k0 : (((w.alloc (Obj.cells #[.slice a1 x.nodes.length c1, .int .i64 x.root] 88)).alloc (Obj.cells #[.slice none 0 0, .int .i64 0] 116)).alloc (Obj.cells #[.slice none 0 0, .int .i64 0] 116)).heap[w.heap.size]? = some (Obj.cells #[.slice a1 x.nodes.length c1, .int .i64 x.root] 88) := blk_past (blk_past (blk_at _ _ _ rfl))
 have k1 : (((w.alloc (Obj.cells #[.slice a1 x.nodes.length c1, .int .i64 x.root] 88)).alloc (Obj.cells #[.slice none 0 0, .int .i64 0] 116)).alloc (Obj.cells #[.slice none 0 0, .int .i64 0] 116)).heap[w.heap.size + 1]? = some (Obj.cells #[.slice none 0 0, .int .i64 0] 116) := blk_past (blk_at _ _ _ (by simp))
 have k2 : (((w.alloc (Obj.cells #[.slice a1 x.nodes.length c1, .int .i64 x.root] 88)).alloc (Obj.cells #[.slice none 0 0, .int .i64 0] 116)).alloc (Obj.cells #[.slice none 0 0, .int .i64 0] 116)).heap[w.heap.size + 1 + 1]? = some (Obj.cells #[.slice none 0 0, .int .i64 0] 116) := blk_at _ _ _ (by simp)
 have hz : w.heap.size + 3 ≤ (((w.alloc (Obj.cells #[.slice a1 x.nodes.length c1, .int .i64 x.root] 88)).alloc (Obj.cells #[.slice none 0 0, .int .i64 0] 116)).alloc (Obj.cells #[.slice none 0 0, .int .i64 0] 116)).heap.size := by simp
 generalize (((w.alloc (Obj.cells #[.slice a1 x.nodes.length c1, .int .i64 x.root] 88)).alloc (Obj.cells #[.slice none 0 0, .int .i64 0] 116)).alloc (Obj.cells #[.slice none 0 0, .int .i64 0] 116)) = wA at *
 refine (HC0.out _ hb).mono ?_
 rintro e v0 ⟨g0, rfl, hrow, hv⟩
 have hb1 : Below w.heap.size w v0 := bT hb hv
 have hsv := hv.size
 have k0 := blk_keep k0 hv (by omega)
 have k1 := blk_keep k1 hv (by omega)
 have k2 := blk_keep k2 hv (by omega)
 have R0_0 : rgN.Row v0 (fun b => w.heap.size + 3 ≤ b ∧ b < v0.heap.size) (some ⟨g0, 0, none⟩) x.nodes := hrow.keep fun b h => ⟨⟨by have := h.1; omega, h.2⟩, rfl⟩
 clear hb hv hrow
 have R0_0 : Hid (rgN.Row v0 (fun b => w.heap.size + 3 ≤ b ∧ b < v0.heap.size) (some ⟨g0, 0, none⟩) x.nodes) := R0_0
 obtain ⟨p0, p1⟩ := zn2 k0 rfl rfl
 obtain ⟨o0, o1⟩ := zn2 k2 rfl rfl
 have f0 := frozen_blk k2 0
 have f1 := frozen_blk k2 1
 have s0 := zB 0 k1 rfl
 have l0 := frozen_blk k1 0
 have s1 := zB 1 k1 rfl
 have l1 := frozen_blk k1 1
 have K0 : Hid (v0.heap[w.heap.size]? = some (Obj.cells #[.slice a1 x.nodes.length c1, .int .i64 x.root] 88)) := k0
 have K1 : Hid (v0.heap[w.heap.size + 1]? = some (Obj.cells #[.slice none 0 0, .int .i64 0] 116)) := k1
 have K2 : Hid (v0.heap[w.heap.size + 1 + 1]? = some (Obj.cells #[.slice none 0 0, .int .i64 0] 116)) := k2
 clear k0 k1 k2
 go_wp2
 have K3 : ((v0.setCell ⟨w.heap.size + 1 + 1, 0, none⟩ (.slice (some ⟨g0, 0, none⟩) x.nodes.length x.nodes.length)).setCell ⟨w.heap.size + 1 + 1, 1, none⟩ (.int .i64 x.root)).heap[w.heap.size + 1]? = some (Obj.cells #[.slice none 0 0, .int .i64 0] 116) := by
  rw [heap_setCell_other _ _ _ _ (by simp), heap_setCell_other _ _ _ _ (by simp)]; exact K1.out
 refine bodyPost_ret (results_cell_row rfl _ _ (w.heap.size + 1) 116 #[.slice (some ⟨g0, 0, none⟩) x.nodes.length x.nodes.length, .int .i64 x.root] (0, 0) _ rfl (heap_setCell_same _ _ _ _ _ _ (heap_setCell_same _ _ _ _ _ _ (K3))) Tryz.underlying116 rfl (by kernel_rfl)) rfl ?_
 have hoth : ∀ b, w.heap.size + 3 ≤ b → ((((v0.setCell ⟨w.heap.size + 1 + 1, 0, none⟩ (.slice (some ⟨g0, 0, none⟩) x.nodes.length x.nodes.length)).setCell ⟨w.heap.size + 1 + 1, 1, none⟩ (.int .i64 x.root)).setCell ⟨w.heap.size + 1, 0, none⟩ (.slice (some ⟨g0, 0, none⟩) x.nodes.length x.nodes.length)).setCell ⟨w.heap.size + 1, 1, none⟩ (.int .i64 x.root)).heap[b]? = v0.heap[b]? := by
  intro b h
  rw [heap_setCell_other _ _ _ _ (by show b ≠ w.heap.size + 1; omega), heap_setCell_other _ _ _ _ (by show b ≠ w.heap.size + 1; omega), heap_setCell_other _ _ _ _ (by show b ≠ w.heap.size + 1 + 1; omega), heap_setCell_other _ _ _ _ (by show b ≠ w.heap.size + 1 + 1; omega)]
 exact ⟨_, rfl, ⟨_, _, rfl, ⟨R0_0.out.keep fun b h => ⟨⟨by have := h.1; omega, by have := h.2; simpa using this⟩, hoth b h.1⟩, Nat.le_refl _⟩⟩, (((hb1.setCell (p := ⟨_, _, none⟩) (by simp <;> omega) _).setCell (p := ⟨_, _, none⟩) (by simp <;> omega) _).setCell (p := ⟨_, _, none⟩) (by simp <;> omega) _).setCell (p := ⟨_, _, none⟩) (by simp <;> omega) _⟩
theorem toE_Link (x : Lnk) (w : World) (hs : x.small) :
  Calls Tryz.prog 111 #[.agg #[.string x.name, .int .i64 x.inst, .string x.at_]] w fun e w' => MadeE rgL x w e w' := by
 go_enter Tryz.func111, Tryz.ntmps111
 go_wp2
 refine bodyPost_ret (results_cell_row rfl _ _ (w.heap.size + 1) 184 #[.string x.name, .int .i64 x.inst, .string x.at_] (0, 0) _ rfl (blk_past (blk_at _ _ _ (by simp))) Tryz.underlying184 rfl (by kernel_rfl)) rfl ?_
 exact ⟨_, rfl, rfl, ((bR _ _).alloc (by simp) _).alloc (by simp; omega) _⟩
theorem Tryz.inf_Link : (Tryz.prog.info? 184).map (fun i => (i.zero, i.size, i.bytes)) = some (some (.agg #[.string ⟨#[]⟩, .int .i64 0, .string ⟨#[]⟩]), 3, 40) := by kernel_rfl
theorem to_Link (a : Option Addr) (l : List Lnk) (cap : Nat) (w : World) (hn : l.length ≤ 1048576) (hsm : ∀ d ∈ l, Lnk.small d) (hr : rgL.Row w (fun b => b < w.heap.size) a l) :
  Calls Tryz.prog 78 #[.slice a l.length cap] w fun e w' => Made rgL l w e w' := by
 obtain ⟨i0, hi, hz0, hz1, hz2⟩ := info_parts Tryz.inf_Link
 have HR : Hid (rgL.Row w (fun b => b < w.heap.size) a l) := hr
 have HS : Hid (∀ d ∈ l, Lnk.small d) := hsm
 clear hr hsm
 go_enter Tryz.func78, Tryz.ntmps78
 go_wp2_with (at_make; refine wpList_make_full _ rfl _ _ 109 rfl w.heap.size 184 i0 _ 3 Tryz.underlying109 hi hz0 hz1 .i64 .i64 _ _ l.length rfl rfl rfl rfl ?c1 ?c2 ?c3 ?_)
 case c1 => rw [hz2]; omega
 case c2 => simp [maxLen]; omega
 case c3 => exact Nat.le_refl _
 intro w1 hown1 hgr1
 go_wp2
 have hb1 : Below w.heap.size w w1 := (Below.refl _ _).grown hgr1 (Nat.le_refl _) (fun _ h => by cases h)
 obtain ⟨hlen, ⟨h0, _⟩ | ⟨g, cp, cur, hv, _, hblk, _, _, hcs, _⟩⟩ := hown1
 ·cases h0
 simp only [Value.slice.injEq, Option.some.injEq, Addr.mk.injEq] at hv
 obtain ⟨⟨rfl, _⟩, _, rfl⟩ := hv
 clear hlen
 go_loopw [4] (fun o wr => ∃ (i : Nat) (cur : Array Value), i ≤ l.length ∧ wr.heap[w.heap.size]? = some (.cells cur 184 (0, 0)) ∧ cur.size = l.length * 3 ∧ Laid rgL wr w.heap.size i l ∧ o = .int .i64 i ∧ Below w.heap.size w wr)
  (fun o _ => l.length - (intOf o).toNat)
 case atStart => exact ⟨0, cur, by omega, hblk, hcs, Laid.zero, rfl, hb1⟩
 case round =>
  clear hblk hcs hb1 hgr1
  obtain ⟨i, cur, hi, hblk, hcs, hat0, rfl, hb⟩ := hrel
  have HA : Hid (Laid rgL wr w.heap.size i l) := hat0
  have HK : Hid (wr.heap[w.heap.size]? = some (.cells cur 184 (0, 0))) := hblk
  have hlt2 : w.heap.size < wr.heap.size := (Array.getElem?_eq_some_iff.1 hblk).1
  clear hat0 hblk
  by_cases hlt : i < l.length
  ·obtain ⟨d, hd⟩ : ∃ d, l[i]? = some d := ⟨_, List.getElem?_eq_getElem hlt⟩
   obtain ⟨b1, o1, cs, rfl, hbb, hat, hlies⟩ := HR.out i d hd
   obtain rfl := hat
   have cx0 : wr.cell? ⟨b1, o1 + i * 3, none⟩ = some (.string d.name) := cell_keep (hlies 0 _ rfl) hb hbb
   have cx1 : wr.cell? ⟨b1, o1 + i * 3 + 1, none⟩ = some (.int .i64 d.inst) := cell_keep (hlies 1 _ rfl) hb hbb
   have cx2 : wr.cell? ⟨b1, o1 + i * 3 + 2, none⟩ = some (.string d.at_) := cell_keep (hlies 2 _ rfl) hb hbb
   have hsz := hb.size
   have HT : Hid (Calls Tryz.prog 111 #[.agg #[.string d.name, .int .i64 d.inst, .string d.at_]] wr fun e w' => MadeE rgL d wr e w') := toE_Link d   wr (HS.out d (List.mem_of_getElem? hd))
   have HD : Hid (l[i]? = some d) := hd
   clear hlies hd
   go_wp2_with fail
   refine HT.out.mono ?_
   rintro e w2 ⟨cs2, rfl, hat2, hb2⟩
   obtain rfl := hat2
   have HA2 : Hid (rgL.At w2 (fun b => wr.heap.size ≤ b ∧ b < w2.heap.size) [.string d.name, .int .i64 d.inst, .string d.at_] d) := rfl
   have hk2 := blk_keep HK.out hb2 hlt2
   have f0 := frozen_blk hk2 (i * 3)
   obtain ⟨x0, e0⟩ := cell_blk' hk2 (i * 3) (by omega)
   have f1 := frozen_blk hk2 (i * 3 + 1)
   obtain ⟨x1, e1⟩ := cell_blk' hk2 (i * 3 + 1) (by omega)
   have f2 := frozen_blk hk2 (i * 3 + 2)
   obtain ⟨x2, e2⟩ := cell_blk' hk2 (i * 3 + 2) (by omega)
   have HK2 : Hid (w2.heap[w.heap.size]? = some (.cells cur 184 (0, 0))) := hk2
   have HB2 : Hid (Below wr.heap.size wr w2) := hb2
   clear hk2 HT hb2
   go_wp2
   go_roundw
   case rel =>
    have hput : putL w2 w.heap.size (i * 3) [.string d.name, .int .i64 d.inst, .string d.at_] = (((w2.setCell ⟨w.heap.size, i * 3, none⟩ (.string d.name)).setCell ⟨w.heap.size, i * 3 + 1, none⟩ (.int .i64 d.inst)).setCell ⟨w.heap.size, i * 3 + 2, none⟩ (.string d.at_)) := by simp only [putL, Nat.add_assoc, Nat.reduceAdd]
    rw [← hput]
    obtain ⟨ys, hy1, hy2⟩ := putL_blk [.string d.name, .int .i64 d.inst, .string d.at_] (i * 3) HK2.out
    refine ⟨i + 1, ys, by omega, hy1, by omega, HA.out.next HD.out hlt2 HB2.out HA2.out HK2.out (by show i * 3 + 3 ≤ cur.size; omega), by go_num, putL_below [.string d.name, .int .i64 d.inst, .string d.at_] (i * 3) (hb.trans (HB2.out.mono hsz)) (Nat.le_refl _)⟩
   case measure => simp [intOf]; omega
  ·have hlt' : decide ((i : Int) < (l.length : Int)) = false := by simp; omega
   obtain rfl : i = l.length := by omega
   go_wp2
   go_ret
   exact ⟨w.heap.size, rfl, HA.out.row hlt2, hb⟩
theorem toE_Type (x : Typ) (w : World) (hs : x.small) :
  Calls Tryz.prog 112 #[.agg #[.string x.name, .int .i64 x.size]] w fun e w' => MadeE rgT x w e w' := by
 go_enter Tryz.func112, Tryz.ntmps112
 go_wp2
 refine bodyPost_ret (results_cell_row rfl _ _ (w.heap.size + 1) 186 #[.string x.name, .int .i64 x.size] (0, 0) _ rfl (blk_past (blk_at _ _ _ (by simp))) Tryz.underlying186 rfl (by kernel_rfl)) rfl ?_
 exact ⟨_, rfl, rfl, ((bR _ _).alloc (by simp) _).alloc (by simp; omega) _⟩
theorem Tryz.inf_Type : (Tryz.prog.info? 186).map (fun i => (i.zero, i.size, i.bytes)) = some (some (.agg #[.string ⟨#[]⟩, .int .i64 0]), 2, 24) := by kernel_rfl
theorem to_Type (a : Option Addr) (l : List Typ) (cap : Nat) (w : World) (hn : l.length ≤ 1048576) (hsm : ∀ d ∈ l, Typ.small d) (hr : rgT.Row w (fun b => b < w.heap.size) a l) :
  Calls Tryz.prog 79 #[.slice a l.length cap] w fun e w' => Made rgT l w e w' := by
 obtain ⟨i0, hi, hz0, hz1, hz2⟩ := info_parts Tryz.inf_Type
 have HR : Hid (rgT.Row w (fun b => b < w.heap.size) a l) := hr
 have HS : Hid (∀ d ∈ l, Typ.small d) := hsm
 clear hr hsm
 go_enter Tryz.func79, Tryz.ntmps79
 go_wp2_with (at_make; refine wpList_make_full _ rfl _ _ 110 rfl w.heap.size 186 i0 _ 2 Tryz.underlying110 hi hz0 hz1 .i64 .i64 _ _ l.length rfl rfl rfl rfl ?c1 ?c2 ?c3 ?_)
 case c1 => rw [hz2]; omega
 case c2 => simp [maxLen]; omega
 case c3 => exact Nat.le_refl _
 intro w1 hown1 hgr1
 go_wp2
 have hb1 : Below w.heap.size w w1 := (Below.refl _ _).grown hgr1 (Nat.le_refl _) (fun _ h => by cases h)
 obtain ⟨hlen, ⟨h0, _⟩ | ⟨g, cp, cur, hv, _, hblk, _, _, hcs, _⟩⟩ := hown1
 ·cases h0
 simp only [Value.slice.injEq, Option.some.injEq, Addr.mk.injEq] at hv
 obtain ⟨⟨rfl, _⟩, _, rfl⟩ := hv
 clear hlen
 go_loopw [4] (fun o wr => ∃ (i : Nat) (cur : Array Value), i ≤ l.length ∧ wr.heap[w.heap.size]? = some (.cells cur 186 (0, 0)) ∧ cur.size = l.length * 2 ∧ Laid rgT wr w.heap.size i l ∧ o = .int .i64 i ∧ Below w.heap.size w wr)
  (fun o _ => l.length - (intOf o).toNat)
 case atStart => exact ⟨0, cur, by omega, hblk, hcs, Laid.zero, rfl, hb1⟩
 case round =>
  clear hblk hcs hb1 hgr1
  obtain ⟨i, cur, hi, hblk, hcs, hat0, rfl, hb⟩ := hrel
  have HA : Hid (Laid rgT wr w.heap.size i l) := hat0
  have HK : Hid (wr.heap[w.heap.size]? = some (.cells cur 186 (0, 0))) := hblk
  have hlt2 : w.heap.size < wr.heap.size := (Array.getElem?_eq_some_iff.1 hblk).1
  clear hat0 hblk
  by_cases hlt : i < l.length
  ·obtain ⟨d, hd⟩ : ∃ d, l[i]? = some d := ⟨_, List.getElem?_eq_getElem hlt⟩
   obtain ⟨b1, o1, cs, rfl, hbb, hat, hlies⟩ := HR.out i d hd
   obtain rfl := hat
   have cx0 : wr.cell? ⟨b1, o1 + i * 2, none⟩ = some (.string d.name) := cell_keep (hlies 0 _ rfl) hb hbb
   have cx1 : wr.cell? ⟨b1, o1 + i * 2 + 1, none⟩ = some (.int .i64 d.size) := cell_keep (hlies 1 _ rfl) hb hbb
   have hsz := hb.size
   have HT : Hid (Calls Tryz.prog 112 #[.agg #[.string d.name, .int .i64 d.size]] wr fun e w' => MadeE rgT d wr e w') := toE_Type d   wr (HS.out d (List.mem_of_getElem? hd))
   have HD : Hid (l[i]? = some d) := hd
   clear hlies hd
   go_wp2_with fail
   refine HT.out.mono ?_
   rintro e w2 ⟨cs2, rfl, hat2, hb2⟩
   obtain rfl := hat2
   have HA2 : Hid (rgT.At w2 (fun b => wr.heap.size ≤ b ∧ b < w2.heap.size) [.string d.name, .int .i64 d.size] d) := rfl
   have hk2 := blk_keep HK.out hb2 hlt2
   have f0 := frozen_blk hk2 (i * 2)
   obtain ⟨x0, e0⟩ := cell_blk' hk2 (i * 2) (by omega)
   have f1 := frozen_blk hk2 (i * 2 + 1)
   obtain ⟨x1, e1⟩ := cell_blk' hk2 (i * 2 + 1) (by omega)
   have HK2 : Hid (w2.heap[w.heap.size]? = some (.cells cur 186 (0, 0))) := hk2
   have HB2 : Hid (Below wr.heap.size wr w2) := hb2
   clear hk2 HT hb2
   go_wp2
   go_roundw
   case rel =>
    have hput : putL w2 w.heap.size (i * 2) [.string d.name, .int .i64 d.size] = ((w2.setCell ⟨w.heap.size, i * 2, none⟩ (.string d.name)).setCell ⟨w.heap.size, i * 2 + 1, none⟩ (.int .i64 d.size)) := by simp only [putL]
    rw [← hput]
    obtain ⟨ys, hy1, hy2⟩ := putL_blk [.string d.name, .int .i64 d.size] (i * 2) HK2.out
    refine ⟨i + 1, ys, by omega, hy1, by omega, HA.out.next HD.out hlt2 HB2.out HA2.out HK2.out (by show i * 2 + 2 ≤ cur.size; omega), by go_num, putL_below [.string d.name, .int .i64 d.size] (i * 2) (hb.trans (HB2.out.mono hsz)) (Nat.le_refl _)⟩
   case measure => simp [intOf]; omega
  ·have hlt' : decide ((i : Int) < (l.length : Int)) = false := by simp; omega
   obtain rfl : i = l.length := by omega
   go_wp2
   go_ret
   exact ⟨w.heap.size, rfl, HA.out.row hlt2, hb⟩
theorem toE_Inst (x : Ins) (a1 a2 a3 a4 : Option Addr) (c1 c2 c3 c4 : Nat) (w : World) (hs : x.small) (hr : InsRows w (fun b => b < w.heap.size) a1 a2 a3 a4 c1 c2 c3 c4 x) :
  Calls Tryz.prog 51 #[.agg #[.string x.lib, .int .i64 x.ver, .slice a1 x.names.length c1, .slice a2 x.vals.length c2, .slice a3 x.links.length c3, .slice a4 x.types.length c4]] w fun e w' => MadeE rgX x w e w' := by
 obtain ⟨u0, u1, u2, u3, u4, u5⟩ := hs
 obtain ⟨⟨r1, t1⟩, ⟨r2, t2⟩, ⟨r3, t3⟩, ⟨r4, t4⟩⟩ := hr
 have HC0 : Hid (∀ w2, Below w.heap.size w w2 → Calls Tryz.prog 24 #[.slice a1 x.names.length c1] w2 fun e w' => Made rgS x.names w2 e w') := fun w2 h2 => to_string a1 x.names c1 w2 u2.1 u2.2 (r1.keep fun b h => ⟨by have := h2.size; omega, h2.block b h⟩)
 have HC1 : Hid (∀ w2, Below w.heap.size w w2 → Calls Tryz.prog 77 #[.slice a2 x.vals.length c2] w2 fun e w' => Made rgV x.vals w2 e w') := fun w2 h2 => to_Value a2 x.vals c2 w2 u3.1 u3.2 (r2.keep fun b h => ⟨by have := h2.size; omega, h2.block b h⟩)
 have HC2 : Hid (∀ w2, Below w.heap.size w w2 → Calls Tryz.prog 78 #[.slice a3 x.links.length c3] w2 fun e w' => Made rgL x.links w2 e w') := fun w2 h2 => to_Link a3 x.links c3 w2 u4.1 u4.2 (r3.keep fun b h => ⟨by have := h2.size; omega, h2.block b h⟩)
 have HC3 : Hid (∀ w2, Below w.heap.size w w2 → Calls Tryz.prog 79 #[.slice a4 x.types.length c4] w2 fun e w' => Made rgT x.types w2 e w') := fun w2 h2 => to_Type a4 x.types c4 w2 u5.1 u5.2 (r4.keep fun b h => ⟨by have := h2.size; omega, h2.block b h⟩)
 clear r1 r2 r3 r4
 go_enter Tryz.func51, Tryz.ntmps51
 go_wp2_with fail
 have hb : Below w.heap.size w (((w.alloc (Obj.cells #[.string x.lib, .int .i64 x.ver, .slice a1 x.names.length c1, .slice a2 x.vals.length c2, .slice a3 x.links.length c3, .slice a4 x.types.length c4] 84)).alloc (Obj.cells #[.string ⟨#[]⟩, .int .i64 0, .slice none 0 0, .slice none 0 0, .slice none 0 0, .slice none 0 0] 112)).alloc (Obj.cells #[.string x.lib, .int .i64 x.ver, .slice none 0 0, .slice none 0 0, .slice none 0 0, .slice none 0 0] 112)) := ((bR _ _).alloc (by simp) _).alloc (by simp; omega) _
 have k0 : (((w.alloc (Obj.cells #[.string x.lib, .int .i64 x.ver, .slice a1 x.names.length c1, .slice a2 x.vals.length c2, .slice a3 x.links.length c3, .slice a4 x.types.length c4] 84)).alloc (Obj.cells #[.string ⟨#[]⟩, .int .i64 0, .slice none 0 0, .slice none 0 0, .slice none 0 0, .slice none 0 0] 112)).alloc (Obj.cells #[.string x.lib, .int .i64 x.ver, .slice none 0 0, .slice none 0 0, .slice none 0 0, .slice none 0 0] 112)).heap[w.heap.size]? = some (Obj.cells #[.string x.lib, .int .i64 x.ver, .slice a1 x.names.length c1, .slice a2 x.vals.length c2, .slice a3 x.links.length c3, .slice a4 x.types.length c4] 84) := blk_past (blk_past (blk_at _ _ _ rfl))
 have k1 : (((w.alloc (Obj.cells #[.string x.lib, .int .i64 x.ver, .slice a1 x.names.length c1, .slice a2 x.vals.length c2, .slice a3 x.links.length c3, .slice a4 x.types.length c4] 84)).alloc (Obj.cells #[.string ⟨#[]⟩, .int .i64 0, .slice none 0 0, .slice none 0 0, .slice none 0 0, .slice none 0 0] 112)).alloc (Obj.cells #[.string x.lib, .int .i64 x.ver, .slice none 0 0, .slice none 0 0, .slice none 0 0, .slice none 0 0] 112)).heap[w.heap.size + 1]? = some (Obj.cells #[.string ⟨#[]⟩, .int .i64 0, .slice none 0 0, .slice none 0 0, .slice none 0 0, .slice none 0 0] 112) := blk_past (blk_at _ _ _ (by simp))
 have k2 : (((w.alloc (Obj.cells #[.string x.lib, .int .i64 x.ver, .slice a1 x.names.length c1, .slice a2 x.vals.length c2, .slice a3 x.links.length c3, .slice a4 x.types.length c4] 84)).alloc (Obj.cells #[.string ⟨#[]⟩, .int .i64 0, .slice none 0 0, .slice none 0 0, .slice none 0 0, .slice none 0 0] 112)).alloc (Obj.cells #[.string x.lib, .int .i64 x.ver, .slice none 0 0, .slice none 0 0, .slice none 0 0, .slice none 0 0] 112)).heap[w.heap.size + 1 + 1]? = some (Obj.cells #[.string x.lib, .int .i64 x.ver, .slice none 0 0, .slice none 0 0, .slice none 0 0, .slice none 0 0] 112) := blk_at _ _ _ (by simp)
 have hz : w.heap.size + 3 ≤ (((w.alloc (Obj.cells #[.string x.lib, .int .i64 x.ver, .slice a1 x.names.length c1, .slice a2 x.vals.length c2, .slice a3 x.links.length c3, .slice a4 x.types.length c4] 84)).alloc (Obj.cells #[.string ⟨#[]⟩, .int .i64 0, .slice none 0 0, .slice none 0 0, .slice none 0 0, .slice none 0 0] 112)).alloc (Obj.cells #[.string x.lib, .int .i64 x.ver, .slice none 0 0, .slice none 0 0, .slice none 0 0, .slice none 0 0] 112)).heap.size := by simp
 generalize (((w.alloc (Obj.cells #[.string x.lib, .int .i64 x.ver, .slice a1 x.names.length c1, .slice a2 x.vals.length c2, .slice a3 x.links.length c3, .slice a4 x.types.length c4] 84)).alloc (Obj.cells #[.string ⟨#[]⟩, .int .i64 0, .slice none 0 0, .slice none 0 0, .slice none 0 0, .slice none 0 0] 112)).alloc (Obj.cells #[.string x.lib, .int .i64 x.ver, .slice none 0 0, .slice none 0 0, .slice none 0 0, .slice none 0 0] 112)) = wA at *
 refine (HC0.out _ hb).mono ?_
 rintro e v0 ⟨g0, rfl, hrow, hv⟩
 have hb1 : Below w.heap.size w v0 := bT hb hv
 have hsv := hv.size
 have k0 := blk_keep k0 hv (by omega)
 have k1 := blk_keep k1 hv (by omega)
 have k2 := blk_keep k2 hv (by omega)
 have R0_0 : rgS.Row v0 (fun b => w.heap.size + 3 ≤ b ∧ b < v0.heap.size) (some ⟨g0, 0, none⟩) x.names := hrow.keep fun b h => ⟨⟨by have := h.1; omega, h.2⟩, rfl⟩
 clear hb hv hrow
 have R0_0 : Hid (rgS.Row v0 (fun b => w.heap.size + 3 ≤ b ∧ b < v0.heap.size) (some ⟨g0, 0, none⟩) x.names) := R0_0
 obtain ⟨p0, p1, p2, p3, p4, p5⟩ := zn6 k0 rfl rfl rfl rfl rfl rfl
 obtain ⟨o0, o1, o2, o3, o4, o5⟩ := zn6 k2 rfl rfl rfl rfl rfl rfl
 have f2 := frozen_blk k2 2
 have K0 : Hid (v0.heap[w.heap.size]? = some (Obj.cells #[.string x.lib, .int .i64 x.ver, .slice a1 x.names.length c1, .slice a2 x.vals.length c2, .slice a3 x.links.length c3, .slice a4 x.types.length c4] 84)) := k0
 have K1 : Hid (v0.heap[w.heap.size + 1]? = some (Obj.cells #[.string ⟨#[]⟩, .int .i64 0, .slice none 0 0, .slice none 0 0, .slice none 0 0, .slice none 0 0] 112)) := k1
 have K2 : Hid (v0.heap[w.heap.size + 1 + 1]? = some (Obj.cells #[.string x.lib, .int .i64 x.ver, .slice none 0 0, .slice none 0 0, .slice none 0 0, .slice none 0 0] 112)) := k2
 clear k0 k1 k2
 go_wp2_with fail
 have k0 : (v0.setCell ⟨w.heap.size + 1 + 1, 2, none⟩ (.slice (some ⟨g0, 0, none⟩) x.names.length x.names.length)).heap[w.heap.size]? = some (Obj.cells #[.string x.lib, .int .i64 x.ver, .slice a1 x.names.length c1, .slice a2 x.vals.length c2, .slice a3 x.links.length c3, .slice a4 x.types.length c4] 84) := by
  rw [heap_setCell_other _ _ _ _ (by simp; try omega)]; exact K0.out
 have k1 : (v0.setCell ⟨w.heap.size + 1 + 1, 2, none⟩ (.slice (some ⟨g0, 0, none⟩) x.names.length x.names.length)).heap[w.heap.size + 1]? = some (Obj.cells #[.string ⟨#[]⟩, .int .i64 0, .slice none 0 0, .slice none 0 0, .slice none 0 0, .slice none 0 0] 112) := by
  rw [heap_setCell_other _ _ _ _ (by simp)]; exact K1.out
 have k2 : (v0.setCell ⟨w.heap.size + 1 + 1, 2, none⟩ (.slice (some ⟨g0, 0, none⟩) x.names.length x.names.length)).heap[w.heap.size + 1 + 1]? = some (Obj.cells #[.string x.lib, .int .i64 x.ver, .slice (some ⟨g0, 0, none⟩) x.names.length x.names.length, .slice none 0 0, .slice none 0 0, .slice none 0 0] 112) := heap_setCell_same _ _ _ _ _ _ (K2.out)
 have hb : Below w.heap.size w (v0.setCell ⟨w.heap.size + 1 + 1, 2, none⟩ (.slice (some ⟨g0, 0, none⟩) x.names.length x.names.length)) := hb1.setCell (p := ⟨_, _, none⟩) (by simp; omega) _
 have hz : w.heap.size + 3 ≤ (v0.setCell ⟨w.heap.size + 1 + 1, 2, none⟩ (.slice (some ⟨g0, 0, none⟩) x.names.length x.names.length)).heap.size := by simp; omega
 have R0_0 : Hid (rgS.Row (v0.setCell ⟨w.heap.size + 1 + 1, 2, none⟩ (.slice (some ⟨g0, 0, none⟩) x.names.length x.names.length)) (fun b => w.heap.size + 3 ≤ b ∧ b < (v0.setCell ⟨w.heap.size + 1 + 1, 2, none⟩ (.slice (some ⟨g0, 0, none⟩) x.names.length x.names.length)).heap.size) (some ⟨g0, 0, none⟩) x.names) := R0_0.out.keep fun b h => ⟨⟨h.1, by have := h.2; simpa using this⟩, by rw [heap_setCell_other _ _ _ _ (by have := h.1; show b ≠ w.heap.size + 1 + 1; omega)]⟩
 clear K0 K1 K2 hb1 hsv p0 o0 p1 o1 p2 o2 p3 o3 p4 o4 p5 o5 f2
 generalize (v0.setCell ⟨w.heap.size + 1 + 1, 2, none⟩ (.slice (some ⟨g0, 0, none⟩) x.names.length x.names.length)) = w0A at *
 refine (HC1.out _ hb).mono ?_
 rintro e v1 ⟨g1, rfl, hrow, hv⟩
 have hb1 : Below w.heap.size w v1 := bT hb hv
 have hsv := hv.size
 have k0 := blk_keep k0 hv (by omega)
 have k1 := blk_keep k1 hv (by omega)
 have k2 := blk_keep k2 hv (by omega)
 have R0_0 : rgS.Row v1 (fun b => w.heap.size + 3 ≤ b ∧ b < v1.heap.size) (some ⟨g0, 0, none⟩) x.names := R0_0.out.keep fun b h => ⟨⟨h.1, by have := h.2; omega⟩, hv.block b h.2⟩
 have R1_0 : rgV.Row v1 (fun b => w.heap.size + 3 ≤ b ∧ b < v1.heap.size) (some ⟨g1, 0, none⟩) x.vals := hrow.keep fun b h => ⟨⟨by have := h.1; omega, h.2⟩, rfl⟩
 clear hb hv hrow
 have R0_0 : Hid (rgS.Row v1 (fun b => w.heap.size + 3 ≤ b ∧ b < v1.heap.size) (some ⟨g0, 0, none⟩) x.names) := R0_0
 have R1_0 : Hid (rgV.Row v1 (fun b => w.heap.size + 3 ≤ b ∧ b < v1.heap.size) (some ⟨g1, 0, none⟩) x.vals) := R1_0
 obtain ⟨p0, p1, p2, p3, p4, p5⟩ := zn6 k0 rfl rfl rfl rfl rfl rfl
 obtain ⟨o0, o1, o2, o3, o4, o5⟩ := zn6 k2 rfl rfl rfl rfl rfl rfl
 have f3 := frozen_blk k2 3
 have K0 : Hid (v1.heap[w.heap.size]? = some (Obj.cells #[.string x.lib, .int .i64 x.ver, .slice a1 x.names.length c1, .slice a2 x.vals.length c2, .slice a3 x.links.length c3, .slice a4 x.types.length c4] 84)) := k0
 have K1 : Hid (v1.heap[w.heap.size + 1]? = some (Obj.cells #[.string ⟨#[]⟩, .int .i64 0, .slice none 0 0, .slice none 0 0, .slice none 0 0, .slice none 0 0] 112)) := k1
 have K2 : Hid (v1.heap[w.heap.size + 1 + 1]? = some (Obj.cells #[.string x.lib, .int .i64 x.ver, .slice (some ⟨g0, 0, none⟩) x.names.length x.names.length, .slice none 0 0, .slice none 0 0, .slice none 0 0] 112)) := k2
 clear k0 k1 k2
 go_wp2_with fail
 have k0 : (v1.setCell ⟨w.heap.size + 1 + 1, 3, none⟩ (.slice (some ⟨g1, 0, none⟩) x.vals.length x.vals.length)).heap[w.heap.size]? = some (Obj.cells #[.string x.lib, .int .i64 x.ver, .slice a1 x.names.length c1, .slice a2 x.vals.length c2, .slice a3 x.links.length c3, .slice a4 x.types.length c4] 84) := by
  rw [heap_setCell_other _ _ _ _ (by simp; try omega)]; exact K0.out
 have k1 : (v1.setCell ⟨w.heap.size + 1 + 1, 3, none⟩ (.slice (some ⟨g1, 0, none⟩) x.vals.length x.vals.length)).heap[w.heap.size + 1]? = some (Obj.cells #[.string ⟨#[]⟩, .int .i64 0, .slice none 0 0, .slice none 0 0, .slice none 0 0, .slice none 0 0] 112) := by
  rw [heap_setCell_other _ _ _ _ (by simp)]; exact K1.out
 have k2 : (v1.setCell ⟨w.heap.size + 1 + 1, 3, none⟩ (.slice (some ⟨g1, 0, none⟩) x.vals.length x.vals.length)).heap[w.heap.size + 1 + 1]? = some (Obj.cells #[.string x.lib, .int .i64 x.ver, .slice (some ⟨g0, 0, none⟩) x.names.length x.names.length, .slice (some ⟨g1, 0, none⟩) x.vals.length x.vals.length, .slice none 0 0, .slice none 0 0] 112) := heap_setCell_same _ _ _ _ _ _ (K2.out)
 have hb : Below w.heap.size w (v1.setCell ⟨w.heap.size + 1 + 1, 3, none⟩ (.slice (some ⟨g1, 0, none⟩) x.vals.length x.vals.length)) := hb1.setCell (p := ⟨_, _, none⟩) (by simp; omega) _
 have hz : w.heap.size + 3 ≤ (v1.setCell ⟨w.heap.size + 1 + 1, 3, none⟩ (.slice (some ⟨g1, 0, none⟩) x.vals.length x.vals.length)).heap.size := by simp; omega
 have R0_0 : Hid (rgS.Row (v1.setCell ⟨w.heap.size + 1 + 1, 3, none⟩ (.slice (some ⟨g1, 0, none⟩) x.vals.length x.vals.length)) (fun b => w.heap.size + 3 ≤ b ∧ b < (v1.setCell ⟨w.heap.size + 1 + 1, 3, none⟩ (.slice (some ⟨g1, 0, none⟩) x.vals.length x.vals.length)).heap.size) (some ⟨g0, 0, none⟩) x.names) := R0_0.out.keep fun b h => ⟨⟨h.1, by have := h.2; simpa using this⟩, by rw [heap_setCell_other _ _ _ _ (by have := h.1; show b ≠ w.heap.size + 1 + 1; omega)]⟩
 have R1_0 : Hid (rgV.Row (v1.setCell ⟨w.heap.size + 1 + 1, 3, none⟩ (.slice (some ⟨g1, 0, none⟩) x.vals.length x.vals.length)) (fun b => w.heap.size + 3 ≤ b ∧ b < (v1.setCell ⟨w.heap.size + 1 + 1, 3, none⟩ (.slice (some ⟨g1, 0, none⟩) x.vals.length x.vals.length)).heap.size) (some ⟨g1, 0, none⟩) x.vals) := R1_0.out.keep fun b h => ⟨⟨h.1, by have := h.2; simpa using this⟩, by rw [heap_setCell_other _ _ _ _ (by have := h.1; show b ≠ w.heap.size + 1 + 1; omega)]⟩
 clear K0 K1 K2 hb1 hsv p0 o0 p1 o1 p2 o2 p3 o3 p4 o4 p5 o5 f3
 generalize (v1.setCell ⟨w.heap.size + 1 + 1, 3, none⟩ (.slice (some ⟨g1, 0, none⟩) x.vals.length x.vals.length)) = w1A at *
 refine (HC2.out _ hb).mono ?_
 rintro e v2 ⟨g2, rfl, hrow, hv⟩
 have hb1 : Below w.heap.size w v2 := bT hb hv
 have hsv := hv.size
 have k0 := blk_keep k0 hv (by omega)
 have k1 := blk_keep k1 hv (by omega)
 have k2 := blk_keep k2 hv (by omega)
 have R0_0 : rgS.Row v2 (fun b => w.heap.size + 3 ≤ b ∧ b < v2.heap.size) (some ⟨g0, 0, none⟩) x.names := R0_0.out.keep fun b h => ⟨⟨h.1, by have := h.2; omega⟩, hv.block b h.2⟩
 have R1_0 : rgV.Row v2 (fun b => w.heap.size + 3 ≤ b ∧ b < v2.heap.size) (some ⟨g1, 0, none⟩) x.vals := R1_0.out.keep fun b h => ⟨⟨h.1, by have := h.2; omega⟩, hv.block b h.2⟩
 have R2_0 : rgL.Row v2 (fun b => w.heap.size + 3 ≤ b ∧ b < v2.heap.size) (some ⟨g2, 0, none⟩) x.links := hrow.keep fun b h => ⟨⟨by have := h.1; omega, h.2⟩, rfl⟩
 clear hb hv hrow
 have R0_0 : Hid (rgS.Row v2 (fun b => w.heap.size + 3 ≤ b ∧ b < v2.heap.size) (some ⟨g0, 0, none⟩) x.names) := R0_0
 have R1_0 : Hid (rgV.Row v2 (fun b => w.heap.size + 3 ≤ b ∧ b < v2.heap.size) (some ⟨g1, 0, none⟩) x.vals) := R1_0
 have R2_0 : Hid (rgL.Row v2 (fun b => w.heap.size + 3 ≤ b ∧ b < v2.heap.size) (some ⟨g2, 0, none⟩) x.links) := R2_0
 obtain ⟨p0, p1, p2, p3, p4, p5⟩ := zn6 k0 rfl rfl rfl rfl rfl rfl
 obtain ⟨o0, o1, o2, o3, o4, o5⟩ := zn6 k2 rfl rfl rfl rfl rfl rfl
 have f4 := frozen_blk k2 4
 have K0 : Hid (v2.heap[w.heap.size]? = some (Obj.cells #[.string x.lib, .int .i64 x.ver, .slice a1 x.names.length c1, .slice a2 x.vals.length c2, .slice a3 x.links.length c3, .slice a4 x.types.length c4] 84)) := k0
 have K1 : Hid (v2.heap[w.heap.size + 1]? = some (Obj.cells #[.string ⟨#[]⟩, .int .i64 0, .slice none 0 0, .slice none 0 0, .slice none 0 0, .slice none 0 0] 112)) := k1
 have K2 : Hid (v2.heap[w.heap.size + 1 + 1]? = some (Obj.cells #[.string x.lib, .int .i64 x.ver, .slice (some ⟨g0, 0, none⟩) x.names.length x.names.length, .slice (some ⟨g1, 0, none⟩) x.vals.length x.vals.length, .slice none 0 0, .slice none 0 0] 112)) := k2
 clear k0 k1 k2
 go_wp2_with fail
 have k0 : (v2.setCell ⟨w.heap.size + 1 + 1, 4, none⟩ (.slice (some ⟨g2, 0, none⟩) x.links.length x.links.length)).heap[w.heap.size]? = some (Obj.cells #[.string x.lib, .int .i64 x.ver, .slice a1 x.names.length c1, .slice a2 x.vals.length c2, .slice a3 x.links.length c3, .slice a4 x.types.length c4] 84) := by
  rw [heap_setCell_other _ _ _ _ (by simp; try omega)]; exact K0.out
 have k1 : (v2.setCell ⟨w.heap.size + 1 + 1, 4, none⟩ (.slice (some ⟨g2, 0, none⟩) x.links.length x.links.length)).heap[w.heap.size + 1]? = some (Obj.cells #[.string ⟨#[]⟩, .int .i64 0, .slice none 0 0, .slice none 0 0, .slice none 0 0, .slice none 0 0] 112) := by
  rw [heap_setCell_other _ _ _ _ (by simp)]; exact K1.out
 have k2 : (v2.setCell ⟨w.heap.size + 1 + 1, 4, none⟩ (.slice (some ⟨g2, 0, none⟩) x.links.length x.links.length)).heap[w.heap.size + 1 + 1]? = some (Obj.cells #[.string x.lib, .int .i64 x.ver, .slice (some ⟨g0, 0, none⟩) x.names.length x.names.length, .slice (some ⟨g1, 0, none⟩) x.vals.length x.vals.length, .slice (some ⟨g2, 0, none⟩) x.links.length x.links.length, .slice none 0 0] 112) := heap_setCell_same _ _ _ _ _ _ (K2.out)
 have hb : Below w.heap.size w (v2.setCell ⟨w.heap.size + 1 + 1, 4, none⟩ (.slice (some ⟨g2, 0, none⟩) x.links.length x.links.length)) := hb1.setCell (p := ⟨_, _, none⟩) (by simp; omega) _
 have hz : w.heap.size + 3 ≤ (v2.setCell ⟨w.heap.size + 1 + 1, 4, none⟩ (.slice (some ⟨g2, 0, none⟩) x.links.length x.links.length)).heap.size := by simp; omega
 have R0_0 : Hid (rgS.Row (v2.setCell ⟨w.heap.size + 1 + 1, 4, none⟩ (.slice (some ⟨g2, 0, none⟩) x.links.length x.links.length)) (fun b => w.heap.size + 3 ≤ b ∧ b < (v2.setCell ⟨w.heap.size + 1 + 1, 4, none⟩ (.slice (some ⟨g2, 0, none⟩) x.links.length x.links.length)).heap.size) (some ⟨g0, 0, none⟩) x.names) := R0_0.out.keep fun b h => ⟨⟨h.1, by have := h.2; simpa using this⟩, by rw [heap_setCell_other _ _ _ _ (by have := h.1; show b ≠ w.heap.size + 1 + 1; omega)]⟩
 have R1_0 : Hid (rgV.Row (v2.setCell ⟨w.heap.size + 1 + 1, 4, none⟩ (.slice (some ⟨g2, 0, none⟩) x.links.length x.links.length)) (fun b => w.heap.size + 3 ≤ b ∧ b < (v2.setCell ⟨w.heap.size + 1 + 1, 4, none⟩ (.slice (some ⟨g2, 0, none⟩) x.links.length x.links.length)).heap.size) (some ⟨g1, 0, none⟩) x.vals) := R1_0.out.keep fun b h => ⟨⟨h.1, by have := h.2; simpa using this⟩, by rw [heap_setCell_other _ _ _ _ (by have := h.1; show b ≠ w.heap.size + 1 + 1; omega)]⟩
 have R2_0 : Hid (rgL.Row (v2.setCell ⟨w.heap.size + 1 + 1, 4, none⟩ (.slice (some ⟨g2, 0, none⟩) x.links.length x.links.length)) (fun b => w.heap.size + 3 ≤ b ∧ b < (v2.setCell ⟨w.heap.size + 1 + 1, 4, none⟩ (.slice (some ⟨g2, 0, none⟩) x.links.length x.links.length)).heap.size) (some ⟨g2, 0, none⟩) x.links) := R2_0.out.keep fun b h => ⟨⟨h.1, by have := h.2; simpa using this⟩, by rw [heap_setCell_other _ _ _ _ (by have := h.1; show b ≠ w.heap.size + 1 + 1; omega)]⟩
 clear K0 K1 K2 hb1 hsv p0 o0 p1 o1 p2 o2 p3 o3 p4 o4 p5 o5 f4
 generalize (v2.setCell ⟨w.heap.size + 1 + 1, 4, none⟩ (.slice (some ⟨g2, 0, none⟩) x.links.length x.links.length)) = w2A at *
 refine (HC3.out _ hb).mono ?_
 rintro e v3 ⟨g3, rfl, hrow, hv⟩
 have hb1 : Below w.heap.size w v3 := bT hb hv
 have hsv := hv.size
 have k0 := blk_keep k0 hv (by omega)
 have k1 := blk_keep k1 hv (by omega)
 have k2 := blk_keep k2 hv (by omega)
 have R0_0 : rgS.Row v3 (fun b => w.heap.size + 3 ≤ b ∧ b < v3.heap.size) (some ⟨g0, 0, none⟩) x.names := R0_0.out.keep fun b h => ⟨⟨h.1, by have := h.2; omega⟩, hv.block b h.2⟩
 have R1_0 : rgV.Row v3 (fun b => w.heap.size + 3 ≤ b ∧ b < v3.heap.size) (some ⟨g1, 0, none⟩) x.vals := R1_0.out.keep fun b h => ⟨⟨h.1, by have := h.2; omega⟩, hv.block b h.2⟩
 have R2_0 : rgL.Row v3 (fun b => w.heap.size + 3 ≤ b ∧ b < v3.heap.size) (some ⟨g2, 0, none⟩) x.links := R2_0.out.keep fun b h => ⟨⟨h.1, by have := h.2; omega⟩, hv.block b h.2⟩
 have R3_0 : rgT.Row v3 (fun b => w.heap.size + 3 ≤ b ∧ b < v3.heap.size) (some ⟨g3, 0, none⟩) x.types := hrow.keep fun b h => ⟨⟨by have := h.1; omega, h.2⟩, rfl⟩
 clear hb hv hrow
 have R0_0 : Hid (rgS.Row v3 (fun b => w.heap.size + 3 ≤ b ∧ b < v3.heap.size) (some ⟨g0, 0, none⟩) x.names) := R0_0
 have R1_0 : Hid (rgV.Row v3 (fun b => w.heap.size + 3 ≤ b ∧ b < v3.heap.size) (some ⟨g1, 0, none⟩) x.vals) := R1_0
 have R2_0 : Hid (rgL.Row v3 (fun b => w.heap.size + 3 ≤ b ∧ b < v3.heap.size) (some ⟨g2, 0, none⟩) x.links) := R2_0
 have R3_0 : Hid (rgT.Row v3 (fun b => w.heap.size + 3 ≤ b ∧ b < v3.heap.size) (some ⟨g3, 0, none⟩) x.types) := R3_0
 obtain ⟨p0, p1, p2, p3, p4, p5⟩ := zn6 k0 rfl rfl rfl rfl rfl rfl
 obtain ⟨o0, o1, o2, o3, o4, o5⟩ := zn6 k2 rfl rfl rfl rfl rfl rfl
 have f5 := frozen_blk k2 5
 have s0 := zB 0 k1 rfl
 have l0 := frozen_blk k1 0
 have s1 := zB 1 k1 rfl
 have l1 := frozen_blk k1 1
 have s2 := zB 2 k1 rfl
 have l2 := frozen_blk k1 2
 have s3 := zB 3 k1 rfl
 have l3 := frozen_blk k1 3
 have s4 := zB 4 k1 rfl
 have l4 := frozen_blk k1 4
 have s5 := zB 5 k1 rfl
 have l5 := frozen_blk k1 5
 have K0 : Hid (v3.heap[w.heap.size]? = some (Obj.cells #[.string x.lib, .int .i64 x.ver, .slice a1 x.names.length c1, .slice a2 x.vals.length c2, .slice a3 x.links.length c3, .slice a4 x.types.length c4] 84)) := k0
 have K1 : Hid (v3.heap[w.heap.size + 1]? = some (Obj.cells #[.string ⟨#[]⟩, .int .i64 0, .slice none 0 0, .slice none 0 0, .slice none 0 0, .slice none 0 0] 112)) := k1
 have K2 : Hid (v3.heap[w.heap.size + 1 + 1]? = some (Obj.cells #[.string x.lib, .int .i64 x.ver, .slice (some ⟨g0, 0, none⟩) x.names.length x.names.length, .slice (some ⟨g1, 0, none⟩) x.vals.length x.vals.length, .slice (some ⟨g2, 0, none⟩) x.links.length x.links.length, .slice none 0 0] 112)) := k2
 clear k0 k1 k2
 go_wp2
 have K3 : (v3.setCell ⟨w.heap.size + 1 + 1, 5, none⟩ (.slice (some ⟨g3, 0, none⟩) x.types.length x.types.length)).heap[w.heap.size + 1]? = some (Obj.cells #[.string ⟨#[]⟩, .int .i64 0, .slice none 0 0, .slice none 0 0, .slice none 0 0, .slice none 0 0] 112) := by
  rw [heap_setCell_other _ _ _ _ (by simp)]; exact K1.out
 refine bodyPost_ret (results_cell_row rfl _ _ (w.heap.size + 1) 112 #[.string x.lib, .int .i64 x.ver, .slice (some ⟨g0, 0, none⟩) x.names.length x.names.length, .slice (some ⟨g1, 0, none⟩) x.vals.length x.vals.length, .slice (some ⟨g2, 0, none⟩) x.links.length x.links.length, .slice (some ⟨g3, 0, none⟩) x.types.length x.types.length] (0, 0) _ rfl (heap_setCell_same _ _ _ _ _ _ (heap_setCell_same _ _ _ _ _ _ (heap_setCell_same _ _ _ _ _ _ (heap_setCell_same _ _ _ _ _ _ (heap_setCell_same _ _ _ _ _ _ (heap_setCell_same _ _ _ _ _ _ (K3))))))) Tryz.underlying112 rfl (by kernel_rfl)) rfl ?_
 have hoth : ∀ b, w.heap.size + 3 ≤ b → (((((((v3.setCell ⟨w.heap.size + 1 + 1, 5, none⟩ (.slice (some ⟨g3, 0, none⟩) x.types.length x.types.length)).setCell ⟨w.heap.size + 1, 0, none⟩ (.string x.lib)).setCell ⟨w.heap.size + 1, 1, none⟩ (.int .i64 x.ver)).setCell ⟨w.heap.size + 1, 2, none⟩ (.slice (some ⟨g0, 0, none⟩) x.names.length x.names.length)).setCell ⟨w.heap.size + 1, 3, none⟩ (.slice (some ⟨g1, 0, none⟩) x.vals.length x.vals.length)).setCell ⟨w.heap.size + 1, 4, none⟩ (.slice (some ⟨g2, 0, none⟩) x.links.length x.links.length)).setCell ⟨w.heap.size + 1, 5, none⟩ (.slice (some ⟨g3, 0, none⟩) x.types.length x.types.length)).heap[b]? = v3.heap[b]? := by
  intro b h
  rw [heap_setCell_other _ _ _ _ (by show b ≠ w.heap.size + 1; omega), heap_setCell_other _ _ _ _ (by show b ≠ w.heap.size + 1; omega), heap_setCell_other _ _ _ _ (by show b ≠ w.heap.size + 1; omega), heap_setCell_other _ _ _ _ (by show b ≠ w.heap.size + 1; omega), heap_setCell_other _ _ _ _ (by show b ≠ w.heap.size + 1; omega), heap_setCell_other _ _ _ _ (by show b ≠ w.heap.size + 1; omega), heap_setCell_other _ _ _ _ (by show b ≠ w.heap.size + 1 + 1; omega)]
 exact ⟨_, rfl, ⟨_, _, _, _, _, _, _, _, rfl, ⟨⟨R0_0.out.keep fun b h => ⟨⟨by have := h.1; omega, by have := h.2; simpa using this⟩, hoth b h.1⟩, Nat.le_refl _⟩, ⟨R1_0.out.keep fun b h => ⟨⟨by have := h.1; omega, by have := h.2; simpa using this⟩, hoth b h.1⟩, Nat.le_refl _⟩, ⟨R2_0.out.keep fun b h => ⟨⟨by have := h.1; omega, by have := h.2; simpa using this⟩, hoth b h.1⟩, Nat.le_refl _⟩, ⟨R3_0.out.keep fun b h => ⟨⟨by have := h.1; omega, by have := h.2; simpa using this⟩, hoth b h.1⟩, Nat.le_refl _⟩⟩⟩, ((((((hb1.setCell (p := ⟨_, _, none⟩) (by simp <;> omega) _).setCell (p := ⟨_, _, none⟩) (by simp <;> omega) _).setCell (p := ⟨_, _, none⟩) (by simp <;> omega) _).setCell (p := ⟨_, _, none⟩) (by simp <;> omega) _).setCell (p := ⟨_, _, none⟩) (by simp <;> omega) _).setCell (p := ⟨_, _, none⟩) (by simp <;> omega) _).setCell (p := ⟨_, _, none⟩) (by simp <;> omega) _⟩
theorem Tryz.inf_Inst : (Tryz.prog.info? 112).map (fun i => (i.zero, i.size, i.bytes)) = some (some (.agg #[.string ⟨#[]⟩, .int .i64 0, .slice none 0 0, .slice none 0 0, .slice none 0 0, .slice none 0 0]), 6, 120) := by kernel_rfl
theorem to_Inst (a : Option Addr) (l : List Ins) (cap : Nat) (w : World) (hn : l.length ≤ 1048576) (hsm : ∀ d ∈ l, Ins.small d) (hr : rgX.Row w (fun b => b < w.heap.size) a l) :
  Calls Tryz.prog 22 #[.slice a l.length cap] w fun e w' => Made rgX l w e w' := by
 obtain ⟨i0, hi, hz0, hz1, hz2⟩ := info_parts Tryz.inf_Inst
 have HR : Hid (rgX.Row w (fun b => b < w.heap.size) a l) := hr
 have HS : Hid (∀ d ∈ l, Ins.small d) := hsm
 clear hr hsm
 go_enter Tryz.func22, Tryz.ntmps22
 go_wp2_with (at_make; refine wpList_make_full _ rfl _ _ 38 rfl w.heap.size 112 i0 _ 6 Tryz.underlying38 hi hz0 hz1 .i64 .i64 _ _ l.length rfl rfl rfl rfl ?c1 ?c2 ?c3 ?_)
 case c1 => rw [hz2]; omega
 case c2 => simp [maxLen]; omega
 case c3 => exact Nat.le_refl _
 intro w1 hown1 hgr1
 go_wp2
 have hb1 : Below w.heap.size w w1 := (Below.refl _ _).grown hgr1 (Nat.le_refl _) (fun _ h => by cases h)
 obtain ⟨hlen, ⟨h0, _⟩ | ⟨g, cp, cur, hv, _, hblk, _, _, hcs, _⟩⟩ := hown1
 ·cases h0
 simp only [Value.slice.injEq, Option.some.injEq, Addr.mk.injEq] at hv
 obtain ⟨⟨rfl, _⟩, _, rfl⟩ := hv
 clear hlen
 go_loopw [4] (fun o wr => ∃ (i : Nat) (cur : Array Value), i ≤ l.length ∧ wr.heap[w.heap.size]? = some (.cells cur 112 (0, 0)) ∧ cur.size = l.length * 6 ∧ Laid rgX wr w.heap.size i l ∧ o = .int .i64 i ∧ Below w.heap.size w wr)
  (fun o _ => l.length - (intOf o).toNat)
 case atStart => exact ⟨0, cur, by omega, hblk, hcs, Laid.zero, rfl, hb1⟩
 case round =>
  clear hblk hcs hb1 hgr1
  obtain ⟨i, cur, hi, hblk, hcs, hat0, rfl, hb⟩ := hrel
  have HA : Hid (Laid rgX wr w.heap.size i l) := hat0
  have HK : Hid (wr.heap[w.heap.size]? = some (.cells cur 112 (0, 0))) := hblk
  have hlt2 : w.heap.size < wr.heap.size := (Array.getElem?_eq_some_iff.1 hblk).1
  clear hat0 hblk
  by_cases hlt : i < l.length
  ·obtain ⟨d, hd⟩ : ∃ d, l[i]? = some d := ⟨_, List.getElem?_eq_getElem hlt⟩
   obtain ⟨b1, o1, cs, rfl, hbb, hat, hlies⟩ := HR.out i d hd
   obtain ⟨a1, a2, a3, a4, c1, c2, c3, c4, rfl, hrows⟩ := hat
   have cx0 : wr.cell? ⟨b1, o1 + i * 6, none⟩ = some (.string d.lib) := cell_keep (hlies 0 _ rfl) hb hbb
   have cx1 : wr.cell? ⟨b1, o1 + i * 6 + 1, none⟩ = some (.int .i64 d.ver) := cell_keep (hlies 1 _ rfl) hb hbb
   have cx2 : wr.cell? ⟨b1, o1 + i * 6 + 2, none⟩ = some (.slice a1 d.names.length c1) := cell_keep (hlies 2 _ rfl) hb hbb
   have cx3 : wr.cell? ⟨b1, o1 + i * 6 + 3, none⟩ = some (.slice a2 d.vals.length c2) := cell_keep (hlies 3 _ rfl) hb hbb
   have cx4 : wr.cell? ⟨b1, o1 + i * 6 + 4, none⟩ = some (.slice a3 d.links.length c3) := cell_keep (hlies 4 _ rfl) hb hbb
   have cx5 : wr.cell? ⟨b1, o1 + i * 6 + 5, none⟩ = some (.slice a4 d.types.length c4) := cell_keep (hlies 5 _ rfl) hb hbb
   have hsz := hb.size
   have HT : Hid (Calls Tryz.prog 51 #[.agg #[.string d.lib, .int .i64 d.ver, .slice a1 d.names.length c1, .slice a2 d.vals.length c2, .slice a3 d.links.length c3, .slice a4 d.types.length c4]] wr fun e w' => MadeE rgX d wr e w') := toE_Inst d a1 a2 a3 a4 c1 c2 c3 c4 wr (HS.out d (List.mem_of_getElem? hd)) (hrows.keep fun b h => ⟨by omega, hb.block b h⟩)
   have HD : Hid (l[i]? = some d) := hd
   clear hlies hd hrows
   go_wp2_with fail
   refine HT.out.mono ?_
   rintro e w2 ⟨cs2, rfl, hat2, hb2⟩
   obtain ⟨a1', a2', a3', a4', c1', c2', c3', c4', rfl, hrows2⟩ := hat2
   have HA2 : Hid (rgX.At w2 (fun b => wr.heap.size ≤ b ∧ b < w2.heap.size) [.string d.lib, .int .i64 d.ver, .slice a1' d.names.length c1', .slice a2' d.vals.length c2', .slice a3' d.links.length c3', .slice a4' d.types.length c4'] d) := ⟨a1', a2', a3', a4', c1', c2', c3', c4', rfl, hrows2⟩
   have hk2 := blk_keep HK.out hb2 hlt2
   have f0 := frozen_blk hk2 (i * 6)
   obtain ⟨x0, e0⟩ := cell_blk' hk2 (i * 6) (by omega)
   have f1 := frozen_blk hk2 (i * 6 + 1)
   obtain ⟨x1, e1⟩ := cell_blk' hk2 (i * 6 + 1) (by omega)
   have f2 := frozen_blk hk2 (i * 6 + 2)
   obtain ⟨x2, e2⟩ := cell_blk' hk2 (i * 6 + 2) (by omega)
   have f3 := frozen_blk hk2 (i * 6 + 3)
   obtain ⟨x3, e3⟩ := cell_blk' hk2 (i * 6 + 3) (by omega)
   have f4 := frozen_blk hk2 (i * 6 + 4)
   obtain ⟨x4, e4⟩ := cell_blk' hk2 (i * 6 + 4) (by omega)
   have f5 := frozen_blk hk2 (i * 6 + 5)
   obtain ⟨x5, e5⟩ := cell_blk' hk2 (i * 6 + 5) (by omega)
   have HK2 : Hid (w2.heap[w.heap.size]? = some (.cells cur 112 (0, 0))) := hk2
   have HB2 : Hid (Below wr.heap.size wr w2) := hb2
   clear hk2 HT hb2 hrows2
   go_wp2
   go_roundw
   case rel =>
    have hput : putL w2 w.heap.size (i * 6) [.string d.lib, .int .i64 d.ver, .slice a1' d.names.length c1', .slice a2' d.vals.length c2', .slice a3' d.links.length c3', .slice a4' d.types.length c4'] = ((((((w2.setCell ⟨w.heap.size, i * 6, none⟩ (.string d.lib)).setCell ⟨w.heap.size, i * 6 + 1, none⟩ (.int .i64 d.ver)).setCell ⟨w.heap.size, i * 6 + 2, none⟩ (.slice a1' d.names.length c1')).setCell ⟨w.heap.size, i * 6 + 3, none⟩ (.slice a2' d.vals.length c2')).setCell ⟨w.heap.size, i * 6 + 4, none⟩ (.slice a3' d.links.length c3')).setCell ⟨w.heap.size, i * 6 + 5, none⟩ (.slice a4' d.types.length c4')) := by simp only [putL, Nat.add_assoc, Nat.reduceAdd]
    rw [← hput]
    obtain ⟨ys, hy1, hy2⟩ := putL_blk [.string d.lib, .int .i64 d.ver, .slice a1' d.names.length c1', .slice a2' d.vals.length c2', .slice a3' d.links.length c3', .slice a4' d.types.length c4'] (i * 6) HK2.out
    refine ⟨i + 1, ys, by omega, hy1, by omega, HA.out.next HD.out hlt2 HB2.out HA2.out HK2.out (by show i * 6 + 6 ≤ cur.size; omega), by go_num, putL_below [.string d.lib, .int .i64 d.ver, .slice a1' d.names.length c1', .slice a2' d.vals.length c2', .slice a3' d.links.length c3', .slice a4' d.types.length c4'] (i * 6) (hb.trans (HB2.out.mono hsz)) (Nat.le_refl _)⟩
   case measure => simp [intOf]; omega
  ·have hlt' : decide ((i : Int) < (l.length : Int)) = false := by simp; omega
   obtain rfl : i = l.length := by omega
   go_wp2
   go_ret
   exact ⟨w.heap.size, rfl, HA.out.row hlt2, hb⟩
theorem toE_Unit (x : Unt) (a1 : Option Addr) (c1 : Nat) (w : World) (hs : x.small) (hr : UntRows w (fun b => b < w.heap.size) a1 c1 x) :
  Calls Tryz.prog 52 #[.agg #[.int .i64 x.home, .slice a1 x.prog.nodes.length c1, .int .i64 x.prog.root]] w fun e w' => MadeE rgU x w e w' := by
 obtain ⟨u0, u1⟩ := hs
 obtain ⟨r1, t1⟩ := hr
 have HC0 : Hid (∀ w2, Below w.heap.size w w2 → Calls Tryz.prog 80 #[.agg #[.slice a1 x.prog.nodes.length c1, .int .i64 x.prog.root]] w2 fun e w' => MadeE rgP x.prog w2 e w') := fun w2 h2 => toE_Prog x.prog a1 c1 w2 u1 (PrgRows.keep (w := w) (p := (fun b => b < w.heap.size)) ⟨r1, t1⟩ fun b h => ⟨by have := h2.size; omega, h2.block b h⟩)
 clear r1
 go_enter Tryz.func52, Tryz.ntmps52
 go_wp2_with fail
 have hb : Below w.heap.size w (((w.alloc (Obj.cells #[.int .i64 x.home, .slice a1 x.prog.nodes.length c1, .int .i64 x.prog.root] 90)).alloc (Obj.cells #[.int .i64 0, .slice none 0 0, .int .i64 0] 118)).alloc (Obj.cells #[.int .i64 x.home, .slice none 0 0, .int .i64 0] 118)) := ((bR _ _).alloc (by simp) _).alloc (by simp; omega) _
 have k0 : (((w.alloc (Obj.cells #[.int .i64 x.home, .slice a1 x.prog.nodes.length c1, .int .i64 x.prog.root] 90)).alloc (Obj.cells #[.int .i64 0, .slice none 0 0, .int .i64 0] 118)).alloc (Obj.cells #[.int .i64 x.home, .slice none 0 0, .int .i64 0] 118)).heap[w.heap.size]? = some (Obj.cells #[.int .i64 x.home, .slice a1 x.prog.nodes.length c1, .int .i64 x.prog.root] 90) := blk_past (blk_past (blk_at _ _ _ rfl))
 have k1 : (((w.alloc (Obj.cells #[.int .i64 x.home, .slice a1 x.prog.nodes.length c1, .int .i64 x.prog.root] 90)).alloc (Obj.cells #[.int .i64 0, .slice none 0 0, .int .i64 0] 118)).alloc (Obj.cells #[.int .i64 x.home, .slice none 0 0, .int .i64 0] 118)).heap[w.heap.size + 1]? = some (Obj.cells #[.int .i64 0, .slice none 0 0, .int .i64 0] 118) := blk_past (blk_at _ _ _ (by simp))
 have k2 : (((w.alloc (Obj.cells #[.int .i64 x.home, .slice a1 x.prog.nodes.length c1, .int .i64 x.prog.root] 90)).alloc (Obj.cells #[.int .i64 0, .slice none 0 0, .int .i64 0] 118)).alloc (Obj.cells #[.int .i64 x.home, .slice none 0 0, .int .i64 0] 118)).heap[w.heap.size + 1 + 1]? = some (Obj.cells #[.int .i64 x.home, .slice none 0 0, .int .i64 0] 118) := blk_at _ _ _ (by simp)
 have hz : w.heap.size + 3 ≤ (((w.alloc (Obj.cells #[.int .i64 x.home, .slice a1 x.prog.nodes.length c1, .int .i64 x.prog.root] 90)).alloc (Obj.cells #[.int .i64 0, .slice none 0 0, .int .i64 0] 118)).alloc (Obj.cells #[.int .i64 x.home, .slice none 0 0, .int .i64 0] 118)).heap.size := by simp
 generalize (((w.alloc (Obj.cells #[.int .i64 x.home, .slice a1 x.prog.nodes.length c1, .int .i64 x.prog.root] 90)).alloc (Obj.cells #[.int .i64 0, .slice none 0 0, .int .i64 0] 118)).alloc (Obj.cells #[.int .i64 x.home, .slice none 0 0, .int .i64 0] 118)) = wA at *
 refine (HC0.out _ hb).mono ?_
 rintro e v0 ⟨cs, rfl, ⟨y0_1, z0_1, rfl, hrows⟩, hv⟩
 obtain ⟨hrow1, hlen0_1⟩ := hrows
 have hb1 : Below w.heap.size w v0 := bT hb hv
 have hsv := hv.size
 have k0 := blk_keep k0 hv (by omega)
 have k1 := blk_keep k1 hv (by omega)
 have k2 := blk_keep k2 hv (by omega)
 have R0_0 : rgN.Row v0 (fun b => w.heap.size + 3 ≤ b ∧ b < v0.heap.size) y0_1 x.prog.nodes := hrow1.keep fun b h => ⟨⟨by have := h.1; omega, h.2⟩, rfl⟩
 clear hb hv hrow1
 have R0_0 : Hid (rgN.Row v0 (fun b => w.heap.size + 3 ≤ b ∧ b < v0.heap.size) y0_1 x.prog.nodes) := R0_0
 obtain ⟨p0, p1, p2⟩ := zn3 k0 rfl rfl rfl
 obtain ⟨o0, o1, o2⟩ := zn3 k2 rfl rfl rfl
 have f1 := frozen_blk k2 1
 have f2 := frozen_blk k2 2
 have s0 := zB 0 k1 rfl
 have l0 := frozen_blk k1 0
 have s1 := zB 1 k1 rfl
 have l1 := frozen_blk k1 1
 have s2 := zB 2 k1 rfl
 have l2 := frozen_blk k1 2
 have K0 : Hid (v0.heap[w.heap.size]? = some (Obj.cells #[.int .i64 x.home, .slice a1 x.prog.nodes.length c1, .int .i64 x.prog.root] 90)) := k0
 have K1 : Hid (v0.heap[w.heap.size + 1]? = some (Obj.cells #[.int .i64 0, .slice none 0 0, .int .i64 0] 118)) := k1
 have K2 : Hid (v0.heap[w.heap.size + 1 + 1]? = some (Obj.cells #[.int .i64 x.home, .slice none 0 0, .int .i64 0] 118)) := k2
 clear k0 k1 k2
 go_wp2
 have K3 : ((v0.setCell ⟨w.heap.size + 1 + 1, 1, none⟩ (.slice y0_1 x.prog.nodes.length z0_1)).setCell ⟨w.heap.size + 1 + 1, 2, none⟩ (.int .i64 x.prog.root)).heap[w.heap.size + 1]? = some (Obj.cells #[.int .i64 0, .slice none 0 0, .int .i64 0] 118) := by
  rw [heap_setCell_other _ _ _ _ (by simp), heap_setCell_other _ _ _ _ (by simp)]; exact K1.out
 refine bodyPost_ret (results_cell_row rfl _ _ (w.heap.size + 1) 118 #[.int .i64 x.home, .slice y0_1 x.prog.nodes.length z0_1, .int .i64 x.prog.root] (0, 0) _ rfl (heap_setCell_same _ _ _ _ _ _ (heap_setCell_same _ _ _ _ _ _ (heap_setCell_same _ _ _ _ _ _ (K3)))) Tryz.underlying118 rfl (by kernel_rfl)) rfl ?_
 have hoth : ∀ b, w.heap.size + 3 ≤ b → (((((v0.setCell ⟨w.heap.size + 1 + 1, 1, none⟩ (.slice y0_1 x.prog.nodes.length z0_1)).setCell ⟨w.heap.size + 1 + 1, 2, none⟩ (.int .i64 x.prog.root)).setCell ⟨w.heap.size + 1, 0, none⟩ (.int .i64 x.home)).setCell ⟨w.heap.size + 1, 1, none⟩ (.slice y0_1 x.prog.nodes.length z0_1)).setCell ⟨w.heap.size + 1, 2, none⟩ (.int .i64 x.prog.root)).heap[b]? = v0.heap[b]? := by
  intro b h
  rw [heap_setCell_other _ _ _ _ (by show b ≠ w.heap.size + 1; omega), heap_setCell_other _ _ _ _ (by show b ≠ w.heap.size + 1; omega), heap_setCell_other _ _ _ _ (by show b ≠ w.heap.size + 1; omega), heap_setCell_other _ _ _ _ (by show b ≠ w.heap.size + 1 + 1; omega), heap_setCell_other _ _ _ _ (by show b ≠ w.heap.size + 1 + 1; omega)]
 exact ⟨_, rfl, ⟨_, _, rfl, ⟨R0_0.out.keep fun b h => ⟨⟨by have := h.1; omega, by have := h.2; simpa using this⟩, hoth b h.1⟩, hlen0_1⟩⟩, ((((hb1.setCell (p := ⟨_, _, none⟩) (by simp <;> omega) _).setCell (p := ⟨_, _, none⟩) (by simp <;> omega) _).setCell (p := ⟨_, _, none⟩) (by simp <;> omega) _).setCell (p := ⟨_, _, none⟩) (by simp <;> omega) _).setCell (p := ⟨_, _, none⟩) (by simp <;> omega) _⟩
theorem Tryz.inf_Unit : (Tryz.prog.info? 118).map (fun i => (i.zero, i.size, i.bytes)) = some (some (.agg #[.int .i64 0, .slice none 0 0, .int .i64 0]), 3, 40) := by kernel_rfl
theorem to_Unit (a : Option Addr) (l : List Unt) (cap : Nat) (w : World) (hn : l.length ≤ 1048576) (hsm : ∀ d ∈ l, Unt.small d) (hr : rgU.Row w (fun b => b < w.heap.size) a l) :
  Calls Tryz.prog 23 #[.slice a l.length cap] w fun e w' => Made rgU l w e w' := by
 obtain ⟨i0, hi, hz0, hz1, hz2⟩ := info_parts Tryz.inf_Unit
 have HR : Hid (rgU.Row w (fun b => b < w.heap.size) a l) := hr
 have HS : Hid (∀ d ∈ l, Unt.small d) := hsm
 clear hr hsm
 go_enter Tryz.func23, Tryz.ntmps23
 go_wp2_with (at_make; refine wpList_make_full _ rfl _ _ 39 rfl w.heap.size 118 i0 _ 3 Tryz.underlying39 hi hz0 hz1 .i64 .i64 _ _ l.length rfl rfl rfl rfl ?c1 ?c2 ?c3 ?_)
 case c1 => rw [hz2]; omega
 case c2 => simp [maxLen]; omega
 case c3 => exact Nat.le_refl _
 intro w1 hown1 hgr1
 go_wp2
 have hb1 : Below w.heap.size w w1 := (Below.refl _ _).grown hgr1 (Nat.le_refl _) (fun _ h => by cases h)
 obtain ⟨hlen, ⟨h0, _⟩ | ⟨g, cp, cur, hv, _, hblk, _, _, hcs, _⟩⟩ := hown1
 ·cases h0
 simp only [Value.slice.injEq, Option.some.injEq, Addr.mk.injEq] at hv
 obtain ⟨⟨rfl, _⟩, _, rfl⟩ := hv
 clear hlen
 go_loopw [4] (fun o wr => ∃ (i : Nat) (cur : Array Value), i ≤ l.length ∧ wr.heap[w.heap.size]? = some (.cells cur 118 (0, 0)) ∧ cur.size = l.length * 3 ∧ Laid rgU wr w.heap.size i l ∧ o = .int .i64 i ∧ Below w.heap.size w wr)
  (fun o _ => l.length - (intOf o).toNat)
 case atStart => exact ⟨0, cur, by omega, hblk, hcs, Laid.zero, rfl, hb1⟩
 case round =>
  clear hblk hcs hb1 hgr1
  obtain ⟨i, cur, hi, hblk, hcs, hat0, rfl, hb⟩ := hrel
  have HA : Hid (Laid rgU wr w.heap.size i l) := hat0
  have HK : Hid (wr.heap[w.heap.size]? = some (.cells cur 118 (0, 0))) := hblk
  have hlt2 : w.heap.size < wr.heap.size := (Array.getElem?_eq_some_iff.1 hblk).1
  clear hat0 hblk
  by_cases hlt : i < l.length
  ·obtain ⟨d, hd⟩ : ∃ d, l[i]? = some d := ⟨_, List.getElem?_eq_getElem hlt⟩
   obtain ⟨b1, o1, cs, rfl, hbb, hat, hlies⟩ := HR.out i d hd
   obtain ⟨a1, c1, rfl, hrows⟩ := hat
   have cx0 : wr.cell? ⟨b1, o1 + i * 3, none⟩ = some (.int .i64 d.home) := cell_keep (hlies 0 _ rfl) hb hbb
   have cx1 : wr.cell? ⟨b1, o1 + i * 3 + 1, none⟩ = some (.slice a1 d.prog.nodes.length c1) := cell_keep (hlies 1 _ rfl) hb hbb
   have cx2 : wr.cell? ⟨b1, o1 + i * 3 + 2, none⟩ = some (.int .i64 d.prog.root) := cell_keep (hlies 2 _ rfl) hb hbb
   have hsz := hb.size
   have HT : Hid (Calls Tryz.prog 52 #[.agg #[.int .i64 d.home, .slice a1 d.prog.nodes.length c1, .int .i64 d.prog.root]] wr fun e w' => MadeE rgU d wr e w') := toE_Unit d a1 c1 wr (HS.out d (List.mem_of_getElem? hd)) (hrows.keep fun b h => ⟨by omega, hb.block b h⟩)
   have HD : Hid (l[i]? = some d) := hd
   clear hlies hd hrows
   go_wp2_with fail
   refine HT.out.mono ?_
   rintro e w2 ⟨cs2, rfl, hat2, hb2⟩
   obtain ⟨a1', c1', rfl, hrows2⟩ := hat2
   have HA2 : Hid (rgU.At w2 (fun b => wr.heap.size ≤ b ∧ b < w2.heap.size) [.int .i64 d.home, .slice a1' d.prog.nodes.length c1', .int .i64 d.prog.root] d) := ⟨a1', c1', rfl, hrows2⟩
   have hk2 := blk_keep HK.out hb2 hlt2
   have f0 := frozen_blk hk2 (i * 3)
   obtain ⟨x0, e0⟩ := cell_blk' hk2 (i * 3) (by omega)
   have f1 := frozen_blk hk2 (i * 3 + 1)
   obtain ⟨x1, e1⟩ := cell_blk' hk2 (i * 3 + 1) (by omega)
   have f2 := frozen_blk hk2 (i * 3 + 2)
   obtain ⟨x2, e2⟩ := cell_blk' hk2 (i * 3 + 2) (by omega)
   have HK2 : Hid (w2.heap[w.heap.size]? = some (.cells cur 118 (0, 0))) := hk2
   have HB2 : Hid (Below wr.heap.size wr w2) := hb2
   clear hk2 HT hb2 hrows2
   go_wp2
   go_roundw
   case rel =>
    have hput : putL w2 w.heap.size (i * 3) [.int .i64 d.home, .slice a1' d.prog.nodes.length c1', .int .i64 d.prog.root] = (((w2.setCell ⟨w.heap.size, i * 3, none⟩ (.int .i64 d.home)).setCell ⟨w.heap.size, i * 3 + 1, none⟩ (.slice a1' d.prog.nodes.length c1')).setCell ⟨w.heap.size, i * 3 + 2, none⟩ (.int .i64 d.prog.root)) := by simp only [putL, Nat.add_assoc, Nat.reduceAdd]
    rw [← hput]
    obtain ⟨ys, hy1, hy2⟩ := putL_blk [.int .i64 d.home, .slice a1' d.prog.nodes.length c1', .int .i64 d.prog.root] (i * 3) HK2.out
    refine ⟨i + 1, ys, by omega, hy1, by omega, HA.out.next HD.out hlt2 HB2.out HA2.out HK2.out (by show i * 3 + 3 ≤ cur.size; omega), by go_num, putL_below [.int .i64 d.home, .slice a1' d.prog.nodes.length c1', .int .i64 d.prog.root] (i * 3) (hb.trans (HB2.out.mono hsz)) (Nat.le_refl _)⟩
   case measure => simp [intOf]; omega
  ·have hlt' : decide ((i : Int) < (l.length : Int)) = false := by simp; omega
   obtain rfl : i = l.length := by omega
   go_wp2
   go_ret
   exact ⟨w.heap.size, rfl, HA.out.row hlt2, hb⟩
theorem toE_Sys (x : Sy) (a1 a2 a3 a4 : Option Addr) (c1 c2 c3 c4 : Nat) (w : World) (hs : x.small) (hr : SyRows w (fun b => b < w.heap.size) a1 a2 a3 a4 c1 c2 c3 c4 x) :
  Calls Tryz.prog 7 #[.agg #[.slice a1 x.heap.length c1, .slice a2 x.insts.length c2, .slice a3 x.units.length c3, .slice a4 x.out.length c4]] w fun e w' => MadeE rgY x w e w' := by
 obtain ⟨u0, u1, u2, u3⟩ := hs
 obtain ⟨⟨r1, t1⟩, ⟨r2, t2⟩, ⟨r3, t3⟩, ⟨r4, t4⟩⟩ := hr
 have HC0 : Hid (∀ w2, Below w.heap.size w w2 → Calls Tryz.prog 21 #[.slice a1 x.heap.length c1] w2 fun e w' => Made rgC x.heap w2 e w') := fun w2 h2 => to_Cell a1 x.heap c1 w2 u0.1 u0.2 (r1.keep fun b h => ⟨by have := h2.size; omega, h2.block b h⟩)
 have HC1 : Hid (∀ w2, Below w.heap.size w w2 → Calls Tryz.prog 22 #[.slice a2 x.insts.length c2] w2 fun e w' => Made rgX x.insts w2 e w') := fun w2 h2 => to_Inst a2 x.insts c2 w2 u1.1 u1.2 (r2.keep fun b h => ⟨by have := h2.size; omega, h2.block b h⟩)
 have HC2 : Hid (∀ w2, Below w.heap.size w w2 → Calls Tryz.prog 23 #[.slice a3 x.units.length c3] w2 fun e w' => Made rgU x.units w2 e w') := fun w2 h2 => to_Unit a3 x.units c3 w2 u2.1 u2.2 (r3.keep fun b h => ⟨by have := h2.size; omega, h2.block b h⟩)
 have HC3 : Hid (∀ w2, Below w.heap.size w w2 → Calls Tryz.prog 24 #[.slice a4 x.out.length c4] w2 fun e w' => Made rgS x.out w2 e w') := fun w2 h2 => to_string a4 x.out c4 w2 u3.1 u3.2 (r4.keep fun b h => ⟨by have := h2.size; omega, h2.block b h⟩)
 clear r1 r2 r3 r4
 go_enter Tryz.func7, Tryz.ntmps7
 go_wp2_with fail
 have hb : Below w.heap.size w (((w.alloc (Obj.cells #[.slice a1 x.heap.length c1, .slice a2 x.insts.length c2, .slice a3 x.units.length c3, .slice a4 x.out.length c4] 27)).alloc (Obj.cells #[.slice none 0 0, .slice none 0 0, .slice none 0 0, .slice none 0 0] 41)).alloc (Obj.cells #[.slice none 0 0, .slice none 0 0, .slice none 0 0, .slice none 0 0] 41)) := ((bR _ _).alloc (by simp) _).alloc (by simp; omega) _
 have k0 : (((w.alloc (Obj.cells #[.slice a1 x.heap.length c1, .slice a2 x.insts.length c2, .slice a3 x.units.length c3, .slice a4 x.out.length c4] 27)).alloc (Obj.cells #[.slice none 0 0, .slice none 0 0, .slice none 0 0, .slice none 0 0] 41)).alloc (Obj.cells #[.slice none 0 0, .slice none 0 0, .slice none 0 0, .slice none 0 0] 41)).heap[w.heap.size]? = some (Obj.cells #[.slice a1 x.heap.length c1, .slice a2 x.insts.length c2, .slice a3 x.units.length c3, .slice a4 x.out.length c4] 27) := blk_past (blk_past (blk_at _ _ _ rfl))
 have k1 : (((w.alloc (Obj.cells #[.slice a1 x.heap.length c1, .slice a2 x.insts.length c2, .slice a3 x.units.length c3, .slice a4 x.out.length c4] 27)).alloc (Obj.cells #[.slice none 0 0, .slice none 0 0, .slice none 0 0, .slice none 0 0] 41)).alloc (Obj.cells #[.slice none 0 0, .slice none 0 0, .slice none 0 0, .slice none 0 0] 41)).heap[w.heap.size + 1]? = some (Obj.cells #[.slice none 0 0, .slice none 0 0, .slice none 0 0, .slice none 0 0] 41) := blk_past (blk_at _ _ _ (by simp))
 have k2 : (((w.alloc (Obj.cells #[.slice a1 x.heap.length c1, .slice a2 x.insts.length c2, .slice a3 x.units.length c3, .slice a4 x.out.length c4] 27)).alloc (Obj.cells #[.slice none 0 0, .slice none 0 0, .slice none 0 0, .slice none 0 0] 41)).alloc (Obj.cells #[.slice none 0 0, .slice none 0 0, .slice none 0 0, .slice none 0 0] 41)).heap[w.heap.size + 1 + 1]? = some (Obj.cells #[.slice none 0 0, .slice none 0 0, .slice none 0 0, .slice none 0 0] 41) := blk_at _ _ _ (by simp)
 have hz : w.heap.size + 3 ≤ (((w.alloc (Obj.cells #[.slice a1 x.heap.length c1, .slice a2 x.insts.length c2, .slice a3 x.units.length c3, .slice a4 x.out.length c4] 27)).alloc (Obj.cells #[.slice none 0 0, .slice none 0 0, .slice none 0 0, .slice none 0 0] 41)).alloc (Obj.cells #[.slice none 0 0, .slice none 0 0, .slice none 0 0, .slice none 0 0] 41)).heap.size := by simp
 generalize (((w.alloc (Obj.cells #[.slice a1 x.heap.length c1, .slice a2 x.insts.length c2, .slice a3 x.units.length c3, .slice a4 x.out.length c4] 27)).alloc (Obj.cells #[.slice none 0 0, .slice none 0 0, .slice none 0 0, .slice none 0 0] 41)).alloc (Obj.cells #[.slice none 0 0, .slice none 0 0, .slice none 0 0, .slice none 0 0] 41)) = wA at *
 refine (HC0.out _ hb).mono ?_
 rintro e v0 ⟨g0, rfl, hrow, hv⟩
 have hb1 : Below w.heap.size w v0 := bT hb hv
 have hsv := hv.size
 have k0 := blk_keep k0 hv (by omega)
 have k1 := blk_keep k1 hv (by omega)
 have k2 := blk_keep k2 hv (by omega)
 have R0_0 : rgC.Row v0 (fun b => w.heap.size + 3 ≤ b ∧ b < v0.heap.size) (some ⟨g0, 0, none⟩) x.heap := hrow.keep fun b h => ⟨⟨by have := h.1; omega, h.2⟩, rfl⟩
 clear hb hv hrow
 have R0_0 : Hid (rgC.Row v0 (fun b => w.heap.size + 3 ≤ b ∧ b < v0.heap.size) (some ⟨g0, 0, none⟩) x.heap) := R0_0
 obtain ⟨p0, p1, p2, p3⟩ := zn4 k0 rfl rfl rfl rfl
 obtain ⟨o0, o1, o2, o3⟩ := zn4 k2 rfl rfl rfl rfl
 have f0 := frozen_blk k2 0
 have K0 : Hid (v0.heap[w.heap.size]? = some (Obj.cells #[.slice a1 x.heap.length c1, .slice a2 x.insts.length c2, .slice a3 x.units.length c3, .slice a4 x.out.length c4] 27)) := k0
 have K1 : Hid (v0.heap[w.heap.size + 1]? = some (Obj.cells #[.slice none 0 0, .slice none 0 0, .slice none 0 0, .slice none 0 0] 41)) := k1
 have K2 : Hid (v0.heap[w.heap.size + 1 + 1]? = some (Obj.cells #[.slice none 0 0, .slice none 0 0, .slice none 0 0, .slice none 0 0] 41)) := k2
 clear k0 k1 k2
 go_wp2_with fail
 have k0 : (v0.setCell ⟨w.heap.size + 1 + 1, 0, none⟩ (.slice (some ⟨g0, 0, none⟩) x.heap.length x.heap.length)).heap[w.heap.size]? = some (Obj.cells #[.slice a1 x.heap.length c1, .slice a2 x.insts.length c2, .slice a3 x.units.length c3, .slice a4 x.out.length c4] 27) := by
  rw [heap_setCell_other _ _ _ _ (by simp; try omega)]; exact K0.out
 have k1 : (v0.setCell ⟨w.heap.size + 1 + 1, 0, none⟩ (.slice (some ⟨g0, 0, none⟩) x.heap.length x.heap.length)).heap[w.heap.size + 1]? = some (Obj.cells #[.slice none 0 0, .slice none 0 0, .slice none 0 0, .slice none 0 0] 41) := by
  rw [heap_setCell_other _ _ _ _ (by simp)]; exact K1.out
 have k2 : (v0.setCell ⟨w.heap.size + 1 + 1, 0, none⟩ (.slice (some ⟨g0, 0, none⟩) x.heap.length x.heap.length)).heap[w.heap.size + 1 + 1]? = some (Obj.cells #[.slice (some ⟨g0, 0, none⟩) x.heap.length x.heap.length, .slice none 0 0, .slice none 0 0, .slice none 0 0] 41) := heap_setCell_same _ _ _ _ _ _ (K2.out)
 have hb : Below w.heap.size w (v0.setCell ⟨w.heap.size + 1 + 1, 0, none⟩ (.slice (some ⟨g0, 0, none⟩) x.heap.length x.heap.length)) := hb1.setCell (p := ⟨_, _, none⟩) (by simp; omega) _
 have hz : w.heap.size + 3 ≤ (v0.setCell ⟨w.heap.size + 1 + 1, 0, none⟩ (.slice (some ⟨g0, 0, none⟩) x.heap.length x.heap.length)).heap.size := by simp; omega
 have R0_0 : Hid (rgC.Row (v0.setCell ⟨w.heap.size + 1 + 1, 0, none⟩ (.slice (some ⟨g0, 0, none⟩) x.heap.length x.heap.length)) (fun b => w.heap.size + 3 ≤ b ∧ b < (v0.setCell ⟨w.heap.size + 1 + 1, 0, none⟩ (.slice (some ⟨g0, 0, none⟩) x.heap.length x.heap.length)).heap.size) (some ⟨g0, 0, none⟩) x.heap) := R0_0.out.keep fun b h => ⟨⟨h.1, by have := h.2; simpa using this⟩, by rw [heap_setCell_other _ _ _ _ (by have := h.1; show b ≠ w.heap.size + 1 + 1; omega)]⟩
 clear K0 K1 K2 hb1 hsv p0 o0 p1 o1 p2 o2 p3 o3 f0
 generalize (v0.setCell ⟨w.heap.size + 1 + 1, 0, none⟩ (.slice (some ⟨g0, 0, none⟩) x.heap.length x.heap.length)) = w0A at *
 refine (HC1.out _ hb).mono ?_
 rintro e v1 ⟨g1, rfl, hrow, hv⟩
 have hb1 : Below w.heap.size w v1 := bT hb hv
 have hsv := hv.size
 have k0 := blk_keep k0 hv (by omega)
 have k1 := blk_keep k1 hv (by omega)
 have k2 := blk_keep k2 hv (by omega)
 have R0_0 : rgC.Row v1 (fun b => w.heap.size + 3 ≤ b ∧ b < v1.heap.size) (some ⟨g0, 0, none⟩) x.heap := R0_0.out.keep fun b h => ⟨⟨h.1, by have := h.2; omega⟩, hv.block b h.2⟩
 have R1_0 : rgX.Row v1 (fun b => w.heap.size + 3 ≤ b ∧ b < v1.heap.size) (some ⟨g1, 0, none⟩) x.insts := hrow.keep fun b h => ⟨⟨by have := h.1; omega, h.2⟩, rfl⟩
 clear hb hv hrow
 have R0_0 : Hid (rgC.Row v1 (fun b => w.heap.size + 3 ≤ b ∧ b < v1.heap.size) (some ⟨g0, 0, none⟩) x.heap) := R0_0
 have R1_0 : Hid (rgX.Row v1 (fun b => w.heap.size + 3 ≤ b ∧ b < v1.heap.size) (some ⟨g1, 0, none⟩) x.insts) := R1_0
 obtain ⟨p0, p1, p2, p3⟩ := zn4 k0 rfl rfl rfl rfl
 obtain ⟨o0, o1, o2, o3⟩ := zn4 k2 rfl rfl rfl rfl
 have f1 := frozen_blk k2 1
 have K0 : Hid (v1.heap[w.heap.size]? = some (Obj.cells #[.slice a1 x.heap.length c1, .slice a2 x.insts.length c2, .slice a3 x.units.length c3, .slice a4 x.out.length c4] 27)) := k0
 have K1 : Hid (v1.heap[w.heap.size + 1]? = some (Obj.cells #[.slice none 0 0, .slice none 0 0, .slice none 0 0, .slice none 0 0] 41)) := k1
 have K2 : Hid (v1.heap[w.heap.size + 1 + 1]? = some (Obj.cells #[.slice (some ⟨g0, 0, none⟩) x.heap.length x.heap.length, .slice none 0 0, .slice none 0 0, .slice none 0 0] 41)) := k2
 clear k0 k1 k2
 go_wp2_with fail
 have k0 : (v1.setCell ⟨w.heap.size + 1 + 1, 1, none⟩ (.slice (some ⟨g1, 0, none⟩) x.insts.length x.insts.length)).heap[w.heap.size]? = some (Obj.cells #[.slice a1 x.heap.length c1, .slice a2 x.insts.length c2, .slice a3 x.units.length c3, .slice a4 x.out.length c4] 27) := by
  rw [heap_setCell_other _ _ _ _ (by simp; try omega)]; exact K0.out
 have k1 : (v1.setCell ⟨w.heap.size + 1 + 1, 1, none⟩ (.slice (some ⟨g1, 0, none⟩) x.insts.length x.insts.length)).heap[w.heap.size + 1]? = some (Obj.cells #[.slice none 0 0, .slice none 0 0, .slice none 0 0, .slice none 0 0] 41) := by
  rw [heap_setCell_other _ _ _ _ (by simp)]; exact K1.out
 have k2 : (v1.setCell ⟨w.heap.size + 1 + 1, 1, none⟩ (.slice (some ⟨g1, 0, none⟩) x.insts.length x.insts.length)).heap[w.heap.size + 1 + 1]? = some (Obj.cells #[.slice (some ⟨g0, 0, none⟩) x.heap.length x.heap.length, .slice (some ⟨g1, 0, none⟩) x.insts.length x.insts.length, .slice none 0 0, .slice none 0 0] 41) := heap_setCell_same _ _ _ _ _ _ (K2.out)
 have hb : Below w.heap.size w (v1.setCell ⟨w.heap.size + 1 + 1, 1, none⟩ (.slice (some ⟨g1, 0, none⟩) x.insts.length x.insts.length)) := hb1.setCell (p := ⟨_, _, none⟩) (by simp; omega) _
 have hz : w.heap.size + 3 ≤ (v1.setCell ⟨w.heap.size + 1 + 1, 1, none⟩ (.slice (some ⟨g1, 0, none⟩) x.insts.length x.insts.length)).heap.size := by simp; omega
 have R0_0 : Hid (rgC.Row (v1.setCell ⟨w.heap.size + 1 + 1, 1, none⟩ (.slice (some ⟨g1, 0, none⟩) x.insts.length x.insts.length)) (fun b => w.heap.size + 3 ≤ b ∧ b < (v1.setCell ⟨w.heap.size + 1 + 1, 1, none⟩ (.slice (some ⟨g1, 0, none⟩) x.insts.length x.insts.length)).heap.size) (some ⟨g0, 0, none⟩) x.heap) := R0_0.out.keep fun b h => ⟨⟨h.1, by have := h.2; simpa using this⟩, by rw [heap_setCell_other _ _ _ _ (by have := h.1; show b ≠ w.heap.size + 1 + 1; omega)]⟩
 have R1_0 : Hid (rgX.Row (v1.setCell ⟨w.heap.size + 1 + 1, 1, none⟩ (.slice (some ⟨g1, 0, none⟩) x.insts.length x.insts.length)) (fun b => w.heap.size + 3 ≤ b ∧ b < (v1.setCell ⟨w.heap.size + 1 + 1, 1, none⟩ (.slice (some ⟨g1, 0, none⟩) x.insts.length x.insts.length)).heap.size) (some ⟨g1, 0, none⟩) x.insts) := R1_0.out.keep fun b h => ⟨⟨h.1, by have := h.2; simpa using this⟩, by rw [heap_setCell_other _ _ _ _ (by have := h.1; show b ≠ w.heap.size + 1 + 1; omega)]⟩
 clear K0 K1 K2 hb1 hsv p0 o0 p1 o1 p2 o2 p3 o3 f1
 generalize (v1.setCell ⟨w.heap.size + 1 + 1, 1, none⟩ (.slice (some ⟨g1, 0, none⟩) x.insts.length x.insts.length)) = w1A at *
 refine (HC2.out _ hb).mono ?_
 rintro e v2 ⟨g2, rfl, hrow, hv⟩
 have hb1 : Below w.heap.size w v2 := bT hb hv
 have hsv := hv.size
 have k0 := blk_keep k0 hv (by omega)
 have k1 := blk_keep k1 hv (by omega)
 have k2 := blk_keep k2 hv (by omega)
 have R0_0 : rgC.Row v2 (fun b => w.heap.size + 3 ≤ b ∧ b < v2.heap.size) (some ⟨g0, 0, none⟩) x.heap := R0_0.out.keep fun b h => ⟨⟨h.1, by have := h.2; omega⟩, hv.block b h.2⟩
 have R1_0 : rgX.Row v2 (fun b => w.heap.size + 3 ≤ b ∧ b < v2.heap.size) (some ⟨g1, 0, none⟩) x.insts := R1_0.out.keep fun b h => ⟨⟨h.1, by have := h.2; omega⟩, hv.block b h.2⟩
 have R2_0 : rgU.Row v2 (fun b => w.heap.size + 3 ≤ b ∧ b < v2.heap.size) (some ⟨g2, 0, none⟩) x.units := hrow.keep fun b h => ⟨⟨by have := h.1; omega, h.2⟩, rfl⟩
 clear hb hv hrow
 have R0_0 : Hid (rgC.Row v2 (fun b => w.heap.size + 3 ≤ b ∧ b < v2.heap.size) (some ⟨g0, 0, none⟩) x.heap) := R0_0
 have R1_0 : Hid (rgX.Row v2 (fun b => w.heap.size + 3 ≤ b ∧ b < v2.heap.size) (some ⟨g1, 0, none⟩) x.insts) := R1_0
 have R2_0 : Hid (rgU.Row v2 (fun b => w.heap.size + 3 ≤ b ∧ b < v2.heap.size) (some ⟨g2, 0, none⟩) x.units) := R2_0
 obtain ⟨p0, p1, p2, p3⟩ := zn4 k0 rfl rfl rfl rfl
 obtain ⟨o0, o1, o2, o3⟩ := zn4 k2 rfl rfl rfl rfl
 have f2 := frozen_blk k2 2
 have K0 : Hid (v2.heap[w.heap.size]? = some (Obj.cells #[.slice a1 x.heap.length c1, .slice a2 x.insts.length c2, .slice a3 x.units.length c3, .slice a4 x.out.length c4] 27)) := k0
 have K1 : Hid (v2.heap[w.heap.size + 1]? = some (Obj.cells #[.slice none 0 0, .slice none 0 0, .slice none 0 0, .slice none 0 0] 41)) := k1
 have K2 : Hid (v2.heap[w.heap.size + 1 + 1]? = some (Obj.cells #[.slice (some ⟨g0, 0, none⟩) x.heap.length x.heap.length, .slice (some ⟨g1, 0, none⟩) x.insts.length x.insts.length, .slice none 0 0, .slice none 0 0] 41)) := k2
 clear k0 k1 k2
 go_wp2_with fail
 have k0 : (v2.setCell ⟨w.heap.size + 1 + 1, 2, none⟩ (.slice (some ⟨g2, 0, none⟩) x.units.length x.units.length)).heap[w.heap.size]? = some (Obj.cells #[.slice a1 x.heap.length c1, .slice a2 x.insts.length c2, .slice a3 x.units.length c3, .slice a4 x.out.length c4] 27) := by
  rw [heap_setCell_other _ _ _ _ (by simp; try omega)]; exact K0.out
 have k1 : (v2.setCell ⟨w.heap.size + 1 + 1, 2, none⟩ (.slice (some ⟨g2, 0, none⟩) x.units.length x.units.length)).heap[w.heap.size + 1]? = some (Obj.cells #[.slice none 0 0, .slice none 0 0, .slice none 0 0, .slice none 0 0] 41) := by
  rw [heap_setCell_other _ _ _ _ (by simp)]; exact K1.out
 have k2 : (v2.setCell ⟨w.heap.size + 1 + 1, 2, none⟩ (.slice (some ⟨g2, 0, none⟩) x.units.length x.units.length)).heap[w.heap.size + 1 + 1]? = some (Obj.cells #[.slice (some ⟨g0, 0, none⟩) x.heap.length x.heap.length, .slice (some ⟨g1, 0, none⟩) x.insts.length x.insts.length, .slice (some ⟨g2, 0, none⟩) x.units.length x.units.length, .slice none 0 0] 41) := heap_setCell_same _ _ _ _ _ _ (K2.out)
 have hb : Below w.heap.size w (v2.setCell ⟨w.heap.size + 1 + 1, 2, none⟩ (.slice (some ⟨g2, 0, none⟩) x.units.length x.units.length)) := hb1.setCell (p := ⟨_, _, none⟩) (by simp; omega) _
 have hz : w.heap.size + 3 ≤ (v2.setCell ⟨w.heap.size + 1 + 1, 2, none⟩ (.slice (some ⟨g2, 0, none⟩) x.units.length x.units.length)).heap.size := by simp; omega
 have R0_0 : Hid (rgC.Row (v2.setCell ⟨w.heap.size + 1 + 1, 2, none⟩ (.slice (some ⟨g2, 0, none⟩) x.units.length x.units.length)) (fun b => w.heap.size + 3 ≤ b ∧ b < (v2.setCell ⟨w.heap.size + 1 + 1, 2, none⟩ (.slice (some ⟨g2, 0, none⟩) x.units.length x.units.length)).heap.size) (some ⟨g0, 0, none⟩) x.heap) := R0_0.out.keep fun b h => ⟨⟨h.1, by have := h.2; simpa using this⟩, by rw [heap_setCell_other _ _ _ _ (by have := h.1; show b ≠ w.heap.size + 1 + 1; omega)]⟩
 have R1_0 : Hid (rgX.Row (v2.setCell ⟨w.heap.size + 1 + 1, 2, none⟩ (.slice (some ⟨g2, 0, none⟩) x.units.length x.units.length)) (fun b => w.heap.size + 3 ≤ b ∧ b < (v2.setCell ⟨w.heap.size + 1 + 1, 2, none⟩ (.slice (some ⟨g2, 0, none⟩) x.units.length x.units.length)).heap.size) (some ⟨g1, 0, none⟩) x.insts) := R1_0.out.keep fun b h => ⟨⟨h.1, by have := h.2; simpa using this⟩, by rw [heap_setCell_other _ _ _ _ (by have := h.1; show b ≠ w.heap.size + 1 + 1; omega)]⟩
 have R2_0 : Hid (rgU.Row (v2.setCell ⟨w.heap.size + 1 + 1, 2, none⟩ (.slice (some ⟨g2, 0, none⟩) x.units.length x.units.length)) (fun b => w.heap.size + 3 ≤ b ∧ b < (v2.setCell ⟨w.heap.size + 1 + 1, 2, none⟩ (.slice (some ⟨g2, 0, none⟩) x.units.length x.units.length)).heap.size) (some ⟨g2, 0, none⟩) x.units) := R2_0.out.keep fun b h => ⟨⟨h.1, by have := h.2; simpa using this⟩, by rw [heap_setCell_other _ _ _ _ (by have := h.1; show b ≠ w.heap.size + 1 + 1; omega)]⟩
 clear K0 K1 K2 hb1 hsv p0 o0 p1 o1 p2 o2 p3 o3 f2
 generalize (v2.setCell ⟨w.heap.size + 1 + 1, 2, none⟩ (.slice (some ⟨g2, 0, none⟩) x.units.length x.units.length)) = w2A at *
 refine (HC3.out _ hb).mono ?_
 rintro e v3 ⟨g3, rfl, hrow, hv⟩
 have hb1 : Below w.heap.size w v3 := bT hb hv
 have hsv := hv.size
 have k0 := blk_keep k0 hv (by omega)
 have k1 := blk_keep k1 hv (by omega)
 have k2 := blk_keep k2 hv (by omega)
 have R0_0 : rgC.Row v3 (fun b => w.heap.size + 3 ≤ b ∧ b < v3.heap.size) (some ⟨g0, 0, none⟩) x.heap := R0_0.out.keep fun b h => ⟨⟨h.1, by have := h.2; omega⟩, hv.block b h.2⟩
 have R1_0 : rgX.Row v3 (fun b => w.heap.size + 3 ≤ b ∧ b < v3.heap.size) (some ⟨g1, 0, none⟩) x.insts := R1_0.out.keep fun b h => ⟨⟨h.1, by have := h.2; omega⟩, hv.block b h.2⟩
 have R2_0 : rgU.Row v3 (fun b => w.heap.size + 3 ≤ b ∧ b < v3.heap.size) (some ⟨g2, 0, none⟩) x.units := R2_0.out.keep fun b h => ⟨⟨h.1, by have := h.2; omega⟩, hv.block b h.2⟩
 have R3_0 : rgS.Row v3 (fun b => w.heap.size + 3 ≤ b ∧ b < v3.heap.size) (some ⟨g3, 0, none⟩) x.out := hrow.keep fun b h => ⟨⟨by have := h.1; omega, h.2⟩, rfl⟩
 clear hb hv hrow
 have R0_0 : Hid (rgC.Row v3 (fun b => w.heap.size + 3 ≤ b ∧ b < v3.heap.size) (some ⟨g0, 0, none⟩) x.heap) := R0_0
 have R1_0 : Hid (rgX.Row v3 (fun b => w.heap.size + 3 ≤ b ∧ b < v3.heap.size) (some ⟨g1, 0, none⟩) x.insts) := R1_0
 have R2_0 : Hid (rgU.Row v3 (fun b => w.heap.size + 3 ≤ b ∧ b < v3.heap.size) (some ⟨g2, 0, none⟩) x.units) := R2_0
 have R3_0 : Hid (rgS.Row v3 (fun b => w.heap.size + 3 ≤ b ∧ b < v3.heap.size) (some ⟨g3, 0, none⟩) x.out) := R3_0
 obtain ⟨p0, p1, p2, p3⟩ := zn4 k0 rfl rfl rfl rfl
 obtain ⟨o0, o1, o2, o3⟩ := zn4 k2 rfl rfl rfl rfl
 have f3 := frozen_blk k2 3
 have s0 := zB 0 k1 rfl
 have l0 := frozen_blk k1 0
 have s1 := zB 1 k1 rfl
 have l1 := frozen_blk k1 1
 have s2 := zB 2 k1 rfl
 have l2 := frozen_blk k1 2
 have s3 := zB 3 k1 rfl
 have l3 := frozen_blk k1 3
 have K0 : Hid (v3.heap[w.heap.size]? = some (Obj.cells #[.slice a1 x.heap.length c1, .slice a2 x.insts.length c2, .slice a3 x.units.length c3, .slice a4 x.out.length c4] 27)) := k0
 have K1 : Hid (v3.heap[w.heap.size + 1]? = some (Obj.cells #[.slice none 0 0, .slice none 0 0, .slice none 0 0, .slice none 0 0] 41)) := k1
 have K2 : Hid (v3.heap[w.heap.size + 1 + 1]? = some (Obj.cells #[.slice (some ⟨g0, 0, none⟩) x.heap.length x.heap.length, .slice (some ⟨g1, 0, none⟩) x.insts.length x.insts.length, .slice (some ⟨g2, 0, none⟩) x.units.length x.units.length, .slice none 0 0] 41)) := k2
 clear k0 k1 k2
 go_wp2
 have K3 : (v3.setCell ⟨w.heap.size + 1 + 1, 3, none⟩ (.slice (some ⟨g3, 0, none⟩) x.out.length x.out.length)).heap[w.heap.size + 1]? = some (Obj.cells #[.slice none 0 0, .slice none 0 0, .slice none 0 0, .slice none 0 0] 41) := by
  rw [heap_setCell_other _ _ _ _ (by simp)]; exact K1.out
 refine bodyPost_ret (results_cell_row rfl _ _ (w.heap.size + 1) 41 #[.slice (some ⟨g0, 0, none⟩) x.heap.length x.heap.length, .slice (some ⟨g1, 0, none⟩) x.insts.length x.insts.length, .slice (some ⟨g2, 0, none⟩) x.units.length x.units.length, .slice (some ⟨g3, 0, none⟩) x.out.length x.out.length] (0, 0) _ rfl (heap_setCell_same _ _ _ _ _ _ (heap_setCell_same _ _ _ _ _ _ (heap_setCell_same _ _ _ _ _ _ (heap_setCell_same _ _ _ _ _ _ (K3))))) Tryz.underlying41 rfl (by kernel_rfl)) rfl ?_
 have hoth : ∀ b, w.heap.size + 3 ≤ b → (((((v3.setCell ⟨w.heap.size + 1 + 1, 3, none⟩ (.slice (some ⟨g3, 0, none⟩) x.out.length x.out.length)).setCell ⟨w.heap.size + 1, 0, none⟩ (.slice (some ⟨g0, 0, none⟩) x.heap.length x.heap.length)).setCell ⟨w.heap.size + 1, 1, none⟩ (.slice (some ⟨g1, 0, none⟩) x.insts.length x.insts.length)).setCell ⟨w.heap.size + 1, 2, none⟩ (.slice (some ⟨g2, 0, none⟩) x.units.length x.units.length)).setCell ⟨w.heap.size + 1, 3, none⟩ (.slice (some ⟨g3, 0, none⟩) x.out.length x.out.length)).heap[b]? = v3.heap[b]? := by
  intro b h
  rw [heap_setCell_other _ _ _ _ (by show b ≠ w.heap.size + 1; omega), heap_setCell_other _ _ _ _ (by show b ≠ w.heap.size + 1; omega), heap_setCell_other _ _ _ _ (by show b ≠ w.heap.size + 1; omega), heap_setCell_other _ _ _ _ (by show b ≠ w.heap.size + 1; omega), heap_setCell_other _ _ _ _ (by show b ≠ w.heap.size + 1 + 1; omega)]
 exact ⟨_, rfl, ⟨_, _, _, _, _, _, _, _, rfl, ⟨⟨R0_0.out.keep fun b h => ⟨⟨by have := h.1; omega, by have := h.2; simpa using this⟩, hoth b h.1⟩, Nat.le_refl _⟩, ⟨R1_0.out.keep fun b h => ⟨⟨by have := h.1; omega, by have := h.2; simpa using this⟩, hoth b h.1⟩, Nat.le_refl _⟩, ⟨R2_0.out.keep fun b h => ⟨⟨by have := h.1; omega, by have := h.2; simpa using this⟩, hoth b h.1⟩, Nat.le_refl _⟩, ⟨R3_0.out.keep fun b h => ⟨⟨by have := h.1; omega, by have := h.2; simpa using this⟩, hoth b h.1⟩, Nat.le_refl _⟩⟩⟩, ((((hb1.setCell (p := ⟨_, _, none⟩) (by simp <;> omega) _).setCell (p := ⟨_, _, none⟩) (by simp <;> omega) _).setCell (p := ⟨_, _, none⟩) (by simp <;> omega) _).setCell (p := ⟨_, _, none⟩) (by simp <;> omega) _).setCell (p := ⟨_, _, none⟩) (by simp <;> omega) _⟩
end Go.Proofs.YtlacidojljilaaaGreatDoor
