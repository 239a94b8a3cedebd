/- A system that comes in, copied. -/
import Derived.Test.YtddcoegcpoapcaaSyp
import Derived.Test.YtddcoegcpoapcaaToc
import Derived.Test.YtddcoegcpoapcaaTpx
import Derived.Test.YtddcoegcpoapcaaSzc
set_option linter.unusedVariables false
namespace Go.Proofs.Ytddcoegcpoapcaa
open Go.ChangeShapes Go.WideShapes Go.ChangeAt Go.RowKit
theorem to_string (a : Option Addr) (l : List ByteArray) (cap : Nat) (w : World) (hn : l.length ≤ 1048576) (hsm : ∀ d ∈ l, smS d) (hr : rgS.Row w (fun b => b < w.heap.size) a l) :
    Calls Try.prog 21 #[.slice a l.length cap] w fun e w' => Made rgS l w e w' :=
  (toStringS_any a l cap w hn (rowS_iff.1 hr)).mono fun e w' ⟨g, he, h1, h2, hrow, hb⟩ => ⟨g, he, rowSP_iff.2 (hrow.keep fun b hbg => ⟨⟨by have : b = g := hbg; omega, by have : b = g := hbg; omega⟩, rfl⟩), hb⟩
theorem to_Node (a : Option Addr) (l : List Nod) (cap : Nat) (w : World) (hn : l.length ≤ 1048576) (hsm : ∀ d ∈ l, Nod.small d) (hr : rgN.Row w (fun b => b < w.heap.size) a l) :
    Calls Try.prog 74 #[.slice a l.length cap] w fun e w' => Made rgN l w e w' :=
  (toNodeS_any a l cap w hn (rowN_iff.1 hr) hsm).mono fun e w' ⟨g, he, h1, h2, hrow, hb⟩ => ⟨g, he, rowN_of_at ⟨h1, h2⟩ fun j d hj => by
    rw [Nat.zero_add]
    exact (hrow j d hj).keep rfl fun b hb' => ⟨⟨by have := hb'.1; omega, hb'.2⟩, rfl⟩, hb⟩
set_option maxRecDepth 100000 in
set_option maxHeartbeats 2000000 in
theorem toE_Prog (x : Prg) (a1 : Option Addr) (c1 : Nat) (w : World) (hs : x.small) (hr : PrgRows w (fun b => b < w.heap.size) a1 c1 x) :
    Calls Try.prog 62 #[.agg #[.slice a1 x.nodes.length c1, .int .i64 x.root]] w fun e w' => MadeE rgP x w e w' := by
  obtain ⟨u0, u1⟩ := hs
  obtain ⟨r1, t1⟩ := hr
  have HC0 : Hid (∀ w2, Below w.heap.size w w2 → Calls Try.prog 74 #[.slice a1 x.nodes.length c1] w2 fun e w' => Made rgN x.nodes w2 e w') := fun w2 h2 => to_Node a1 x.nodes c1 w2 u0.1 u0.2 (r1.keep fun b h => ⟨by have := h2.size; omega, h2.block b h⟩)
  clear r1
  go_enter Try.func62, Try.ntmps62
  go_wp2_with fail
  have hb : Below w.heap.size w (((w.alloc (Obj.cells #[.slice a1 x.nodes.length c1, .int .i64 x.root] 63)).alloc (Obj.cells #[.slice none 0 0, .int .i64 0] 49)).alloc (Obj.cells #[.slice none 0 0, .int .i64 0] 49)) := (((Below.refl _ _).alloc (Nat.le_refl _) _).alloc (by simp) _).alloc (by simp; omega) _
  have k0 : (((w.alloc (Obj.cells #[.slice a1 x.nodes.length c1, .int .i64 x.root] 63)).alloc (Obj.cells #[.slice none 0 0, .int .i64 0] 49)).alloc (Obj.cells #[.slice none 0 0, .int .i64 0] 49)).heap[w.heap.size]? = some (Obj.cells #[.slice a1 x.nodes.length c1, .int .i64 x.root] 63) := blk_past (blk_past (blk_at _ _ _ rfl))
  have k1 : (((w.alloc (Obj.cells #[.slice a1 x.nodes.length c1, .int .i64 x.root] 63)).alloc (Obj.cells #[.slice none 0 0, .int .i64 0] 49)).alloc (Obj.cells #[.slice none 0 0, .int .i64 0] 49)).heap[w.heap.size + 1]? = some (Obj.cells #[.slice none 0 0, .int .i64 0] 49) := blk_past (blk_at _ _ _ (by simp))
  have k2 : (((w.alloc (Obj.cells #[.slice a1 x.nodes.length c1, .int .i64 x.root] 63)).alloc (Obj.cells #[.slice none 0 0, .int .i64 0] 49)).alloc (Obj.cells #[.slice none 0 0, .int .i64 0] 49)).heap[w.heap.size + 1 + 1]? = some (Obj.cells #[.slice none 0 0, .int .i64 0] 49) := blk_at _ _ _ (by simp)
  have hz : w.heap.size + 3 ≤ (((w.alloc (Obj.cells #[.slice a1 x.nodes.length c1, .int .i64 x.root] 63)).alloc (Obj.cells #[.slice none 0 0, .int .i64 0] 49)).alloc (Obj.cells #[.slice none 0 0, .int .i64 0] 49)).heap.size := by simp
  generalize (((w.alloc (Obj.cells #[.slice a1 x.nodes.length c1, .int .i64 x.root] 63)).alloc (Obj.cells #[.slice none 0 0, .int .i64 0] 49)).alloc (Obj.cells #[.slice none 0 0, .int .i64 0] 49)) = wA at *
  refine (HC0.out _ hb).mono ?_
  rintro e v0 ⟨g0, rfl, hrow, hv⟩
  have hb1 : Below w.heap.size w v0 := hb.trans (hv.mono hb.size)
  have hsv := hv.size
  have k0 := blk_keep k0 hv (by omega)
  have k1 := blk_keep k1 hv (by omega)
  have k2 := blk_keep k2 hv (by omega)
  have R0_0 : rgN.Row v0 (fun b => w.heap.size + 3 ≤ b ∧ b < v0.heap.size) (some ⟨g0, 0, none⟩) x.nodes := hrow.keep fun b h => ⟨⟨by have := h.1; omega, h.2⟩, rfl⟩
  clear hb hv hrow
  have R0_0 : Hid (rgN.Row v0 (fun b => w.heap.size + 3 ≤ b ∧ b < v0.heap.size) (some ⟨g0, 0, none⟩) x.nodes) := R0_0
  have p0 := cell_blk (j := 0) k0 rfl
  have p1 := cell_blk (j := 1) k0 rfl
  have o0 := cell_blk (j := 0) k2 rfl
  have o1 := cell_blk (j := 1) k2 rfl
  have f0 := frozen_blk k2 0
  have f1 := frozen_blk k2 1
  have s0 := cell_blk (j := 0) k1 rfl
  have l0 := frozen_blk k1 0
  have s1 := cell_blk (j := 1) k1 rfl
  have l1 := frozen_blk k1 1
  have K0 : Hid (v0.heap[w.heap.size]? = some (Obj.cells #[.slice a1 x.nodes.length c1, .int .i64 x.root] 63)) := k0
  have K1 : Hid (v0.heap[w.heap.size + 1]? = some (Obj.cells #[.slice none 0 0, .int .i64 0] 49)) := k1
  have K2 : Hid (v0.heap[w.heap.size + 1 + 1]? = some (Obj.cells #[.slice none 0 0, .int .i64 0] 49)) := k2
  clear k0 k1 k2
  go_wp2
  have K3 : ((v0.setCell ⟨w.heap.size + 1 + 1, 0, none⟩ (.slice (some ⟨g0, 0, none⟩) x.nodes.length x.nodes.length)).setCell ⟨w.heap.size + 1 + 1, 1, none⟩ (.int .i64 x.root)).heap[w.heap.size + 1]? = some (Obj.cells #[.slice none 0 0, .int .i64 0] 49) := by
    rw [heap_setCell_other _ _ _ _ (by simp), heap_setCell_other _ _ _ _ (by simp)]; exact K1.out
  refine bodyPost_ret (results_cell_row rfl _ _ (w.heap.size + 1) 49 #[.slice (some ⟨g0, 0, none⟩) x.nodes.length x.nodes.length, .int .i64 x.root] (0, 0) _ rfl (heap_setCell_same _ _ _ _ _ _ (heap_setCell_same _ _ _ _ _ _ (K3))) Try.underlying49 rfl (by kernel_rfl)) rfl ?_
  have hoth : ∀ b, w.heap.size + 3 ≤ b → ((((v0.setCell ⟨w.heap.size + 1 + 1, 0, none⟩ (.slice (some ⟨g0, 0, none⟩) x.nodes.length x.nodes.length)).setCell ⟨w.heap.size + 1 + 1, 1, none⟩ (.int .i64 x.root)).setCell ⟨w.heap.size + 1, 0, none⟩ (.slice (some ⟨g0, 0, none⟩) x.nodes.length x.nodes.length)).setCell ⟨w.heap.size + 1, 1, none⟩ (.int .i64 x.root)).heap[b]? = v0.heap[b]? := by
    intro b h
    rw [heap_setCell_other _ _ _ _ (by show b ≠ w.heap.size + 1; omega), heap_setCell_other _ _ _ _ (by show b ≠ w.heap.size + 1; omega), heap_setCell_other _ _ _ _ (by show b ≠ w.heap.size + 1 + 1; omega), heap_setCell_other _ _ _ _ (by show b ≠ w.heap.size + 1 + 1; omega)]
  exact ⟨_, rfl, ⟨_, _, rfl, ⟨R0_0.out.keep fun b h => ⟨⟨by have := h.1; omega, by have := h.2; simpa using this⟩, hoth b h.1⟩, Nat.le_refl _⟩⟩, (((hb1.setCell (p := ⟨_, _, none⟩) (by simp <;> omega) _).setCell (p := ⟨_, _, none⟩) (by simp <;> omega) _).setCell (p := ⟨_, _, none⟩) (by simp <;> omega) _).setCell (p := ⟨_, _, none⟩) (by simp <;> omega) _⟩
set_option maxRecDepth 100000 in
set_option maxHeartbeats 2000000 in
theorem toE_Type (x : Typ) (w : World) (hs : x.small) :
    Calls Try.prog 40 #[.agg #[.string x.name, .int .i64 x.size]] w fun e w' => MadeE rgT x w e w' := by
  go_enter Try.func40, Try.ntmps40
  go_wp2
  refine bodyPost_ret (results_cell_row rfl _ _ (w.heap.size + 1) 45 #[.string x.name, .int .i64 x.size] (0, 0) _ rfl (blk_past (blk_at _ _ _ (by simp))) Try.underlying45 rfl (by kernel_rfl)) rfl ?_
  exact ⟨_, rfl, rfl, (((Below.refl _ _).alloc (Nat.le_refl _) _).alloc (by simp) _).alloc (by simp; omega) _⟩
theorem Try.inf_Type : (Try.prog.info? 45).map (fun i => (i.zero, i.size, i.bytes)) = some (some (.agg #[.string ⟨#[]⟩, .int .i64 0]), 2, 24) := by kernel_rfl
set_option maxRecDepth 100000 in
set_option maxHeartbeats 2000000 in
theorem to_Type (a : Option Addr) (l : List Typ) (cap : Nat) (w : World) (hn : l.length ≤ 1048576) (hsm : ∀ d ∈ l, Typ.small d) (hr : rgT.Row w (fun b => b < w.heap.size) a l) :
    Calls Try.prog 22 #[.slice a l.length cap] w fun e w' => Made rgT l w e w' := by
  obtain ⟨i0, hi, hz0, hz1, hz2⟩ := info_parts Try.inf_Type
  have HR : Hid (rgT.Row w (fun b => b < w.heap.size) a l) := hr
  have HS : Hid (∀ d ∈ l, Typ.small d) := hsm
  clear hr hsm
  go_enter Try.func22, Try.ntmps22
  go_wp2_with (at_make; refine wpList_make_full _ rfl _ _ 29 rfl w.heap.size 45 i0 _ 2 Try.underlying29 hi hz0 hz1 .i64 .i64 _ _ l.length rfl rfl rfl rfl ?c1 ?c2 ?c3 ?_)
  case c1 => rw [hz2]; omega
  case c2 => simp [maxLen]; omega
  case c3 => exact Nat.le_refl _
  intro w1 hown1 hgr1
  go_wp2
  have hb1 : Below w.heap.size w w1 := (Below.refl _ _).grown hgr1 (Nat.le_refl _) (fun _ h => by cases h)
  obtain ⟨hlen, ⟨h0, _⟩ | ⟨g, cp, cur, hv, _, hblk, _, _, hcs, _⟩⟩ := hown1
  · cases h0
  simp only [Value.slice.injEq, Option.some.injEq, Addr.mk.injEq] at hv
  obtain ⟨⟨rfl, _⟩, _, rfl⟩ := hv
  clear hlen
  go_loopw [4] (fun o wr => ∃ (i : Nat) (cur : Array Value), i ≤ l.length ∧ wr.heap[w.heap.size]? = some (.cells cur 45 (0, 0)) ∧ cur.size = l.length * 2 ∧ Laid rgT wr w.heap.size i l ∧ o = .int .i64 i ∧ Below w.heap.size w wr)
    (fun o _ => l.length - (intOf o).toNat)
  case atStart => exact ⟨0, cur, by omega, hblk, hcs, Laid.zero, rfl, hb1⟩
  case round =>
    clear hblk hcs hb1 hgr1
    obtain ⟨i, cur, hi, hblk, hcs, hat0, rfl, hb⟩ := hrel
    have HA : Hid (Laid rgT wr w.heap.size i l) := hat0
    have HK : Hid (wr.heap[w.heap.size]? = some (.cells cur 45 (0, 0))) := hblk
    have hlt2 : w.heap.size < wr.heap.size := (Array.getElem?_eq_some_iff.1 hblk).1
    clear hat0 hblk
    by_cases hlt : i < l.length
    · obtain ⟨d, hd⟩ : ∃ d, l[i]? = some d := ⟨_, List.getElem?_eq_getElem hlt⟩
      obtain ⟨b1, o1, cs, rfl, hbb, hat, hlies⟩ := HR.out i d hd
      obtain rfl := hat
      have cx0 : wr.cell? ⟨b1, o1 + i * 2, none⟩ = some (.string d.name) := cell_keep (hlies 0 _ rfl) hb hbb
      have cx1 : wr.cell? ⟨b1, o1 + i * 2 + 1, none⟩ = some (.int .i64 d.size) := cell_keep (hlies 1 _ rfl) hb hbb
      have hsz := hb.size
      have HT : Hid (Calls Try.prog 40 #[.agg #[.string d.name, .int .i64 d.size]] wr fun e w' => MadeE rgT d wr e w') := toE_Type d   wr (HS.out d (List.mem_of_getElem? hd))
      have HD : Hid (l[i]? = some d) := hd
      clear hlies hd
      go_wp2_with fail
      refine HT.out.mono ?_
      rintro e w2 ⟨cs2, rfl, hat2, hb2⟩
      obtain rfl := hat2
      have HA2 : Hid (rgT.At w2 (fun b => wr.heap.size ≤ b ∧ b < w2.heap.size) [.string d.name, .int .i64 d.size] d) := rfl
      have hk2 := blk_keep HK.out hb2 hlt2
      have f0 := frozen_blk hk2 (i * 2)
      obtain ⟨x0, e0⟩ := cell_blk' hk2 (i * 2) (by omega)
      have f1 := frozen_blk hk2 (i * 2 + 1)
      obtain ⟨x1, e1⟩ := cell_blk' hk2 (i * 2 + 1) (by omega)
      have HK2 : Hid (w2.heap[w.heap.size]? = some (.cells cur 45 (0, 0))) := hk2
      have HB2 : Hid (Below wr.heap.size wr w2) := hb2
      clear hk2 HT hb2
      go_wp2
      go_roundw
      case rel =>
        have hput : putL w2 w.heap.size (i * 2) [.string d.name, .int .i64 d.size] = ((w2.setCell ⟨w.heap.size, i * 2, none⟩ (.string d.name)).setCell ⟨w.heap.size, i * 2 + 1, none⟩ (.int .i64 d.size)) := by simp only [putL]
        rw [← hput]
        obtain ⟨ys, hy1, hy2⟩ := putL_blk [.string d.name, .int .i64 d.size] (i * 2) HK2.out
        refine ⟨i + 1, ys, by omega, hy1, by omega, HA.out.next HD.out hlt2 HB2.out HA2.out HK2.out (by show i * 2 + 2 ≤ cur.size; omega), by go_num, putL_below [.string d.name, .int .i64 d.size] (i * 2) (hb.trans (HB2.out.mono hsz)) (Nat.le_refl _)⟩
      case measure => simp [intOf]; omega
    · have hlt' : decide ((i : Int) < (l.length : Int)) = false := by simp; omega
      obtain rfl : i = l.length := by omega
      go_wp2
      go_ret
      exact ⟨w.heap.size, rfl, HA.out.row hlt2, hb⟩
set_option maxRecDepth 100000 in
set_option maxHeartbeats 2000000 in
theorem toE_Def (x : Dfn) (a1 : Option Addr) (c1 : Nat) (w : World) (hs : x.small) (hr : DfnRows w (fun b => b < w.heap.size) a1 c1 x) :
    Calls Try.prog 41 #[.agg #[.string x.name, .slice a1 x.prog.nodes.length c1, .int .i64 x.prog.root]] w fun e w' => MadeE rgD x w e w' := by
  obtain ⟨u0, u1⟩ := hs
  obtain ⟨r1, t1⟩ := hr
  have HC0 : Hid (∀ w2, Below w.heap.size w w2 → Calls Try.prog 62 #[.agg #[.slice a1 x.prog.nodes.length c1, .int .i64 x.prog.root]] w2 fun e w' => MadeE rgP x.prog w2 e w') := fun w2 h2 => toE_Prog x.prog a1 c1 w2 u1 (PrgRows.keep (w := w) (p := (fun b => b < w.heap.size)) ⟨r1, t1⟩ fun b h => ⟨by have := h2.size; omega, h2.block b h⟩)
  clear r1
  go_enter Try.func41, Try.ntmps41
  go_wp2_with fail
  have hb : Below w.heap.size w (((w.alloc (Obj.cells #[.string x.name, .slice a1 x.prog.nodes.length c1, .int .i64 x.prog.root] 65)).alloc (Obj.cells #[.string ⟨#[]⟩, .slice none 0 0, .int .i64 0] 51)).alloc (Obj.cells #[.string x.name, .slice none 0 0, .int .i64 0] 51)) := (((Below.refl _ _).alloc (Nat.le_refl _) _).alloc (by simp) _).alloc (by simp; omega) _
  have k0 : (((w.alloc (Obj.cells #[.string x.name, .slice a1 x.prog.nodes.length c1, .int .i64 x.prog.root] 65)).alloc (Obj.cells #[.string ⟨#[]⟩, .slice none 0 0, .int .i64 0] 51)).alloc (Obj.cells #[.string x.name, .slice none 0 0, .int .i64 0] 51)).heap[w.heap.size]? = some (Obj.cells #[.string x.name, .slice a1 x.prog.nodes.length c1, .int .i64 x.prog.root] 65) := blk_past (blk_past (blk_at _ _ _ rfl))
  have k1 : (((w.alloc (Obj.cells #[.string x.name, .slice a1 x.prog.nodes.length c1, .int .i64 x.prog.root] 65)).alloc (Obj.cells #[.string ⟨#[]⟩, .slice none 0 0, .int .i64 0] 51)).alloc (Obj.cells #[.string x.name, .slice none 0 0, .int .i64 0] 51)).heap[w.heap.size + 1]? = some (Obj.cells #[.string ⟨#[]⟩, .slice none 0 0, .int .i64 0] 51) := blk_past (blk_at _ _ _ (by simp))
  have k2 : (((w.alloc (Obj.cells #[.string x.name, .slice a1 x.prog.nodes.length c1, .int .i64 x.prog.root] 65)).alloc (Obj.cells #[.string ⟨#[]⟩, .slice none 0 0, .int .i64 0] 51)).alloc (Obj.cells #[.string x.name, .slice none 0 0, .int .i64 0] 51)).heap[w.heap.size + 1 + 1]? = some (Obj.cells #[.string x.name, .slice none 0 0, .int .i64 0] 51) := blk_at _ _ _ (by simp)
  have hz : w.heap.size + 3 ≤ (((w.alloc (Obj.cells #[.string x.name, .slice a1 x.prog.nodes.length c1, .int .i64 x.prog.root] 65)).alloc (Obj.cells #[.string ⟨#[]⟩, .slice none 0 0, .int .i64 0] 51)).alloc (Obj.cells #[.string x.name, .slice none 0 0, .int .i64 0] 51)).heap.size := by simp
  generalize (((w.alloc (Obj.cells #[.string x.name, .slice a1 x.prog.nodes.length c1, .int .i64 x.prog.root] 65)).alloc (Obj.cells #[.string ⟨#[]⟩, .slice none 0 0, .int .i64 0] 51)).alloc (Obj.cells #[.string x.name, .slice none 0 0, .int .i64 0] 51)) = wA at *
  refine (HC0.out _ hb).mono ?_
  rintro e v0 ⟨cs, rfl, ⟨y0_1, z0_1, rfl, hrows⟩, hv⟩
  obtain ⟨hrow1, hlen0_1⟩ := hrows
  have hb1 : Below w.heap.size w v0 := hb.trans (hv.mono hb.size)
  have hsv := hv.size
  have k0 := blk_keep k0 hv (by omega)
  have k1 := blk_keep k1 hv (by omega)
  have k2 := blk_keep k2 hv (by omega)
  have R0_0 : rgN.Row v0 (fun b => w.heap.size + 3 ≤ b ∧ b < v0.heap.size) y0_1 x.prog.nodes := hrow1.keep fun b h => ⟨⟨by have := h.1; omega, h.2⟩, rfl⟩
  clear hb hv hrow1
  have R0_0 : Hid (rgN.Row v0 (fun b => w.heap.size + 3 ≤ b ∧ b < v0.heap.size) y0_1 x.prog.nodes) := R0_0
  have p0 := cell_blk (j := 0) k0 rfl
  have p1 := cell_blk (j := 1) k0 rfl
  have p2 := cell_blk (j := 2) k0 rfl
  have o0 := cell_blk (j := 0) k2 rfl
  have o1 := cell_blk (j := 1) k2 rfl
  have o2 := cell_blk (j := 2) k2 rfl
  have f1 := frozen_blk k2 1
  have f2 := frozen_blk k2 2
  have s0 := cell_blk (j := 0) k1 rfl
  have l0 := frozen_blk k1 0
  have s1 := cell_blk (j := 1) k1 rfl
  have l1 := frozen_blk k1 1
  have s2 := cell_blk (j := 2) k1 rfl
  have l2 := frozen_blk k1 2
  have K0 : Hid (v0.heap[w.heap.size]? = some (Obj.cells #[.string x.name, .slice a1 x.prog.nodes.length c1, .int .i64 x.prog.root] 65)) := k0
  have K1 : Hid (v0.heap[w.heap.size + 1]? = some (Obj.cells #[.string ⟨#[]⟩, .slice none 0 0, .int .i64 0] 51)) := k1
  have K2 : Hid (v0.heap[w.heap.size + 1 + 1]? = some (Obj.cells #[.string x.name, .slice none 0 0, .int .i64 0] 51)) := k2
  clear k0 k1 k2
  go_wp2
  have K3 : ((v0.setCell ⟨w.heap.size + 1 + 1, 1, none⟩ (.slice y0_1 x.prog.nodes.length z0_1)).setCell ⟨w.heap.size + 1 + 1, 2, none⟩ (.int .i64 x.prog.root)).heap[w.heap.size + 1]? = some (Obj.cells #[.string ⟨#[]⟩, .slice none 0 0, .int .i64 0] 51) := by
    rw [heap_setCell_other _ _ _ _ (by simp), heap_setCell_other _ _ _ _ (by simp)]; exact K1.out
  refine bodyPost_ret (results_cell_row rfl _ _ (w.heap.size + 1) 51 #[.string x.name, .slice y0_1 x.prog.nodes.length z0_1, .int .i64 x.prog.root] (0, 0) _ rfl (heap_setCell_same _ _ _ _ _ _ (heap_setCell_same _ _ _ _ _ _ (heap_setCell_same _ _ _ _ _ _ (K3)))) Try.underlying51 rfl (by kernel_rfl)) rfl ?_
  have hoth : ∀ b, w.heap.size + 3 ≤ b → (((((v0.setCell ⟨w.heap.size + 1 + 1, 1, none⟩ (.slice y0_1 x.prog.nodes.length z0_1)).setCell ⟨w.heap.size + 1 + 1, 2, none⟩ (.int .i64 x.prog.root)).setCell ⟨w.heap.size + 1, 0, none⟩ (.string x.name)).setCell ⟨w.heap.size + 1, 1, none⟩ (.slice y0_1 x.prog.nodes.length z0_1)).setCell ⟨w.heap.size + 1, 2, none⟩ (.int .i64 x.prog.root)).heap[b]? = v0.heap[b]? := by
    intro b h
    rw [heap_setCell_other _ _ _ _ (by show b ≠ w.heap.size + 1; omega), heap_setCell_other _ _ _ _ (by show b ≠ w.heap.size + 1; omega), heap_setCell_other _ _ _ _ (by show b ≠ w.heap.size + 1; omega), heap_setCell_other _ _ _ _ (by show b ≠ w.heap.size + 1 + 1; omega), heap_setCell_other _ _ _ _ (by show b ≠ w.heap.size + 1 + 1; omega)]
  exact ⟨_, rfl, ⟨_, _, rfl, ⟨R0_0.out.keep fun b h => ⟨⟨by have := h.1; omega, by have := h.2; simpa using this⟩, hoth b h.1⟩, hlen0_1⟩⟩, ((((hb1.setCell (p := ⟨_, _, none⟩) (by simp <;> omega) _).setCell (p := ⟨_, _, none⟩) (by simp <;> omega) _).setCell (p := ⟨_, _, none⟩) (by simp <;> omega) _).setCell (p := ⟨_, _, none⟩) (by simp <;> omega) _).setCell (p := ⟨_, _, none⟩) (by simp <;> omega) _⟩
theorem Try.inf_Def : (Try.prog.info? 51).map (fun i => (i.zero, i.size, i.bytes)) = some (some (.agg #[.string ⟨#[]⟩, .slice none 0 0, .int .i64 0]), 3, 48) := by kernel_rfl
set_option maxRecDepth 100000 in
set_option maxHeartbeats 2000000 in
theorem to_Def (a : Option Addr) (l : List Dfn) (cap : Nat) (w : World) (hn : l.length ≤ 1048576) (hsm : ∀ d ∈ l, Dfn.small d) (hr : rgD.Row w (fun b => b < w.heap.size) a l) :
    Calls Try.prog 23 #[.slice a l.length cap] w fun e w' => Made rgD l w e w' := by
  obtain ⟨i0, hi, hz0, hz1, hz2⟩ := info_parts Try.inf_Def
  have HR : Hid (rgD.Row w (fun b => b < w.heap.size) a l) := hr
  have HS : Hid (∀ d ∈ l, Dfn.small d) := hsm
  clear hr hsm
  go_enter Try.func23, Try.ntmps23
  go_wp2_with (at_make; refine wpList_make_full _ rfl _ _ 30 rfl w.heap.size 51 i0 _ 3 Try.underlying30 hi hz0 hz1 .i64 .i64 _ _ l.length rfl rfl rfl rfl ?c1 ?c2 ?c3 ?_)
  case c1 => rw [hz2]; omega
  case c2 => simp [maxLen]; omega
  case c3 => exact Nat.le_refl _
  intro w1 hown1 hgr1
  go_wp2
  have hb1 : Below w.heap.size w w1 := (Below.refl _ _).grown hgr1 (Nat.le_refl _) (fun _ h => by cases h)
  obtain ⟨hlen, ⟨h0, _⟩ | ⟨g, cp, cur, hv, _, hblk, _, _, hcs, _⟩⟩ := hown1
  · cases h0
  simp only [Value.slice.injEq, Option.some.injEq, Addr.mk.injEq] at hv
  obtain ⟨⟨rfl, _⟩, _, rfl⟩ := hv
  clear hlen
  go_loopw [4] (fun o wr => ∃ (i : Nat) (cur : Array Value), i ≤ l.length ∧ wr.heap[w.heap.size]? = some (.cells cur 51 (0, 0)) ∧ cur.size = l.length * 3 ∧ Laid rgD wr w.heap.size i l ∧ o = .int .i64 i ∧ Below w.heap.size w wr)
    (fun o _ => l.length - (intOf o).toNat)
  case atStart => exact ⟨0, cur, by omega, hblk, hcs, Laid.zero, rfl, hb1⟩
  case round =>
    clear hblk hcs hb1 hgr1
    obtain ⟨i, cur, hi, hblk, hcs, hat0, rfl, hb⟩ := hrel
    have HA : Hid (Laid rgD wr w.heap.size i l) := hat0
    have HK : Hid (wr.heap[w.heap.size]? = some (.cells cur 51 (0, 0))) := hblk
    have hlt2 : w.heap.size < wr.heap.size := (Array.getElem?_eq_some_iff.1 hblk).1
    clear hat0 hblk
    by_cases hlt : i < l.length
    · obtain ⟨d, hd⟩ : ∃ d, l[i]? = some d := ⟨_, List.getElem?_eq_getElem hlt⟩
      obtain ⟨b1, o1, cs, rfl, hbb, hat, hlies⟩ := HR.out i d hd
      obtain ⟨a1, c1, rfl, hrows⟩ := hat
      have cx0 : wr.cell? ⟨b1, o1 + i * 3, none⟩ = some (.string d.name) := cell_keep (hlies 0 _ rfl) hb hbb
      have cx1 : wr.cell? ⟨b1, o1 + i * 3 + 1, none⟩ = some (.slice a1 d.prog.nodes.length c1) := cell_keep (hlies 1 _ rfl) hb hbb
      have cx2 : wr.cell? ⟨b1, o1 + i * 3 + 2, none⟩ = some (.int .i64 d.prog.root) := cell_keep (hlies 2 _ rfl) hb hbb
      have hsz := hb.size
      have HT : Hid (Calls Try.prog 41 #[.agg #[.string d.name, .slice a1 d.prog.nodes.length c1, .int .i64 d.prog.root]] wr fun e w' => MadeE rgD d wr e w') := toE_Def d a1 c1 wr (HS.out d (List.mem_of_getElem? hd)) (hrows.keep fun b h => ⟨by omega, hb.block b h⟩)
      have HD : Hid (l[i]? = some d) := hd
      clear hlies hd hrows
      go_wp2_with fail
      refine HT.out.mono ?_
      rintro e w2 ⟨cs2, rfl, hat2, hb2⟩
      obtain ⟨a1', c1', rfl, hrows2⟩ := hat2
      have HA2 : Hid (rgD.At w2 (fun b => wr.heap.size ≤ b ∧ b < w2.heap.size) [.string d.name, .slice a1' d.prog.nodes.length c1', .int .i64 d.prog.root] d) := ⟨a1', c1', rfl, hrows2⟩
      have hk2 := blk_keep HK.out hb2 hlt2
      have f0 := frozen_blk hk2 (i * 3)
      obtain ⟨x0, e0⟩ := cell_blk' hk2 (i * 3) (by omega)
      have f1 := frozen_blk hk2 (i * 3 + 1)
      obtain ⟨x1, e1⟩ := cell_blk' hk2 (i * 3 + 1) (by omega)
      have f2 := frozen_blk hk2 (i * 3 + 2)
      obtain ⟨x2, e2⟩ := cell_blk' hk2 (i * 3 + 2) (by omega)
      have HK2 : Hid (w2.heap[w.heap.size]? = some (.cells cur 51 (0, 0))) := hk2
      have HB2 : Hid (Below wr.heap.size wr w2) := hb2
      clear hk2 HT hb2 hrows2
      go_wp2
      go_roundw
      case rel =>
        have hput : putL w2 w.heap.size (i * 3) [.string d.name, .slice a1' d.prog.nodes.length c1', .int .i64 d.prog.root] = (((w2.setCell ⟨w.heap.size, i * 3, none⟩ (.string d.name)).setCell ⟨w.heap.size, i * 3 + 1, none⟩ (.slice a1' d.prog.nodes.length c1')).setCell ⟨w.heap.size, i * 3 + 2, none⟩ (.int .i64 d.prog.root)) := by simp only [putL, Nat.add_assoc, Nat.reduceAdd]
        rw [← hput]
        obtain ⟨ys, hy1, hy2⟩ := putL_blk [.string d.name, .slice a1' d.prog.nodes.length c1', .int .i64 d.prog.root] (i * 3) HK2.out
        refine ⟨i + 1, ys, by omega, hy1, by omega, HA.out.next HD.out hlt2 HB2.out HA2.out HK2.out (by show i * 3 + 3 ≤ cur.size; omega), by go_num, putL_below [.string d.name, .slice a1' d.prog.nodes.length c1', .int .i64 d.prog.root] (i * 3) (hb.trans (HB2.out.mono hsz)) (Nat.le_refl _)⟩
      case measure => simp [intOf]; omega
    · have hlt' : decide ((i : Int) < (l.length : Int)) = false := by simp; omega
      obtain rfl : i = l.length := by omega
      go_wp2
      go_ret
      exact ⟨w.heap.size, rfl, HA.out.row hlt2, hb⟩
set_option maxRecDepth 100000 in
set_option maxHeartbeats 2000000 in
theorem toE_Src (x : Srx) (a1 a2 a3 a4 a5 : Option Addr) (c1 c2 c3 c4 c5 : Nat) (w : World) (hs : x.small) (hr : SrxRows w (fun b => b < w.heap.size) a1 a2 a3 a4 a5 c1 c2 c3 c4 c5 x) :
    Calls Try.prog 6 #[.agg #[.string x.name, .slice a1 x.imps.length c1, .slice a2 x.exps.length c2, .slice a3 x.types.length c3, .slice a4 x.defs.length c4, .slice a5 x.convs.length c5]] w fun e w' => MadeE rgX x w e w' := by
  obtain ⟨u0, u1, u2, u3, u4, u5⟩ := hs
  obtain ⟨⟨r1, t1⟩, ⟨r2, t2⟩, ⟨r3, t3⟩, ⟨r4, t4⟩, ⟨r5, t5⟩⟩ := hr
  have HC0 : Hid (∀ w2, Below w.heap.size w w2 → Calls Try.prog 21 #[.slice a1 x.imps.length c1] w2 fun e w' => Made rgS x.imps w2 e w') := fun w2 h2 => to_string a1 x.imps c1 w2 u1.1 u1.2 (r1.keep fun b h => ⟨by have := h2.size; omega, h2.block b h⟩)
  have HC1 : Hid (∀ w2, Below w.heap.size w w2 → Calls Try.prog 21 #[.slice a2 x.exps.length c2] w2 fun e w' => Made rgS x.exps w2 e w') := fun w2 h2 => to_string a2 x.exps c2 w2 u2.1 u2.2 (r2.keep fun b h => ⟨by have := h2.size; omega, h2.block b h⟩)
  have HC2 : Hid (∀ w2, Below w.heap.size w w2 → Calls Try.prog 22 #[.slice a3 x.types.length c3] w2 fun e w' => Made rgT x.types w2 e w') := fun w2 h2 => to_Type a3 x.types c3 w2 u3.1 u3.2 (r3.keep fun b h => ⟨by have := h2.size; omega, h2.block b h⟩)
  have HC3 : Hid (∀ w2, Below w.heap.size w w2 → Calls Try.prog 23 #[.slice a4 x.defs.length c4] w2 fun e w' => Made rgD x.defs w2 e w') := fun w2 h2 => to_Def a4 x.defs c4 w2 u4.1 u4.2 (r4.keep fun b h => ⟨by have := h2.size; omega, h2.block b h⟩)
  have HC4 : Hid (∀ w2, Below w.heap.size w w2 → Calls Try.prog 23 #[.slice a5 x.convs.length c5] w2 fun e w' => Made rgD x.convs w2 e w') := fun w2 h2 => to_Def a5 x.convs c5 w2 u5.1 u5.2 (r5.keep fun b h => ⟨by have := h2.size; omega, h2.block b h⟩)
  clear r1 r2 r3 r4 r5
  go_enter Try.func6, Try.ntmps6
  go_wp2_with fail
  have hb : Below w.heap.size w (((w.alloc (Obj.cells #[.string x.name, .slice a1 x.imps.length c1, .slice a2 x.exps.length c2, .slice a3 x.types.length c3, .slice a4 x.defs.length c4, .slice a5 x.convs.length c5] 26)).alloc (Obj.cells #[.string ⟨#[]⟩, .slice none 0 0, .slice none 0 0, .slice none 0 0, .slice none 0 0, .slice none 0 0] 32)).alloc (Obj.cells #[.string x.name, .slice none 0 0, .slice none 0 0, .slice none 0 0, .slice none 0 0, .slice none 0 0] 32)) := (((Below.refl _ _).alloc (Nat.le_refl _) _).alloc (by simp) _).alloc (by simp; omega) _
  have k0 : (((w.alloc (Obj.cells #[.string x.name, .slice a1 x.imps.length c1, .slice a2 x.exps.length c2, .slice a3 x.types.length c3, .slice a4 x.defs.length c4, .slice a5 x.convs.length c5] 26)).alloc (Obj.cells #[.string ⟨#[]⟩, .slice none 0 0, .slice none 0 0, .slice none 0 0, .slice none 0 0, .slice none 0 0] 32)).alloc (Obj.cells #[.string x.name, .slice none 0 0, .slice none 0 0, .slice none 0 0, .slice none 0 0, .slice none 0 0] 32)).heap[w.heap.size]? = some (Obj.cells #[.string x.name, .slice a1 x.imps.length c1, .slice a2 x.exps.length c2, .slice a3 x.types.length c3, .slice a4 x.defs.length c4, .slice a5 x.convs.length c5] 26) := blk_past (blk_past (blk_at _ _ _ rfl))
  have k1 : (((w.alloc (Obj.cells #[.string x.name, .slice a1 x.imps.length c1, .slice a2 x.exps.length c2, .slice a3 x.types.length c3, .slice a4 x.defs.length c4, .slice a5 x.convs.length c5] 26)).alloc (Obj.cells #[.string ⟨#[]⟩, .slice none 0 0, .slice none 0 0, .slice none 0 0, .slice none 0 0, .slice none 0 0] 32)).alloc (Obj.cells #[.string x.name, .slice none 0 0, .slice none 0 0, .slice none 0 0, .slice none 0 0, .slice none 0 0] 32)).heap[w.heap.size + 1]? = some (Obj.cells #[.string ⟨#[]⟩, .slice none 0 0, .slice none 0 0, .slice none 0 0, .slice none 0 0, .slice none 0 0] 32) := blk_past (blk_at _ _ _ (by simp))
  have k2 : (((w.alloc (Obj.cells #[.string x.name, .slice a1 x.imps.length c1, .slice a2 x.exps.length c2, .slice a3 x.types.length c3, .slice a4 x.defs.length c4, .slice a5 x.convs.length c5] 26)).alloc (Obj.cells #[.string ⟨#[]⟩, .slice none 0 0, .slice none 0 0, .slice none 0 0, .slice none 0 0, .slice none 0 0] 32)).alloc (Obj.cells #[.string x.name, .slice none 0 0, .slice none 0 0, .slice none 0 0, .slice none 0 0, .slice none 0 0] 32)).heap[w.heap.size + 1 + 1]? = some (Obj.cells #[.string x.name, .slice none 0 0, .slice none 0 0, .slice none 0 0, .slice none 0 0, .slice none 0 0] 32) := blk_at _ _ _ (by simp)
  have hz : w.heap.size + 3 ≤ (((w.alloc (Obj.cells #[.string x.name, .slice a1 x.imps.length c1, .slice a2 x.exps.length c2, .slice a3 x.types.length c3, .slice a4 x.defs.length c4, .slice a5 x.convs.length c5] 26)).alloc (Obj.cells #[.string ⟨#[]⟩, .slice none 0 0, .slice none 0 0, .slice none 0 0, .slice none 0 0, .slice none 0 0] 32)).alloc (Obj.cells #[.string x.name, .slice none 0 0, .slice none 0 0, .slice none 0 0, .slice none 0 0, .slice none 0 0] 32)).heap.size := by simp
  generalize (((w.alloc (Obj.cells #[.string x.name, .slice a1 x.imps.length c1, .slice a2 x.exps.length c2, .slice a3 x.types.length c3, .slice a4 x.defs.length c4, .slice a5 x.convs.length c5] 26)).alloc (Obj.cells #[.string ⟨#[]⟩, .slice none 0 0, .slice none 0 0, .slice none 0 0, .slice none 0 0, .slice none 0 0] 32)).alloc (Obj.cells #[.string x.name, .slice none 0 0, .slice none 0 0, .slice none 0 0, .slice none 0 0, .slice none 0 0] 32)) = wA at *
  refine (HC0.out _ hb).mono ?_
  rintro e v0 ⟨g0, rfl, hrow, hv⟩
  have hb1 : Below w.heap.size w v0 := hb.trans (hv.mono hb.size)
  have hsv := hv.size
  have k0 := blk_keep k0 hv (by omega)
  have k1 := blk_keep k1 hv (by omega)
  have k2 := blk_keep k2 hv (by omega)
  have R0_0 : rgS.Row v0 (fun b => w.heap.size + 3 ≤ b ∧ b < v0.heap.size) (some ⟨g0, 0, none⟩) x.imps := hrow.keep fun b h => ⟨⟨by have := h.1; omega, h.2⟩, rfl⟩
  clear hb hv hrow
  have R0_0 : Hid (rgS.Row v0 (fun b => w.heap.size + 3 ≤ b ∧ b < v0.heap.size) (some ⟨g0, 0, none⟩) x.imps) := R0_0
  have p0 := cell_blk (j := 0) k0 rfl
  have p1 := cell_blk (j := 1) k0 rfl
  have p2 := cell_blk (j := 2) k0 rfl
  have p3 := cell_blk (j := 3) k0 rfl
  have p4 := cell_blk (j := 4) k0 rfl
  have p5 := cell_blk (j := 5) k0 rfl
  have o0 := cell_blk (j := 0) k2 rfl
  have o1 := cell_blk (j := 1) k2 rfl
  have o2 := cell_blk (j := 2) k2 rfl
  have o3 := cell_blk (j := 3) k2 rfl
  have o4 := cell_blk (j := 4) k2 rfl
  have o5 := cell_blk (j := 5) k2 rfl
  have f1 := frozen_blk k2 1
  have K0 : Hid (v0.heap[w.heap.size]? = some (Obj.cells #[.string x.name, .slice a1 x.imps.length c1, .slice a2 x.exps.length c2, .slice a3 x.types.length c3, .slice a4 x.defs.length c4, .slice a5 x.convs.length c5] 26)) := k0
  have K1 : Hid (v0.heap[w.heap.size + 1]? = some (Obj.cells #[.string ⟨#[]⟩, .slice none 0 0, .slice none 0 0, .slice none 0 0, .slice none 0 0, .slice none 0 0] 32)) := k1
  have K2 : Hid (v0.heap[w.heap.size + 1 + 1]? = some (Obj.cells #[.string x.name, .slice none 0 0, .slice none 0 0, .slice none 0 0, .slice none 0 0, .slice none 0 0] 32)) := k2
  clear k0 k1 k2
  go_wp2_with fail
  have k0 : (v0.setCell ⟨w.heap.size + 1 + 1, 1, none⟩ (.slice (some ⟨g0, 0, none⟩) x.imps.length x.imps.length)).heap[w.heap.size]? = some (Obj.cells #[.string x.name, .slice a1 x.imps.length c1, .slice a2 x.exps.length c2, .slice a3 x.types.length c3, .slice a4 x.defs.length c4, .slice a5 x.convs.length c5] 26) := by
    rw [heap_setCell_other _ _ _ _ (by simp; try omega)]; exact K0.out
  have k1 : (v0.setCell ⟨w.heap.size + 1 + 1, 1, none⟩ (.slice (some ⟨g0, 0, none⟩) x.imps.length x.imps.length)).heap[w.heap.size + 1]? = some (Obj.cells #[.string ⟨#[]⟩, .slice none 0 0, .slice none 0 0, .slice none 0 0, .slice none 0 0, .slice none 0 0] 32) := by
    rw [heap_setCell_other _ _ _ _ (by simp)]; exact K1.out
  have k2 : (v0.setCell ⟨w.heap.size + 1 + 1, 1, none⟩ (.slice (some ⟨g0, 0, none⟩) x.imps.length x.imps.length)).heap[w.heap.size + 1 + 1]? = some (Obj.cells #[.string x.name, .slice (some ⟨g0, 0, none⟩) x.imps.length x.imps.length, .slice none 0 0, .slice none 0 0, .slice none 0 0, .slice none 0 0] 32) := heap_setCell_same _ _ _ _ _ _ (K2.out)
  have hb : Below w.heap.size w (v0.setCell ⟨w.heap.size + 1 + 1, 1, none⟩ (.slice (some ⟨g0, 0, none⟩) x.imps.length x.imps.length)) := hb1.setCell (p := ⟨_, _, none⟩) (by simp; omega) _
  have hz : w.heap.size + 3 ≤ (v0.setCell ⟨w.heap.size + 1 + 1, 1, none⟩ (.slice (some ⟨g0, 0, none⟩) x.imps.length x.imps.length)).heap.size := by simp; omega
  have R0_0 : Hid (rgS.Row (v0.setCell ⟨w.heap.size + 1 + 1, 1, none⟩ (.slice (some ⟨g0, 0, none⟩) x.imps.length x.imps.length)) (fun b => w.heap.size + 3 ≤ b ∧ b < (v0.setCell ⟨w.heap.size + 1 + 1, 1, none⟩ (.slice (some ⟨g0, 0, none⟩) x.imps.length x.imps.length)).heap.size) (some ⟨g0, 0, none⟩) x.imps) := R0_0.out.keep fun b h => ⟨⟨h.1, by have := h.2; simpa using this⟩, by rw [heap_setCell_other _ _ _ _ (by have := h.1; show b ≠ w.heap.size + 1 + 1; omega)]⟩
  clear K0 K1 K2 hb1 hsv p0 o0 p1 o1 p2 o2 p3 o3 p4 o4 p5 o5 f1
  generalize (v0.setCell ⟨w.heap.size + 1 + 1, 1, none⟩ (.slice (some ⟨g0, 0, none⟩) x.imps.length x.imps.length)) = w0A at *
  refine (HC1.out _ hb).mono ?_
  rintro e v1 ⟨g1, rfl, hrow, hv⟩
  have hb1 : Below w.heap.size w v1 := hb.trans (hv.mono hb.size)
  have hsv := hv.size
  have k0 := blk_keep k0 hv (by omega)
  have k1 := blk_keep k1 hv (by omega)
  have k2 := blk_keep k2 hv (by omega)
  have R0_0 : rgS.Row v1 (fun b => w.heap.size + 3 ≤ b ∧ b < v1.heap.size) (some ⟨g0, 0, none⟩) x.imps := R0_0.out.keep fun b h => ⟨⟨h.1, by have := h.2; omega⟩, hv.block b h.2⟩
  have R1_0 : rgS.Row v1 (fun b => w.heap.size + 3 ≤ b ∧ b < v1.heap.size) (some ⟨g1, 0, none⟩) x.exps := hrow.keep fun b h => ⟨⟨by have := h.1; omega, h.2⟩, rfl⟩
  clear hb hv hrow
  have R0_0 : Hid (rgS.Row v1 (fun b => w.heap.size + 3 ≤ b ∧ b < v1.heap.size) (some ⟨g0, 0, none⟩) x.imps) := R0_0
  have R1_0 : Hid (rgS.Row v1 (fun b => w.heap.size + 3 ≤ b ∧ b < v1.heap.size) (some ⟨g1, 0, none⟩) x.exps) := R1_0
  have p0 := cell_blk (j := 0) k0 rfl
  have p1 := cell_blk (j := 1) k0 rfl
  have p2 := cell_blk (j := 2) k0 rfl
  have p3 := cell_blk (j := 3) k0 rfl
  have p4 := cell_blk (j := 4) k0 rfl
  have p5 := cell_blk (j := 5) k0 rfl
  have o0 := cell_blk (j := 0) k2 rfl
  have o1 := cell_blk (j := 1) k2 rfl
  have o2 := cell_blk (j := 2) k2 rfl
  have o3 := cell_blk (j := 3) k2 rfl
  have o4 := cell_blk (j := 4) k2 rfl
  have o5 := cell_blk (j := 5) k2 rfl
  have f2 := frozen_blk k2 2
  have K0 : Hid (v1.heap[w.heap.size]? = some (Obj.cells #[.string x.name, .slice a1 x.imps.length c1, .slice a2 x.exps.length c2, .slice a3 x.types.length c3, .slice a4 x.defs.length c4, .slice a5 x.convs.length c5] 26)) := k0
  have K1 : Hid (v1.heap[w.heap.size + 1]? = some (Obj.cells #[.string ⟨#[]⟩, .slice none 0 0, .slice none 0 0, .slice none 0 0, .slice none 0 0, .slice none 0 0] 32)) := k1
  have K2 : Hid (v1.heap[w.heap.size + 1 + 1]? = some (Obj.cells #[.string x.name, .slice (some ⟨g0, 0, none⟩) x.imps.length x.imps.length, .slice none 0 0, .slice none 0 0, .slice none 0 0, .slice none 0 0] 32)) := k2
  clear k0 k1 k2
  go_wp2_with fail
  have k0 : (v1.setCell ⟨w.heap.size + 1 + 1, 2, none⟩ (.slice (some ⟨g1, 0, none⟩) x.exps.length x.exps.length)).heap[w.heap.size]? = some (Obj.cells #[.string x.name, .slice a1 x.imps.length c1, .slice a2 x.exps.length c2, .slice a3 x.types.length c3, .slice a4 x.defs.length c4, .slice a5 x.convs.length c5] 26) := by
    rw [heap_setCell_other _ _ _ _ (by simp; try omega)]; exact K0.out
  have k1 : (v1.setCell ⟨w.heap.size + 1 + 1, 2, none⟩ (.slice (some ⟨g1, 0, none⟩) x.exps.length x.exps.length)).heap[w.heap.size + 1]? = some (Obj.cells #[.string ⟨#[]⟩, .slice none 0 0, .slice none 0 0, .slice none 0 0, .slice none 0 0, .slice none 0 0] 32) := by
    rw [heap_setCell_other _ _ _ _ (by simp)]; exact K1.out
  have k2 : (v1.setCell ⟨w.heap.size + 1 + 1, 2, none⟩ (.slice (some ⟨g1, 0, none⟩) x.exps.length x.exps.length)).heap[w.heap.size + 1 + 1]? = some (Obj.cells #[.string x.name, .slice (some ⟨g0, 0, none⟩) x.imps.length x.imps.length, .slice (some ⟨g1, 0, none⟩) x.exps.length x.exps.length, .slice none 0 0, .slice none 0 0, .slice none 0 0] 32) := heap_setCell_same _ _ _ _ _ _ (K2.out)
  have hb : Below w.heap.size w (v1.setCell ⟨w.heap.size + 1 + 1, 2, none⟩ (.slice (some ⟨g1, 0, none⟩) x.exps.length x.exps.length)) := hb1.setCell (p := ⟨_, _, none⟩) (by simp; omega) _
  have hz : w.heap.size + 3 ≤ (v1.setCell ⟨w.heap.size + 1 + 1, 2, none⟩ (.slice (some ⟨g1, 0, none⟩) x.exps.length x.exps.length)).heap.size := by simp; omega
  have R0_0 : Hid (rgS.Row (v1.setCell ⟨w.heap.size + 1 + 1, 2, none⟩ (.slice (some ⟨g1, 0, none⟩) x.exps.length x.exps.length)) (fun b => w.heap.size + 3 ≤ b ∧ b < (v1.setCell ⟨w.heap.size + 1 + 1, 2, none⟩ (.slice (some ⟨g1, 0, none⟩) x.exps.length x.exps.length)).heap.size) (some ⟨g0, 0, none⟩) x.imps) := R0_0.out.keep fun b h => ⟨⟨h.1, by have := h.2; simpa using this⟩, by rw [heap_setCell_other _ _ _ _ (by have := h.1; show b ≠ w.heap.size + 1 + 1; omega)]⟩
  have R1_0 : Hid (rgS.Row (v1.setCell ⟨w.heap.size + 1 + 1, 2, none⟩ (.slice (some ⟨g1, 0, none⟩) x.exps.length x.exps.length)) (fun b => w.heap.size + 3 ≤ b ∧ b < (v1.setCell ⟨w.heap.size + 1 + 1, 2, none⟩ (.slice (some ⟨g1, 0, none⟩) x.exps.length x.exps.length)).heap.size) (some ⟨g1, 0, none⟩) x.exps) := R1_0.out.keep fun b h => ⟨⟨h.1, by have := h.2; simpa using this⟩, by rw [heap_setCell_other _ _ _ _ (by have := h.1; show b ≠ w.heap.size + 1 + 1; omega)]⟩
  clear K0 K1 K2 hb1 hsv p0 o0 p1 o1 p2 o2 p3 o3 p4 o4 p5 o5 f2
  generalize (v1.setCell ⟨w.heap.size + 1 + 1, 2, none⟩ (.slice (some ⟨g1, 0, none⟩) x.exps.length x.exps.length)) = w1A at *
  refine (HC2.out _ hb).mono ?_
  rintro e v2 ⟨g2, rfl, hrow, hv⟩
  have hb1 : Below w.heap.size w v2 := hb.trans (hv.mono hb.size)
  have hsv := hv.size
  have k0 := blk_keep k0 hv (by omega)
  have k1 := blk_keep k1 hv (by omega)
  have k2 := blk_keep k2 hv (by omega)
  have R0_0 : rgS.Row v2 (fun b => w.heap.size + 3 ≤ b ∧ b < v2.heap.size) (some ⟨g0, 0, none⟩) x.imps := R0_0.out.keep fun b h => ⟨⟨h.1, by have := h.2; omega⟩, hv.block b h.2⟩
  have R1_0 : rgS.Row v2 (fun b => w.heap.size + 3 ≤ b ∧ b < v2.heap.size) (some ⟨g1, 0, none⟩) x.exps := R1_0.out.keep fun b h => ⟨⟨h.1, by have := h.2; omega⟩, hv.block b h.2⟩
  have R2_0 : rgT.Row v2 (fun b => w.heap.size + 3 ≤ b ∧ b < v2.heap.size) (some ⟨g2, 0, none⟩) x.types := hrow.keep fun b h => ⟨⟨by have := h.1; omega, h.2⟩, rfl⟩
  clear hb hv hrow
  have R0_0 : Hid (rgS.Row v2 (fun b => w.heap.size + 3 ≤ b ∧ b < v2.heap.size) (some ⟨g0, 0, none⟩) x.imps) := R0_0
  have R1_0 : Hid (rgS.Row v2 (fun b => w.heap.size + 3 ≤ b ∧ b < v2.heap.size) (some ⟨g1, 0, none⟩) x.exps) := R1_0
  have R2_0 : Hid (rgT.Row v2 (fun b => w.heap.size + 3 ≤ b ∧ b < v2.heap.size) (some ⟨g2, 0, none⟩) x.types) := R2_0
  have p0 := cell_blk (j := 0) k0 rfl
  have p1 := cell_blk (j := 1) k0 rfl
  have p2 := cell_blk (j := 2) k0 rfl
  have p3 := cell_blk (j := 3) k0 rfl
  have p4 := cell_blk (j := 4) k0 rfl
  have p5 := cell_blk (j := 5) k0 rfl
  have o0 := cell_blk (j := 0) k2 rfl
  have o1 := cell_blk (j := 1) k2 rfl
  have o2 := cell_blk (j := 2) k2 rfl
  have o3 := cell_blk (j := 3) k2 rfl
  have o4 := cell_blk (j := 4) k2 rfl
  have o5 := cell_blk (j := 5) k2 rfl
  have f3 := frozen_blk k2 3
  have K0 : Hid (v2.heap[w.heap.size]? = some (Obj.cells #[.string x.name, .slice a1 x.imps.length c1, .slice a2 x.exps.length c2, .slice a3 x.types.length c3, .slice a4 x.defs.length c4, .slice a5 x.convs.length c5] 26)) := k0
  have K1 : Hid (v2.heap[w.heap.size + 1]? = some (Obj.cells #[.string ⟨#[]⟩, .slice none 0 0, .slice none 0 0, .slice none 0 0, .slice none 0 0, .slice none 0 0] 32)) := k1
  have K2 : Hid (v2.heap[w.heap.size + 1 + 1]? = some (Obj.cells #[.string x.name, .slice (some ⟨g0, 0, none⟩) x.imps.length x.imps.length, .slice (some ⟨g1, 0, none⟩) x.exps.length x.exps.length, .slice none 0 0, .slice none 0 0, .slice none 0 0] 32)) := k2
  clear k0 k1 k2
  go_wp2_with fail
  have k0 : (v2.setCell ⟨w.heap.size + 1 + 1, 3, none⟩ (.slice (some ⟨g2, 0, none⟩) x.types.length x.types.length)).heap[w.heap.size]? = some (Obj.cells #[.string x.name, .slice a1 x.imps.length c1, .slice a2 x.exps.length c2, .slice a3 x.types.length c3, .slice a4 x.defs.length c4, .slice a5 x.convs.length c5] 26) := by
    rw [heap_setCell_other _ _ _ _ (by simp; try omega)]; exact K0.out
  have k1 : (v2.setCell ⟨w.heap.size + 1 + 1, 3, none⟩ (.slice (some ⟨g2, 0, none⟩) x.types.length x.types.length)).heap[w.heap.size + 1]? = some (Obj.cells #[.string ⟨#[]⟩, .slice none 0 0, .slice none 0 0, .slice none 0 0, .slice none 0 0, .slice none 0 0] 32) := by
    rw [heap_setCell_other _ _ _ _ (by simp)]; exact K1.out
  have k2 : (v2.setCell ⟨w.heap.size + 1 + 1, 3, none⟩ (.slice (some ⟨g2, 0, none⟩) x.types.length x.types.length)).heap[w.heap.size + 1 + 1]? = some (Obj.cells #[.string x.name, .slice (some ⟨g0, 0, none⟩) x.imps.length x.imps.length, .slice (some ⟨g1, 0, none⟩) x.exps.length x.exps.length, .slice (some ⟨g2, 0, none⟩) x.types.length x.types.length, .slice none 0 0, .slice none 0 0] 32) := heap_setCell_same _ _ _ _ _ _ (K2.out)
  have hb : Below w.heap.size w (v2.setCell ⟨w.heap.size + 1 + 1, 3, none⟩ (.slice (some ⟨g2, 0, none⟩) x.types.length x.types.length)) := hb1.setCell (p := ⟨_, _, none⟩) (by simp; omega) _
  have hz : w.heap.size + 3 ≤ (v2.setCell ⟨w.heap.size + 1 + 1, 3, none⟩ (.slice (some ⟨g2, 0, none⟩) x.types.length x.types.length)).heap.size := by simp; omega
  have R0_0 : Hid (rgS.Row (v2.setCell ⟨w.heap.size + 1 + 1, 3, none⟩ (.slice (some ⟨g2, 0, none⟩) x.types.length x.types.length)) (fun b => w.heap.size + 3 ≤ b ∧ b < (v2.setCell ⟨w.heap.size + 1 + 1, 3, none⟩ (.slice (some ⟨g2, 0, none⟩) x.types.length x.types.length)).heap.size) (some ⟨g0, 0, none⟩) x.imps) := R0_0.out.keep fun b h => ⟨⟨h.1, by have := h.2; simpa using this⟩, by rw [heap_setCell_other _ _ _ _ (by have := h.1; show b ≠ w.heap.size + 1 + 1; omega)]⟩
  have R1_0 : Hid (rgS.Row (v2.setCell ⟨w.heap.size + 1 + 1, 3, none⟩ (.slice (some ⟨g2, 0, none⟩) x.types.length x.types.length)) (fun b => w.heap.size + 3 ≤ b ∧ b < (v2.setCell ⟨w.heap.size + 1 + 1, 3, none⟩ (.slice (some ⟨g2, 0, none⟩) x.types.length x.types.length)).heap.size) (some ⟨g1, 0, none⟩) x.exps) := R1_0.out.keep fun b h => ⟨⟨h.1, by have := h.2; simpa using this⟩, by rw [heap_setCell_other _ _ _ _ (by have := h.1; show b ≠ w.heap.size + 1 + 1; omega)]⟩
  have R2_0 : Hid (rgT.Row (v2.setCell ⟨w.heap.size + 1 + 1, 3, none⟩ (.slice (some ⟨g2, 0, none⟩) x.types.length x.types.length)) (fun b => w.heap.size + 3 ≤ b ∧ b < (v2.setCell ⟨w.heap.size + 1 + 1, 3, none⟩ (.slice (some ⟨g2, 0, none⟩) x.types.length x.types.length)).heap.size) (some ⟨g2, 0, none⟩) x.types) := R2_0.out.keep fun b h => ⟨⟨h.1, by have := h.2; simpa using this⟩, by rw [heap_setCell_other _ _ _ _ (by have := h.1; show b ≠ w.heap.size + 1 + 1; omega)]⟩
  clear K0 K1 K2 hb1 hsv p0 o0 p1 o1 p2 o2 p3 o3 p4 o4 p5 o5 f3
  generalize (v2.setCell ⟨w.heap.size + 1 + 1, 3, none⟩ (.slice (some ⟨g2, 0, none⟩) x.types.length x.types.length)) = w2A at *
  refine (HC3.out _ hb).mono ?_
  rintro e v3 ⟨g3, rfl, hrow, hv⟩
  have hb1 : Below w.heap.size w v3 := hb.trans (hv.mono hb.size)
  have hsv := hv.size
  have k0 := blk_keep k0 hv (by omega)
  have k1 := blk_keep k1 hv (by omega)
  have k2 := blk_keep k2 hv (by omega)
  have R0_0 : rgS.Row v3 (fun b => w.heap.size + 3 ≤ b ∧ b < v3.heap.size) (some ⟨g0, 0, none⟩) x.imps := R0_0.out.keep fun b h => ⟨⟨h.1, by have := h.2; omega⟩, hv.block b h.2⟩
  have R1_0 : rgS.Row v3 (fun b => w.heap.size + 3 ≤ b ∧ b < v3.heap.size) (some ⟨g1, 0, none⟩) x.exps := R1_0.out.keep fun b h => ⟨⟨h.1, by have := h.2; omega⟩, hv.block b h.2⟩
  have R2_0 : rgT.Row v3 (fun b => w.heap.size + 3 ≤ b ∧ b < v3.heap.size) (some ⟨g2, 0, none⟩) x.types := R2_0.out.keep fun b h => ⟨⟨h.1, by have := h.2; omega⟩, hv.block b h.2⟩
  have R3_0 : rgD.Row v3 (fun b => w.heap.size + 3 ≤ b ∧ b < v3.heap.size) (some ⟨g3, 0, none⟩) x.defs := hrow.keep fun b h => ⟨⟨by have := h.1; omega, h.2⟩, rfl⟩
  clear hb hv hrow
  have R0_0 : Hid (rgS.Row v3 (fun b => w.heap.size + 3 ≤ b ∧ b < v3.heap.size) (some ⟨g0, 0, none⟩) x.imps) := R0_0
  have R1_0 : Hid (rgS.Row v3 (fun b => w.heap.size + 3 ≤ b ∧ b < v3.heap.size) (some ⟨g1, 0, none⟩) x.exps) := R1_0
  have R2_0 : Hid (rgT.Row v3 (fun b => w.heap.size + 3 ≤ b ∧ b < v3.heap.size) (some ⟨g2, 0, none⟩) x.types) := R2_0
  have R3_0 : Hid (rgD.Row v3 (fun b => w.heap.size + 3 ≤ b ∧ b < v3.heap.size) (some ⟨g3, 0, none⟩) x.defs) := R3_0
  have p0 := cell_blk (j := 0) k0 rfl
  have p1 := cell_blk (j := 1) k0 rfl
  have p2 := cell_blk (j := 2) k0 rfl
  have p3 := cell_blk (j := 3) k0 rfl
  have p4 := cell_blk (j := 4) k0 rfl
  have p5 := cell_blk (j := 5) k0 rfl
  have o0 := cell_blk (j := 0) k2 rfl
  have o1 := cell_blk (j := 1) k2 rfl
  have o2 := cell_blk (j := 2) k2 rfl
  have o3 := cell_blk (j := 3) k2 rfl
  have o4 := cell_blk (j := 4) k2 rfl
  have o5 := cell_blk (j := 5) k2 rfl
  have f4 := frozen_blk k2 4
  have K0 : Hid (v3.heap[w.heap.size]? = some (Obj.cells #[.string x.name, .slice a1 x.imps.length c1, .slice a2 x.exps.length c2, .slice a3 x.types.length c3, .slice a4 x.defs.length c4, .slice a5 x.convs.length c5] 26)) := k0
  have K1 : Hid (v3.heap[w.heap.size + 1]? = some (Obj.cells #[.string ⟨#[]⟩, .slice none 0 0, .slice none 0 0, .slice none 0 0, .slice none 0 0, .slice none 0 0] 32)) := k1
  have K2 : Hid (v3.heap[w.heap.size + 1 + 1]? = some (Obj.cells #[.string x.name, .slice (some ⟨g0, 0, none⟩) x.imps.length x.imps.length, .slice (some ⟨g1, 0, none⟩) x.exps.length x.exps.length, .slice (some ⟨g2, 0, none⟩) x.types.length x.types.length, .slice none 0 0, .slice none 0 0] 32)) := k2
  clear k0 k1 k2
  go_wp2_with fail
  have k0 : (v3.setCell ⟨w.heap.size + 1 + 1, 4, none⟩ (.slice (some ⟨g3, 0, none⟩) x.defs.length x.defs.length)).heap[w.heap.size]? = some (Obj.cells #[.string x.name, .slice a1 x.imps.length c1, .slice a2 x.exps.length c2, .slice a3 x.types.length c3, .slice a4 x.defs.length c4, .slice a5 x.convs.length c5] 26) := by
    rw [heap_setCell_other _ _ _ _ (by simp; try omega)]; exact K0.out
  have k1 : (v3.setCell ⟨w.heap.size + 1 + 1, 4, none⟩ (.slice (some ⟨g3, 0, none⟩) x.defs.length x.defs.length)).heap[w.heap.size + 1]? = some (Obj.cells #[.string ⟨#[]⟩, .slice none 0 0, .slice none 0 0, .slice none 0 0, .slice none 0 0, .slice none 0 0] 32) := by
    rw [heap_setCell_other _ _ _ _ (by simp)]; exact K1.out
  have k2 : (v3.setCell ⟨w.heap.size + 1 + 1, 4, none⟩ (.slice (some ⟨g3, 0, none⟩) x.defs.length x.defs.length)).heap[w.heap.size + 1 + 1]? = some (Obj.cells #[.string x.name, .slice (some ⟨g0, 0, none⟩) x.imps.length x.imps.length, .slice (some ⟨g1, 0, none⟩) x.exps.length x.exps.length, .slice (some ⟨g2, 0, none⟩) x.types.length x.types.length, .slice (some ⟨g3, 0, none⟩) x.defs.length x.defs.length, .slice none 0 0] 32) := heap_setCell_same _ _ _ _ _ _ (K2.out)
  have hb : Below w.heap.size w (v3.setCell ⟨w.heap.size + 1 + 1, 4, none⟩ (.slice (some ⟨g3, 0, none⟩) x.defs.length x.defs.length)) := hb1.setCell (p := ⟨_, _, none⟩) (by simp; omega) _
  have hz : w.heap.size + 3 ≤ (v3.setCell ⟨w.heap.size + 1 + 1, 4, none⟩ (.slice (some ⟨g3, 0, none⟩) x.defs.length x.defs.length)).heap.size := by simp; omega
  have R0_0 : Hid (rgS.Row (v3.setCell ⟨w.heap.size + 1 + 1, 4, none⟩ (.slice (some ⟨g3, 0, none⟩) x.defs.length x.defs.length)) (fun b => w.heap.size + 3 ≤ b ∧ b < (v3.setCell ⟨w.heap.size + 1 + 1, 4, none⟩ (.slice (some ⟨g3, 0, none⟩) x.defs.length x.defs.length)).heap.size) (some ⟨g0, 0, none⟩) x.imps) := R0_0.out.keep fun b h => ⟨⟨h.1, by have := h.2; simpa using this⟩, by rw [heap_setCell_other _ _ _ _ (by have := h.1; show b ≠ w.heap.size + 1 + 1; omega)]⟩
  have R1_0 : Hid (rgS.Row (v3.setCell ⟨w.heap.size + 1 + 1, 4, none⟩ (.slice (some ⟨g3, 0, none⟩) x.defs.length x.defs.length)) (fun b => w.heap.size + 3 ≤ b ∧ b < (v3.setCell ⟨w.heap.size + 1 + 1, 4, none⟩ (.slice (some ⟨g3, 0, none⟩) x.defs.length x.defs.length)).heap.size) (some ⟨g1, 0, none⟩) x.exps) := R1_0.out.keep fun b h => ⟨⟨h.1, by have := h.2; simpa using this⟩, by rw [heap_setCell_other _ _ _ _ (by have := h.1; show b ≠ w.heap.size + 1 + 1; omega)]⟩
  have R2_0 : Hid (rgT.Row (v3.setCell ⟨w.heap.size + 1 + 1, 4, none⟩ (.slice (some ⟨g3, 0, none⟩) x.defs.length x.defs.length)) (fun b => w.heap.size + 3 ≤ b ∧ b < (v3.setCell ⟨w.heap.size + 1 + 1, 4, none⟩ (.slice (some ⟨g3, 0, none⟩) x.defs.length x.defs.length)).heap.size) (some ⟨g2, 0, none⟩) x.types) := R2_0.out.keep fun b h => ⟨⟨h.1, by have := h.2; simpa using this⟩, by rw [heap_setCell_other _ _ _ _ (by have := h.1; show b ≠ w.heap.size + 1 + 1; omega)]⟩
  have R3_0 : Hid (rgD.Row (v3.setCell ⟨w.heap.size + 1 + 1, 4, none⟩ (.slice (some ⟨g3, 0, none⟩) x.defs.length x.defs.length)) (fun b => w.heap.size + 3 ≤ b ∧ b < (v3.setCell ⟨w.heap.size + 1 + 1, 4, none⟩ (.slice (some ⟨g3, 0, none⟩) x.defs.length x.defs.length)).heap.size) (some ⟨g3, 0, none⟩) x.defs) := R3_0.out.keep fun b h => ⟨⟨h.1, by have := h.2; simpa using this⟩, by rw [heap_setCell_other _ _ _ _ (by have := h.1; show b ≠ w.heap.size + 1 + 1; omega)]⟩
  clear K0 K1 K2 hb1 hsv p0 o0 p1 o1 p2 o2 p3 o3 p4 o4 p5 o5 f4
  generalize (v3.setCell ⟨w.heap.size + 1 + 1, 4, none⟩ (.slice (some ⟨g3, 0, none⟩) x.defs.length x.defs.length)) = w3A at *
  refine (HC4.out _ hb).mono ?_
  rintro e v4 ⟨g4, rfl, hrow, hv⟩
  have hb1 : Below w.heap.size w v4 := hb.trans (hv.mono hb.size)
  have hsv := hv.size
  have k0 := blk_keep k0 hv (by omega)
  have k1 := blk_keep k1 hv (by omega)
  have k2 := blk_keep k2 hv (by omega)
  have R0_0 : rgS.Row v4 (fun b => w.heap.size + 3 ≤ b ∧ b < v4.heap.size) (some ⟨g0, 0, none⟩) x.imps := R0_0.out.keep fun b h => ⟨⟨h.1, by have := h.2; omega⟩, hv.block b h.2⟩
  have R1_0 : rgS.Row v4 (fun b => w.heap.size + 3 ≤ b ∧ b < v4.heap.size) (some ⟨g1, 0, none⟩) x.exps := R1_0.out.keep fun b h => ⟨⟨h.1, by have := h.2; omega⟩, hv.block b h.2⟩
  have R2_0 : rgT.Row v4 (fun b => w.heap.size + 3 ≤ b ∧ b < v4.heap.size) (some ⟨g2, 0, none⟩) x.types := R2_0.out.keep fun b h => ⟨⟨h.1, by have := h.2; omega⟩, hv.block b h.2⟩
  have R3_0 : rgD.Row v4 (fun b => w.heap.size + 3 ≤ b ∧ b < v4.heap.size) (some ⟨g3, 0, none⟩) x.defs := R3_0.out.keep fun b h => ⟨⟨h.1, by have := h.2; omega⟩, hv.block b h.2⟩
  have R4_0 : rgD.Row v4 (fun b => w.heap.size + 3 ≤ b ∧ b < v4.heap.size) (some ⟨g4, 0, none⟩) x.convs := hrow.keep fun b h => ⟨⟨by have := h.1; omega, h.2⟩, rfl⟩
  clear hb hv hrow
  have R0_0 : Hid (rgS.Row v4 (fun b => w.heap.size + 3 ≤ b ∧ b < v4.heap.size) (some ⟨g0, 0, none⟩) x.imps) := R0_0
  have R1_0 : Hid (rgS.Row v4 (fun b => w.heap.size + 3 ≤ b ∧ b < v4.heap.size) (some ⟨g1, 0, none⟩) x.exps) := R1_0
  have R2_0 : Hid (rgT.Row v4 (fun b => w.heap.size + 3 ≤ b ∧ b < v4.heap.size) (some ⟨g2, 0, none⟩) x.types) := R2_0
  have R3_0 : Hid (rgD.Row v4 (fun b => w.heap.size + 3 ≤ b ∧ b < v4.heap.size) (some ⟨g3, 0, none⟩) x.defs) := R3_0
  have R4_0 : Hid (rgD.Row v4 (fun b => w.heap.size + 3 ≤ b ∧ b < v4.heap.size) (some ⟨g4, 0, none⟩) x.convs) := R4_0
  have p0 := cell_blk (j := 0) k0 rfl
  have p1 := cell_blk (j := 1) k0 rfl
  have p2 := cell_blk (j := 2) k0 rfl
  have p3 := cell_blk (j := 3) k0 rfl
  have p4 := cell_blk (j := 4) k0 rfl
  have p5 := cell_blk (j := 5) k0 rfl
  have o0 := cell_blk (j := 0) k2 rfl
  have o1 := cell_blk (j := 1) k2 rfl
  have o2 := cell_blk (j := 2) k2 rfl
  have o3 := cell_blk (j := 3) k2 rfl
  have o4 := cell_blk (j := 4) k2 rfl
  have o5 := cell_blk (j := 5) k2 rfl
  have f5 := frozen_blk k2 5
  have s0 := cell_blk (j := 0) k1 rfl
  have l0 := frozen_blk k1 0
  have s1 := cell_blk (j := 1) k1 rfl
  have l1 := frozen_blk k1 1
  have s2 := cell_blk (j := 2) k1 rfl
  have l2 := frozen_blk k1 2
  have s3 := cell_blk (j := 3) k1 rfl
  have l3 := frozen_blk k1 3
  have s4 := cell_blk (j := 4) k1 rfl
  have l4 := frozen_blk k1 4
  have s5 := cell_blk (j := 5) k1 rfl
  have l5 := frozen_blk k1 5
  have K0 : Hid (v4.heap[w.heap.size]? = some (Obj.cells #[.string x.name, .slice a1 x.imps.length c1, .slice a2 x.exps.length c2, .slice a3 x.types.length c3, .slice a4 x.defs.length c4, .slice a5 x.convs.length c5] 26)) := k0
  have K1 : Hid (v4.heap[w.heap.size + 1]? = some (Obj.cells #[.string ⟨#[]⟩, .slice none 0 0, .slice none 0 0, .slice none 0 0, .slice none 0 0, .slice none 0 0] 32)) := k1
  have K2 : Hid (v4.heap[w.heap.size + 1 + 1]? = some (Obj.cells #[.string x.name, .slice (some ⟨g0, 0, none⟩) x.imps.length x.imps.length, .slice (some ⟨g1, 0, none⟩) x.exps.length x.exps.length, .slice (some ⟨g2, 0, none⟩) x.types.length x.types.length, .slice (some ⟨g3, 0, none⟩) x.defs.length x.defs.length, .slice none 0 0] 32)) := k2
  clear k0 k1 k2
  go_wp2
  have K3 : (v4.setCell ⟨w.heap.size + 1 + 1, 5, none⟩ (.slice (some ⟨g4, 0, none⟩) x.convs.length x.convs.length)).heap[w.heap.size + 1]? = some (Obj.cells #[.string ⟨#[]⟩, .slice none 0 0, .slice none 0 0, .slice none 0 0, .slice none 0 0, .slice none 0 0] 32) := by
    rw [heap_setCell_other _ _ _ _ (by simp)]; exact K1.out
  refine bodyPost_ret (results_cell_row rfl _ _ (w.heap.size + 1) 32 #[.string x.name, .slice (some ⟨g0, 0, none⟩) x.imps.length x.imps.length, .slice (some ⟨g1, 0, none⟩) x.exps.length x.exps.length, .slice (some ⟨g2, 0, none⟩) x.types.length x.types.length, .slice (some ⟨g3, 0, none⟩) x.defs.length x.defs.length, .slice (some ⟨g4, 0, none⟩) x.convs.length x.convs.length] (0, 0) _ rfl (heap_setCell_same _ _ _ _ _ _ (heap_setCell_same _ _ _ _ _ _ (heap_setCell_same _ _ _ _ _ _ (heap_setCell_same _ _ _ _ _ _ (heap_setCell_same _ _ _ _ _ _ (heap_setCell_same _ _ _ _ _ _ (K3))))))) Try.underlying32 rfl (by kernel_rfl)) rfl ?_
  have hoth : ∀ b, w.heap.size + 3 ≤ b → (((((((v4.setCell ⟨w.heap.size + 1 + 1, 5, none⟩ (.slice (some ⟨g4, 0, none⟩) x.convs.length x.convs.length)).setCell ⟨w.heap.size + 1, 0, none⟩ (.string x.name)).setCell ⟨w.heap.size + 1, 1, none⟩ (.slice (some ⟨g0, 0, none⟩) x.imps.length x.imps.length)).setCell ⟨w.heap.size + 1, 2, none⟩ (.slice (some ⟨g1, 0, none⟩) x.exps.length x.exps.length)).setCell ⟨w.heap.size + 1, 3, none⟩ (.slice (some ⟨g2, 0, none⟩) x.types.length x.types.length)).setCell ⟨w.heap.size + 1, 4, none⟩ (.slice (some ⟨g3, 0, none⟩) x.defs.length x.defs.length)).setCell ⟨w.heap.size + 1, 5, none⟩ (.slice (some ⟨g4, 0, none⟩) x.convs.length x.convs.length)).heap[b]? = v4.heap[b]? := by
    intro b h
    rw [heap_setCell_other _ _ _ _ (by show b ≠ w.heap.size + 1; omega), heap_setCell_other _ _ _ _ (by show b ≠ w.heap.size + 1; omega), heap_setCell_other _ _ _ _ (by show b ≠ w.heap.size + 1; omega), heap_setCell_other _ _ _ _ (by show b ≠ w.heap.size + 1; omega), heap_setCell_other _ _ _ _ (by show b ≠ w.heap.size + 1; omega), heap_setCell_other _ _ _ _ (by show b ≠ w.heap.size + 1; omega), heap_setCell_other _ _ _ _ (by show b ≠ w.heap.size + 1 + 1; omega)]
  exact ⟨_, rfl, ⟨_, _, _, _, _, _, _, _, _, _, rfl, ⟨⟨R0_0.out.keep fun b h => ⟨⟨by have := h.1; omega, by have := h.2; simpa using this⟩, hoth b h.1⟩, Nat.le_refl _⟩, ⟨R1_0.out.keep fun b h => ⟨⟨by have := h.1; omega, by have := h.2; simpa using this⟩, hoth b h.1⟩, Nat.le_refl _⟩, ⟨R2_0.out.keep fun b h => ⟨⟨by have := h.1; omega, by have := h.2; simpa using this⟩, hoth b h.1⟩, Nat.le_refl _⟩, ⟨R3_0.out.keep fun b h => ⟨⟨by have := h.1; omega, by have := h.2; simpa using this⟩, hoth b h.1⟩, Nat.le_refl _⟩, ⟨R4_0.out.keep fun b h => ⟨⟨by have := h.1; omega, by have := h.2; simpa using this⟩, hoth b h.1⟩, Nat.le_refl _⟩⟩⟩, ((((((hb1.setCell (p := ⟨_, _, none⟩) (by simp <;> omega) _).setCell (p := ⟨_, _, none⟩) (by simp <;> omega) _).setCell (p := ⟨_, _, none⟩) (by simp <;> omega) _).setCell (p := ⟨_, _, none⟩) (by simp <;> omega) _).setCell (p := ⟨_, _, none⟩) (by simp <;> omega) _).setCell (p := ⟨_, _, none⟩) (by simp <;> omega) _).setCell (p := ⟨_, _, none⟩) (by simp <;> omega) _⟩
end Go.Proofs.Ytddcoegcpoapcaa
