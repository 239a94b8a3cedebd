/- What is looked for: the model's way, in a right system. -/
import Derived.Test.YtmnkomgdcebniaaGreatLkt
import Derived.Test.YtmnkomgdcebniaaGreatSsb
import Derived.Deep.RegionWith
import Derived.Deep.DeepCutAuto
set_option linter.unusedVariables false
namespace Go.Proofs.YtmnkomgdcebniaaGreat
open Go.ChangeShapes Go.WideShapes Go.ChangeAt Go.RowKit
theorem neqv39 (v : Val) (w : World) : (binOp .neq 39 (.agg #[.int .i64 v.k, .int .i64 v.n, .string v.s]) (.agg #[.int .i64 0, .int .i64 0, .string ⟨#[]⟩])).run Tryz.prog w = .ok (.bool (!v.zero)) w := by
  cases h : v.zero
  · exact neq_zero39 h w
  · exact eq_zero39 h w
theorem res_ct {fn : Func} {p u : Tmp} (h : fn.results = #[.cell p 39, .tmp u]) (tmps : Array Value) (w : World) (g : Nat) (v0 v1 v2 : Value)
    (hp : tmps.getD p undef = .pointer (some ⟨g, 0, none⟩)) (hg : w.heap[g]? = some (.cells #[v0, v1, v2] 39 (0, 0))) :
    (results fn tmps).run Tryz.prog w = .ok (.tuple #[.agg #[v0, v1, v2], tmps.getD u undef]) w := by
  have hp' : tmps[p]?.getD undef = .pointer (some ⟨g, 0, none⟩) := by simpa using hp
  simp [results, h, hp', asAddr, run_loadVar_row w g 39 39 #[v0, v1, v2] (0, 0) _ hg Tryz.underlying39 rfl (by kernel_rfl)]
theorem put39 {w : World} {g : Nat} {x0 x1 x2 : Value} (v0 v1 v2 : Value) (h : w.heap[g]? = some (.cells #[x0, x1, x2] 39 (0, 0))) : (((w.setCell ⟨g, 0, none⟩ v0).setCell ⟨g, 1, none⟩ v1).setCell ⟨g, 2, none⟩ v2).heap[g]? = some (.cells #[v0, v1, v2] 39 (0, 0)) :=
  heap_setCell_same _ _ _ _ _ _ (heap_setCell_same _ _ _ _ _ _ (heap_setCell_same _ _ _ _ _ _ h))
theorem put39_below {B g : Nat} {w0 w : World} (h : Below B w0 w) (hg : B ≤ g) (v0 v1 v2 : Value) : Below B w0 (((w.setCell ⟨g, 0, none⟩ v0).setCell ⟨g, 1, none⟩ v1).setCell ⟨g, 2, none⟩ v2) :=
  ((h.setCell (p := ⟨g, _, none⟩) hg _).setCell (p := ⟨g, _, none⟩) hg _).setCell (p := ⟨g, _, none⟩) hg _
theorem val0_zero : val0.zero = true := by simp [val0, Val.zero]
/-- Each library has as many values as names, each link leads to one. -/
def Fits (l : List Ins) : Prop := ∀ x ∈ l, x.vals.length = x.names.length ∧ ∀ k ∈ x.links, 0 ≤ k.inst ∧ k.inst < (l.length : Int)
set_option maxRecDepth 100000 in
set_option maxHeartbeats 4000000 in
theorem l8Look_any (y : Sy) (y1 y2 y3 y4 : Option Addr) (d1 d2 d3 d4 : Nat) (home : Nat) (s : ByteArray) (w : World) (hh : home < y.insts.length) (hft : Fits y.insts) (hs : y.small) (hr : SyRows w (fun b => b < w.heap.size) y1 y2 y3 y4 d1 d2 d3 d4 y) :
    Calls Tryz.prog 48 #[.agg #[.slice y1 y.heap.length d1, .slice y2 y.insts.length d2, .slice y3 y.units.length d3, .slice y4 y.out.length d4], .int .i64 home, .string s] w fun e w' => Ans w (.tuple #[.agg #[.int .i64 (look y.insts home s).k, .int .i64 (look y.insts home s).n, .string (look y.insts home s).s], .bool (!(look y.insts home s).zero)]) e w' := by
  obtain ⟨x, hx⟩ : ∃ x, y.insts[home]? = some x := ⟨_, List.getElem?_eq_getElem hh⟩
  obtain ⟨_, ⟨s2, s2'⟩, _⟩ := hs
  obtain ⟨_, ⟨r2, t2⟩, _⟩ := hr
  have HRX : Hid (rgX.Row w (fun b => b < w.heap.size) y2 y.insts) := r2
  obtain ⟨b1, o1, cs, rfl, hbb, ⟨a1, a2, a3, a4, c1, c2, c3, c4, rfl, hrows⟩, hl⟩ := r2 home x hx
  have x0 : w.cell? ⟨b1, o1 + home * 6, none⟩ = some (.string x.lib) := hl 0 _ rfl
  have x1 : w.cell? ⟨b1, o1 + home * 6 + 1, none⟩ = some (.int .i64 x.ver) := hl 1 _ rfl
  have x2 : w.cell? ⟨b1, o1 + home * 6 + 2, none⟩ = some (.slice a1 x.names.length c1) := hl 2 _ rfl
  have x3 : w.cell? ⟨b1, o1 + home * 6 + 3, none⟩ = some (.slice a2 x.vals.length c2) := hl 3 _ rfl
  have x4 : w.cell? ⟨b1, o1 + home * 6 + 4, none⟩ = some (.slice a3 x.links.length c3) := hl 4 _ rfl
  have x5 : w.cell? ⟨b1, o1 + home * 6 + 5, none⟩ = some (.slice a4 x.types.length c4) := hl 5 _ rfl
  have hsx := s2' x (List.mem_of_getElem? hx)
  have HSM : Hid (∀ d ∈ y.insts, Ins.small d) := s2'
  obtain ⟨hvl, hlk⟩ := hft x (List.mem_of_getElem? hx)
  have HFT : Hid (Fits y.insts) := hft
  have HLK : Hid (∀ k ∈ x.links, 0 ≤ k.inst ∧ k.inst < (y.insts.length : Int)) := hlk
  have HVL : Hid (x.vals.length = x.names.length) := hvl
  have hnl := hsx.2.2.1.1
  have hll := hsx.2.2.2.2.1.1
  have HNM : Hid (∀ w1, Below w.heap.size w w1 → Calls Tryz.prog 96 #[.agg #[.string x.lib, .int .i64 x.ver, .slice a1 x.names.length c1, .slice a2 x.vals.length c2, .slice a3 x.links.length c3, .slice a4 x.types.length c4], .string s] w1 fun e w' => Ans w1 (.int .i64 (atI (idxS x.names s))) e w') := fun w1 h1 => l8Name_any x a1 a2 a3 a4 c1 c2 c3 c4 s w1 hsx (hrows.keep fun b hb => ⟨Nat.lt_of_lt_of_le hb h1.size, h1.block b hb⟩)
  have RV : Hid (rgV.Row w (fun b => b < w.heap.size) a2 x.vals) := hrows.2.1.1
  have RL : Hid (rgL.Row w (fun b => b < w.heap.size) a3 x.links) := hrows.2.2.1.1
  have HLO : Hid (look y.insts home s = match idxS x.names s with
    | some i => (x.vals[i]?).getD val0
    | none => match x.link s with
      | none => val0
      | some k => match y.insts[k.inst.toNat]? with
        | none => val0
        | some z => z.own k.at_) := by show _ = _; unfold look; rw [hx]; rfl
  have hb0 : Below w.heap.size w (((w.alloc (Obj.cells #[.slice y1 y.heap.length d1, .slice (some ⟨b1, o1, none⟩) y.insts.length d2, .slice y3 y.units.length d3, .slice y4 y.out.length d4] 34)).alloc (Obj.cells #[.int .i64 0, .int .i64 0, .string ⟨#[]⟩] 39)).alloc (Obj.cells #[.string x.lib, .int .i64 x.ver, .slice a1 x.names.length c1, .slice a2 x.vals.length c2, .slice a3 x.links.length c3, .slice a4 x.types.length c4] 137)) := (((Below.refl _ _).alloc (Nat.le_refl _) _).alloc (by simp) _).alloc (by simp; omega) _
  have kY : (((w.alloc (Obj.cells #[.slice y1 y.heap.length d1, .slice (some ⟨b1, o1, none⟩) y.insts.length d2, .slice y3 y.units.length d3, .slice y4 y.out.length d4] 34)).alloc (Obj.cells #[.int .i64 0, .int .i64 0, .string ⟨#[]⟩] 39)).alloc (Obj.cells #[.string x.lib, .int .i64 x.ver, .slice a1 x.names.length c1, .slice a2 x.vals.length c2, .slice a3 x.links.length c3, .slice a4 x.types.length c4] 137)).heap[w.heap.size]? = some (Obj.cells #[.slice y1 y.heap.length d1, .slice (some ⟨b1, o1, none⟩) y.insts.length d2, .slice y3 y.units.length d3, .slice y4 y.out.length d4] 34) := blk_past (blk_past (blk_at _ _ _ rfl))
  have kR : (((w.alloc (Obj.cells #[.slice y1 y.heap.length d1, .slice (some ⟨b1, o1, none⟩) y.insts.length d2, .slice y3 y.units.length d3, .slice y4 y.out.length d4] 34)).alloc (Obj.cells #[.int .i64 0, .int .i64 0, .string ⟨#[]⟩] 39)).alloc (Obj.cells #[.string x.lib, .int .i64 x.ver, .slice a1 x.names.length c1, .slice a2 x.vals.length c2, .slice a3 x.links.length c3, .slice a4 x.types.length c4] 137)).heap[w.heap.size + 1]? = some (Obj.cells #[.int .i64 0, .int .i64 0, .string ⟨#[]⟩] 39) := blk_past (blk_at _ _ _ (by simp))
  have kX : (((w.alloc (Obj.cells #[.slice y1 y.heap.length d1, .slice (some ⟨b1, o1, none⟩) y.insts.length d2, .slice y3 y.units.length d3, .slice y4 y.out.length d4] 34)).alloc (Obj.cells #[.int .i64 0, .int .i64 0, .string ⟨#[]⟩] 39)).alloc (Obj.cells #[.string x.lib, .int .i64 x.ver, .slice a1 x.names.length c1, .slice a2 x.vals.length c2, .slice a3 x.links.length c3, .slice a4 x.types.length c4] 137)).heap[w.heap.size + 1 + 1]? = some (Obj.cells #[.string x.lib, .int .i64 x.ver, .slice a1 x.names.length c1, .slice a2 x.vals.length c2, .slice a3 x.links.length c3, .slice a4 x.types.length c4] 137) := blk_at _ _ _ (by simp)
  have hhi : (home : Int) < (y.insts.length : Int) := by omega
  clear hl hrows r2 s2' hsx hft hlk hvl
  go_enter Tryz.func48, Tryz.ntmps48
  go_wp2_with fail
  refine (HNM.out _ hb0).mono ?_
  rintro e v1 ⟨rfl, hv⟩
  have hb1 : Below w.heap.size w v1 := hb0.trans (hv.mono hb0.size)
  have kY1 := blk_keep kY hv (Array.getElem?_eq_some_iff.1 kY).1
  have kR1 := blk_keep kR hv (Array.getElem?_eq_some_iff.1 kR).1
  have kX1 := blk_keep kX hv (Array.getElem?_eq_some_iff.1 kX).1
  clear hv hb0 x0 x1 x2 x3 x4 x5 HNM kY kR kX
  have hXl : w.heap.size + 1 + 1 < v1.heap.size := (Array.getElem?_eq_some_iff.1 kX1).1
  cases hix : idxS x.names s with
  | some i =>
    rw [hix] at HLO
    have hil : i < x.names.length := by
      have := List.findIdx?_eq_some_iff_getElem.1 hix
      exact this.1
    obtain ⟨v, hv⟩ : ∃ v, x.vals[i]? = some v := ⟨_, List.getElem?_eq_getElem (by rw [HVL.out]; exact hil)⟩
    obtain ⟨b2, o2, cs, rfl, hbb2, rfl, hl2⟩ := (RV.out.below hb1) i v hv
    have e0 : v1.cell? ⟨b2, o2 + i * 3, none⟩ = some (.int .i64 v.k) := hl2 0 _ rfl
    have e1 : v1.cell? ⟨b2, o2 + i * 3 + 1, none⟩ = some (.int .i64 v.n) := hl2 1 _ rfl
    have e2 : v1.cell? ⟨b2, o2 + i * 3 + 2, none⟩ = some (.string v.s) := hl2 2 _ rfl
    have HLV : Hid (look y.insts home s = v) := by show _ = _; rw [HLO.out]; simp [hv]
    have hiv : (i : Int) < (x.vals.length : Int) := by rw [HVL.out]; omega
    have z3 := cell_blk (j := 3) kX1 rfl
    have q0 := cell_blk (j := 0) kR1 rfl
    have q1 := cell_blk (j := 1) kR1 rfl
    have q2 := cell_blk (j := 2) kR1 rfl
    have f0 := frozen_blk kR1 0
    have f1 := frozen_blk kR1 1
    have f2 := frozen_blk kR1 2
    have hcmp := neqv39 v
    have KR : Hid (v1.heap[w.heap.size + 1]? = some (Obj.cells #[.int .i64 0, .int .i64 0, .string ⟨#[]⟩] 39)) := kR1
    have hne : b2 < w.heap.size + 1 := by omega
    clear kX1 kY1 kR1 hl2 hv hix RL HLO
    unfold atI
    go_wp2_with fail
    go_region
    all_goals
      go_wp2_with fail
      refine bodyPost_ret (res_ct rfl _ _ (w.heap.size + 1) _ _ _ rfl (put39 _ _ _ KR.out)) rfl ?_
      exact ⟨by rw [HLV.out]; rfl, put39_below (below_drewN hb1 _) (by simp) _ _ _⟩
  | none =>
    rw [hix] at HLO
    have HLK2 : Hid (look y.insts home s = match x.link s with
      | none => val0
      | some k => match y.insts[k.inst.toNat]? with
        | none => val0
        | some z => z.own k.at_) := HLO
    have HXL : Hid (x.link s = x.links.find? (fun l => l.name.toList == s.toList)) := rfl
    have KR : Hid (v1.heap[w.heap.size + 1]? = some (Obj.cells #[.int .i64 0, .int .i64 0, .string ⟨#[]⟩] 39)) := kR1
    have KX : Hid (v1.heap[w.heap.size + 1 + 1]? = some (Obj.cells #[.string x.lib, .int .i64 x.ver, .slice a1 x.names.length c1, .slice a2 x.vals.length c2, .slice a3 x.links.length c3, .slice a4 x.types.length c4] 137)) := kX1
    have KY : Hid (v1.heap[w.heap.size]? = some (Obj.cells #[.slice y1 y.heap.length d1, .slice (some ⟨b1, o1, none⟩) y.insts.length d2, .slice y3 y.units.length d3, .slice y4 y.out.length d4] 34)) := kY1
    clear kX1 kY1 kR1 hix HLO
    unfold atI
    go_wp2
    go_loopw [10] (fun o wr => ∃ k : Nat, k ≤ x.links.length ∧ o = .int .i64 k ∧ (x.links.take k).find? (fun l => l.name.toList == s.toList) = none ∧ wr = v1) (fun o _ => x.links.length - (intOf o).toNat)
    case atStart => exact ⟨0, by omega, rfl, rfl, rfl⟩
    case round =>
      obtain ⟨k, hk, rfl, hnone, rfl⟩ := hrel
      have z4 := cell_blk (j := 4) KX.out rfl
      by_cases hlt : k < x.links.length
      · obtain ⟨d, hd⟩ : ∃ d, x.links[k]? = some d := ⟨_, List.getElem?_eq_getElem hlt⟩
        obtain ⟨b3, o3, cs, rfl, hbb3, rfl, hl3⟩ := (RL.out.below hb1) k d hd
        obtain ⟨hin0, hin1⟩ := HLK.out d (List.mem_of_getElem? hd)
        cases he : (d.name.toList == s.toList)
        · have e0 : wr.cell? ⟨b3, o3 + k * 3, none⟩ = some (.string d.name) := hl3 0 _ rfl
          have HQ : Hid ((x.links.take (k + 1)).find? (fun l => l.name.toList == s.toList) = none) := find_take hd hnone he
          clear hd hnone hl3
          go_wp2
          go_roundw
          case rel => exact ⟨k + 1, by omega, by go_num, HQ.out, by first | rfl | trivial⟩
          case measure => simp [intOf]; omega
        · have HF : Hid (x.links.find? (fun l => l.name.toList == s.toList) = some d) := find_hit hd hnone he
          obtain ⟨dn, di, da⟩ := d
          simp only at hin0 hin1 he hl3
          obtain ⟨ii, rfl⟩ : ∃ ii : Nat, di = (ii : Int) := ⟨di.toNat, by omega⟩
          have e0 : wr.cell? ⟨b3, o3 + k * 3, none⟩ = some (.string dn) := hl3 0 _ rfl
          have e1 : wr.cell? ⟨b3, o3 + k * 3 + 1, none⟩ = some (.int .i64 (ii : Int)) := hl3 1 _ rfl
          have e2 : wr.cell? ⟨b3, o3 + k * 3 + 2, none⟩ = some (.string da) := hl3 2 _ rfl
          obtain ⟨z, hz⟩ : ∃ z, y.insts[ii]? = some z := ⟨_, List.getElem?_eq_getElem (by omega)⟩
          obtain ⟨b4, o4, cs, hq4, hbb4, ⟨p1, p2, p3, p4, g1, g2, g3, g4, rfl, hrz⟩, hl4⟩ := (HRX.out.below hb1) ii z hz
          simp only [Option.some.injEq, Addr.mk.injEq, and_true] at hq4
          obtain ⟨rfl, rfl⟩ := hq4
          have m0 : wr.cell? ⟨b1, o1 + ii * 6, none⟩ = some (.string z.lib) := hl4 0 _ rfl
          have m1 : wr.cell? ⟨b1, o1 + ii * 6 + 1, none⟩ = some (.int .i64 z.ver) := hl4 1 _ rfl
          have m2 : wr.cell? ⟨b1, o1 + ii * 6 + 2, none⟩ = some (.slice p1 z.names.length g1) := hl4 2 _ rfl
          have m3 : wr.cell? ⟨b1, o1 + ii * 6 + 3, none⟩ = some (.slice p2 z.vals.length g2) := hl4 3 _ rfl
          have m4 : wr.cell? ⟨b1, o1 + ii * 6 + 4, none⟩ = some (.slice p3 z.links.length g3) := hl4 4 _ rfl
          have m5 : wr.cell? ⟨b1, o1 + ii * 6 + 5, none⟩ = some (.slice p4 z.types.length g4) := hl4 5 _ rfl
          have s1 := cell_blk (j := 1) KY.out rfl
          have HLZ : Hid (look y.insts home s = z.own da) := by
            show _ = _
            rw [HLK2.out, HXL.out, HF.out]
            simp [hz]
          have HZV : Hid (z.vals.length = z.names.length) := (HFT.out z (List.mem_of_getElem? hz)).1
          have HZS := HSM.out z (List.mem_of_getElem? hz)
          have HNZ : Hid (∀ w1, Below w.heap.size wr w1 → Calls Tryz.prog 96 #[.agg #[.string z.lib, .int .i64 z.ver, .slice p1 z.names.length g1, .slice p2 z.vals.length g2, .slice p3 z.links.length g3, .slice p4 z.types.length g4], .string da] w1 fun e w' => Ans w1 (.int .i64 (atI (idxS z.names da))) e w') := fun w1 h1 => l8Name_any z p1 p2 p3 p4 g1 g2 g3 g4 da w1 HZS (hrz.keep fun b hb => ⟨by have := h1.size; have := hb1.size; omega, h1.block b hb⟩)
          have RZV : Hid (rgV.Row wr (fun b => b < w.heap.size) p2 z.vals) := hrz.2.1.1
          have hii : (ii : Int) < (y.insts.length : Int) := hin1
          have hzn := HZS.2.2.1.1
          have hb3w : b3 < wr.heap.size := by have := hb1.size; omega
          have hb1w : b1 < wr.heap.size := by have := hb1.size; omega
          have hYw : w.heap.size < wr.heap.size := by omega
          have hRw : w.heap.size + 1 < wr.heap.size := by omega
          clear hd hnone hl3 hl4 hz hrz HF HZS hin0 hin1 HLK2 HLK HRX HFT HSM RV
          go_wp2_with fail
          go_region
          have hbZ : Below wr.heap.size wr (wr.alloc (Obj.cells #[.string z.lib, .int .i64 z.ver, .slice p1 z.names.length g1, .slice p2 z.vals.length g2, .slice p3 z.links.length g3, .slice p4 z.types.length g4] 137)).drew := below_drewN ((Below.refl _ _).alloc (Nat.le_refl _) _) 1
          have kZ : (wr.alloc (Obj.cells #[.string z.lib, .int .i64 z.ver, .slice p1 z.names.length g1, .slice p2 z.vals.length g2, .slice p3 z.links.length g3, .slice p4 z.types.length g4] 137)).drew.heap[wr.heap.size]? = some (Obj.cells #[.string z.lib, .int .i64 z.ver, .slice p1 z.names.length g1, .slice p2 z.vals.length g2, .slice p3 z.links.length g3, .slice p4 z.types.length g4] 137) := blk_at _ _ _ rfl
          have hzl : wr.heap.size < (wr.alloc (Obj.cells #[.string z.lib, .int .i64 z.ver, .slice p1 z.names.length g1, .slice p2 z.vals.length g2, .slice p3 z.links.length g3, .slice p4 z.types.length g4] 137)).drew.heap.size := (Array.getElem?_eq_some_iff.1 kZ).1
          generalize (wr.alloc (Obj.cells #[.string z.lib, .int .i64 z.ver, .slice p1 z.names.length g1, .slice p2 z.vals.length g2, .slice p3 z.links.length g3, .slice p4 z.types.length g4] 137)).drew = W2 at *
          have kR2 := blk_keep KR.out hbZ hRw
          have kX2 := blk_keep KX.out hbZ hXl
          have e2' := cell_keep e2 hbZ hb3w
          have z4' := cell_blk (j := 4) kX2 rfl
          have n0 := cell_blk (j := 0) kZ rfl
          have n1 := cell_blk (j := 1) kZ rfl
          have n2 := cell_blk (j := 2) kZ rfl
          have n3 := cell_blk (j := 3) kZ rfl
          have n4 := cell_blk (j := 4) kZ rfl
          have n5 := cell_blk (j := 5) kZ rfl
          have hbE : Below w.heap.size wr W2 := hbZ.mono hb1.size
          have hbF : Below w.heap.size w W2 := hb1.trans hbE
          clear e0 e1 e2 m0 m1 m2 m3 m4 m5 s1 z4
          have HNZ2 : Hid (Calls Tryz.prog 96 #[.agg #[.string z.lib, .int .i64 z.ver, .slice p1 z.names.length g1, .slice p2 z.vals.length g2, .slice p3 z.links.length g3, .slice p4 z.types.length g4], .string da] W2.drew fun e w' => Ans W2.drew (.int .i64 (atI (idxS z.names da))) e w') := HNZ.out _ (below_drewN hbE 1)
          go_wp2_with fail
          go_region_with (go_at_call 96; refine HNZ2.out.mono ?_; rintro e w5 ⟨rfl, hb5⟩)
          all_goals
            have hb6 : Below w.heap.size w w5 := (below_drewN hbF 1).trans (hb5.mono hbF.size)
            have kR5 : w5.heap[w.heap.size + 1]? = some (Obj.cells #[.int .i64 0, .int .i64 0, .string ⟨#[]⟩] 39) := (hb5.block _ (by show _ < W2.heap.size; omega)).trans kR2
            have kZ5 : w5.heap[wr.heap.size]? = some (Obj.cells #[.string z.lib, .int .i64 z.ver, .slice p1 z.names.length g1, .slice p2 z.vals.length g2, .slice p3 z.links.length g3, .slice p4 z.types.length g4] 137) := (hb5.block _ (by show _ < W2.heap.size; omega)).trans kZ
            have q0 := cell_blk (j := 0) kR5 rfl
            have q1 := cell_blk (j := 1) kR5 rfl
            have q2 := cell_blk (j := 2) kR5 rfl
            have f0 := frozen_blk kR5 0
            have f1 := frozen_blk kR5 1
            have f2 := frozen_blk kR5 2
            have KR5 : Hid (w5.heap[w.heap.size + 1]? = some (Obj.cells #[.int .i64 0, .int .i64 0, .string ⟨#[]⟩] 39)) := kR5
            have n3' := cell_blk (j := 3) kZ5 rfl
            have RZ5 : Hid (rgV.Row w5 (fun b => b < w.heap.size) p2 z.vals) := RZV.out.keep fun b hb => ⟨hb, ((hb5.block b (by show _ < W2.heap.size; omega)).trans (hbE.block b hb))⟩
            clear kR5 kZ5 kR2 kX2 kZ n0 n1 n2 n3 n4 n5 e2' z4' hb5 HNZ2 HNZ RZV
            have HOW : Hid (z.own da = match idxS z.names da with
              | some i => (z.vals[i]?).getD val0
              | none => val0) := rfl
            cases hiz : idxS z.names da with
            | none =>
              rw [hiz] at HOW
              have HLV : Hid (look y.insts home s = val0) := by show _ = _; rw [HLZ.out, HOW.out]
              clear hiz HOW
              unfold atI
              go_wp2_with fail
              refine bodyPost_ret (res_ct rfl _ _ (w.heap.size + 1) _ _ _ rfl (put39 _ _ _ KR5.out)) rfl ?_
              exact ⟨by rw [HLV.out, val0_zero]; rfl, put39_below hb6 (by simp) _ _ _⟩
            | some i =>
              rw [hiz] at HOW
              have hil : i < z.names.length := (List.findIdx?_eq_some_iff_getElem.1 hiz).1
              obtain ⟨v, hv⟩ : ∃ v, z.vals[i]? = some v := ⟨_, List.getElem?_eq_getElem (by rw [HZV.out]; exact hil)⟩
              obtain ⟨b7, o7, cs, rfl, hbb7, rfl, hl7⟩ := RZ5.out i v hv
              have e0 : w5.cell? ⟨b7, o7 + i * 3, none⟩ = some (.int .i64 v.k) := hl7 0 _ rfl
              have e1 : w5.cell? ⟨b7, o7 + i * 3 + 1, none⟩ = some (.int .i64 v.n) := hl7 1 _ rfl
              have e2 : w5.cell? ⟨b7, o7 + i * 3 + 2, none⟩ = some (.string v.s) := hl7 2 _ rfl
              have HLV : Hid (look y.insts home s = v) := by show _ = _; rw [HLZ.out, HOW.out]; simp [hv]
              have hiv : (i : Int) < (z.vals.length : Int) := by rw [HZV.out]; omega
              have hcmp := neqv39 v
              have hne : b7 < w.heap.size + 1 := by omega
              clear hl7 hv hiz HOW
              unfold atI
              go_wp2_with fail
              go_region
              all_goals
                go_wp2_with fail
                refine bodyPost_ret (res_ct rfl _ _ (w.heap.size + 1) _ _ _ rfl (put39 _ _ _ KR5.out)) rfl ?_
                exact ⟨by rw [HLV.out]; rfl, put39_below (below_drewN hb6 _) (by simp) _ _ _⟩
      · obtain rfl : k = x.links.length := by omega
        rw [List.take_length] at hnone
        have hlt' : decide ((x.links.length : Int) < (x.links.length : Int)) = false := by simp
        have HLV : Hid (look y.insts home s = val0) := by show _ = _; rw [HLK2.out, HXL.out, hnone]
        have q0 := cell_blk (j := 0) KR.out rfl
        have q1 := cell_blk (j := 1) KR.out rfl
        have q2 := cell_blk (j := 2) KR.out rfl
        have f0 := frozen_blk KR.out 0
        have f1 := frozen_blk KR.out 1
        have f2 := frozen_blk KR.out 2
        clear hnone
        go_wp2_with fail
        refine bodyPost_ret (res_ct rfl _ _ (w.heap.size + 1) _ _ _ rfl (put39 _ _ _ KR.out)) rfl ?_
        exact ⟨by rw [HLV.out, val0_zero]; rfl, put39_below hb1 (by simp) _ _ _⟩
end Go.Proofs.YtmnkomgdcebniaaGreat
