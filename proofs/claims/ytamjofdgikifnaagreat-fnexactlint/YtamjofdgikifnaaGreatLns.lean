/- All programs of a source, a row of one's own. -/
import Derived.Test.YtamjofdgikifnaaGreatSlg
import Derived.Test.YtamjofdgikifnaaGreatSld
import Derived.Test.YtamjofdgikifnaaGreatLnp
import Derived.Deep.RegionWith
set_option linter.unusedVariables false
namespace Go.Proofs.YtamjofdgikifnaaGreat
open Go.ChangeShapes Go.WideShapes Go.ChangeAt Go.RowKit
theorem RawOf.snoc {α : Type} {R : Rd α} {w : World} {p : Nat → Prop} {l : List α} {u cs : List Value} {x : α} (h : RawOf R w p u l) (hx : R.At w p cs x) : RawOf R w p (u ++ cs) (l ++ [x]) := h.append ⟨cs, [], by simp, hx, rfl⟩
theorem RawOf.at' {α : Type} {R : Rd α} {w : World} {p : Nat → Prop} : ∀ {l : List α} {u : List Value} {i : Nat} {x : α}, RawOf R w p u l → l[i]? = some x → ∃ cs, R.At w p cs x ∧ ∀ j v, cs[j]? = some v → u[i * R.n + j]? = some v
 | y :: l, u, i, x, h, hi => by
  obtain ⟨cs, rest, rfl, h1, h2⟩ := h
  cases i with
  | zero =>
   obtain rfl : y = x := by simpa using hi
   refine ⟨cs, h1, fun j v hj => ?_⟩
   rw [Nat.zero_mul, Nat.zero_add, List.getElem?_append_left (List.getElem?_eq_some_iff.1 hj).1]
   exact hj
  | succ i =>
   obtain ⟨cs', h3, h4⟩ := RawOf.at' h2 (by simpa using hi : l[i]? = some x)
   refine ⟨cs', h3, fun j v hj => ?_⟩
   have e := R.len h1
   rw [List.getElem?_append_right (by rw [e, Nat.succ_mul]; omega), e]
   have e2 : (i + 1) * R.n + j - R.n = i * R.n + j := by rw [Nat.succ_mul]; omega
   rw [e2]
   exact h4 j v hj
def OwnP (w0 w : World) (B : Nat) (v : Value) (l : List Prg) : Prop := ∃ u, RawOf rgP w0 (fun b => b < w0.heap.size) u l ∧ w.ownsRow B 54 2 v l.length u
theorem OwnP.slice {w0 w : World} {B : Nat} {v : Value} {l : List Prg} (h : OwnP w0 w B v l) : ∃ (a : Option Addr) (cap : Nat), v = .slice a l.length cap := by
 obtain ⟨u, _, hl, ⟨hv, h0⟩ | ⟨g, cap', cur, hv, _⟩⟩ := h
 ·exact ⟨none, 0, by rw [hv, h0]⟩
 ·exact ⟨_, _, hv⟩
theorem OwnP.keep' {w0 w w' : World} {B : Nat} {v : Value} {l : List Prg} (h : OwnP w0 w B v l) (hb : Below w.heap.size w w') : OwnP w0 w' B v l := by
 obtain ⟨u, hu, hl, ⟨hv, h0⟩ | ⟨g, cap', cur, hv, a1, hblk, a3⟩⟩ := h
 ·exact ⟨u, hu, hl, .inl ⟨hv, h0⟩⟩
 ·exact ⟨u, hu, hl, .inr ⟨g, cap', cur, hv, a1, (hb.block g (Array.getElem?_eq_some_iff.1 hblk).1).trans hblk, a3⟩⟩
theorem OwnP.weak {w0 w : World} {B B' : Nat} {v : Value} {l : List Prg} (h : OwnP w0 w B v l) (hB : B' ≤ B) : OwnP w0 w B' v l := by
 obtain ⟨u, hu, hl, ⟨hv, h0⟩ | ⟨g, cap', cur, hv, a1, a3⟩⟩ := h
 ·exact ⟨u, hu, hl, .inl ⟨hv, h0⟩⟩
 ·exact ⟨u, hu, hl, .inr ⟨g, cap', cur, hv, Nat.le_trans hB a1, a3⟩⟩
theorem OwnP.at {w0 w : World} {B n cap i : Nat} {a : Option Addr} {l : List Prg} {p : Prg} (h : OwnP w0 w B (.slice a n cap) l) (hi : l[i]? = some p) : ∃ g an cn, a = some ⟨g, 0, none⟩ ∧ B ≤ g ∧ g < w.heap.size ∧ w.cell? ⟨g, i * 2, none⟩ = some (.slice an p.nodes.length cn) ∧ w.cell? ⟨g, i * 2 + 1, none⟩ = some (.int .i64 p.root) ∧ rgN.Row w0 (fun b => b < w0.heap.size) an p.nodes := by
 obtain ⟨u, hu, hl, ⟨hv, h0⟩ | ⟨g, cap', cur, hv, a1, hblk, a3, a4, a5, a6⟩⟩ := h
 ·rw [List.eq_nil_of_length_eq_zero h0] at hi
  simp at hi
 ·injection hv with h1 h2 h3
  obtain ⟨cs, ⟨an, cn, rfl, hr, _⟩, hc⟩ := RawOf.at' hu hi
  exact ⟨g, an, cn, h1, a1, (Array.getElem?_eq_some_iff.1 hblk).1, cell_blk hblk (Fr.take_get a6 (hc 0 _ rfl)), cell_blk hblk (Fr.take_get a6 (hc 1 _ rfl)), hr⟩
theorem Tryz.inf54 : (Tryz.prog.info? 54).map (fun i => (i.zero, i.size, i.bytes)) = some (some (.agg #[.slice none 0 0, .int .i64 0]), 2, 32) := by kernel_rfl
def PsPost (w0 : World) (l : List Prg) (w : World) (e : Ending) (w' : World) : Prop := ∃ a cap, e = .returned (.slice a l.length cap) ∧ OwnP w0 w' w.heap.size (.slice a l.length cap) l ∧ Below w.heap.size w w'
set_option maxRecDepth 100000 in
set_option maxHeartbeats 1000000 in
theorem l21All_any (x : Srx) (a1 a2 a3 a4 a5 : Option Addr) (c1 c2 c3 c4 c5 : Nat) (w0 w : World) (h0 : Below w0.heap.size w0 w) (hx4 : x.defs.length ≤ 1048576) (hx5 : x.convs.length ≤ 1000) (hx6 : x.defs.length ≤ 1000) (hr4 : rgD.Row w0 (fun b => b < w0.heap.size) a4 x.defs) (hr5 : rgD.Row w0 (fun b => b < w0.heap.size) a5 x.convs) :
  Calls Tryz.prog 25 #[.agg #[.string x.name, .slice a1 x.imps.length c1, .slice a2 x.exps.length c2, .slice a3 x.types.length c3, .slice a4 x.defs.length c4, .slice a5 x.convs.length c5]] w fun e w' => PsPost w0 (x.all.map (·.prog)) w e w' := by
 have HRD : Hid (rgD.Row w0 (fun b => b < w0.heap.size) a4 x.defs) := hr4
 have HRV : Hid (rgD.Row w0 (fun b => b < w0.heap.size) a5 x.convs) := hr5
 have H0 : Hid (Below w0.heap.size w0 w) := h0
 clear hr4 hr5 h0
 obtain ⟨i9, hi9, hz90, hz91, hz92⟩ := info_parts Tryz.inf54
 obtain ⟨wa, hwa⟩ : ∃ wa, wa = w.alloc (Obj.cells #[.string x.name, .slice a1 x.imps.length c1, .slice a2 x.exps.length c2, .slice a3 x.types.length c3, .slice a4 x.defs.length c4, .slice a5 x.convs.length c5] 34) := ⟨_, rfl⟩
 obtain ⟨w1, hw1⟩ : ∃ w1, w1 = wa.alloc (Obj.cells #[] 54) := ⟨_, rfl⟩
 have HWA : Hid (Below w.heap.size w wa) := by show Below _ _ _; rw [hwa]; exact (Below.refl _ _).alloc (Nat.le_refl _) _
 have hsz : wa.heap.size = w.heap.size + 1 := by rw [hwa]; simp
 have HSA : Hid (w.heap.size + 1 ≤ wa.heap.size) := by show _ ≤ _; omega
 have k0 : Hid (wa.heap[w.heap.size]? = some (Obj.cells #[.string x.name, .slice a1 x.imps.length c1, .slice a2 x.exps.length c2, .slice a3 x.types.length c3, .slice a4 x.defs.length c4, .slice a5 x.convs.length c5] 34)) := by show _ = _; rw [hwa]; exact blk_at _ _ _ rfl
 have HE : Hid (OwnP w0 w1 (w.heap.size + 1) (.slice (some ⟨w.heap.size + 1, 0, none⟩) 0 0) []) := ⟨[], rfl, own_empty (by rw [hw1]; exact blk_at _ _ _ hsz.symm) (Nat.le_refl _)⟩
 have HB : Hid (Below (w.heap.size + 1) wa w1) := by show Below _ _ _; rw [hw1]; exact (Below.refl _ _).alloc (by omega) _
 have HW1 : Hid (w1 = (w.alloc (Obj.cells #[.string x.name, .slice a1 x.imps.length c1, .slice a2 x.exps.length c2, .slice a3 x.types.length c3, .slice a4 x.defs.length c4, .slice a5 x.convs.length c5] 34)).alloc (Obj.cells #[] 54)) := by show _ = _; rw [hw1, hwa]
 have e4 := cell_blk (j := 4) ((HB.out.block w.heap.size (Nat.lt_succ_self _)).trans k0.out) rfl
 have e5 := cell_blk (j := 5) ((HB.out.block w.heap.size (Nat.lt_succ_self _)).trans k0.out) rfl
 clear hwa hw1 hsz
 go_enter Tryz.func25, Tryz.ntmps25
 go_wp2
 rw [← HW1.out]
 go_loopw [3, 4] (fun v o wr => ∃ i : Nat, i ≤ x.defs.length ∧ o = .int .i64 i ∧ OwnP w0 wr (w.heap.size + 1) v ((x.defs.take i).map (·.prog)) ∧ Below (w.heap.size + 1) wa wr)
  (fun _ o _ => x.defs.length - (intOf o).toNat)
 case atStart => exact ⟨0, by omega, rfl, HE.out, HB.out⟩
 case round =>
  obtain ⟨i, hi, rfl, hown, hba⟩ := hrel
  have hb : Below w.heap.size w wr := HWA.out.trans (hba.mono (Nat.le_succ _))
  obtain ⟨oa, oc, rfl⟩ := hown.slice
  have HOW : Hid (OwnP w0 wr (w.heap.size + 1) (.slice oa ((x.defs.take i).map (·.prog)).length oc) ((x.defs.take i).map (·.prog))) := hown
  have hsl : ((x.defs.take i).map (fun t : Dfn => t.prog)).length ≤ 1048576 := by
   rw [List.length_map, List.length_take]; omega
  clear hown
  have hsz := hb.size
  have hsa : w.heap.size + 1 ≤ wr.heap.size := Nat.le_trans HSA.out hba.size
  by_cases hlt : i < x.defs.length
  ·obtain ⟨d, hd⟩ : ∃ d, x.defs[i]? = some d := ⟨_, List.getElem?_eq_getElem hlt⟩
   obtain ⟨b1, o1, cs, rfl, hbb, ⟨an, cn, rfl, hrn⟩, hl⟩ := HRD.out i d hd
   have y0 : wr.cell? ⟨b1, o1 + i * 3, none⟩ = some (.string d.name) := (World.cell?_of_block (w := w0) (a := ⟨b1, _, none⟩) ((H0.out.trans (hb.mono H0.out.size)).block b1 hbb)).trans (hl 0 _ rfl)
   have y1 : wr.cell? ⟨b1, o1 + i * 3 + 1, none⟩ = some (.slice an d.prog.nodes.length cn) := (World.cell?_of_block (w := w0) (a := ⟨b1, _, none⟩) ((H0.out.trans (hb.mono H0.out.size)).block b1 hbb)).trans (hl 1 _ rfl)
   have y2 : wr.cell? ⟨b1, o1 + i * 3 + 2, none⟩ = some (.int .i64 d.prog.root) := (World.cell?_of_block (w := w0) (a := ⟨b1, _, none⟩) ((H0.out.trans (hb.mono H0.out.size)).block b1 hbb)).trans (hl 2 _ rfl)
   have HMT : Hid ((x.defs.take (i + 1)).map (fun t : Dfn => t.prog) = ((x.defs.take i).map (fun t : Dfn => t.prog)) ++ [d.prog]) := by
    show _ = _
    exact map_take _ hd
   have HPR : Hid (rgP.At w0 (fun b => b < w0.heap.size) [.slice an d.prog.nodes.length cn, .int .i64 d.prog.root] d.prog) := ⟨an, cn, rfl, hrn⟩
   have k1 := (hba.block w.heap.size (Nat.lt_succ_self _)).trans k0.out
   clear hd hl hrn
   generalize hls : ((x.defs.take i).map (fun t : Dfn => t.prog)) = ls at *
   clear hls
   obtain ⟨u, hu, hou⟩ := HOW.out
   have HU : Hid (RawOf rgP w0 (fun b => b < w0.heap.size) (u ++ [.slice an d.prog.nodes.length cn, .int .i64 d.prog.root]) (ls ++ [d.prog])) := RawOf.snoc hu HPR.out
   have HOU : Hid (wr.ownsRow (w.heap.size + 1) 54 2 (.slice oa ls.length oc) ls.length u) := hou
   have e4 := cell_blk (j := 4) k1 rfl
   have e5 := cell_blk (j := 5) k1 rfl
   clear hou hu HOW HPR k1
   have hnews : ∀ j v, [Value.slice an d.prog.nodes.length cn, Value.int .i64 d.prog.root][j]? = some v → (wr.alloc (Obj.cells #[.slice an d.prog.nodes.length cn, .int .i64 d.prog.root] 54)).cell? ((⟨wr.heap.size, 0, none⟩ : Addr).add j) = some v := by
    intro j v hj
    rw [add_lit, Nat.zero_add]
    exact cell_blk (blk_at _ _ _ (by simp)) (by simpa using hj)
   have HO1 : Hid ((wr.alloc (Obj.cells #[.slice an d.prog.nodes.length cn, .int .i64 d.prog.root] 54)).ownsRow (w.heap.size + 1) 54 2 (.slice oa ls.length oc) ls.length u) := World.ownsRow.alloc HOU.out _
   have HZ1 : Hid (w.heap.size + 1 ≤ (wr.alloc (Obj.cells #[.slice an d.prog.nodes.length cn, .int .i64 d.prog.root] 54)).heap.size) := by show _ ≤ _; simp; omega
   have HB1 : Hid (Below (w.heap.size + 1) wa (wr.alloc (Obj.cells #[.slice an d.prog.nodes.length cn, .int .i64 d.prog.root] 54))) := hba.alloc hsa _
   go_wp2_with (at_builtin; go_loud (refine wpList_append_row rfl _ _ 49 rfl (w.heap.size + 1) 54 i9 _ 2 32 Tryz.underlying49 hi9 hz90 hz91 hz92 rfl (by omega) (.slice oa ls.length oc) ls.length u rfl HO1.out (some ⟨wr.heap.size, 0, none⟩) 1 1 [.slice an d.prog.nodes.length cn, .int .i64 d.prog.root] rfl rfl (fun _ => ⟨_, rfl, hnews⟩) (by intro u hu; simp at hu; rcases hu with rfl | rfl <;> rfl) (by unfold maxLen; omega) (by omega) (by simp; omega) ?_; intro v' w4 hown hgrow hat; refine stop ?_))
   have HO4 : Hid (OwnP w0 w4 (w.heap.size + 1) v' (ls ++ [d.prog])) := ⟨_, HU.out, by rw [List.length_append]; exact hown⟩
   have HB4 : Hid (Below (w.heap.size + 1) wa w4) := app_belowR HB1.out HZ1.out HO1.out hgrow
   unfold Hid
   clear hown hgrow hsa hba hb hat hnews
   go_wp2
   go_roundw
   case rel => exact ⟨i + 1, by omega, by go_num, by rw [HMT.out]; exact HO4.out, HB4.out⟩
   case measure => simp [intOf]; omega
  ·obtain rfl : i = x.defs.length := by omega
   rw [List.take_length] at HOW hsl ⊢
   have k1 := (hba.block w.heap.size (Nat.lt_succ_self _)).trans k0.out
   have e4 := cell_blk (j := 4) k1 rfl
   have e5 := cell_blk (j := 5) k1 rfl
   have hlt' : decide ((x.defs.length : Int) < (x.defs.length : Int)) = false := by simp
   have HO2 : Hid (OwnP w0 wr (w.heap.size + 1) (.slice oa (x.defs.map (·.prog)).length oc) (x.defs.map (·.prog))) := HOW.out
   have HBW : Hid (Below (w.heap.size + 1) wa wr) := hba
   have hl2 : (x.defs.map (fun t : Dfn => t.prog)).length = x.defs.length := List.length_map ..
   clear HOW hb hba hi hlt hlt' hsl k1 hsz hsa
   go_wp2
   go_loopw [3, 5] (fun v o wr => ∃ i : Nat, i ≤ x.convs.length ∧ o = .int .i64 i ∧ OwnP w0 wr (w.heap.size + 1) v (x.defs.map (·.prog) ++ (x.convs.take i).map (·.prog)) ∧ Below (w.heap.size + 1) wa wr)
    (fun _ o _ => x.convs.length - (intOf o).toNat)
   case atStart => exact ⟨0, by omega, rfl, by rw [List.take_zero, List.map_nil, List.append_nil]; have h := HO2.out; rw [List.length_map] at h; exact h, HBW.out⟩
   case round =>
    obtain ⟨i, hi, rfl, hown, hba⟩ := hrel
    have hb : Below w.heap.size w wr := HWA.out.trans (hba.mono (Nat.le_succ _))
    obtain ⟨oa, oc, rfl⟩ := hown.slice
    have HOW : Hid (OwnP w0 wr (w.heap.size + 1) (.slice oa (x.defs.map (·.prog) ++ (x.convs.take i).map (·.prog)).length oc) (x.defs.map (·.prog) ++ (x.convs.take i).map (·.prog))) := hown
    have hsl : (x.defs.map (·.prog) ++ (x.convs.take i).map (fun t : Dfn => t.prog)).length ≤ 1048576 := by
     rw [List.length_append, List.length_map]; rw [List.length_map, List.length_take]; omega
    clear hown
    have hsz := hb.size
    have hsa : w.heap.size + 1 ≤ wr.heap.size := Nat.le_trans HSA.out hba.size
    by_cases hlt : i < x.convs.length
    ·obtain ⟨d, hd⟩ : ∃ d, x.convs[i]? = some d := ⟨_, List.getElem?_eq_getElem hlt⟩
     obtain ⟨b1, o1, cs, rfl, hbb, ⟨an, cn, rfl, hrn⟩, hl⟩ := HRV.out i d hd
     have y0 : wr.cell? ⟨b1, o1 + i * 3, none⟩ = some (.string d.name) := (World.cell?_of_block (w := w0) (a := ⟨b1, _, none⟩) ((H0.out.trans (hb.mono H0.out.size)).block b1 hbb)).trans (hl 0 _ rfl)
     have y1 : wr.cell? ⟨b1, o1 + i * 3 + 1, none⟩ = some (.slice an d.prog.nodes.length cn) := (World.cell?_of_block (w := w0) (a := ⟨b1, _, none⟩) ((H0.out.trans (hb.mono H0.out.size)).block b1 hbb)).trans (hl 1 _ rfl)
     have y2 : wr.cell? ⟨b1, o1 + i * 3 + 2, none⟩ = some (.int .i64 d.prog.root) := (World.cell?_of_block (w := w0) (a := ⟨b1, _, none⟩) ((H0.out.trans (hb.mono H0.out.size)).block b1 hbb)).trans (hl 2 _ rfl)
     have HMT : Hid (x.defs.map (·.prog) ++ (x.convs.take (i + 1)).map (fun t : Dfn => t.prog) = (x.defs.map (·.prog) ++ (x.convs.take i).map (fun t : Dfn => t.prog)) ++ [d.prog]) := by
      show _ = _
      rw [map_take (fun t : Dfn => t.prog) hd, List.append_assoc]
     have HPR : Hid (rgP.At w0 (fun b => b < w0.heap.size) [.slice an d.prog.nodes.length cn, .int .i64 d.prog.root] d.prog) := ⟨an, cn, rfl, hrn⟩
     have k1 := (hba.block w.heap.size (Nat.lt_succ_self _)).trans k0.out
     clear hd hl hrn
     generalize hls : (x.defs.map (·.prog) ++ (x.convs.take i).map (fun t : Dfn => t.prog)) = ls at *
     clear hls
     obtain ⟨u, hu, hou⟩ := HOW.out
     have HU : Hid (RawOf rgP w0 (fun b => b < w0.heap.size) (u ++ [.slice an d.prog.nodes.length cn, .int .i64 d.prog.root]) (ls ++ [d.prog])) := RawOf.snoc hu HPR.out
     have HOU : Hid (wr.ownsRow (w.heap.size + 1) 54 2 (.slice oa ls.length oc) ls.length u) := hou
     have e4 := cell_blk (j := 4) k1 rfl
     have e5 := cell_blk (j := 5) k1 rfl
     clear hou hu HOW HPR k1
     have hnews : ∀ j v, [Value.slice an d.prog.nodes.length cn, Value.int .i64 d.prog.root][j]? = some v → (wr.alloc (Obj.cells #[.slice an d.prog.nodes.length cn, .int .i64 d.prog.root] 54)).cell? ((⟨wr.heap.size, 0, none⟩ : Addr).add j) = some v := by
      intro j v hj
      rw [add_lit, Nat.zero_add]
      exact cell_blk (blk_at _ _ _ (by simp)) (by simpa using hj)
     have HO1 : Hid ((wr.alloc (Obj.cells #[.slice an d.prog.nodes.length cn, .int .i64 d.prog.root] 54)).ownsRow (w.heap.size + 1) 54 2 (.slice oa ls.length oc) ls.length u) := World.ownsRow.alloc HOU.out _
     have HZ1 : Hid (w.heap.size + 1 ≤ (wr.alloc (Obj.cells #[.slice an d.prog.nodes.length cn, .int .i64 d.prog.root] 54)).heap.size) := by show _ ≤ _; simp; omega
     have HB1 : Hid (Below (w.heap.size + 1) wa (wr.alloc (Obj.cells #[.slice an d.prog.nodes.length cn, .int .i64 d.prog.root] 54))) := hba.alloc hsa _
     go_wp2_with (at_builtin; go_loud (refine wpList_append_row rfl _ _ 49 rfl (w.heap.size + 1) 54 i9 _ 2 32 Tryz.underlying49 hi9 hz90 hz91 hz92 rfl (by omega) (.slice oa ls.length oc) ls.length u rfl HO1.out (some ⟨wr.heap.size, 0, none⟩) 1 1 [.slice an d.prog.nodes.length cn, .int .i64 d.prog.root] rfl rfl (fun _ => ⟨_, rfl, hnews⟩) (by intro u hu; simp at hu; rcases hu with rfl | rfl <;> rfl) (by unfold maxLen; omega) (by omega) (by simp; omega) ?_; intro v' w4 hown hgrow hat; refine stop ?_))
     have HO4 : Hid (OwnP w0 w4 (w.heap.size + 1) v' (ls ++ [d.prog])) := ⟨_, HU.out, by rw [List.length_append]; exact hown⟩
     have HB4 : Hid (Below (w.heap.size + 1) wa w4) := app_belowR HB1.out HZ1.out HO1.out hgrow
     unfold Hid
     clear hown hgrow hsa hba hb hat hnews
     go_wp2
     go_roundw
     case rel => exact ⟨i + 1, by omega, by go_num, by rw [HMT.out]; exact HO4.out, HB4.out⟩
     case measure => simp [intOf]; omega
    ·obtain rfl : i = x.convs.length := by omega
     rw [List.take_length] at HOW hsl ⊢
     have k1 := (hba.block w.heap.size (Nat.lt_succ_self _)).trans k0.out
     have e4 := cell_blk (j := 4) k1 rfl
     have e5 := cell_blk (j := 5) k1 rfl
     have hlt' : decide ((x.convs.length : Int) < (x.convs.length : Int)) = false := by simp
     go_wp2
     go_ret
     have e : (x.all).map (·.prog) = x.defs.map (·.prog) ++ x.convs.map (·.prog) := by unfold Srx.all; rw [List.map_append]
     have e2 : ((x.all).map (·.prog)).length = x.defs.length + x.convs.length := by unfold Srx.all; simp
     exact ⟨oa, oc, by rw [e2]; rfl, by rw [e]; exact HOW.out.weak (Nat.le_succ _), hb⟩
end Go.Proofs.YtamjofdgikifnaaGreat
