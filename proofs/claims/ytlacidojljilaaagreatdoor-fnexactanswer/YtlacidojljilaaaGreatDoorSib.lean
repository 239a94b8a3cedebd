/- The program's questions of names: of record types, of all that a library has. -/
import Derived.Test.YtlacidojljilaaaGreatDoorSpb
import Derived.Test.YtlacidojljilaaaGreatDoorApw
import Derived.Lib.SliceRun
set_option linter.unusedVariables false
set_option maxRecDepth 100000
set_option maxHeartbeats 8000000
namespace Go.Proofs.YtlacidojljilaaaGreatDoor
open Go.ChangeShapes Go.WideShapes Go.ChangeAt Go.RowKit
theorem Tryz.inf9 : (Tryz.prog.info? 9).map (fun i => (i.zero, i.size, i.bytes)) = some (some (.string ⟨#[]⟩), 1, 16) := by kernel_rfl
theorem add_lit (b o j : Nat) : (⟨b, o, none⟩ : Addr).add j = ⟨b, o + j, none⟩ := by unfold Addr.add; split <;> simp_all
theorem news_S {w : World} {p : Nat → Prop} {a : Option Addr} {l : List ByteArray} (h : RowSP w p a l) : 0 < l.length → ∃ ad, a = some ad ∧ ∀ j u, (l.map Value.string)[j]? = some u → w.cell? (ad.add j) = some u := by
 intro hl
 obtain ⟨x, hx⟩ : ∃ x, l[0]? = some x := ⟨_, List.getElem?_eq_getElem hl⟩
 obtain ⟨b, o, rfl, _, _⟩ := h 0 x hx
 refine ⟨_, rfl, fun j u hu => ?_⟩
 rw [List.getElem?_map] at hu
 cases hj : l[j]? with
 | none => rw [hj] at hu; cases hu
 | some y =>
  rw [hj] at hu
  obtain rfl := Option.some.inj hu
  obtain ⟨b', o', e, _, hc⟩ := h j y hj
  simp only [Option.some.injEq, Addr.mk.injEq, and_true] at e
  obtain ⟨rfl, rfl⟩ := e
  rw [add_lit]
  exact hc
theorem cloneS_any (a : Option Addr) (l : List ByteArray) (cap : Nat) (w : World) (hn : l.length ≤ 1048576) (hr : RowS w w.heap.size a l) :
  Calls Tryz.prog 150 #[.slice a l.length cap] w fun e w' => ∃ v, e = .returned v ∧ OwnS w' w.heap.size v l ∧ Below w.heap.size w w' := by
 obtain ⟨i9, hi9, hz90, hz91, hz92⟩ := info_parts Tryz.inf9
 have q : ∀ (w : World) (a : Option Addr) (n c n' c' : Nat), (binOp .eql 25 (.slice a n c) (.slice none n' c')).run Tryz.prog w = .ok (.bool a.isNone) w := fun w a n c n' c' => Lib.run_eql_slice_nil w _ _ a n c n' c' Tryz.underlying25
 cases a with
 | none =>
  obtain rfl : l = [] := by
   match l, hr with
   | [], _ => rfl
   | x :: r, hr => obtain ⟨b, o, e, _⟩ := hr 0 x rfl; cases e
  clear hr
  go_enter Tryz.func150, Tryz.ntmps150
  go_wp2
  go_ret
  exact ⟨_, rfl, ⟨rfl, .inl ⟨rfl, rfl⟩⟩, Below.refl _ _⟩
 | some ad =>
  have hb1 : Below w.heap.size w (w.alloc (Obj.cells #[] 9)) := bR _ _
  have hn1 := news_S (w := w.alloc (Obj.cells #[] 9)) (p := fun b => b < w.heap.size) (RowSP.keep (w := w) (p := fun b => b < w.heap.size) hr fun b hb' => ⟨hb', hb1.block b (by omega)⟩)
  have ho1 : (w.alloc (Obj.cells #[] 9)).ownsRow w.heap.size 9 1 (.slice (some ⟨w.heap.size, 0, none⟩) 0 0) 0 [] := own_empty (blk_at _ _ _ rfl) (Nat.le_refl _)
  clear hr
  go_enter Tryz.func150, Tryz.ntmps150
  go_wp2_with (at_builtin; go_loud (refine wpList_append_row rfl _ _ 25 rfl w.heap.size 9 i9 _ 1 16 Tryz.underlying25 hi9 hz90 hz91 hz92 rfl (by omega) (.slice (some ⟨w.heap.size, 0, none⟩) 0 0) 0 [] rfl ho1 (some ad) l.length cap (l.map Value.string) rfl (by simp) hn1 (by intro u hu; obtain ⟨z, _, rfl⟩ := List.mem_map.1 hu; rfl) (by unfold maxLen; omega) (by omega) (by simp) ?_; intro nv w2 hown2 hgr2 hat2))
  rw [Nat.zero_add, List.nil_append] at hown2
  go_ret
  exact ⟨nv, rfl, hown2, hb1.grown hgr2 (by simp) (by intro k hk; simp [Value.ownBlock] at hk; omega)⟩
theorem OwnS.snoc {w : World} {B : Nat} {v : Value} {l : List ByteArray} {s : ByteArray} (h : w.ownsRow B 9 1 v (l.length + 1) (l.map Value.string ++ [.string s])) : OwnS w B v (l ++ [s]) := by
 show World.ownsRow _ _ _ _ _ _ _
 rw [List.length_append, List.map_append]
 exact h
theorem OwnS.rowS {w : World} {B cap n : Nat} {a : Option Addr} {l : List ByteArray} (h : OwnS w B (.slice a n cap) l) : RowS w w.heap.size a l := by
 have := h.row
 exact RowSP.keep this fun b hb => ⟨(h.blk hb).2.1, rfl⟩
theorem map_take {α β : Type} (f : α → β) {l : List α} {i : Nat} {d : α} (h : l[i]? = some d) : (l.take (i + 1)).map f = (l.take i).map f ++ [f d] := by
 rw [List.take_add_one, h, List.map_append]
 rfl
theorem app_below {B : Nat} {w0 w1 w2 : World} {v : Value} {l : List ByteArray} (hb : Below B w0 w1) (hB2 : B ≤ w1.heap.size) (ho : OwnS w1 B v l) (hg : w1.grownBy w2 v.ownBlock) : Below B w0 w2 :=
 hb.trans ⟨hg.os, hg.tape, hg.output, hg.size, fun k hk => hg.block k (by omega) (fun e => by have := (ho.blk e.symm).1; omega)⟩
theorem typesOk_any (a : Option Addr) (l : List Typ) (ca : Nat) (w : World) (hn : l.length ≤ 1048576) (hs : ∀ d ∈ l, Typ.small d) (hr : rgT.Row w (fun b => b < w.heap.size) a l) :
  Calls Tryz.prog 139 #[.slice a l.length ca] w fun e w' => Ans w (.bool (l.all Typ.ok && nmA (l.map (·.name)))) e w' := by
 have HR : Hid (rgT.Row w (fun b => b < w.heap.size) a l) := hr
 have HS : Hid (∀ d ∈ l, Typ.small d) := hs
 clear hr hs
 obtain ⟨i9, hi9, hz90, hz91, hz92⟩ := info_parts Tryz.inf9
 go_enter Tryz.func139, Tryz.ntmps139
 go_wp2
 go_loopw [3, 8] (fun v o wr => ∃ i : Nat, i ≤ l.length ∧ o = .int .i64 i ∧ (l.take i).all Typ.ok = true ∧ OwnS wr w.heap.size v ((l.take i).map (·.name)) ∧ Below w.heap.size w wr)
  (fun _ o _ => l.length - (intOf o).toNat)
 case atStart => exact ⟨0, by omega, rfl, by simp, ⟨rfl, .inl ⟨rfl, rfl⟩⟩, Below.refl _ _⟩
 case round =>
  obtain ⟨i, hi, rfl, hall, hown, hb⟩ := hrel
  obtain ⟨oa, oc, rfl, hoc⟩ := hown.slice
  have HOW : Hid (OwnS wr w.heap.size (.slice oa ((l.take i).map (·.name)).length oc) ((l.take i).map (·.name))) := hown
  have hsl : ((l.take i).map (fun t : Typ => t.name)).length ≤ 1048576 := by rw [List.length_map, List.length_take]; omega
  clear hown
  by_cases hlt : i < l.length
  ·obtain ⟨d, hd⟩ : ∃ d, l[i]? = some d := ⟨_, List.getElem?_eq_getElem hlt⟩
   obtain ⟨b1, o1, cs, rfl, hbb, rfl, hl⟩ := (HR.out.below hb) i d hd
   have y0 : wr.cell? ⟨b1, o1 + i * 2, none⟩ = some (.string d.name) := hl 0 _ rfl
   have y1 : wr.cell? ⟨b1, o1 + i * 2 + 1, none⟩ = some (.int .i64 d.size) := hl 1 _ rfl
   have hbA : Below w.heap.size w (wr.alloc (Obj.cells #[.string d.name, .int .i64 d.size] 186)) := hb.alloc hb.size _
   have HD : Hid (l[i]? = some d) := hd
   have HA : Hid ((l.take i).all Typ.ok = true) := hall
   have HMT : Hid ((l.take (i + 1)).map (fun t : Typ => t.name) = (l.take i).map (fun t : Typ => t.name) ++ [d.name]) := map_take _ hd
   clear hd hall hl
   have bad : d.ok = false → Hid ((l.all Typ.ok && nmA (l.map (·.name))) = false) := fun h => by show _ = _; rw [all_of_bad _ HD.out h]; rfl
   by_cases h1 : d.size < 0
   ·have HQ := bad (by unfold Typ.ok; simp; omega)
    have g1 : decide (d.size < 0) = true := decide_eq_true h1
    clear bad
    go_wp2
    go_ret
    exact ⟨by rw [HQ.out]; rfl, hbA⟩
   ·have g1 : decide (d.size < 0) = false := decide_eq_false h1
    by_cases h2 : 8 < d.size
    ·have HQ := bad (by unfold Typ.ok; simp; omega)
     have g2 : decide (8 < d.size) = true := decide_eq_true h2
     clear bad
     go_wp2
     go_ret
     exact ⟨by rw [HQ.out]; rfl, hbA⟩
    ·have g2 : decide (8 < d.size) = false := decide_eq_false h2
     have HQ : Hid ((l.take (i + 1)).all Typ.ok = true) := by
      show _ = _
      rw [all_take_succ _ HD.out, HA.out]
      unfold Typ.ok
      simp
      omega
     clear bad
     generalize hls : (l.take i).map (fun t : Typ => t.name) = ls at *
     clear hls
     have hnews : ∀ j u, [Value.string d.name][j]? = some u → ((wr.alloc (Obj.cells #[.string d.name, .int .i64 d.size] 186)).alloc (Obj.cells #[.string d.name] 9)).cell? ((⟨wr.heap.size + 1, 0, none⟩ : Addr).add j) = some u := by
      intro j u hj
      rw [add_lit, Nat.zero_add]
      exact cell_blk (blk_at _ _ _ (by simp)) (by simpa using hj)
     have HO1 : Hid (((wr.alloc (Obj.cells #[.string d.name, .int .i64 d.size] 186)).alloc (Obj.cells #[.string d.name] 9)).ownsRow w.heap.size 9 1 (.slice oa ls.length oc) ls.length (ls.map Value.string)) := World.ownsRow.alloc (World.ownsRow.alloc HOW.out _) _
     have HB1 : Hid (Below w.heap.size w ((wr.alloc (Obj.cells #[.string d.name, .int .i64 d.size] 186)).alloc (Obj.cells #[.string d.name] 9))) := hbA.alloc hbA.size _
     have hsz := hb.size
     go_wp2_with (at_builtin; go_loud (refine wpList_append_row rfl _ _ 25 rfl w.heap.size 9 i9 _ 1 16 Tryz.underlying25 hi9 hz90 hz91 hz92 rfl (by omega) (.slice oa ls.length oc) ls.length (ls.map Value.string) rfl HO1.out (some ⟨wr.heap.size + 1, 0, none⟩) 1 1 [.string d.name] rfl rfl (fun _ => ⟨_, rfl, hnews⟩) (by intro u hu; simp at hu; subst hu; rfl) (by unfold maxLen; omega) (by omega) (by simp; omega) ?_; intro v' w4 hown hgrow hat; refine stop ?_))
     have HO4 : Hid (OwnS w4 w.heap.size v' (ls ++ [d.name])) := OwnS.snoc hown
     have HB4 : Hid (Below w.heap.size w w4) := app_below HB1.out HB1.out.size HO1.out hgrow
     unfold Hid
     clear hown hgrow hat hnews
     go_wp2
     go_roundw
     case rel => exact ⟨i + 1, by omega, by go_num, HQ.out, by rw [HMT.out]; exact HO4.out, HB4.out⟩
     case measure => simp [intOf]; omega
  ·obtain rfl : i = l.length := by omega
   rw [List.take_length] at hall HOW hsl hoc
   have hlt' : decide ((l.length : Int) < (l.length : Int)) = false := by simp
   have HQ : Hid ((l.all Typ.ok && nmA (l.map (·.name))) = nmA (l.map (·.name))) := by show _ = _; rw [hall]; rfl
   have HN : Hid (Calls Tryz.prog 135 #[.slice oa (l.map (·.name)).length oc] wr fun e w' => Ans wr (.bool (nmA (l.map (·.name)))) e w') := namesOk_any oa (l.map (fun t : Typ => t.name)) oc wr hsl hoc HOW.out.rowS (fun x hx => by
    obtain ⟨t, ht, rfl⟩ := List.mem_map.1 hx
    exact (HS.out t ht).1)
   rw [List.take_length]
   clear hall
   generalize hls : l.map (fun t : Typ => t.name) = ls at *
   have HLS : Hid (l.map (fun t : Typ => t.name) = ls) := hls
   clear hls
   go_wp2_with (go_at_call 135; refine HN.out.mono ?_; rintro e w2 ⟨rfl, hb2⟩)
   go_ret
   exact ⟨by rw [HLS.out, HQ.out]; rfl, bT hb hb2⟩
theorem reached_any (x : Ins) (a1 a2 a3 a4 : Option Addr) (c1 c2 c3 c4 : Nat) (w : World) (hs : x.small) (hr : InsRows w (fun b => b < w.heap.size) a1 a2 a3 a4 c1 c2 c3 c4 x) :
  Calls Tryz.prog 136 #[.agg #[.string x.lib, .int .i64 x.ver, .slice a1 x.names.length c1, .slice a2 x.vals.length c2, .slice a3 x.links.length c3, .slice a4 x.types.length c4]] w fun e w' => ∃ v, e = .returned v ∧ OwnS w' w.heap.size v x.lns ∧ Below w.heap.size w w' := by
 obtain ⟨_, _, ⟨s1, _⟩, _, ⟨s2, s3⟩, _⟩ := hs
 obtain ⟨⟨hrn, hcn⟩, _, ⟨hrl, _⟩, _⟩ := hr
 have hb0 : Below w.heap.size w (w.alloc (Obj.cells #[.string x.lib, .int .i64 x.ver, .slice a1 x.names.length c1, .slice a2 x.vals.length c2, .slice a3 x.links.length c3, .slice a4 x.types.length c4] 112)) := bR _ _
 have k0 : (w.alloc (Obj.cells #[.string x.lib, .int .i64 x.ver, .slice a1 x.names.length c1, .slice a2 x.vals.length c2, .slice a3 x.links.length c3, .slice a4 x.types.length c4] 112)).heap[w.heap.size]? = some (Obj.cells #[.string x.lib, .int .i64 x.ver, .slice a1 x.names.length c1, .slice a2 x.vals.length c2, .slice a3 x.links.length c3, .slice a4 x.types.length c4] 112) := blk_at _ _ _ rfl
 have HC : Hid (Calls Tryz.prog 150 #[.slice a1 x.names.length c1] (w.alloc (Obj.cells #[.string x.lib, .int .i64 x.ver, .slice a1 x.names.length c1, .slice a2 x.vals.length c2, .slice a3 x.links.length c3, .slice a4 x.types.length c4] 112)) fun e w' => ∃ v, e = .returned v ∧ OwnS w' (w.alloc (Obj.cells #[.string x.lib, .int .i64 x.ver, .slice a1 x.names.length c1, .slice a2 x.vals.length c2, .slice a3 x.links.length c3, .slice a4 x.types.length c4] 112)).heap.size v x.names ∧ Below (w.alloc (Obj.cells #[.string x.lib, .int .i64 x.ver, .slice a1 x.names.length c1, .slice a2 x.vals.length c2, .slice a3 x.links.length c3, .slice a4 x.types.length c4] 112)).heap.size (w.alloc (Obj.cells #[.string x.lib, .int .i64 x.ver, .slice a1 x.names.length c1, .slice a2 x.vals.length c2, .slice a3 x.links.length c3, .slice a4 x.types.length c4] 112)) w') := cloneS_any a1 x.names c1 _ s1 (rowS_iff.1 (hrn.now (B := 0) hb0))
 have HR : Hid (rgL.Row w (fun b => b < w.heap.size) a3 x.links) := hrl
 obtain ⟨i9, hi9, hz90, hz91, hz92⟩ := info_parts Tryz.inf9
 have hsA : w.heap.size + 1 = (w.alloc (Obj.cells #[.string x.lib, .int .i64 x.ver, .slice a1 x.names.length c1, .slice a2 x.vals.length c2, .slice a3 x.links.length c3, .slice a4 x.types.length c4] 112)).heap.size := by simp
 clear hrn hrl
 go_enter Tryz.func136, Tryz.ntmps136
 go_wp2_with fail
 refine HC.out.mono ?_
 rintro e w1 ⟨v, rfl, ho1, hb1⟩
 rw [← hsA] at ho1 hb1
 have k1 := blk_keep k0 hb1 (by omega)
 have z4 := zB 4 k1 rfl
 obtain ⟨va, vc, rfl, hvc⟩ := ho1.slice
 have HO1 : Hid (OwnS w1 (w.heap.size + 1) (.slice va x.names.length vc) x.names) := ho1
 have HB1 : Hid (Below w.heap.size w w1) := hb0.trans (hb1.mono (by omega))
 have hw1 : w.heap.size + 1 ≤ w1.heap.size := by have := hb1.size; omega
 clear ho1 hb1 k0 k1 hb0 HC hsA
 go_wp2
 go_loopw [3, 12] (fun v o wr => ∃ i : Nat, i ≤ x.links.length ∧ o = .int .i64 i ∧ OwnS wr (w.heap.size + 1) v (x.names ++ (x.links.take i).map (·.name)) ∧ w.heap.size + 1 ≤ wr.heap.size ∧ Below w.heap.size w wr)
  (fun _ o _ => x.links.length - (intOf o).toNat)
 case atStart => exact ⟨0, by omega, rfl, by simpa using HO1.out, hw1, HB1.out⟩
 case round =>
  clear HO1 HB1 hw1 z4
  obtain ⟨i, hi, rfl, hown, hwr, hb⟩ := hrel
  obtain ⟨oa, oc, rfl, hoc⟩ := hown.slice
  have HOW : Hid (OwnS wr (w.heap.size + 1) (.slice oa (x.names ++ (x.links.take i).map (·.name)).length oc) (x.names ++ (x.links.take i).map (·.name))) := hown
  have hsl : (x.names ++ (x.links.take i).map (fun t : Lnk => t.name)).length ≤ 2097152 := by rw [List.length_append, List.length_map, List.length_take]; omega
  clear hown
  by_cases hlt : i < x.links.length
  ·obtain ⟨d, hd⟩ : ∃ d, x.links[i]? = some d := ⟨_, List.getElem?_eq_getElem hlt⟩
   obtain ⟨b1, o1, cs, rfl, hbb, rfl, hl⟩ := (HR.out.below hb) i d hd
   have y0 : wr.cell? ⟨b1, o1 + i * 3, none⟩ = some (.string d.name) := hl 0 _ rfl
   have y1 : wr.cell? ⟨b1, o1 + i * 3 + 1, none⟩ = some (.int .i64 d.inst) := hl 1 _ rfl
   have y2 : wr.cell? ⟨b1, o1 + i * 3 + 2, none⟩ = some (.string d.at_) := hl 2 _ rfl
   have hbA : Below w.heap.size w (wr.alloc (Obj.cells #[.string d.name, .int .i64 d.inst, .string d.at_] 184)) := hb.alloc hb.size _
   have HMT : Hid (x.names ++ (x.links.take (i + 1)).map (fun t : Lnk => t.name) = x.names ++ (x.links.take i).map (fun t : Lnk => t.name) ++ [d.name]) := by show _ = _; rw [map_take _ hd, List.append_assoc]
   clear hd hl
   generalize hls : x.names ++ (x.links.take i).map (fun t : Lnk => t.name) = ls at *
   clear hls
   have hnews : ∀ j u, [Value.string d.name][j]? = some u → ((wr.alloc (Obj.cells #[.string d.name, .int .i64 d.inst, .string d.at_] 184)).alloc (Obj.cells #[.string d.name] 9)).cell? ((⟨wr.heap.size + 1, 0, none⟩ : Addr).add j) = some u := by
    intro j u hj
    rw [add_lit, Nat.zero_add]
    exact cell_blk (blk_at _ _ _ (by simp)) (by simpa using hj)
   have HO1 : Hid (((wr.alloc (Obj.cells #[.string d.name, .int .i64 d.inst, .string d.at_] 184)).alloc (Obj.cells #[.string d.name] 9)).ownsRow (w.heap.size + 1) 9 1 (.slice oa ls.length oc) ls.length (ls.map Value.string)) := World.ownsRow.alloc (World.ownsRow.alloc HOW.out _) _
   have HB1 : Hid (Below w.heap.size w ((wr.alloc (Obj.cells #[.string d.name, .int .i64 d.inst, .string d.at_] 184)).alloc (Obj.cells #[.string d.name] 9))) := hbA.alloc hbA.size _
   have hs2 : w.heap.size + 1 ≤ ((wr.alloc (Obj.cells #[.string d.name, .int .i64 d.inst, .string d.at_] 184)).alloc (Obj.cells #[.string d.name] 9)).heap.size := by simp; omega
   have hsz := hb.size
   go_wp2_with (at_builtin; go_loud (refine wpList_append_row rfl _ _ 25 rfl (w.heap.size + 1) 9 i9 _ 1 16 Tryz.underlying25 hi9 hz90 hz91 hz92 rfl (by omega) (.slice oa ls.length oc) ls.length (ls.map Value.string) rfl HO1.out (some ⟨wr.heap.size + 1, 0, none⟩) 1 1 [.string d.name] rfl rfl (fun _ => ⟨_, rfl, hnews⟩) (by intro u hu; simp at hu; subst hu; rfl) (by unfold maxLen; omega) (by omega) hs2 ?_; intro v' w4 hown hgrow hat; refine stop ?_))
   have HO4 : Hid (OwnS w4 (w.heap.size + 1) v' (ls ++ [d.name])) := OwnS.snoc hown
   have HB4 : Hid (Below w.heap.size w w4) := HB1.out.trans ⟨hgrow.os, hgrow.tape, hgrow.output, hgrow.size, fun k hk => hgrow.block k (by omega) (fun e => by have := (own_blk HO1.out e.symm).1; omega)⟩
   have hw4 : w.heap.size + 1 ≤ w4.heap.size := Nat.le_trans hs2 hgrow.size
   unfold Hid
   clear hown hgrow hat hnews hs2
   go_wp2
   go_roundw
   case rel => exact ⟨i + 1, by omega, by go_num, by rw [HMT.out]; exact HO4.out, hw4, HB4.out⟩
   case measure => simp [intOf]; omega
  ·obtain rfl : i = x.links.length := by omega
   have hlt' : decide ((x.links.length : Int) < (x.links.length : Int)) = false := by simp
   have HL : Hid (x.names ++ (x.links.take x.links.length).map (fun t : Lnk => t.name) = x.lns) := by show _ = _; rw [List.take_length]; rfl
   rw [HL.out] at HOW
   generalize x.names ++ (x.links.take x.links.length).map (fun t : Lnk => t.name) = ls at *
   have HL2 : Hid (ls = x.lns) := HL
   clear HL
   go_wp2
   go_ret
   exact ⟨_, rfl, by first | exact HOW.out.weak (by omega) | (rw [HL2.out]; exact HOW.out.weak (by omega)), hb⟩
end Go.Proofs.YtlacidojljilaaaGreatDoor
