/- Rows of names that are made. -/
import Derived.Test.YtamjofdgikifnaaGreatApw
import Derived.Test.YtamjofdgikifnaaGreatNix
import Derived.Lib.SliceRun
import Derived.Deep.RegionWith
set_option linter.unusedVariables false
namespace Go.Proofs.YtamjofdgikifnaaGreat
open Go.ChangeShapes Go.WideShapes Go.ChangeAt Go.RowKit
theorem Tryz.inf9 : (Tryz.prog.info? 9).map (fun i => (i.zero, i.size, i.bytes)) = some (some (.string ⟨#[]⟩), 1, 16) := by kernel_rfl
theorem add_lit (b o j : Nat) : (⟨b, o, none⟩ : Addr).add j = ⟨b, o + j, none⟩ := by unfold Addr.add; split <;> simp_all
theorem news_S {w : World} {p : Nat → Prop} {a : Option Addr} {l : List ByteArray} (h : RowSP w p a l) : 0 < l.length → ∃ ad, a = some ad ∧ ∀ j u, (l.map Value.string)[j]? = some u → w.cell? (ad.add j) = some u := by
 intro hl
 obtain ⟨x, hx⟩ : ∃ x, l[0]? = some x := ⟨_, List.getElem?_eq_getElem hl⟩
 obtain ⟨b, o, rfl, _, _⟩ := h 0 x hx
 refine ⟨_, rfl, fun j u hu => ?_⟩
 rw [List.getElem?_map] at hu
 cases hj : l[j]? with
 | none => rw [hj] at hu; cases hu
 | some y =>
  rw [hj] at hu
  obtain rfl := Option.some.inj hu
  obtain ⟨b', o', e, _, hc⟩ := h j y hj
  simp only [Option.some.injEq, Addr.mk.injEq, and_true] at e
  obtain ⟨rfl, rfl⟩ := e
  rw [add_lit]
  exact hc
theorem OwnS.snoc {w : World} {B : Nat} {v : Value} {l : List ByteArray} {s : ByteArray} (h : w.ownsRow B 9 1 v (l.length + 1) (l.map Value.string ++ [.string s])) : OwnS w B v (l ++ [s]) := by
 show World.ownsRow _ _ _ _ _ _ _
 rw [List.length_append, List.map_append]
 exact h
theorem OwnS.rowS {w : World} {B cap n : Nat} {a : Option Addr} {l : List ByteArray} (h : OwnS w B (.slice a n cap) l) : RowS w w.heap.size a l := by
 have := h.row
 exact RowSP.keep this fun b hb => ⟨(h.blk hb).2.1, rfl⟩
theorem map_take {α β : Type} (f : α → β) {l : List α} {i : Nat} {d : α} (h : l[i]? = some d) : (l.take (i + 1)).map f = (l.take i).map f ++ [f d] := by
 rw [List.take_add_one, h, List.map_append]
 rfl
theorem app_below {B : Nat} {w0 w1 w2 : World} {v : Value} {l : List ByteArray} (hb : Below B w0 w1) (hB2 : B ≤ w1.heap.size) (ho : OwnS w1 B v l) (hg : w1.grownBy w2 v.ownBlock) : Below B w0 w2 :=
 hb.trans ⟨hg.os, hg.tape, hg.output, hg.size, fun k hk => hg.block k (by omega) (fun e => by have := (ho.blk e.symm).1; omega)⟩
def NmPost (l : List ByteArray) (w : World) (e : Ending) (w' : World) : Prop := ∃ a cap, e = .returned (.slice a l.length cap) ∧ l.length ≤ cap ∧ OwnS w' w.heap.size (.slice a l.length cap) l ∧ Below w.heap.size w w'
set_option maxRecDepth 100000 in
set_option maxHeartbeats 1000000 in
theorem defNames_any (a : Option Addr) (l : List Dfn) (ca : Nat) (w : World) (hn : l.length ≤ 1048576) (hr : rgD.Row w (fun b => b < w.heap.size) a l) :
  Calls Tryz.prog 35 #[.slice a l.length ca] w fun e w' => NmPost (l.map (·.name)) w e w' := by
 have HR : Hid (rgD.Row w (fun b => b < w.heap.size) a l) := hr
 clear hr
 obtain ⟨i9, hi9, hz90, hz91, hz92⟩ := info_parts Tryz.inf9
 go_enter Tryz.func35, Tryz.ntmps35
 go_wp2
 go_loopw [3, 8] (fun v o wr => ∃ i : Nat, i ≤ l.length ∧ o = .int .i64 i ∧ OwnS wr w.heap.size v ((l.take i).map (·.name)) ∧ Below w.heap.size w wr)
  (fun _ o _ => l.length - (intOf o).toNat)
 case atStart => exact ⟨0, by omega, rfl, ⟨rfl, .inl ⟨rfl, rfl⟩⟩, Below.refl _ _⟩
 case round =>
  obtain ⟨i, hi, rfl, hown, hb⟩ := hrel
  obtain ⟨oa, oc, rfl, hoc⟩ := hown.slice
  have HOW : Hid (OwnS wr w.heap.size (.slice oa ((l.take i).map (·.name)).length oc) ((l.take i).map (·.name))) := hown
  have hsl : ((l.take i).map (fun t : Dfn => t.name)).length ≤ 1048576 := by rw [List.length_map, List.length_take]; omega
  clear hown
  by_cases hlt : i < l.length
  ·obtain ⟨d, hd⟩ : ∃ d, l[i]? = some d := ⟨_, List.getElem?_eq_getElem hlt⟩
   obtain ⟨b1, o1, cs, rfl, hbb, ⟨an, cn, rfl, _⟩, hl⟩ := (HR.out.below hb) i d hd
   have y0 : wr.cell? ⟨b1, o1 + i * 3, none⟩ = some (.string d.name) := hl 0 _ rfl
   have y1 : wr.cell? ⟨b1, o1 + i * 3 + 1, none⟩ = some (.slice an d.prog.nodes.length cn) := hl 1 _ rfl
   have y2 : wr.cell? ⟨b1, o1 + i * 3 + 2, none⟩ = some (.int .i64 d.prog.root) := hl 2 _ rfl
   have hbA : Below w.heap.size w (wr.alloc (Obj.cells #[.string d.name, .slice an d.prog.nodes.length cn, .int .i64 d.prog.root] 63)) := hb.alloc hb.size _
   have HMT : Hid ((l.take (i + 1)).map (fun t : Dfn => t.name) = (l.take i).map (fun t : Dfn => t.name) ++ [d.name]) := map_take _ hd
   clear hd hl
   generalize hls : (l.take i).map (fun t : Dfn => t.name) = ls at *
   clear hls
   have hnews : ∀ j u, [Value.string d.name][j]? = some u → ((wr.alloc (Obj.cells #[.string d.name, .slice an d.prog.nodes.length cn, .int .i64 d.prog.root] 63)).alloc (Obj.cells #[.string d.name] 9)).cell? ((⟨wr.heap.size + 1, 0, none⟩ : Addr).add j) = some u := by
    intro j u hj
    rw [add_lit, Nat.zero_add]
    exact cell_blk (blk_at _ _ _ (by simp)) (by simpa using hj)
   have HO1 : Hid (((wr.alloc (Obj.cells #[.string d.name, .slice an d.prog.nodes.length cn, .int .i64 d.prog.root] 63)).alloc (Obj.cells #[.string d.name] 9)).ownsRow w.heap.size 9 1 (.slice oa ls.length oc) ls.length (ls.map Value.string)) := World.ownsRow.alloc (World.ownsRow.alloc HOW.out _) _
   have HB1 : Hid (Below w.heap.size w ((wr.alloc (Obj.cells #[.string d.name, .slice an d.prog.nodes.length cn, .int .i64 d.prog.root] 63)).alloc (Obj.cells #[.string d.name] 9))) := hbA.alloc hbA.size _
   have hsz := hb.size
   go_wp2_with (at_builtin; go_loud (refine wpList_append_row rfl _ _ 22 rfl w.heap.size 9 i9 _ 1 16 Tryz.underlying22 hi9 hz90 hz91 hz92 rfl (by omega) (.slice oa ls.length oc) ls.length (ls.map Value.string) rfl HO1.out (some ⟨wr.heap.size + 1, 0, none⟩) 1 1 [.string d.name] rfl rfl (fun _ => ⟨_, rfl, hnews⟩) (by intro u hu; simp at hu; subst hu; rfl) (by unfold maxLen; omega) (by omega) (by simp; omega) ?_; intro v' w4 hown hgrow hat; refine stop ?_))
   have HO4 : Hid (OwnS w4 w.heap.size v' (ls ++ [d.name])) := OwnS.snoc hown
   have HB4 : Hid (Below w.heap.size w w4) := app_below HB1.out HB1.out.size HO1.out hgrow
   unfold Hid
   clear hown hgrow hat hnews
   go_wp2
   go_roundw
   case rel => exact ⟨i + 1, by omega, by go_num, by rw [HMT.out]; exact HO4.out, HB4.out⟩
   case measure => simp [intOf]; omega
  ·obtain rfl : i = l.length := by omega
   rw [List.take_length] at HOW hoc ⊢
   have hlt' : decide ((l.length : Int) < (l.length : Int)) = false := by simp
   go_wp2
   go_ret
   exact ⟨oa, oc, by rw [List.length_map]; rfl, hoc, HOW.out, hb⟩
set_option maxRecDepth 100000 in
set_option maxHeartbeats 1000000 in
theorem typeNames_any (a : Option Addr) (l : List Typ) (ca : Nat) (w : World) (hn : l.length ≤ 1048576) (hr : rgT.Row w (fun b => b < w.heap.size) a l) :
  Calls Tryz.prog 77 #[.slice a l.length ca] w fun e w' => NmPost (l.map (·.name)) w e w' := by
 have HR : Hid (rgT.Row w (fun b => b < w.heap.size) a l) := hr
 clear hr
 obtain ⟨i9, hi9, hz90, hz91, hz92⟩ := info_parts Tryz.inf9
 go_enter Tryz.func77, Tryz.ntmps77
 go_wp2
 go_loopw [3, 8] (fun v o wr => ∃ i : Nat, i ≤ l.length ∧ o = .int .i64 i ∧ OwnS wr w.heap.size v ((l.take i).map (·.name)) ∧ Below w.heap.size w wr)
  (fun _ o _ => l.length - (intOf o).toNat)
 case atStart => exact ⟨0, by omega, rfl, ⟨rfl, .inl ⟨rfl, rfl⟩⟩, Below.refl _ _⟩
 case round =>
  obtain ⟨i, hi, rfl, hown, hb⟩ := hrel
  obtain ⟨oa, oc, rfl, hoc⟩ := hown.slice
  have HOW : Hid (OwnS wr w.heap.size (.slice oa ((l.take i).map (·.name)).length oc) ((l.take i).map (·.name))) := hown
  have hsl : ((l.take i).map (fun t : Typ => t.name)).length ≤ 1048576 := by rw [List.length_map, List.length_take]; omega
  clear hown
  by_cases hlt : i < l.length
  ·obtain ⟨d, hd⟩ : ∃ d, l[i]? = some d := ⟨_, List.getElem?_eq_getElem hlt⟩
   obtain ⟨b1, o1, cs, rfl, hbb, rfl, hl⟩ := (HR.out.below hb) i d hd
   have y0 : wr.cell? ⟨b1, o1 + i * 2, none⟩ = some (.string d.name) := hl 0 _ rfl
   have y1 : wr.cell? ⟨b1, o1 + i * 2 + 1, none⟩ = some (.int .i64 d.size) := hl 1 _ rfl
   have hbA : Below w.heap.size w (wr.alloc (Obj.cells #[.string d.name, .int .i64 d.size] 77)) := hb.alloc hb.size _
   have HMT : Hid ((l.take (i + 1)).map (fun t : Typ => t.name) = (l.take i).map (fun t : Typ => t.name) ++ [d.name]) := map_take _ hd
   clear hd hl
   generalize hls : (l.take i).map (fun t : Typ => t.name) = ls at *
   clear hls
   have hnews : ∀ j u, [Value.string d.name][j]? = some u → ((wr.alloc (Obj.cells #[.string d.name, .int .i64 d.size] 77)).alloc (Obj.cells #[.string d.name] 9)).cell? ((⟨wr.heap.size + 1, 0, none⟩ : Addr).add j) = some u := by
    intro j u hj
    rw [add_lit, Nat.zero_add]
    exact cell_blk (blk_at _ _ _ (by simp)) (by simpa using hj)
   have HO1 : Hid (((wr.alloc (Obj.cells #[.string d.name, .int .i64 d.size] 77)).alloc (Obj.cells #[.string d.name] 9)).ownsRow w.heap.size 9 1 (.slice oa ls.length oc) ls.length (ls.map Value.string)) := World.ownsRow.alloc (World.ownsRow.alloc HOW.out _) _
   have HB1 : Hid (Below w.heap.size w ((wr.alloc (Obj.cells #[.string d.name, .int .i64 d.size] 77)).alloc (Obj.cells #[.string d.name] 9))) := hbA.alloc hbA.size _
   have hsz := hb.size
   go_wp2_with (at_builtin; go_loud (refine wpList_append_row rfl _ _ 22 rfl w.heap.size 9 i9 _ 1 16 Tryz.underlying22 hi9 hz90 hz91 hz92 rfl (by omega) (.slice oa ls.length oc) ls.length (ls.map Value.string) rfl HO1.out (some ⟨wr.heap.size + 1, 0, none⟩) 1 1 [.string d.name] rfl rfl (fun _ => ⟨_, rfl, hnews⟩) (by intro u hu; simp at hu; subst hu; rfl) (by unfold maxLen; omega) (by omega) (by simp; omega) ?_; intro v' w4 hown hgrow hat; refine stop ?_))
   have HO4 : Hid (OwnS w4 w.heap.size v' (ls ++ [d.name])) := OwnS.snoc hown
   have HB4 : Hid (Below w.heap.size w w4) := app_below HB1.out HB1.out.size HO1.out hgrow
   unfold Hid
   clear hown hgrow hat hnews
   go_wp2
   go_roundw
   case rel => exact ⟨i + 1, by omega, by go_num, by rw [HMT.out]; exact HO4.out, HB4.out⟩
   case measure => simp [intOf]; omega
  ·obtain rfl : i = l.length := by omega
   rw [List.take_length] at HOW hoc ⊢
   have hlt' : decide ((l.length : Int) < (l.length : Int)) = false := by simp
   go_wp2
   go_ret
   exact ⟨oa, oc, by rw [List.length_map]; rfl, hoc, HOW.out, hb⟩
set_option maxRecDepth 100000 in
set_option maxHeartbeats 1000000 in
theorem l11TypeNames_any (a : Option Addr) (l : List Typ) (ca : Nat) (w : World) (hn : l.length ≤ 1048576) (hr : rgT.Row w (fun b => b < w.heap.size) a l) :
  Calls Tryz.prog 56 #[.slice a l.length ca] w fun e w' => NmPost (l.map (·.name)) w e w' := by
 have HR : Hid (rgT.Row w (fun b => b < w.heap.size) a l) := hr
 clear hr
 obtain ⟨i9, hi9, hz90, hz91, hz92⟩ := info_parts Tryz.inf9
 have HE : Hid (OwnS (w.alloc (Obj.cells #[] 9)) w.heap.size (.slice (some ⟨w.heap.size, 0, none⟩) 0 0) []) := own_empty (blk_at _ _ _ rfl) (Nat.le_refl _)
 have HB : Hid (Below w.heap.size w (w.alloc (Obj.cells #[] 9))) := (Below.refl _ _).alloc (Nat.le_refl _) _
 go_enter Tryz.func56, Tryz.ntmps56
 go_wp2
 go_loopw [3, 4] (fun v o wr => ∃ i : Nat, i ≤ l.length ∧ o = .int .i64 i ∧ OwnS wr w.heap.size v ((l.take i).map (·.name)) ∧ Below w.heap.size w wr)
  (fun _ o _ => l.length - (intOf o).toNat)
 case atStart => exact ⟨0, by omega, rfl, HE.out, HB.out⟩
 case round =>
  obtain ⟨i, hi, rfl, hown, hb⟩ := hrel
  obtain ⟨oa, oc, rfl, hoc⟩ := hown.slice
  have HOW : Hid (OwnS wr w.heap.size (.slice oa ((l.take i).map (·.name)).length oc) ((l.take i).map (·.name))) := hown
  have hsl : ((l.take i).map (fun t : Typ => t.name)).length ≤ 1048576 := by rw [List.length_map, List.length_take]; omega
  clear hown
  by_cases hlt : i < l.length
  ·obtain ⟨d, hd⟩ : ∃ d, l[i]? = some d := ⟨_, List.getElem?_eq_getElem hlt⟩
   obtain ⟨b1, o1, cs, rfl, hbb, rfl, hl⟩ := (HR.out.below hb) i d hd
   have y0 : wr.cell? ⟨b1, o1 + i * 2, none⟩ = some (.string d.name) := hl 0 _ rfl
   have y1 : wr.cell? ⟨b1, o1 + i * 2 + 1, none⟩ = some (.int .i64 d.size) := hl 1 _ rfl
   have HMT : Hid ((l.take (i + 1)).map (fun t : Typ => t.name) = (l.take i).map (fun t : Typ => t.name) ++ [d.name]) := map_take _ hd
   clear hd hl
   generalize hls : (l.take i).map (fun t : Typ => t.name) = ls at *
   clear hls
   have hnews : ∀ j u, [Value.string d.name][j]? = some u → (wr.alloc (Obj.cells #[.string d.name] 9)).cell? ((⟨wr.heap.size, 0, none⟩ : Addr).add j) = some u := by
    intro j u hj
    rw [add_lit, Nat.zero_add]
    exact cell_blk (blk_at _ _ _ (by simp)) (by simpa using hj)
   have HO1 : Hid ((wr.alloc (Obj.cells #[.string d.name] 9)).ownsRow w.heap.size 9 1 (.slice oa ls.length oc) ls.length (ls.map Value.string)) := World.ownsRow.alloc HOW.out _
   have HB1 : Hid (Below w.heap.size w (wr.alloc (Obj.cells #[.string d.name] 9))) := hb.alloc hb.size _
   have hsz := hb.size
   go_wp2_with (at_builtin; go_loud (refine wpList_append_row rfl _ _ 22 rfl w.heap.size 9 i9 _ 1 16 Tryz.underlying22 hi9 hz90 hz91 hz92 rfl (by omega) (.slice oa ls.length oc) ls.length (ls.map Value.string) rfl HO1.out (some ⟨wr.heap.size, 0, none⟩) 1 1 [.string d.name] rfl rfl (fun _ => ⟨_, rfl, hnews⟩) (by intro u hu; simp at hu; subst hu; rfl) (by unfold maxLen; omega) (by omega) (by simp; omega) ?_; intro v' w4 hown hgrow hat; refine stop ?_))
   have HO4 : Hid (OwnS w4 w.heap.size v' (ls ++ [d.name])) := OwnS.snoc hown
   have HB4 : Hid (Below w.heap.size w w4) := app_below HB1.out HB1.out.size HO1.out hgrow
   unfold Hid
   clear hown hgrow hat hnews
   go_wp2
   go_roundw
   case rel => exact ⟨i + 1, by omega, by go_num, by rw [HMT.out]; exact HO4.out, HB4.out⟩
   case measure => simp [intOf]; omega
  ·obtain rfl : i = l.length := by omega
   rw [List.take_length] at HOW hoc ⊢
   have hlt' : decide ((l.length : Int) < (l.length : Int)) = false := by simp
   go_wp2
   go_ret
   exact ⟨oa, oc, by rw [List.length_map]; rfl, hoc, HOW.out, hb⟩
set_option maxRecDepth 100000 in
set_option maxHeartbeats 1000000 in
theorem l11DefNames_any (a : Option Addr) (l : List Dfn) (ca : Nat) (w : World) (hn : l.length ≤ 1048576) (hr : rgD.Row w (fun b => b < w.heap.size) a l) :
  Calls Tryz.prog 24 #[.slice a l.length ca] w fun e w' => NmPost (l.map (·.name)) w e w' := by
 have HR : Hid (rgD.Row w (fun b => b < w.heap.size) a l) := hr
 clear hr
 obtain ⟨i9, hi9, hz90, hz91, hz92⟩ := info_parts Tryz.inf9
 have HE : Hid (OwnS (w.alloc (Obj.cells #[] 9)) w.heap.size (.slice (some ⟨w.heap.size, 0, none⟩) 0 0) []) := own_empty (blk_at _ _ _ rfl) (Nat.le_refl _)
 have HB : Hid (Below w.heap.size w (w.alloc (Obj.cells #[] 9))) := (Below.refl _ _).alloc (Nat.le_refl _) _
 go_enter Tryz.func24, Tryz.ntmps24
 go_wp2
 go_loopw [3, 4] (fun v o wr => ∃ i : Nat, i ≤ l.length ∧ o = .int .i64 i ∧ OwnS wr w.heap.size v ((l.take i).map (·.name)) ∧ Below w.heap.size w wr)
  (fun _ o _ => l.length - (intOf o).toNat)
 case atStart => exact ⟨0, by omega, rfl, HE.out, HB.out⟩
 case round =>
  obtain ⟨i, hi, rfl, hown, hb⟩ := hrel
  obtain ⟨oa, oc, rfl, hoc⟩ := hown.slice
  have HOW : Hid (OwnS wr w.heap.size (.slice oa ((l.take i).map (·.name)).length oc) ((l.take i).map (·.name))) := hown
  have hsl : ((l.take i).map (fun t : Dfn => t.name)).length ≤ 1048576 := by rw [List.length_map, List.length_take]; omega
  clear hown
  by_cases hlt : i < l.length
  ·obtain ⟨d, hd⟩ : ∃ d, l[i]? = some d := ⟨_, List.getElem?_eq_getElem hlt⟩
   obtain ⟨b1, o1, cs, rfl, hbb, ⟨an, cn, rfl, _⟩, hl⟩ := (HR.out.below hb) i d hd
   have y0 : wr.cell? ⟨b1, o1 + i * 3, none⟩ = some (.string d.name) := hl 0 _ rfl
   have y1 : wr.cell? ⟨b1, o1 + i * 3 + 1, none⟩ = some (.slice an d.prog.nodes.length cn) := hl 1 _ rfl
   have y2 : wr.cell? ⟨b1, o1 + i * 3 + 2, none⟩ = some (.int .i64 d.prog.root) := hl 2 _ rfl
   have HMT : Hid ((l.take (i + 1)).map (fun t : Dfn => t.name) = (l.take i).map (fun t : Dfn => t.name) ++ [d.name]) := map_take _ hd
   clear hd hl
   generalize hls : (l.take i).map (fun t : Dfn => t.name) = ls at *
   clear hls
   have hnews : ∀ j u, [Value.string d.name][j]? = some u → (wr.alloc (Obj.cells #[.string d.name] 9)).cell? ((⟨wr.heap.size, 0, none⟩ : Addr).add j) = some u := by
    intro j u hj
    rw [add_lit, Nat.zero_add]
    exact cell_blk (blk_at _ _ _ (by simp)) (by simpa using hj)
   have HO1 : Hid ((wr.alloc (Obj.cells #[.string d.name] 9)).ownsRow w.heap.size 9 1 (.slice oa ls.length oc) ls.length (ls.map Value.string)) := World.ownsRow.alloc HOW.out _
   have HB1 : Hid (Below w.heap.size w (wr.alloc (Obj.cells #[.string d.name] 9))) := hb.alloc hb.size _
   have hsz := hb.size
   go_wp2_with (at_builtin; go_loud (refine wpList_append_row rfl _ _ 22 rfl w.heap.size 9 i9 _ 1 16 Tryz.underlying22 hi9 hz90 hz91 hz92 rfl (by omega) (.slice oa ls.length oc) ls.length (ls.map Value.string) rfl HO1.out (some ⟨wr.heap.size, 0, none⟩) 1 1 [.string d.name] rfl rfl (fun _ => ⟨_, rfl, hnews⟩) (by intro u hu; simp at hu; subst hu; rfl) (by unfold maxLen; omega) (by omega) (by simp; omega) ?_; intro v' w4 hown hgrow hat; refine stop ?_))
   have HO4 : Hid (OwnS w4 w.heap.size v' (ls ++ [d.name])) := OwnS.snoc hown
   have HB4 : Hid (Below w.heap.size w w4) := app_below HB1.out HB1.out.size HO1.out hgrow
   unfold Hid
   clear hown hgrow hat hnews
   go_wp2
   go_roundw
   case rel => exact ⟨i + 1, by omega, by go_num, by rw [HMT.out]; exact HO4.out, HB4.out⟩
   case measure => simp [intOf]; omega
  ·obtain rfl : i = l.length := by omega
   rw [List.take_length] at HOW hoc ⊢
   have hlt' : decide ((l.length : Int) < (l.length : Int)) = false := by simp
   go_wp2
   go_ret
   exact ⟨oa, oc, by rw [List.length_map]; rfl, hoc, HOW.out, hb⟩
end Go.Proofs.YtamjofdgikifnaaGreat
