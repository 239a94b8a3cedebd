/- The program's ProgOk. The program's Sets. Rows of notes behind each other (slices.Concat). -/
import Derived.Test.YtamjofdgikifnaaGreatPsx
import Derived.Deep.RegionWith
import Derived.Deep.RegionHeld3
import Derived.Test.YtamjofdgikifnaaGreatFrp
import Derived.Test.YtamjofdgikifnaaGreatApl
import Derived.Deep.AppendLies
set_option linter.unusedVariables false
namespace Go.Proofs.YtamjofdgikifnaaGreat
open Go.ChangeShapes Go.WideShapes Go.ChangeAt Go.RowKit
set_option maxRecDepth 100000 in
set_option maxHeartbeats 1000000 in
theorem implOk_any (a : Option Addr) (ns : List Nod) (cap : Nat) (root : Int) (w : World) (hn : ns.length ≤ 1048576) (hr : RowN w w.heap.size a ns) (hsm : ∀ d ∈ ns, d.small) :
  Calls Tryz.prog 70 #[.agg #[.slice a ns.length cap, .int .i64 root]] w fun e w' => OkPost ns root w e w' := by
 have hb0 : Below w.heap.size w (w.alloc (Obj.cells #[.slice a ns.length cap, .int .i64 root] 54)) := (Below.refl _ _).alloc (Nat.le_refl _) _
 have k0 : (w.alloc (Obj.cells #[.slice a ns.length cap, .int .i64 root] 54)).heap[w.heap.size]? = some (Obj.cells #[.slice a ns.length cap, .int .i64 root] 54) := blk_at _ _ _ rfl
 have HS := fun W => shapes_any W
 have HX : Hid (∀ W, Below w.heap.size w W → W.heap[w.heap.size]? = some (Obj.cells #[.slice a ns.length cap, .int .i64 root] 54) → W.cell? ⟨w.heap.size, 0, none⟩ = some (.slice a ns.length cap) ∧ W.cell? ⟨w.heap.size, 1, none⟩ = some (.int .i64 root)) := fun W h k => ⟨cell_blk (j := 0) k rfl, cell_blk (j := 1) k rfl⟩
 have HF : Hid (∀ (m : Nat) (w1 : World), Below w.heap.size w w1 → MapIs w1 m 39 (F2 9) → Calls Tryz.prog 93 #[.agg #[.slice a ns.length cap, .int .i64 root], .map (some m)] w1 fun e w' => OkPost ns root w1 e w') := fun m w1 h hm => fits_any a ns cap root m w1 hn ((hr.below h).mono h.size) hsm hm
 have e0 := cell_blk (j := 0) k0 rfl
 have e1 := cell_blk (j := 1) k0 rfl
 clear hr hsm
 go_enter Tryz.func70, Tryz.ntmps70
 go_wp2
 go_region_held3 (fun W => W.cell? ⟨w.heap.size, 0, none⟩ = some (.slice a ns.length cap) ∧ W.cell? ⟨w.heap.size, 1, none⟩ = some (.int .i64 root))
  (first | exact ⟨e0, e1⟩ | exact ⟨cell_blk (j := 0) k2 rfl, cell_blk (j := 1) k2 rfl⟩ | exact ⟨cell_blk (j := 0) k1 rfl, cell_blk (j := 1) k1 rfl⟩)
  (first
  | (go_at_call 92; refine (HS _).mono ?_; rintro e w1 ⟨m, rfl, hM, hml, hb1⟩; have k1 := (hb1.block w.heap.size (by show w.heap.size < (w.alloc _).heap.size; simp)).trans k0; have hb2 : Below w.heap.size w w1 := hb0.trans ⟨hb1.os, hb1.tape, hb1.output, hb1.size, fun k hk => hb1.block k (Nat.lt_of_lt_of_le hk hb0.size)⟩)
  | (go_at_call 93; refine (HF.out m _ hb2 hM).mono ?_; rintro e w2 ⟨b, rfl, hq, hb3⟩; have k2 := (hb3.block w.heap.size (Array.getElem?_eq_some_iff.1 k1).1).trans k1))
 all_goals
  have hb4 : Below w.heap.size w w2 := hb2.trans (hb3.mono hb2.size)
  clear HS HX HF hM hml hb1 hb2 hb3 k0 k1 k2 e0 e1 hb0
  go_wp2
  go_ret
  exact ⟨b, rfl, hq, hb4⟩
end Go.Proofs.YtamjofdgikifnaaGreat
set_option linter.unusedVariables false
namespace Go.Proofs.YtamjofdgikifnaaGreat.Fr
open Go.ChangeShapes Go.WideShapes Go.ChangeAt Go.RowKit
set_option maxRecDepth 100000 in
set_option maxHeartbeats 1000000 in
theorem implSets_yes (a : Option Addr) (ns : List Nod) (cap : Nat) (root : Int) (w : World) (hn : ns.length ≤ 1048576) (hr : RowN w w.heap.size a ns) (hsm : ∀ d ∈ ns, d.small) (hok : OkP ns root) :
  Calls Tryz.prog 34 #[.agg #[.slice a ns.length cap, .int .i64 root]] w fun e w' => TellP (setsL ns) w e w' := by
 obtain ⟨w0, hw0⟩ : ∃ w0, w0 = w.alloc (Obj.cells #[.slice a ns.length cap, .int .i64 root] 54) := ⟨_, rfl⟩
 have hbB : Below w.heap.size w w0 := by rw [hw0]; exact (Below.refl _ _).alloc (Nat.le_refl _) _
 have kB : w0.heap[w.heap.size]? = some (Obj.cells #[.slice a ns.length cap, .int .i64 root] 54) := by rw [hw0]; exact blk_alloc _ _
 have HOK : Hid (Calls Tryz.prog 70 #[.agg #[.slice a ns.length cap, .int .i64 root]] w0 fun e w' => OkPost ns root w0 e w') := implOk_any a ns cap root _ hn ((hr.below hbB).mono hbB.size) hsm
 have HW0 : Hid (w0 = w.alloc (Obj.cells #[.slice a ns.length cap, .int .i64 root] 54)) := hw0
 have hs0 : w0.heap.size = w.heap.size + 1 := by rw [hw0]; simp
 have HR : Hid (RowN w w.heap.size a ns) := hr
 have HS : Hid (∀ d ∈ ns, d.small) := hsm
 obtain ⟨hl1, hl2, -⟩ := id hok
 have HOKP : Hid (OkP ns root) := hok
 clear hr hsm hok hw0
 obtain ⟨i9, hi9, hz90, hz91, hz92⟩ := info_parts Tryz.inf9
 go_enter Tryz.func34, Tryz.ntmps34
 go_wp2_with fail
 rw [← HW0.out]
 refine HOK.out.mono ?_
 rintro e w1 ⟨b, rfl, hq, hb1⟩
 obtain rfl : b = true := hq.2 HOKP.out
 have k1 := blk_keep kB hb1 (by omega)
 have hb2 := hbB.trans (hb1.mono hbB.size)
 have hs1 := hb1.size
 have e0 := cell_blk (j := 0) k1 rfl
 clear hbB hb1 hq kB HW0 k1 HOK
 go_wp2
 clear e0
 go_loopw [3, 12] (fun v o wr => ∃ (i : Nat), i ≤ ns.length ∧ o = .int .i64 i ∧ OwnS wr w.heap.size v (setsL (ns.take i)) ∧ Below w.heap.size w wr)
  (fun _ o _ => ns.length - (intOf o).toNat)
 case atStart => exact ⟨0, by omega, rfl, ⟨rfl, .inl ⟨rfl, rfl⟩⟩, hb2⟩
 case round =>
  clear hb2
  obtain ⟨i, hi, rfl, hown, hb⟩ := hrel
  obtain ⟨oa, oc, rfl⟩ := hown.slice
  have HOW : Hid (OwnS wr w.heap.size (.slice oa (setsL (ns.take i)).length oc) (setsL (ns.take i))) := hown
  have hws := hb.size
  have hsl : (setsL (ns.take i)).length ≤ i := setsL_len i _ (by rw [List.length_take]; omega)
  clear hown
  by_cases hlt : i < ns.length
  ·obtain ⟨d, hd⟩ : ∃ d, ns[i]? = some d := ⟨_, List.getElem?_eq_getElem hlt⟩
   obtain ⟨b1, o1, rfl, hbb, an, cn, aa, ca, v0, v1, v2, v3, v4, hrs, hri, hcn1, hca1⟩ := HR.out i d hd
   have c0 := cell_keep v0 hb hbb
   have c1 := cell_keep v1 hb hbb
   have c2 := cell_keep v2 hb hbb
   have c3 := cell_keep v3 hb hbb
   have c4 := cell_keep v4 hb hbb
   have HST : Hid (setsL (ns.take (i + 1)) = if d.k = 10 ∧ hasS (setsL (ns.take i)) d.s = false then setsL (ns.take i) ++ [d.s] else setsL (ns.take i)) := setsL_take hd
   have hds := (HS.out d (List.mem_of_getElem? hd)).2.2.1
   have hki := (HS.out d (List.mem_of_getElem? hd)).1
   obtain ⟨w2, hw2⟩ : ∃ w2, w2 = wr.alloc (Obj.cells #[.int .i64 d.k, .int .i64 d.n, .string d.s, .slice an d.names.length cn, .slice aa d.args.length ca] 96) := ⟨_, rfl⟩
   have hbn : Below wr.heap.size wr w2 := by rw [hw2]; exact (Below.refl _ _).alloc (Nat.le_refl _) _
   have kn : w2.heap[wr.heap.size]? = some (Obj.cells #[.int .i64 d.k, .int .i64 d.n, .string d.s, .slice an d.names.length cn, .slice aa d.args.length ca] 96) := by rw [hw2]; exact blk_at _ _ _ rfl
   have HB2 : Hid (Below w.heap.size w w2) := hb.trans (hbn.mono hws)
   have HO2 : Hid (OwnS w2 w.heap.size (.slice oa (setsL (ns.take i)).length oc) (setsL (ns.take i))) := HOW.out.below hbn
   have HW2 : Hid (w2 = wr.alloc (Obj.cells #[.int .i64 d.k, .int .i64 d.n, .string d.s, .slice an d.names.length cn, .slice aa d.args.length ca] 96)) := hw2
   have KN : Hid (w2.heap[wr.heap.size]? = some (Obj.cells #[.int .i64 d.k, .int .i64 d.n, .string d.s, .slice an d.names.length cn, .slice aa d.args.length ca] 96)) := kn
   have hnl := (Array.getElem?_eq_some_iff.1 kn).1
   generalize setsL (ns.take i) = l at *
   have HIN : Hid (Calls Tryz.prog 71 #[.slice oa l.length oc, .string d.s] w2 fun e w' => Ans w2 (.bool (hasS l d.s)) e w') := containsS_any oa l oc d.s w2 (by omega) HO2.out.row.2
   clear hrs hri hd v0 v1 v2 v3 v4 hb hw2 hbn kn HOW
   by_cases hk : d.k = 10
   ·have hkb : (d.k == 10) = true := by rw [hk]; rfl
    cases hh : hasS l d.s
    ·rw [hh] at HIN HST
     have HST2 : Hid (setsL (ns.take (i + 1)) = l ++ [d.s]) := by have := HST.out; rw [if_pos ⟨hk, rfl⟩] at this; exact this
     clear HST hh hk
     go_wp2_with fail
     rw [← HW2.out]
     refine HIN.out.mono ?_
     rintro e w3 ⟨rfl, hb4⟩
     have kn3 := (hb4.block _ hnl).trans KN.out
     have d2 := cell_blk (j := 2) kn3 rfl
     have hb5 : Below w.heap.size w w3 := HB2.out.trans (hb4.mono HB2.out.size)
     have HO3 : Hid (OwnS w3 w.heap.size (.slice oa l.length oc) l) := HO2.out.below hb4
     have HCL : Hid (Calls Tryz.prog 68 #[.string d.s] w3 fun e w' => Ans w3 (.string d.s) e w') := clone_any d.s w3 hds
     have HB5 : Hid (Below w.heap.size w w3) := hb5
     clear hb4 hb5 kn3 HO2 HIN HB2 HW2 c0 c1 c2 c3 c4
     go_wp2_with fail
     refine HCL.out.mono ?_
     rintro e w4 ⟨rfl, hb6⟩
     have HB6 : Hid (Below w.heap.size w w4) := HB5.out.trans (hb6.mono HB5.out.size)
     have HO4 : Hid (OwnS w4 w.heap.size (.slice oa l.length oc) l) := HO3.out.below hb6
     have HOA : Hid ((w4.alloc (.cells #[.string d.s] 9 (0, 0))).ownsRow w.heap.size 9 1 (.slice oa l.length oc) l.length (l.map Value.string)) := World.ownsRow.alloc HO4.out _
     have kA : (w4.alloc (.cells #[.string d.s] 9 (0, 0))).heap[w4.heap.size]? = some (.cells #[.string d.s] 9 (0, 0)) := blk_at _ _ _ rfl
     have hAz : (w4.alloc (.cells #[.string d.s] 9 (0, 0))).heap.size = w4.heap.size + 1 := by simp
     have hwA : w.heap.size ≤ (w4.alloc (.cells #[.string d.s] 9 (0, 0))).heap.size := by have := HB6.out.size; rw [hAz]; omega
     have HBA : Hid (Below w.heap.size w (w4.alloc (.cells #[.string d.s] 9 (0, 0)))) := HB6.out.alloc HB6.out.size _
     clear hb6 HO3 HO4 HB5 HB6 HCL d2
     go_wp2_with (at_builtin; refine wpList_append_lies _ rfl _ _ 22 rfl w.heap.size 9 i9 _ 1 16 Tryz.underlying22 hi9 hz90 hz91 hz92 rfl (by omega) (.slice oa l.length oc) l.length (l.map Value.string) rfl HOA.out ⟨w4.heap.size, 0, none⟩ 1 1 [.string d.s] rfl rfl (World.news_of_block kA) (by intro u hu; simp at hu; subst hu; rfl) (by omega) (by simp [maxLen]; omega) (by omega) hwA (w4.heap.size + 1) hAz ?_)
     intro gg cap' w5 hown hgrow hat hlt4
     have HO5 : Hid (OwnS w5 w.heap.size (.slice (some ⟨gg, 0, none⟩) (l ++ [d.s]).length cap') (l ++ [d.s])) := ownS_snoc hown
     have HB5 : Hid (Below w.heap.size w w5) := HBA.out.trans ⟨hgrow.os, hgrow.tape, hgrow.output, hgrow.size, fun k hk => hgrow.block k (by rw [hAz] at hwA ⊢; omega) (fun e => by have := (World.ownsRow.lt HOA.out _ e.symm).1; omega)⟩
     have hln : (l ++ [d.s]).length = l.length + 1 := by simp
     clear hown hgrow hat hlt4 kA hAz hwA HBA HOA
     go_wp2
     go_roundw
     case rel => exact ⟨i + 1, by omega, by go_num, by rw [HST2.out, ← hln]; exact HO5.out, HB5.out⟩
     case measure => simp [intOf]; omega
    ·rw [hh] at HIN HST
     have HST2 : Hid (setsL (ns.take (i + 1)) = l) := by have := HST.out; rw [if_neg (by simp)] at this; exact this
     clear HST hh hk
     go_wp2_with fail
     rw [← HW2.out]
     refine HIN.out.mono ?_
     rintro e w3 ⟨rfl, hb4⟩
     have HB3 : Hid (Below w.heap.size w w3) := HB2.out.trans (hb4.mono HB2.out.size)
     have HO3 : Hid (OwnS w3 w.heap.size (.slice oa l.length oc) l) := HO2.out.below hb4
     clear hb4 c0 c1 c2 c3 c4 HO2 HIN HB2 HW2 KN
     go_wp2
     go_roundw
     case rel => exact ⟨i + 1, by omega, by go_num, by rw [HST2.out]; exact HO3.out, HB3.out⟩
     case measure => simp [intOf]; omega
   ·have hkb : (d.k == 10) = false := by rw [beq_eq_false_iff_ne]; exact hk
    have HST2 : Hid (setsL (ns.take (i + 1)) = l) := by have := HST.out; rw [if_neg (by simp [hk])] at this; exact this
    clear HST hk HIN
    go_wp2
    rw [← HW2.out]
    go_roundw
    case rel => exact ⟨i + 1, by omega, by go_num, by rw [HST2.out]; exact HO2.out, HB2.out⟩
    case measure => simp [intOf]; omega
  ·have hlt' : decide ((i : Int) < (ns.length : Int)) = false := by simp; omega
   obtain rfl : i = ns.length := by omega
   rw [List.take_length] at HOW ⊢
   clear hlt hi
   go_wp2
   go_ret
   exact ⟨.slice oa (setsL ns).length oc, rfl, HOW.out, hb⟩
end Go.Proofs.YtamjofdgikifnaaGreat.Fr
set_option linter.unusedVariables false
namespace Go.Proofs.YtamjofdgikifnaaGreat
open Go.ChangeShapes Go.WideShapes Go.ChangeAt Go.RowKit
def Tryz.gr_renCtn : Go.Shelf.Ren := ⟨fun | 4 => 72 | n => n, fun | 22 => 29 | 25 => 58 | n => n, fun | n => n⟩
theorem Tryz.growCtn : Go.Proofs.Lays8.n4 Tryz.prog Tryz.gr_renCtn where
 mixed := by kernel_rfl
 f4 := ⟨Tryz.f72.name, by kernel_rfl, Tryz.func72.trans (congrArg some (by kernel_rfl))⟩
 t0 := Tryz.underlying0
 a0 := Tryz.isAgg0
 z0 := Tryz.sizeOf0
 v0 := Tryz.zeroValue0
 t3 := Tryz.underlying3
 a3 := Tryz.isAgg3
 z3 := Tryz.sizeOf3
 v3 := Tryz.zeroValue3
 t4 := Tryz.underlying4
 a4 := Tryz.isAgg4
 z4 := Tryz.sizeOf4
 v4 := Tryz.zeroValue4
 t9 := Tryz.underlying9
 a9 := Tryz.isAgg9
 z9 := Tryz.sizeOf9
 v9 := Tryz.zeroValue9
 t20 := Tryz.underlying20
 a20 := Tryz.isAgg20
 z20 := Tryz.sizeOf20
 v20 := Tryz.zeroValue20
 t22 := Tryz.underlying29
 a22 := Tryz.isAgg29
 z22 := Tryz.sizeOf29
 v22 := Tryz.zeroValue29
theorem Tryz.infCtn : (Tryz.prog.info? 58).map (fun i => (i.zero, i.size, i.bytes)) = some (some (.agg #[.int .i64 0, .string ⟨#[]⟩]), 2, 24) := by kernel_rfl
theorem growCtn_any (n : Nat) (w : World) (hn : n ≤ 8388608) : Calls Tryz.prog 72 #[.slice none 0 0, .int .i64 n] w fun e w' => ∃ v, e = .returned v ∧ w'.ownsRow w.heap.size 58 2 v 0 [] ∧ Below w.heap.size w w' := by
 obtain ⟨i, hi, hz0, hz1, hz2⟩ := info_parts Tryz.infCtn
 by_cases h0 : n = 0
 ·subst h0
  refine (Any8.slices_Grow_room Tryz.growCtn none 0 0 0 w (by omega) (by omega) (by omega) (by omega)).mono ?_
  rintro e w' ⟨rfl, rfl⟩
  exact ⟨_, rfl, ⟨rfl, .inl ⟨rfl, rfl⟩⟩, Below.refl _ _⟩
 ·have hby : i.bytes = 24 := hz2
  have hs : i.size = 2 := hz1
  refine (Any8.slices_Grow_grow Tryz.growCtn i (.agg #[.int .i64 0, .string ⟨#[]⟩]) hi hz0 (by omega) none 0 0 n [] w (by omega) (by omega) (by rw [hby]; omega) (by omega) (by simp) (fun _ => rfl) (fun a h => by cases h)).mono ?_
  rintro e w' ⟨rfl, rfl⟩
  have hg := grownCap_ge w (0 + n) 0 58
  have hm := grownCap_le_maxLen w (0 + n) 0 58 (by unfold maxLen; omega)
  refine ⟨_, rfl, ⟨rfl, .inr ⟨w.heap.size, _, _, rfl, Nat.le_refl _, blk_at _ _ _ rfl, Nat.zero_le _, hm, ?_, by simp⟩⟩, ((Below.refl _ _).drew).alloc (Nat.le_refl _) _⟩
  show (#[] ++ Builtin.zeroCells _ (0 + n - 0) ++ Builtin.zeroCells _ (grownCap w (0 + n) 0 58 - (0 + n)) : Array Value).size = grownCap w (0 + n) 0 58 * 2
  rw [Array.size_append, Array.size_append, size_zeroCells, size_zeroCells]
  show 0 + (0 + n - 0) * 2 + (grownCap w (0 + n) 0 58 - (0 + n)) * 2 = _
  omega
set_option maxRecDepth 100000 in
set_option maxHeartbeats 1000000 in
theorem catCtn_any (rs : List Rw) (g : Nat) (w : World) (hk : rs.length ≤ 8) (hs : sumN rs ≤ 8388608) (hg : g < w.heap.size) (hr : RwsAt rs 2 g w) :
  Calls Tryz.prog 36 #[.slice (some ⟨g, 0, none⟩) rs.length rs.length] w fun e w' => ∃ v, e = .returned v ∧ w'.ownsRow w.heap.size 58 2 v (sumN rs) (catU rs) ∧ Below w.heap.size w w' := by
 obtain ⟨ie, hie, hz0, hz1, hz2⟩ := info_parts Tryz.infCtn
 have HR : Hid (RwsAt rs 2 g w) := hr
 have HG : Hid (∀ n : Nat, n ≤ 8388608 → ∀ w, Calls Tryz.prog 72 #[.slice none 0 0, .int .i64 n] w fun e w' => ∃ v, e = .returned v ∧ w'.ownsRow w.heap.size 58 2 v 0 [] ∧ Below w.heap.size w w') := fun n hn w => growCtn_any n w hn
 have HS : Hid (sumN rs ≤ 8388608) := hs
 clear hr hs
 go_enter Tryz.func36, Tryz.ntmps36
 go_wp2
 go_loopw [3, 11] (fun s o wr => w = wr ∧ ∃ i : Nat, i ≤ rs.length ∧ s = .int .i64 (sumN (rs.take i) : Nat) ∧ o = .int .i64 i)
  (fun _ o _ => rs.length - (intOf o).toNat)
 case atStart => exact ⟨rfl, 0, by omega, rfl, rfl⟩
 case round =>
  obtain ⟨rfl, i, hi, rfl, rfl⟩ := hrel
  by_cases hlt : i < rs.length
  ·obtain ⟨r, hd⟩ : ∃ r, rs[i]? = some r := ⟨_, List.getElem?_eq_getElem hlt⟩
   have y0 := (HR.out i r hd).1
   have hle := Nat.le_trans (sumN_le rs (i + 1)) HS.out
   have HT : Hid (sumN (rs.take (i + 1)) = sumN (rs.take i) + r.n) := sumN_take hd
   rw [HT.out] at hle
   clear hd
   generalize hq : sumN (rs.take i) = q at *
   clear hq
   have g1 : decide ((q : Int) + (r.n : Int) < 0) = false := by simp; omega
   go_wp2
   go_roundw
   case rel => exact ⟨by trivial, i + 1, by omega, by rw [HT.out]; go_num, by go_num⟩
   case measure => simp [intOf]; omega
  ·obtain rfl : i = rs.length := by omega
   rw [List.take_length]
   have hlt' : decide ((rs.length : Int) < (rs.length : Int)) = false := by simp
   have HG' := HG.out (sumN rs) HS.out w
   clear HG
   go_wp2_with fail
   refine HG'.mono ?_
   rintro e w1 ⟨v0, rfl, hown, hb1⟩
   have HO : Hid (w1.ownsRow w.heap.size 58 2 v0 0 []) := hown
   clear hown HG'
   have HB1 : Hid (Below w.heap.size w w1) := hb1
   go_wp2
   go_loopw [6, 27] (fun s o wr => Below w.heap.size w wr ∧ ∃ i : Nat, i ≤ rs.length ∧ wr.ownsRow w.heap.size 58 2 s (sumN (rs.take i)) (catU (rs.take i)) ∧ o = .int .i64 i)
    (fun _ o _ => rs.length - (intOf o).toNat)
   case atStart => exact ⟨HB1.out, 0, by omega, HO.out, rfl⟩
   case round =>
    obtain ⟨hb, i, hi, hown, rfl⟩ := hrel
    obtain ⟨oa, oc, rfl, hoc⟩ := own_slice hown
    by_cases hlt : i < rs.length
    ·obtain ⟨r, hd⟩ : ∃ r, rs[i]? = some r := ⟨_, List.getElem?_eq_getElem hlt⟩
     have y0 := cell_keep (HR.out i r hd).1 hb hg
     have HAT : Hid (r.At 2 w) := (HR.out i r hd).2
     have hle := Nat.le_trans (sumN_le rs (i + 1)) HS.out
     have HT : Hid (sumN (rs.take (i + 1)) = sumN (rs.take i) + r.n) := sumN_take hd
     have HC : Hid (catU (rs.take (i + 1)) = catU (rs.take i) ++ r.u) := catU_take hd
     rw [HT.out] at hle
     clear hd
     generalize hq : sumN (rs.take i) = q at *
     generalize hx : catU (rs.take i) = xs at *
     clear hq hx
     have hsz := hb.size
     have HOW : Hid (wr.ownsRow w.heap.size 58 2 (.slice oa q oc) q xs) := hown
     clear hown
     have HB : Hid (Below w.heap.size w wr) := hb
     go_wp2_with (at_builtin; go_loud (refine wpList_append_row rfl _ _ 29 rfl w.heap.size 58 ie _ 2 24 Tryz.underlying29 hie hz0 hz1 hz2 rfl (by omega) (.slice oa q oc) q xs rfl HOW.out r.a r.n r.c r.u rfl HAT.out.len (HAT.out.cells _ HB.out) HAT.out.one (by unfold maxLen; omega) (by omega) (by omega) ?_; intro v' w4 hown hgrow hat; refine stop ?_))
     have HO4 : Hid (w4.ownsRow w.heap.size 58 2 v' (q + r.n) (xs ++ r.u)) := hown
     have HB4 : Hid (Below w.heap.size w w4) := app_belowR HB.out HB.out.size HOW.out hgrow
     unfold Hid
     clear hown hgrow hat
     go_wp2
     go_roundw
     case rel => exact ⟨HB4.out, i + 1, by omega, by rw [HT.out, HC.out]; exact HO4.out, by go_num⟩
     case measure => simp [intOf]; omega
    ·obtain rfl : i = rs.length := by omega
     rw [List.take_length] at hown hoc ⊢
     have hlt' : decide ((rs.length : Int) < (rs.length : Int)) = false := by simp
     have HOW : Hid _ := hown
     clear hown
     go_wp2
     go_ret
     exact ⟨_, rfl, HOW.out, hb⟩
end Go.Proofs.YtamjofdgikifnaaGreat
