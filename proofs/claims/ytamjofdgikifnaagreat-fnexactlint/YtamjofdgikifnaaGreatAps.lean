/- Rows of texts behind each other (slices.Concat). The program's apart of texts. -/
import Derived.Test.YtamjofdgikifnaaGreatApl
import Derived.Deep.AppendLies
import Derived.Deep.RegionWith
set_option linter.unusedVariables false
namespace Go.Proofs.YtamjofdgikifnaaGreat
open Go.ChangeShapes Go.WideShapes Go.ChangeAt Go.RowKit
def Tryz.gr_renCts : Go.Shelf.Ren := ⟨fun | 4 => 76 | n => n, fun | 22 => 22 | 25 => 9 | n => n, fun | n => n⟩
theorem Tryz.growCts : Go.Proofs.Lays8.n4 Tryz.prog Tryz.gr_renCts where
 mixed := by kernel_rfl
 f4 := ⟨Tryz.f76.name, by kernel_rfl, Tryz.func76.trans (congrArg some (by kernel_rfl))⟩
 t0 := Tryz.underlying0
 a0 := Tryz.isAgg0
 z0 := Tryz.sizeOf0
 v0 := Tryz.zeroValue0
 t3 := Tryz.underlying3
 a3 := Tryz.isAgg3
 z3 := Tryz.sizeOf3
 v3 := Tryz.zeroValue3
 t4 := Tryz.underlying4
 a4 := Tryz.isAgg4
 z4 := Tryz.sizeOf4
 v4 := Tryz.zeroValue4
 t9 := Tryz.underlying9
 a9 := Tryz.isAgg9
 z9 := Tryz.sizeOf9
 v9 := Tryz.zeroValue9
 t20 := Tryz.underlying20
 a20 := Tryz.isAgg20
 z20 := Tryz.sizeOf20
 v20 := Tryz.zeroValue20
 t22 := Tryz.underlying22
 a22 := Tryz.isAgg22
 z22 := Tryz.sizeOf22
 v22 := Tryz.zeroValue22
theorem Tryz.infCts : (Tryz.prog.info? 9).map (fun i => (i.zero, i.size, i.bytes)) = some (some (.string ⟨#[]⟩), 1, 16) := by kernel_rfl
theorem growCts_any (n : Nat) (w : World) (hn : n ≤ 8388608) : Calls Tryz.prog 76 #[.slice none 0 0, .int .i64 n] w fun e w' => ∃ v, e = .returned v ∧ w'.ownsRow w.heap.size 9 1 v 0 [] ∧ Below w.heap.size w w' := by
 obtain ⟨i, hi, hz0, hz1, hz2⟩ := info_parts Tryz.infCts
 by_cases h0 : n = 0
 ·subst h0
  refine (Any8.slices_Grow_room Tryz.growCts none 0 0 0 w (by omega) (by omega) (by omega) (by omega)).mono ?_
  rintro e w' ⟨rfl, rfl⟩
  exact ⟨_, rfl, ⟨rfl, .inl ⟨rfl, rfl⟩⟩, Below.refl _ _⟩
 ·have hby : i.bytes = 16 := hz2
  have hs : i.size = 1 := hz1
  refine (Any8.slices_Grow_grow Tryz.growCts i (.string ⟨#[]⟩) hi hz0 (by omega) none 0 0 n [] w (by omega) (by omega) (by rw [hby]; omega) (by omega) (by simp) (fun _ => rfl) (fun a h => by cases h)).mono ?_
  rintro e w' ⟨rfl, rfl⟩
  have hg := grownCap_ge w (0 + n) 0 9
  have hm := grownCap_le_maxLen w (0 + n) 0 9 (by unfold maxLen; omega)
  refine ⟨_, rfl, ⟨rfl, .inr ⟨w.heap.size, _, _, rfl, Nat.le_refl _, blk_at _ _ _ rfl, Nat.zero_le _, hm, ?_, by simp⟩⟩, ((Below.refl _ _).drew).alloc (Nat.le_refl _) _⟩
  show (#[] ++ Builtin.zeroCells _ (0 + n - 0) ++ Builtin.zeroCells _ (grownCap w (0 + n) 0 9 - (0 + n)) : Array Value).size = grownCap w (0 + n) 0 9 * 1
  rw [Array.size_append, Array.size_append, size_zeroCells, size_zeroCells]
  show 0 + (0 + n - 0) * 1 + (grownCap w (0 + n) 0 9 - (0 + n)) * 1 = _
  omega
set_option maxRecDepth 100000 in
set_option maxHeartbeats 1000000 in
theorem catCts_any (rs : List Rw) (g : Nat) (w : World) (hk : rs.length ≤ 8) (hs : sumN rs ≤ 8388608) (hg : g < w.heap.size) (hr : RwsAt rs 1 g w) :
  Calls Tryz.prog 46 #[.slice (some ⟨g, 0, none⟩) rs.length rs.length] w fun e w' => ∃ v, e = .returned v ∧ w'.ownsRow w.heap.size 9 1 v (sumN rs) (catU rs) ∧ Below w.heap.size w w' := by
 obtain ⟨ie, hie, hz0, hz1, hz2⟩ := info_parts Tryz.infCts
 have HR : Hid (RwsAt rs 1 g w) := hr
 have HG : Hid (∀ n : Nat, n ≤ 8388608 → ∀ w, Calls Tryz.prog 76 #[.slice none 0 0, .int .i64 n] w fun e w' => ∃ v, e = .returned v ∧ w'.ownsRow w.heap.size 9 1 v 0 [] ∧ Below w.heap.size w w') := fun n hn w => growCts_any n w hn
 have HS : Hid (sumN rs ≤ 8388608) := hs
 clear hr hs
 go_enter Tryz.func46, Tryz.ntmps46
 go_wp2
 go_loopw [3, 11] (fun s o wr => w = wr ∧ ∃ i : Nat, i ≤ rs.length ∧ s = .int .i64 (sumN (rs.take i) : Nat) ∧ o = .int .i64 i)
  (fun _ o _ => rs.length - (intOf o).toNat)
 case atStart => exact ⟨rfl, 0, by omega, rfl, rfl⟩
 case round =>
  obtain ⟨rfl, i, hi, rfl, rfl⟩ := hrel
  by_cases hlt : i < rs.length
  ·obtain ⟨r, hd⟩ : ∃ r, rs[i]? = some r := ⟨_, List.getElem?_eq_getElem hlt⟩
   have y0 := (HR.out i r hd).1
   have hle := Nat.le_trans (sumN_le rs (i + 1)) HS.out
   have HT : Hid (sumN (rs.take (i + 1)) = sumN (rs.take i) + r.n) := sumN_take hd
   rw [HT.out] at hle
   clear hd
   generalize hq : sumN (rs.take i) = q at *
   clear hq
   have g1 : decide ((q : Int) + (r.n : Int) < 0) = false := by simp; omega
   go_wp2
   go_roundw
   case rel => exact ⟨by trivial, i + 1, by omega, by rw [HT.out]; go_num, by go_num⟩
   case measure => simp [intOf]; omega
  ·obtain rfl : i = rs.length := by omega
   rw [List.take_length]
   have hlt' : decide ((rs.length : Int) < (rs.length : Int)) = false := by simp
   have HG' := HG.out (sumN rs) HS.out w
   clear HG
   go_wp2_with fail
   refine HG'.mono ?_
   rintro e w1 ⟨v0, rfl, hown, hb1⟩
   have HO : Hid (w1.ownsRow w.heap.size 9 1 v0 0 []) := hown
   clear hown HG'
   have HB1 : Hid (Below w.heap.size w w1) := hb1
   go_wp2
   go_loopw [6, 27] (fun s o wr => Below w.heap.size w wr ∧ ∃ i : Nat, i ≤ rs.length ∧ wr.ownsRow w.heap.size 9 1 s (sumN (rs.take i)) (catU (rs.take i)) ∧ o = .int .i64 i)
    (fun _ o _ => rs.length - (intOf o).toNat)
   case atStart => exact ⟨HB1.out, 0, by omega, HO.out, rfl⟩
   case round =>
    obtain ⟨hb, i, hi, hown, rfl⟩ := hrel
    obtain ⟨oa, oc, rfl, hoc⟩ := own_slice hown
    by_cases hlt : i < rs.length
    ·obtain ⟨r, hd⟩ : ∃ r, rs[i]? = some r := ⟨_, List.getElem?_eq_getElem hlt⟩
     have y0 := cell_keep (HR.out i r hd).1 hb hg
     have HAT : Hid (r.At 1 w) := (HR.out i r hd).2
     have hle := Nat.le_trans (sumN_le rs (i + 1)) HS.out
     have HT : Hid (sumN (rs.take (i + 1)) = sumN (rs.take i) + r.n) := sumN_take hd
     have HC : Hid (catU (rs.take (i + 1)) = catU (rs.take i) ++ r.u) := catU_take hd
     rw [HT.out] at hle
     clear hd
     generalize hq : sumN (rs.take i) = q at *
     generalize hx : catU (rs.take i) = xs at *
     clear hq hx
     have hsz := hb.size
     have HOW : Hid (wr.ownsRow w.heap.size 9 1 (.slice oa q oc) q xs) := hown
     clear hown
     have HB : Hid (Below w.heap.size w wr) := hb
     go_wp2_with (at_builtin; go_loud (refine wpList_append_row rfl _ _ 22 rfl w.heap.size 9 ie _ 1 16 Tryz.underlying22 hie hz0 hz1 hz2 rfl (by omega) (.slice oa q oc) q xs rfl HOW.out r.a r.n r.c r.u rfl HAT.out.len (HAT.out.cells _ HB.out) HAT.out.one (by unfold maxLen; omega) (by omega) (by omega) ?_; intro v' w4 hown hgrow hat; refine stop ?_))
     have HO4 : Hid (w4.ownsRow w.heap.size 9 1 v' (q + r.n) (xs ++ r.u)) := hown
     have HB4 : Hid (Below w.heap.size w w4) := app_belowR HB.out HB.out.size HOW.out hgrow
     unfold Hid
     clear hown hgrow hat
     go_wp2
     go_roundw
     case rel => exact ⟨HB4.out, i + 1, by omega, by rw [HT.out, HC.out]; exact HO4.out, by go_num⟩
     case measure => simp [intOf]; omega
    ·obtain rfl : i = rs.length := by omega
     rw [List.take_length] at hown hoc ⊢
     have hlt' : decide ((rs.length : Int) < (rs.length : Int)) = false := by simp
     have HOW : Hid _ := hown
     clear hown
     go_wp2
     go_ret
     exact ⟨_, rfl, HOW.out, hb⟩
end Go.Proofs.YtamjofdgikifnaaGreat
set_option linter.unusedVariables false
namespace Go.Proofs.YtamjofdgikifnaaGreat
open Go.ChangeShapes Go.WideShapes Go.ChangeAt Go.RowKit
def ApS (m : Nat) (l : List ByteArray) (w : World) (e : Ending) (w' : World) : Prop := ∃ v, e = .returned v ∧ OwnS w' w.heap.size v l ∧ MapE w' m ∧ w.grownBy w' (some m)
set_option maxRecDepth 100000 in
set_option maxHeartbeats 1000000 in
theorem apS_any (m : Nat) (rs : List Rw) (L row : List ByteArray) (a : Option Addr) (ca g : Nat) (w : World) (hm : MapE w m) (hk : rs.length ≤ 8) (hn : L.length ≤ 4194304) (hsl : ∀ x ∈ L, smS x) (hg : g < w.heap.size)
  (hr : RwsAt rs 1 g w) (hs : sumN rs = L.length) (hc : catU rs = L.map Value.string) (hrn : row.length ≤ 1048576) (hrs : ∀ x ∈ row, smS x) (hrow : RowS w w.heap.size a row) :
  Calls Tryz.prog 38 #[.map (some m), .slice a row.length ca, .slice (some ⟨g, 0, none⟩) rs.length rs.length] w fun e w' => ApS m (apR L row) w e w' := by
 have HC : Hid (∀ w1, w1 = w → Calls Tryz.prog 46 #[.slice (some ⟨g, 0, none⟩) rs.length rs.length] w1 fun e w' => ∃ v, e = .returned v ∧ OwnS w' w.heap.size v L ∧ Below w.heap.size w w') := fun w1 h => by
  subst h
  have := catCts_any rs g w1 hk (by omega) hg hr
  rw [hs, hc] at this
  exact this
 have HM : Hid (MapE w m) := hm
 have HSL : Hid (∀ x ∈ L, smS x) := hsl
 have HSR : Hid (∀ x ∈ row, smS x) := hrs
 have HR : Hid (RowS w w.heap.size a row) := hrow
 clear hr hs hc hsl hrs hrow hm
 obtain ⟨i9, hi9, hz90, hz91, hz92⟩ := info_parts Tryz.inf9
 go_enter Tryz.func38, Tryz.ntmps38
 go_wp2_with fail
 refine (HC.out _ rfl).mono ?_
 rintro e w1 ⟨v, rfl, hown, hb1⟩
 clear HC
 obtain ⟨oa, oc, rfl, hoc⟩ := hown.slice
 obtain ⟨LV, hLV⟩ : ∃ LV, LV = (L ++ row).map Value.string := ⟨_, rfl⟩
 have HLN : Hid (LV.length < maxLen) := by show _ < _; rw [hLV, List.length_map, List.length_append]; unfold maxLen; omega
 have HL1 : Hid (∀ x ∈ L, Value.string x ∈ LV) := fun x hx => by rw [hLV]; exact List.mem_map.2 ⟨x, List.mem_append_left _ hx, rfl⟩
 have HL2 : Hid (∀ x ∈ row, Value.string x ∈ LV) := fun x hx => by rw [hLV]; exact List.mem_map.2 ⟨x, List.mem_append_right _ hx, rfl⟩
 have HM1 : Hid (MapG 9 Value.string smS w1 m LV (ocs [])) := ((HM.out.same (hb1.block _ HM.out.lt)).to 9 Value.string smS LV).eq fun x => rfl
 have HO1 : Hid (OwnS w1 w.heap.size (.slice oa L.length oc) L) := hown
 have HG1 : Hid (w.grownBy w1 (some m)) := gby_of hb1
 have hmw := HM.out.lt
 clear hown hLV hb1
 go_wp2
 go_loopw [15] (fun o wr => ∃ i : Nat, i ≤ L.length ∧ o = .int .i64 i ∧ MapG 9 Value.string smS wr m LV (ocs (L.take i)) ∧ OwnS wr w.heap.size (.slice oa L.length oc) L ∧ w.grownBy wr (some m))
  (fun o _ => L.length - (intOf o).toNat)
 case atStart => exact ⟨0, by omega, rfl, HM1.out, HO1.out, HG1.out⟩
 case round =>
  obtain ⟨i, hi, rfl, hmap, hown, hgr⟩ := hrel
  by_cases hlt : i < L.length
  ·obtain ⟨d, hd⟩ : ∃ d, L[i]? = some d := ⟨_, List.getElem?_eq_getElem hlt⟩
   obtain ⟨b1, o1, ha1, hbb, c0⟩ := hown.row i d hd
   have hds := HSL.out d (List.mem_of_getElem? hd)
   have HT : Hid (L.take (i + 1) = L.take i ++ [d]) := take_snc hd
   have hci := ocs_nonneg (L.take i) d
   have hlk := hmap.look ktS hds
   obtain ⟨w3, hst, hm3, hg3⟩ := hmap.store ktS HLN.out hds (HL1.out d (List.mem_of_getElem? hd)) (ocs (L.take i) d + 1)
   have HM3 : Hid (MapG 9 Value.string smS w3 m LV (ocs (L.take i ++ [d]))) := hm3.eq fun x => ocs_upd _ _ _
   have HO3 : Hid (OwnS w3 w.heap.size (.slice oa L.length oc) L) := own_gby hown hg3 hmw
   have HG3 : Hid (w.grownBy w3 (some m)) := gby_trans hgr hg3
   rw [List.length_take] at hci
   generalize ocs (L.take i) d = q at *
   clear hd hown hgr hmap hm3 hg3 hds
   subst ha1
   go_wp2
   go_roundw
   case rel => exact ⟨i + 1, by omega, by go_num, by rw [HT.out]; exact HM3.out, HO3.out, HG3.out⟩
   case measure => simp [intOf]; omega
  ·obtain rfl : i = L.length := by omega
   rw [List.take_length] at hmap
   have hlt' : decide ((L.length : Int) < (L.length : Int)) = false := by simp
   have HM2 : Hid (MapG 9 Value.string smS wr m LV (ocs (L ++ row.take 0))) := by show MapG _ _ _ _ _ _ _; rw [List.take_zero, List.append_nil]; exact hmap
   have HG2 : Hid (w.grownBy wr (some m)) := hgr
   clear hmap hown hgr HM1 HO1 HG1
   go_wp2
   go_loopw [9, 26] (fun v o wr => ∃ i : Nat, i ≤ row.length ∧ o = .int .i64 i ∧ MapG 9 Value.string smS wr m LV (ocs (L ++ row.take i)) ∧ OwnS wr w.heap.size v (apR L (row.take i)) ∧ w.grownBy wr (some m))
    (fun _ o _ => row.length - (intOf o).toNat)
   case atStart => exact ⟨0, by omega, rfl, HM2.out, ⟨rfl, .inl ⟨rfl, rfl⟩⟩, HG2.out⟩
   case round =>
    obtain ⟨i, hi, rfl, hmap, hown, hgr⟩ := hrel
    have hal : (apR L (row.take i)).length ≤ 1048576 := by have := apR_len L (row.take i); rw [List.length_take] at this; omega
    obtain ⟨oa, oc, rfl, hoc⟩ := hown.slice
    by_cases hlt : i < row.length
    ·obtain ⟨d, hd⟩ : ∃ d, row[i]? = some d := ⟨_, List.getElem?_eq_getElem hlt⟩
     obtain ⟨b1, o1, ha1, hbb, c0⟩ := HR.out i d hd
     replace c0 := cell_gby HM.out hgr hbb c0
     have hds := HSR.out d (List.mem_of_getElem? hd)
     have HT : Hid (row.take (i + 1) = row.take i ++ [d]) := take_snc hd
     have hci := ocs_nonneg (L ++ row.take i) d
     have hcz := ocs_none (L ++ row.take i) d
     have hlk := hmap.look ktS hds
     obtain ⟨w3, hst, hm3, hg3⟩ := hmap.store ktS HLN.out hds (HL2.out d (List.mem_of_getElem? hd)) (ocs (L ++ row.take i) d + 1)
     have HM3 : Hid (MapG 9 Value.string smS w3 m LV (ocs (L ++ row.take (i + 1)))) := by
      show MapG _ _ _ _ _ _ _
      rw [HT.out, ← List.append_assoc]
      exact hm3.eq fun x => ocs_upd _ _ _
     have HOW : Hid (OwnS wr w.heap.size (.slice oa (apR L (row.take i)).length oc) (apR L (row.take i))) := hown
     have HA : Hid (apR L (row.take (i + 1)) = apR L (row.take i) ++ (if holds (d ∈ L ++ row.take i) then [] else [d])) := by
      show _ = _
      rw [HT.out]
      exact apR_snoc _ _ _
     have HGR : Hid (w.grownBy wr (some m)) := hgr
     rw [List.length_append, List.length_take] at hci
     by_cases hz : ocs (L ++ row.take i) d = 0
     ·have HA' : Hid (apR L (row.take (i + 1)) = apR L (row.take i) ++ [d]) := by
       show _ = _
       rw [HA.out, if_neg (fun h => hcz.1 hz (holds_iff.1 h))]
      have HMW : Hid (MapG 9 Value.string smS wr m LV (ocs (L ++ row.take i))) := hmap
      have HDS : Hid (smS d) := hds
      have HDL : Hid (Value.string d ∈ LV) := HL2.out d (List.mem_of_getElem? hd)
      have HTT : Hid (row.take (i + 1) = row.take i ++ [d]) := HT
      have HCZ : Hid (ocs (L ++ row.take i) d = 0) := hz
      rw [hz] at hlk
      generalize hls : apR L (row.take i) = ls at *
      have hnews : ∀ j u, [Value.string d][j]? = some u → (wr.alloc (Obj.cells #[.string d] 9)).cell? ((⟨wr.heap.size, 0, none⟩ : Addr).add j) = some u := by
       intro j u hj
       rw [add_lit, Nat.zero_add]
       exact cell_blk (blk_at _ _ _ (by simp)) (by simpa using hj)
      have HO1 : Hid ((wr.alloc (Obj.cells #[.string d] 9)).ownsRow w.heap.size 9 1 (.slice oa ls.length oc) ls.length (ls.map Value.string)) := World.ownsRow.alloc HOW.out _
      have hsz := hgr.size
      have HGA : Hid (w.grownBy (wr.alloc (Obj.cells #[.string d] 9)) (some m)) := gby_below hgr ((Below.refl _ _).alloc hsz _)
      have hmr := hmap.lt
      clear hd hown hgr hmap hm3 hg3 hds hcz hz hls hst HM3 HT HA
      subst ha1
      go_wp2_with (at_builtin; go_loud (refine wpList_append_row rfl _ _ 22 rfl w.heap.size 9 i9 _ 1 16 Tryz.underlying22 hi9 hz90 hz91 hz92 rfl (by omega) (.slice oa ls.length oc) ls.length (ls.map Value.string) rfl HO1.out (some ⟨wr.heap.size, 0, none⟩) 1 1 [.string d] rfl rfl (fun _ => ⟨_, rfl, hnews⟩) (by intro u hu; simp at hu; subst hu; rfl) (by unfold maxLen; omega) (by omega) (by simp; omega) ?_; intro v' w4 hown hgrow hat; refine stop ?_))
      have HO4 : Hid (OwnS w4 w.heap.size v' (ls ++ [d])) := OwnS.snoc hown
      have hnm : ∀ k, (Value.slice oa ls.length oc).ownBlock = some k → k ≠ m := fun k hk => by have := (own_blk HO1.out hk).1; omega
      have HM4 : Hid (MapG 9 Value.string smS w4 m LV (ocs (L ++ row.take i))) := HMW.out.same ((hgrow.block m (by simp; omega) (fun e => hnm m e.symm rfl)).trans (map_alloc _ hmr))
      have HG4 : Hid (w.grownBy w4 (some m)) := gby_own HGA.out HO1.out hgrow
      have hlk4 := HM4.out.look ktS HDS.out
      obtain ⟨w5, hst5, hm5, hg5⟩ := HM4.out.store ktS HLN.out HDS.out HDL.out (ocs (L ++ row.take i) d + 1)
      have HM5 : Hid (MapG 9 Value.string smS w5 m LV (ocs (L ++ row.take (i + 1)))) := by
       show MapG _ _ _ _ _ _ _
       rw [HTT.out, ← List.append_assoc]
       exact hm5.eq fun x => ocs_upd _ _ _
      have HO5 : Hid (OwnS w5 w.heap.size v' (ls ++ [d])) := own_gby HO4.out hg5 hmw
      have HG5 : Hid (w.grownBy w5 (some m)) := gby_trans HG4.out hg5
      rw [HCZ.out] at hlk4
      rw [HCZ.out, Int.zero_add] at hst5
      unfold Hid
      clear hown hgrow hat hnews hnm hm5 hg5 hlk
      go_wp2
      go_roundw
      case rel => exact ⟨i + 1, by omega, by go_num, HM5.out, by rw [HA'.out]; exact HO5.out, HG5.out⟩
      case measure => simp [intOf]; omega
     ·have HA' : Hid (apR L (row.take (i + 1)) = apR L (row.take i)) := by
       show _ = _
       rw [HA.out, if_pos (holds_iff.2 (Classical.not_not.1 (fun h => hz (hcz.2 h)))), List.append_nil]
      have HO3 : Hid (OwnS w3 w.heap.size (.slice oa (apR L (row.take i)).length oc) (apR L (row.take i))) := own_gby hown hg3 hmw
      have HG3 : Hid (w.grownBy w3 (some m)) := gby_trans hgr hg3
      generalize ocs (L ++ row.take i) d = q at *
      have hz' : (q == 0) = false := by simp [hz]
      clear hd hown hgr hmap hm3 hg3 hds hcz hz
      subst ha1
      go_wp2
      go_roundw
      case rel => exact ⟨i + 1, by omega, by go_num, HM3.out, by rw [HA'.out]; exact HO3.out, HG3.out⟩
      case measure => simp [intOf]; omega
    ·obtain rfl : i = row.length := by omega
     rw [List.take_length] at hmap hown hal ⊢
     have hlt' : decide ((row.length : Int) < (row.length : Int)) = false := by simp
     obtain ⟨w3, hcl, hm3, hg3⟩ := hmap.clear ktS
     have HO3 : Hid (OwnS w3 w.heap.size (.slice oa (apR L row).length oc) (apR L row)) := own_gby hown hg3 hmw
     have HG3 : Hid (w.grownBy w3 (some m)) := gby_trans hgr hg3
     have HM3 : Hid (MapE w3 m) := hm3
     clear hmap hown hm3 hg3 hgr
     go_wp2
     go_ret
     exact ⟨_, rfl, HO3.out, HM3.out, HG3.out⟩
end Go.Proofs.YtamjofdgikifnaaGreat
