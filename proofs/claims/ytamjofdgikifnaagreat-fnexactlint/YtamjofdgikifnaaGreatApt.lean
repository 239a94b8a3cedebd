/- Rows of types behind each other (slices.Concat). The program's apart of types. -/
import Derived.Test.YtamjofdgikifnaaGreatApl
import Derived.Deep.AppendLies
import Derived.Deep.RegionWith
set_option linter.unusedVariables false
namespace Go.Proofs.YtamjofdgikifnaaGreat
open Go.ChangeShapes Go.WideShapes Go.ChangeAt Go.RowKit
def Tryz.gr_renCtt : Go.Shelf.Ren := ⟨fun | 4 => 112 | n => n, fun | 22 => 31 | 25 => 77 | n => n, fun | n => n⟩
theorem Tryz.growCtt : Go.Proofs.Lays8.n4 Tryz.prog Tryz.gr_renCtt where
 mixed := by kernel_rfl
 f4 := ⟨Tryz.f112.name, by kernel_rfl, Tryz.func112.trans (congrArg some (by kernel_rfl))⟩
 t0 := Tryz.underlying0
 a0 := Tryz.isAgg0
 z0 := Tryz.sizeOf0
 v0 := Tryz.zeroValue0
 t3 := Tryz.underlying3
 a3 := Tryz.isAgg3
 z3 := Tryz.sizeOf3
 v3 := Tryz.zeroValue3
 t4 := Tryz.underlying4
 a4 := Tryz.isAgg4
 z4 := Tryz.sizeOf4
 v4 := Tryz.zeroValue4
 t9 := Tryz.underlying9
 a9 := Tryz.isAgg9
 z9 := Tryz.sizeOf9
 v9 := Tryz.zeroValue9
 t20 := Tryz.underlying20
 a20 := Tryz.isAgg20
 z20 := Tryz.sizeOf20
 v20 := Tryz.zeroValue20
 t22 := Tryz.underlying31
 a22 := Tryz.isAgg31
 z22 := Tryz.sizeOf31
 v22 := Tryz.zeroValue31
theorem Tryz.infCtt : (Tryz.prog.info? 77).map (fun i => (i.zero, i.size, i.bytes)) = some (some (.agg #[.string ⟨#[]⟩, .int .i64 0]), 2, 24) := by kernel_rfl
theorem growCtt_any (n : Nat) (w : World) (hn : n ≤ 8388608) : Calls Tryz.prog 112 #[.slice none 0 0, .int .i64 n] w fun e w' => ∃ v, e = .returned v ∧ w'.ownsRow w.heap.size 77 2 v 0 [] ∧ Below w.heap.size w w' := by
 obtain ⟨i, hi, hz0, hz1, hz2⟩ := info_parts Tryz.infCtt
 by_cases h0 : n = 0
 ·subst h0
  refine (Any8.slices_Grow_room Tryz.growCtt none 0 0 0 w (by omega) (by omega) (by omega) (by omega)).mono ?_
  rintro e w' ⟨rfl, rfl⟩
  exact ⟨_, rfl, ⟨rfl, .inl ⟨rfl, rfl⟩⟩, Below.refl _ _⟩
 ·have hby : i.bytes = 24 := hz2
  have hs : i.size = 2 := hz1
  refine (Any8.slices_Grow_grow Tryz.growCtt i (.agg #[.string ⟨#[]⟩, .int .i64 0]) hi hz0 (by omega) none 0 0 n [] w (by omega) (by omega) (by rw [hby]; omega) (by omega) (by simp) (fun _ => rfl) (fun a h => by cases h)).mono ?_
  rintro e w' ⟨rfl, rfl⟩
  have hg := grownCap_ge w (0 + n) 0 77
  have hm := grownCap_le_maxLen w (0 + n) 0 77 (by unfold maxLen; omega)
  refine ⟨_, rfl, ⟨rfl, .inr ⟨w.heap.size, _, _, rfl, Nat.le_refl _, blk_at _ _ _ rfl, Nat.zero_le _, hm, ?_, by simp⟩⟩, ((Below.refl _ _).drew).alloc (Nat.le_refl _) _⟩
  show (#[] ++ Builtin.zeroCells _ (0 + n - 0) ++ Builtin.zeroCells _ (grownCap w (0 + n) 0 77 - (0 + n)) : Array Value).size = grownCap w (0 + n) 0 77 * 2
  rw [Array.size_append, Array.size_append, size_zeroCells, size_zeroCells]
  show 0 + (0 + n - 0) * 2 + (grownCap w (0 + n) 0 77 - (0 + n)) * 2 = _
  omega
set_option maxRecDepth 100000 in
set_option maxHeartbeats 1000000 in
theorem catCtt_any (rs : List Rw) (g : Nat) (w : World) (hk : rs.length ≤ 8) (hs : sumN rs ≤ 8388608) (hg : g < w.heap.size) (hr : RwsAt rs 2 g w) :
  Calls Tryz.prog 98 #[.slice (some ⟨g, 0, none⟩) rs.length rs.length] w fun e w' => ∃ v, e = .returned v ∧ w'.ownsRow w.heap.size 77 2 v (sumN rs) (catU rs) ∧ Below w.heap.size w w' := by
 obtain ⟨ie, hie, hz0, hz1, hz2⟩ := info_parts Tryz.infCtt
 have HR : Hid (RwsAt rs 2 g w) := hr
 have HG : Hid (∀ n : Nat, n ≤ 8388608 → ∀ w, Calls Tryz.prog 112 #[.slice none 0 0, .int .i64 n] w fun e w' => ∃ v, e = .returned v ∧ w'.ownsRow w.heap.size 77 2 v 0 [] ∧ Below w.heap.size w w') := fun n hn w => growCtt_any n w hn
 have HS : Hid (sumN rs ≤ 8388608) := hs
 clear hr hs
 go_enter Tryz.func98, Tryz.ntmps98
 go_wp2
 go_loopw [3, 11] (fun s o wr => w = wr ∧ ∃ i : Nat, i ≤ rs.length ∧ s = .int .i64 (sumN (rs.take i) : Nat) ∧ o = .int .i64 i)
  (fun _ o _ => rs.length - (intOf o).toNat)
 case atStart => exact ⟨rfl, 0, by omega, rfl, rfl⟩
 case round =>
  obtain ⟨rfl, i, hi, rfl, rfl⟩ := hrel
  by_cases hlt : i < rs.length
  ·obtain ⟨r, hd⟩ : ∃ r, rs[i]? = some r := ⟨_, List.getElem?_eq_getElem hlt⟩
   have y0 := (HR.out i r hd).1
   have hle := Nat.le_trans (sumN_le rs (i + 1)) HS.out
   have HT : Hid (sumN (rs.take (i + 1)) = sumN (rs.take i) + r.n) := sumN_take hd
   rw [HT.out] at hle
   clear hd
   generalize hq : sumN (rs.take i) = q at *
   clear hq
   have g1 : decide ((q : Int) + (r.n : Int) < 0) = false := by simp; omega
   go_wp2
   go_roundw
   case rel => exact ⟨by trivial, i + 1, by omega, by rw [HT.out]; go_num, by go_num⟩
   case measure => simp [intOf]; omega
  ·obtain rfl : i = rs.length := by omega
   rw [List.take_length]
   have hlt' : decide ((rs.length : Int) < (rs.length : Int)) = false := by simp
   have HG' := HG.out (sumN rs) HS.out w
   clear HG
   go_wp2_with fail
   refine HG'.mono ?_
   rintro e w1 ⟨v0, rfl, hown, hb1⟩
   have HO : Hid (w1.ownsRow w.heap.size 77 2 v0 0 []) := hown
   clear hown HG'
   have HB1 : Hid (Below w.heap.size w w1) := hb1
   go_wp2
   go_loopw [6, 27] (fun s o wr => Below w.heap.size w wr ∧ ∃ i : Nat, i ≤ rs.length ∧ wr.ownsRow w.heap.size 77 2 s (sumN (rs.take i)) (catU (rs.take i)) ∧ o = .int .i64 i)
    (fun _ o _ => rs.length - (intOf o).toNat)
   case atStart => exact ⟨HB1.out, 0, by omega, HO.out, rfl⟩
   case round =>
    obtain ⟨hb, i, hi, hown, rfl⟩ := hrel
    obtain ⟨oa, oc, rfl, hoc⟩ := own_slice hown
    by_cases hlt : i < rs.length
    ·obtain ⟨r, hd⟩ : ∃ r, rs[i]? = some r := ⟨_, List.getElem?_eq_getElem hlt⟩
     have y0 := cell_keep (HR.out i r hd).1 hb hg
     have HAT : Hid (r.At 2 w) := (HR.out i r hd).2
     have hle := Nat.le_trans (sumN_le rs (i + 1)) HS.out
     have HT : Hid (sumN (rs.take (i + 1)) = sumN (rs.take i) + r.n) := sumN_take hd
     have HC : Hid (catU (rs.take (i + 1)) = catU (rs.take i) ++ r.u) := catU_take hd
     rw [HT.out] at hle
     clear hd
     generalize hq : sumN (rs.take i) = q at *
     generalize hx : catU (rs.take i) = xs at *
     clear hq hx
     have hsz := hb.size
     have HOW : Hid (wr.ownsRow w.heap.size 77 2 (.slice oa q oc) q xs) := hown
     clear hown
     have HB : Hid (Below w.heap.size w wr) := hb
     go_wp2_with (at_builtin; go_loud (refine wpList_append_row rfl _ _ 31 rfl w.heap.size 77 ie _ 2 24 Tryz.underlying31 hie hz0 hz1 hz2 rfl (by omega) (.slice oa q oc) q xs rfl HOW.out r.a r.n r.c r.u rfl HAT.out.len (HAT.out.cells _ HB.out) HAT.out.one (by unfold maxLen; omega) (by omega) (by omega) ?_; intro v' w4 hown hgrow hat; refine stop ?_))
     have HO4 : Hid (w4.ownsRow w.heap.size 77 2 v' (q + r.n) (xs ++ r.u)) := hown
     have HB4 : Hid (Below w.heap.size w w4) := app_belowR HB.out HB.out.size HOW.out hgrow
     unfold Hid
     clear hown hgrow hat
     go_wp2
     go_roundw
     case rel => exact ⟨HB4.out, i + 1, by omega, by rw [HT.out, HC.out]; exact HO4.out, by go_num⟩
     case measure => simp [intOf]; omega
    ·obtain rfl : i = rs.length := by omega
     rw [List.take_length] at hown hoc ⊢
     have hlt' : decide ((rs.length : Int) < (rs.length : Int)) = false := by simp
     have HOW : Hid _ := hown
     clear hown
     go_wp2
     go_ret
     exact ⟨_, rfl, HOW.out, hb⟩
end Go.Proofs.YtamjofdgikifnaaGreat
set_option linter.unusedVariables false
namespace Go.Proofs.YtamjofdgikifnaaGreat
open Go.ChangeShapes Go.WideShapes Go.ChangeAt Go.RowKit
def tyC (t : Typ) : List Value := [.string t.name, .int .i64 t.size]
def OwnT (w : World) (B : Nat) (v : Value) (l : List Typ) : Prop := w.ownsRow B 77 2 v l.length (l.flatMap tyC)
theorem OwnT.slice {w : World} {B : Nat} {v : Value} {l : List Typ} (h : OwnT w B v l) : ∃ (a : Option Addr) (cap : Nat), v = .slice a l.length cap ∧ l.length ≤ cap := own_slice h
theorem OwnT.snoc {w : World} {B : Nat} {v : Value} {l : List Typ} {t : Typ} (h : w.ownsRow B 77 2 v (l.length + 1) (l.flatMap tyC ++ [.string t.name, .int .i64 t.size])) : OwnT w B v (l ++ [t]) := by
 show World.ownsRow _ _ _ _ _ _ _
 rw [List.length_append, List.flatMap_append]
 simpa [tyC] using h
theorem rawT (w : World) (p : Nat → Prop) : ∀ l : List Typ, RawOf rgT w p (l.flatMap tyC) l
 | [] => rfl
 | t :: l => ⟨tyC t, l.flatMap tyC, by simp, rfl, rawT w p l⟩
theorem OwnT.row {w : World} {B n cap : Nat} {a : Option Addr} {l : List Typ} (h : OwnT w B (.slice a n cap) l) : rgT.Row w (fun b => b < w.heap.size) a l := by
 obtain ⟨hl, ⟨hv, h0⟩ | ⟨g, cap', cur, hv, a1, hblk, a3⟩⟩ := id h
 ·obtain rfl : l = [] := List.eq_nil_of_length_eq_zero h0
  exact Rd.Row.nil
 ·simp only [Value.slice.injEq] at hv
  obtain ⟨rfl, rfl, rfl⟩ := hv
  obtain ⟨q1, q2⟩ := own_lies h
  exact RawOf.row (p := fun b => b < w.heap.size) q1 (rawT w _ l) q2
theorem flat_len (l : List Typ) : (l.flatMap tyC).length = l.length * 2 := by
 induction l with
 | nil => rfl
 | cons t l ih => simp only [List.flatMap_cons, List.length_append, ih, tyC, List.length_cons, List.length_nil]; omega
theorem flat_one (l : List Typ) : ∀ x ∈ l.flatMap tyC, x.oneCell' = true := by
 intro x hx
 obtain ⟨t, _, ht⟩ := List.mem_flatMap.1 hx
 simp [tyC] at ht
 rcases ht with rfl | rfl <;> rfl
def ApT (m : Nat) (l : List Typ) (w : World) (e : Ending) (w' : World) : Prop := ∃ v, e = .returned v ∧ OwnT w' w.heap.size v l ∧ MapE w' m ∧ w.grownBy w' (some m)
set_option maxRecDepth 100000 in
set_option maxHeartbeats 1000000 in
theorem apT_any (m : Nat) (rs : List Rw) (L row : List Typ) (a : Option Addr) (ca g : Nat) (w : World) (hm : MapE w m) (hk : rs.length ≤ 8) (hn : L.length ≤ 4194304) (hsl : ∀ x ∈ L, Typ.small x) (hg : g < w.heap.size)
  (hr : RwsAt rs 2 g w) (hs : sumN rs = L.length) (hc : catU rs = L.flatMap tyC) (hrn : row.length ≤ 1048576) (hrs : ∀ x ∈ row, Typ.small x) (hrow : rgT.Row w (fun b => b < w.heap.size) a row) :
  Calls Tryz.prog 78 #[.map (some m), .slice a row.length ca, .slice (some ⟨g, 0, none⟩) rs.length rs.length] w fun e w' => ApT m (apR L row) w e w' := by
 have HC : Hid (∀ w1, w1 = w → Calls Tryz.prog 98 #[.slice (some ⟨g, 0, none⟩) rs.length rs.length] w1 fun e w' => ∃ v, e = .returned v ∧ OwnT w' w.heap.size v L ∧ Below w.heap.size w w') := fun w1 h => by
  subst h
  have := catCtt_any rs g w1 hk (by omega) hg hr
  rw [hs, hc] at this
  exact this
 have HM : Hid (MapE w m) := hm
 have HSL : Hid (∀ x ∈ L, Typ.small x) := hsl
 have HSR : Hid (∀ x ∈ row, Typ.small x) := hrs
 have HR : Hid (rgT.Row w (fun b => b < w.heap.size) a row) := hrow
 clear hr hs hc hsl hrs hrow hm
 obtain ⟨i9, hi9, hz90, hz91, hz92⟩ := info_parts Tryz.infCtt
 go_enter Tryz.func78, Tryz.ntmps78
 go_wp2_with fail
 refine (HC.out _ rfl).mono ?_
 rintro e w1 ⟨v, rfl, hown, hb1⟩
 clear HC
 obtain ⟨oa, oc, rfl, hoc⟩ := hown.slice
 obtain ⟨LV, hLV⟩ : ∃ LV, LV = (L ++ row).map tyV := ⟨_, rfl⟩
 have HLN : Hid (LV.length < maxLen) := by show _ < _; rw [hLV, List.length_map, List.length_append]; unfold maxLen; omega
 have HL1 : Hid (∀ x ∈ L, tyV x ∈ LV) := fun x hx => by rw [hLV]; exact List.mem_map.2 ⟨x, List.mem_append_left _ hx, rfl⟩
 have HL2 : Hid (∀ x ∈ row, tyV x ∈ LV) := fun x hx => by rw [hLV]; exact List.mem_map.2 ⟨x, List.mem_append_right _ hx, rfl⟩
 have HM1 : Hid (MapG 77 tyV Typ.small w1 m LV (ocs [])) := ((HM.out.same (hb1.block _ HM.out.lt)).to 77 tyV Typ.small LV).eq fun x => rfl
 have HO1 : Hid (OwnT w1 w.heap.size (.slice oa L.length oc) L) := hown
 have HG1 : Hid (w.grownBy w1 (some m)) := gby_of hb1
 have hmw := HM.out.lt
 clear hown hLV hb1
 go_wp2
 go_loopw [15] (fun o wr => ∃ i : Nat, i ≤ L.length ∧ o = .int .i64 i ∧ MapG 77 tyV Typ.small wr m LV (ocs (L.take i)) ∧ OwnT wr w.heap.size (.slice oa L.length oc) L ∧ w.grownBy wr (some m))
  (fun o _ => L.length - (intOf o).toNat)
 case atStart => exact ⟨0, by omega, rfl, HM1.out, HO1.out, HG1.out⟩
 case round =>
  obtain ⟨i, hi, rfl, hmap, hown, hgr⟩ := hrel
  by_cases hlt : i < L.length
  ·obtain ⟨d, hd⟩ : ∃ d, L[i]? = some d := ⟨_, List.getElem?_eq_getElem hlt⟩
   obtain ⟨b1, o1, cs, ha1, hbb, rfl, hl⟩ := hown.row i d hd
   have c0 : wr.cell? ⟨b1, o1 + i * 2, none⟩ = some (.string d.name) := hl 0 _ rfl
   have c1 : wr.cell? ⟨b1, o1 + i * 2 + 1, none⟩ = some (.int .i64 d.size) := hl 1 _ rfl
   clear hl
   have hds := HSL.out d (List.mem_of_getElem? hd)
   have HT : Hid (L.take (i + 1) = L.take i ++ [d]) := take_snc hd
   have hci := ocs_nonneg (L.take i) d
   obtain ⟨W, hW⟩ : ∃ W, W = wr.alloc (Obj.cells #[.string d.name, .int .i64 d.size] 77) := ⟨_, rfl⟩
   have HW : Hid (W = wr.alloc (Obj.cells #[.string d.name, .int .i64 d.size] 77)) := hW
   have hbW : Below wr.heap.size wr W := by rw [hW]; exact (Below.refl _ _).alloc (Nat.le_refl _) _
   have hgW : w.grownBy W (some m) := gby_below hgr (hbW.mono hgr.size)
   have kW : W.heap[wr.heap.size]? = some (Obj.cells #[.string d.name, .int .i64 d.size] 77) := by rw [hW]; exact blk_at _ _ _ rfl
   have hmW : MapG 77 tyV Typ.small W m LV (ocs (L.take i)) := hmap.same (hbW.block _ hmap.lt)
   have hoW : OwnT W w.heap.size (.slice oa L.length oc) L := own_keep hown fun b hb => hbW.block b (own_blk hown hb).2.1
   have q0 := (hmW.same (w' := W.drew) rfl).look ktT hds
   obtain ⟨st, w2, w3, q1, q2, q3, q4, q5⟩ := hmW.bump ktT HLN.out hds (HL1.out d (List.mem_of_getElem? hd)) (ocs (L.take i) d + 1) (fun x => ocs_upd _ _ _)
   have HM3 : Hid (MapG 77 tyV Typ.small w3 m LV (ocs (L.take i ++ [d]))) := q4
   have HO3 : Hid (OwnT w3 w.heap.size (.slice oa L.length oc) L) := own_gby hoW q5 hmw
   have HG3 : Hid (w.grownBy w3 (some m)) := gby_trans hgW q5
   have e0 := cell_blk (j := 0) kW rfl
   have e1 := cell_blk (j := 1) kW rfl
   unfold tyV at q0 q1 q2
   rw [List.length_take] at hci
   generalize ocs (L.take i) d = q at *
   clear hd hown hgr hmap hmW hoW hgW hbW q4 q5 hds kW hW
   subst ha1
   go_wp2
   rw [← HW.out]
   clear HW c0 c1
   go_region
   go_wp2
   go_roundw
   case rel => exact ⟨i + 1, by omega, by go_num, by rw [HT.out]; exact HM3.out, HO3.out, HG3.out⟩
   case measure => simp [intOf]; omega
  ·obtain rfl : i = L.length := by omega
   rw [List.take_length] at hmap
   have hlt' : decide ((L.length : Int) < (L.length : Int)) = false := by simp
   have HM2 : Hid (MapG 77 tyV Typ.small wr m LV (ocs (L ++ row.take 0))) := by show MapG _ _ _ _ _ _ _; rw [List.take_zero, List.append_nil]; exact hmap
   have HG2 : Hid (w.grownBy wr (some m)) := hgr
   clear hmap hown hgr HM1 HO1 HG1
   go_wp2
   go_loopw [9, 28] (fun v o wr => ∃ i : Nat, i ≤ row.length ∧ o = .int .i64 i ∧ MapG 77 tyV Typ.small wr m LV (ocs (L ++ row.take i)) ∧ OwnT wr w.heap.size v (apR L (row.take i)) ∧ w.grownBy wr (some m))
    (fun _ o _ => row.length - (intOf o).toNat)
   case atStart => exact ⟨0, by omega, rfl, HM2.out, ⟨rfl, .inl ⟨rfl, rfl⟩⟩, HG2.out⟩
   case round =>
    obtain ⟨i, hi, rfl, hmap, hown, hgr⟩ := hrel
    have hal : (apR L (row.take i)).length ≤ 1048576 := by have := apR_len L (row.take i); rw [List.length_take] at this; omega
    obtain ⟨oa, oc, rfl, hoc⟩ := hown.slice
    by_cases hlt : i < row.length
    ·obtain ⟨d, hd⟩ : ∃ d, row[i]? = some d := ⟨_, List.getElem?_eq_getElem hlt⟩
     obtain ⟨b1, o1, cs, ha1, hbb, rfl, hl⟩ := HR.out i d hd
     have c0 : wr.cell? ⟨b1, o1 + i * 2, none⟩ = some (.string d.name) := cell_gby HM.out hgr hbb (hl 0 _ rfl)
     have c1 : wr.cell? ⟨b1, o1 + i * 2 + 1, none⟩ = some (.int .i64 d.size) := cell_gby HM.out hgr hbb (hl 1 _ rfl)
     clear hl
     have hds := HSR.out d (List.mem_of_getElem? hd)
     have HT : Hid (row.take (i + 1) = row.take i ++ [d]) := take_snc hd
     have hci := ocs_nonneg (L ++ row.take i) d
     have hcz := ocs_none (L ++ row.take i) d
     obtain ⟨W, hW⟩ : ∃ W, W = wr.alloc (Obj.cells #[.string d.name, .int .i64 d.size] 77) := ⟨_, rfl⟩
     have HW : Hid (W = wr.alloc (Obj.cells #[.string d.name, .int .i64 d.size] 77)) := hW
     have hbW : Below wr.heap.size wr W := by rw [hW]; exact (Below.refl _ _).alloc (Nat.le_refl _) _
     have HGW : Hid (w.grownBy W (some m)) := gby_below hgr (hbW.mono hgr.size)
     have kW : W.heap[wr.heap.size]? = some (Obj.cells #[.string d.name, .int .i64 d.size] 77) := by rw [hW]; exact blk_at _ _ _ rfl
     have hmW : MapG 77 tyV Typ.small W m LV (ocs (L ++ row.take i)) := hmap.same (hbW.block _ hmap.lt)
     have HOW : Hid (OwnT W w.heap.size (.slice oa (apR L (row.take i)).length oc) (apR L (row.take i))) := own_keep hown fun b hb => hbW.block b (own_blk hown hb).2.1
     have hlk := hmW.look ktT hds
     have e0 := cell_blk (j := 0) kW rfl
     have e1 := cell_blk (j := 1) kW rfl
     have HA : Hid (apR L (row.take (i + 1)) = apR L (row.take i) ++ (if holds (d ∈ L ++ row.take i) then [] else [d])) := by
      show _ = _
      rw [HT.out]
      exact apR_snoc _ _ _
     have hob : ∀ k, (Value.slice oa (apR L (row.take i)).length oc).ownBlock = some k → w.heap.size ≤ k ∧ k < wr.heap.size := fun k hk => ⟨(own_blk hown hk).1, (own_blk hown hk).2.1⟩
     have hsz := hgr.size
     have hmr := hmap.lt
     have HDS : Hid (Typ.small d) := hds
     have HDL : Hid (tyV d ∈ LV) := HL2.out d (List.mem_of_getElem? hd)
     have HMX : Hid (∀ wx G, MapG 77 tyV Typ.small wx m LV G → (∀ x, G x = ocs (L ++ row.take i ++ [d]) x) → MapG 77 tyV Typ.small wx m LV (ocs (L ++ row.take (i + 1)))) := fun wx G h e => by
      rw [HT.out, ← List.append_assoc]
      exact h.eq e
     rw [List.length_append, List.length_take] at hci
     by_cases hz : ocs (L ++ row.take i) d = 0
     ·have HA' : Hid (apR L (row.take (i + 1)) = apR L (row.take i) ++ [d]) := by
       show _ = _
       rw [HA.out, if_neg (fun h => hcz.1 hz (holds_iff.1 h))]
      have HMW : Hid (MapG 77 tyV Typ.small W m LV (ocs (L ++ row.take i))) := hmW
      have HCZ : Hid (ocs (L ++ row.take i) d = 0) := hz
      rw [hz] at hlk
      generalize hls : apR L (row.take i) = ls at *
      have hsW : W.heap.size = wr.heap.size + 1 := by rw [hW]; simp
      have HSW : Hid (W.heap.size = wr.heap.size + 1) := hsW
      have hnews : ∀ j u, [Value.string d.name, .int .i64 d.size][j]? = some u → (W.alloc (Obj.cells #[.string d.name, .int .i64 d.size] 77)).cell? ((⟨wr.heap.size + 1, 0, none⟩ : Addr).add j) = some u := by
       intro j u hj
       rw [add_lit, Nat.zero_add]
       exact cell_blk (blk_at _ _ _ hsW.symm) (by simpa using hj)
      have HO1 : Hid ((W.alloc (Obj.cells #[.string d.name, .int .i64 d.size] 77)).ownsRow w.heap.size 77 2 (.slice oa ls.length oc) ls.length (ls.flatMap tyC)) := World.ownsRow.alloc HOW.out _
      have HGA : Hid (w.grownBy (W.alloc (Obj.cells #[.string d.name, .int .i64 d.size] 77)) (some m)) := gby_below HGW.out ((Below.refl _ _).alloc (by omega) _)
      have HKA : Hid ((W.alloc (Obj.cells #[.string d.name, .int .i64 d.size] 77)).heap[wr.heap.size]? = some (Obj.cells #[.string d.name, .int .i64 d.size] 77)) := blk_past kW
      have HMA : Hid ((W.alloc (Obj.cells #[.string d.name, .int .i64 d.size] 77)).heap[m]? = W.heap[m]?) := map_alloc _ (by omega)
      have HLL : Hid (ls.length * 2 = (ls.flatMap tyC).length) := (flat_len ls).symm
      unfold tyV at hlk
      rw [hW] at hnews HO1 e0 e1 hlk HGA HKA HMA HMW
      clear hd hown hgr hmap hmW hds hcz hz hls HT HA hW hbW kW hsW hci
      subst ha1
      go_wp2_with (at_builtin; go_loud (refine wpList_append_row rfl _ _ 31 rfl w.heap.size 77 i9 _ 2 24 Tryz.underlying31 hi9 hz90 hz91 hz92 rfl (by omega) (.slice oa ls.length oc) ls.length (ls.flatMap tyC) rfl HO1.out (some ⟨wr.heap.size + 1, 0, none⟩) 1 1 [.string d.name, .int .i64 d.size] rfl rfl (fun _ => ⟨_, rfl, hnews⟩) (by intro u hu; simp at hu; rcases hu with rfl | rfl <;> rfl) (by unfold maxLen; omega) (by omega) (by simp; omega) ?_; intro v' w4 hown hgrow hat; refine stop ?_))
      have HO4 : Hid (OwnT w4 w.heap.size v' (ls ++ [d])) := OwnT.snoc hown
      have hmb := hgrow.block m (by simp; omega) (fun e => by have := hob m e.symm; omega)
      have hxb := hgrow.block wr.heap.size (by simp; omega) (fun e => by have := hob _ e.symm; omega)
      have kx := hxb.trans HKA.out
      have hm4 : MapG 77 tyV Typ.small w4 m LV (ocs (L ++ row.take i)) := HMW.out.same (hmb.trans HMA.out)
      have HG4 : Hid (w.grownBy w4 (some m)) := gby_own HGA.out HO1.out hgrow
      have q0 := (hm4.same (w' := w4.drew) rfl).look ktT HDS.out
      obtain ⟨st, w2, w3, q1, q2, q3, q4, q5⟩ := hm4.bump ktT HLN.out HDS.out HDL.out (ocs (L ++ row.take i) d + 1) (fun x => ocs_upd _ _ _)
      have HM3 : Hid (MapG 77 tyV Typ.small w3 m LV (ocs (L ++ row.take (i + 1)))) := HMX.out _ _ q4 (fun x => rfl)
      have HO3 : Hid (OwnT w3 w.heap.size v' (ls ++ [d])) := own_gby HO4.out q5 hmw
      have HG3 : Hid (w.grownBy w3 (some m)) := gby_trans HG4.out q5
      have f0 := cell_blk (j := 0) kx rfl
      have f1 := cell_blk (j := 1) kx rfl
      rw [HCZ.out] at q0 q1 q2
      rw [HCZ.out, Int.zero_add] at q3
      unfold tyV at q0 q1 q2
      unfold Hid
      clear hown hgrow hat hnews hmb hxb kx hm4 q4 q5 hob hlk e0 e1 c0 c1
      go_wp2
      go_region
      go_wp2
      go_roundw
      case rel => exact ⟨i + 1, by omega, by go_num, HM3.out, by rw [HA'.out]; exact HO3.out, HG3.out⟩
      case measure => simp [intOf]; omega
     ·have HA' : Hid (apR L (row.take (i + 1)) = apR L (row.take i)) := by
       show _ = _
       rw [HA.out, if_pos (holds_iff.2 (Classical.not_not.1 (fun h => hz (hcz.2 h)))), List.append_nil]
      have q0 := (hmW.same (w' := W.drew) rfl).look ktT hds
      obtain ⟨st, w2, w3, q1, q2, q3, q4, q5⟩ := hmW.bump ktT HLN.out hds HDL.out (ocs (L ++ row.take i) d + 1) (fun x => ocs_upd _ _ _)
      have HM3 : Hid (MapG 77 tyV Typ.small w3 m LV (ocs (L ++ row.take (i + 1)))) := HMX.out _ _ q4 (fun x => rfl)
      have HO3 : Hid (OwnT w3 w.heap.size (.slice oa (apR L (row.take i)).length oc) (apR L (row.take i))) := own_gby HOW.out q5 hmw
      have HG3 : Hid (w.grownBy w3 (some m)) := gby_trans HGW.out q5
      generalize ocs (L ++ row.take i) d = q at *
      have hz' : (q == 0) = false := by simp [hz]
      have x0 := e0
      have x1 := e1
      unfold tyV at hlk q0 q1 q2
      rw [hW] at hlk x0 x1
      clear hd hown hgr hmap hmW hds hcz hz HT HA hW hbW kW q4 q5 hob
      subst ha1
      go_wp2
      rw [← HW.out]
      clear HW c0 c1 x0 x1 hlk
      go_region
      go_wp2
      go_roundw
      case rel => exact ⟨i + 1, by omega, by go_num, HM3.out, by rw [HA'.out]; exact HO3.out, HG3.out⟩
      case measure => simp [intOf]; omega
    ·obtain rfl : i = row.length := by omega
     rw [List.take_length] at hmap hown hal ⊢
     have hlt' : decide ((row.length : Int) < (row.length : Int)) = false := by simp
     obtain ⟨w3, hcl, hm3, hg3⟩ := hmap.clear ktT
     have HO3 : Hid (OwnT w3 w.heap.size (.slice oa (apR L row).length oc) (apR L row)) := own_gby hown hg3 hmw
     have HG3 : Hid (w.grownBy w3 (some m)) := gby_trans hgr hg3
     have HM3 : Hid (MapE w3 m) := hm3
     clear hmap hown hm3 hg3 hgr
     go_wp2
     go_ret
     exact ⟨_, rfl, HO3.out, HM3.out, HG3.out⟩
end Go.Proofs.YtamjofdgikifnaaGreat
