/- Who imports whom: the names. -/
import Derived.Test.YtkkpiagchkdamaaGreatDoorOim
import Derived.Test.YtkkpiagchkdamaaGreatDoorSyp
import Derived.Deep.RegionHeldLaw
import Derived.Deep.RegionHeld3
set_option linter.unusedVariables false
namespace Go.Proofs.YtkkpiagchkdamaaGreatDoor
open Go.ChangeShapes Go.WideShapes Go.ChangeAt Go.RowKit
/-- The sources, plain. -/
def toPs (l : List Srx) : Ps := l.map fun s => (nmL s.name, s.imps.map nmL)
def allB (l : List Srx) : List ByteArray := l.flatMap fun s => s.name :: s.imps
theorem allB_nm (l : List Srx) : (allB l).map nmL = allN (toPs l) := by
  induction l with
  | nil => rfl
  | cons s l ih =>
    show (s.name :: s.imps ++ allB l).map nmL = (nmL s.name :: s.imps.map nmL) ++ allN (toPs l)
    rw [List.map_append, ih]
    rfl
theorem allB_take {l : List Srx} {i : Nat} {s : Srx} (h : l[i]? = some s) : allB (l.take (i + 1)) = (allB (l.take i) ++ [s.name]) ++ s.imps := by
  rw [List.take_add_one, h]
  simp [allB]
theorem allB_len_take (l : List Srx) (i : Nat) : (allB (l.take i)).length ≤ (allB l).length := by
  have h : allB l = allB (l.take i) ++ allB (l.drop i) := by
    show l.flatMap _ = _
    conv => lhs; rw [← List.take_append_drop i l]
    exact List.flatMap_append
  rw [h, List.length_append]
  omega
theorem oneS {w : World} {x : Nat} {s : ByteArray} {t : TypeId} (h : w.heap[x]? = some (.cells #[.string s] t)) : ∀ j u, [Value.string s][j]? = some u → w.cell? ((⟨x, 0, none⟩ : Addr).add j) = some u := by
  intro j u hj
  rw [add_lit, Nat.zero_add]
  exact cell_blk h (by simpa using hj)
theorem bel_dn {B : Nat} {w wr : World} (h : Below B w wr) (n : Nat) : Below B w (wr.drewN n) := ⟨h.os, h.tape, h.output, h.size, h.block⟩
theorem pairs_len (S : List Nm) (l : List Srx) : (pairsOf S (toPs l)).length ≤ (allB l).length := by
  induction l with
  | nil => exact Nat.le_refl _
  | cons s l ih =>
    show (pairs1 S (nmL s.name, s.imps.map nmL) ++ pairsOf S (toPs l)).length ≤ (s.name :: s.imps ++ allB l).length
    simp only [List.length_append, List.length_cons, pairs1, List.length_map]
    omega
theorem bel_dr {B : Nat} {w wr : World} (h : Below B w wr) : Below B w wr.drew := ⟨h.os, h.tape, h.output, h.size, h.block⟩
theorem step_callS {ops : Array Oper} {o : Oper} {a : Act} {w : World} {K : Act → World → Prop} {Q : Exit → Act → World → Prop} {E : Prop} (hgd : o.guard = none) (f : FuncId) (args : Array Value)
    (hr : (execOp a.eval o).run Tryz.prog w = .ok (.enter f args) w) (h : Calls Tryz.prog f args w fun e w' => ∃ v, e = .returned v ∧ K (a.put o.dst v) w') :
    if Region.wanted o (yielded ops a.tmps) = true then Oper.wp Tryz.prog o a w K Q else E := by
  have hw : Region.wanted o (yielded ops a.tmps) = true := by simp [Region.wanted, hgd]
  rw [if_pos hw]
  unfold Oper.wp
  rw [hr]
  refine h.mono ?_
  rintro e w' ⟨v, rfl, hk⟩
  exact hk
theorem gb_drew {w w' : World} {r : Option Nat} (h : w.drew.grownBy w' r) : w.grownBy w' r := ⟨h.os, h.tape, h.output, h.size, h.block⟩
def TieP (l : List Srx) (w : World) (e : Ending) (w' : World) : Prop := ∃ na nc g, e = .returned (.agg #[.slice na (srt (toPs l)).length nc, .slice (some ⟨g, 0, none⟩) (srt (toPs l)).length (srt (toPs l)).length]) ∧ RowS w' w'.heap.size na ((srt (toPs l)).map ofNm) ∧ MatAt w' w.heap.size g (srt (toPs l)).length (grp (srt (toPs l)).length (pairsOf (srt (toPs l)) (toPs l))) ∧ Below w.heap.size w w'
set_option maxRecDepth 100000 in
set_option maxHeartbeats 20000000 in
theorem tiesOf_any (a : Option Addr) (l : List Srx) (ca : Nat) (w : World) (hl : l.length ≤ 1048576) (hN : (allB l).length ≤ 4194304) (hr : rgX.Row w (fun b => b < w.heap.size) a l) :
    Calls Tryz.prog 18 #[.slice a l.length ca] w fun e w' => TieP l w e w' := by
  have HR : Hid (rgX.Row w (fun b => b < w.heap.size) a l) := hr
  clear hr
  obtain ⟨i9, hi9, hz90, hz91, hz92⟩ := info_parts Tryz.inf9
  obtain ⟨i3, hi3, hz30, hz31, hz32⟩ := info_parts Tryz.inf3
  obtain ⟨i63, hi63, hz630, hz631, hz632⟩ := info_parts Tryz.inf63
  have HB0 : Hid (Below (w.heap.size + 1) (w.alloc (Obj.cells #[.slice none 0 0, .slice none 0 0] 47)) (w.alloc (Obj.cells #[.slice none 0 0, .slice none 0 0] 47))) := Below.refl _ _
  go_enter Tryz.func18, Tryz.ntmps18
  go_wp2
  go_loopw [3, 14] (fun v o wr => ∃ i : Nat, i ≤ l.length ∧ o = .int .i64 i ∧ OwnS wr (w.heap.size + 1) v (allB (l.take i)) ∧ Below (w.heap.size + 1) (w.alloc (Obj.cells #[.slice none 0 0, .slice none 0 0] 47)) wr)
    (fun _ o _ => l.length - (intOf o).toNat)
  case atStart => exact ⟨0, by omega, rfl, ⟨rfl, .inl ⟨rfl, rfl⟩⟩, HB0.out⟩
  case round =>
    clear HB0
    obtain ⟨i, hi, rfl, hown, hb⟩ := hrel
    obtain ⟨oa, oc, rfl, hoc⟩ := hown.slice
    have HOW : Hid (OwnS wr (w.heap.size + 1) (.slice oa (allB (l.take i)).length oc) (allB (l.take i))) := hown
    have hsl := allB_len_take l i
    clear hown
    by_cases hlt : i < l.length
    · obtain ⟨d, hd⟩ : ∃ d, l[i]? = some d := ⟨_, List.getElem?_eq_getElem hlt⟩
      have hbw : Below w.heap.size w wr := ((Below.refl w.heap.size w).alloc (Nat.le_refl _) _).trans (hb.mono (by omega))
      obtain ⟨b1, o1, cs, rfl, hbb, ⟨a1, a2, a3, a4, a5, c1, c2, c3, c4, c5, rfl, hrows⟩, hl⟩ := (HR.out.below hbw) i d hd
      have y0 : wr.cell? ⟨b1, o1 + i * 6, none⟩ = some (.string d.name) := hl 0 _ rfl
      have y1 : wr.cell? ⟨b1, o1 + i * 6 + 1, none⟩ = some (.slice a1 d.imps.length c1) := hl 1 _ rfl
      have y2 : wr.cell? ⟨b1, o1 + i * 6 + 2, none⟩ = some (.slice a2 d.exps.length c2) := hl 2 _ rfl
      have y3 : wr.cell? ⟨b1, o1 + i * 6 + 3, none⟩ = some (.slice a3 d.types.length c3) := hl 3 _ rfl
      have y4 : wr.cell? ⟨b1, o1 + i * 6 + 4, none⟩ = some (.slice a4 d.defs.length c4) := hl 4 _ rfl
      have y5 : wr.cell? ⟨b1, o1 + i * 6 + 5, none⟩ = some (.slice a5 d.convs.length c5) := hl 5 _ rfl
      have HIM : Hid (RowS wr w.heap.size a1 d.imps) := rowS_iff.1 hrows.1.1
      have HMT : Hid (allB (l.take (i + 1)) = (allB (l.take i) ++ [d.name]) ++ d.imps) := allB_take hd
      have hsl2 : ((allB (l.take i) ++ [d.name]) ++ d.imps).length ≤ 4194304 := by rw [← allB_take hd]; have := allB_len_take l (i + 1); omega
      clear hd hl hrows
      generalize hls : allB (l.take i) = ls at *
      clear hls
      simp only [List.length_append, List.length_cons, List.length_nil] at hsl2
      have hsz := hb.size
      simp at hsz
      obtain ⟨W4, hW4⟩ : ∃ W4, W4 = wr.alloc (Obj.cells #[.string d.name, .slice a1 d.imps.length c1, .slice a2 d.exps.length c2, .slice a3 d.types.length c3, .slice a4 d.defs.length c4, .slice a5 d.convs.length c5] 43) := ⟨_, rfl⟩
      have hsW : W4.heap.size = wr.heap.size + 1 := by rw [hW4]; simp
      have KX : Hid (W4.heap[wr.heap.size]? = some (.cells #[.string d.name, .slice a1 d.imps.length c1, .slice a2 d.exps.length c2, .slice a3 d.types.length c3, .slice a4 d.defs.length c4, .slice a5 d.convs.length c5] 43)) := by rw [hW4]; exact blk_at _ _ _ rfl
      have HB4 : Hid (Below (w.heap.size + 1) (w.alloc (Obj.cells #[.slice none 0 0, .slice none 0 0] 47)) W4) := by rw [hW4]; exact hb.alloc hsz _
      have HO4 : Hid (OwnS W4 (w.heap.size + 1) (.slice oa ls.length oc) ls) := by rw [hW4]; exact World.ownsRow.alloc HOW.out _
      have hoblk : ∀ b, (Value.slice oa ls.length oc).ownBlock = some b → w.heap.size + 1 ≤ b ∧ b < wr.heap.size := fun b hb => ⟨(HOW.out.blk hb).1, (HOW.out.blk hb).2.1⟩
      have HOB : Hid (∀ b, (Value.slice oa ls.length oc).ownBlock = some b → w.heap.size + 1 ≤ b ∧ b < wr.heap.size) := hoblk
      have HIM4 : Hid (∀ W5 : World, (∀ b, b < w.heap.size → W5.heap[b]? = wr.heap[b]?) → RowS W5 w.heap.size a1 d.imps) := fun W5 h5 => HIM.out.keep h5
      have HWB : Hid (∀ b, b < wr.heap.size → W4.heap[b]? = wr.heap[b]?) := fun b hb => by rw [hW4]; exact Below.heap_alloc _ _ _ hb
      have HWA : Hid (∀ b, b < wr.heap.size → (W4.alloc (Obj.cells #[.string d.name] 9)).heap[b]? = wr.heap[b]?) := fun b hb => (Below.heap_alloc _ _ _ (by omega)).trans (HWB.out b hb)
      have HNW : Hid (∀ j u, [Value.string d.name][j]? = some u → (W4.alloc (Obj.cells #[.string d.name] 9)).cell? ((⟨wr.heap.size + 1, 0, none⟩ : Addr).add j) = some u) := oneS (blk_at _ _ _ hsW.symm)
      clear hoblk HIM
      go_wp2
      rw [← hW4]
      clear hW4
      have x0 : W4.cell? ⟨wr.heap.size, 0, none⟩ = some (.string d.name) := cell_blk (j := 0) KX.out rfl
      have x1 : W4.cell? ⟨wr.heap.size, 1, none⟩ = some (.slice a1 d.imps.length c1) := cell_blk (j := 1) KX.out rfl
      have z1 : (W4.alloc (Obj.cells #[.string d.name] 9)).cell? ⟨wr.heap.size, 1, none⟩ = some (.slice a1 d.imps.length c1) := cell_blk (j := 1) (blk_past KX.out) rfl
      go_region_law (first
        | ((refine step_append_row (by rfl) _ _ 24 (by rfl) (w.heap.size + 1) 9 i9 _ 1 16 Tryz.underlying24 hi9 hz90 hz91 hz92 rfl (by omega) (.slice oa ls.length oc) ls.length (ls.map Value.string) (by rfl) (World.ownsRow.alloc HO4.out _) (some ⟨wr.heap.size + 1, 0, none⟩) 1 1 [.string d.name] (by rfl) (by rfl) (fun _ => ⟨_, rfl, HNW.out⟩) (by intro u hu; simp at hu; subst hu; rfl) (by unfold maxLen; omega) (by omega) (by simp; omega) ?_; intro v1 w1 hown1 hgr1 hat1; have hs1 := hgr1.size; simp at hs1; have kx1 : w1.heap[wr.heap.size]? = some (.cells #[.string d.name, .slice a1 d.imps.length c1, .slice a2 d.exps.length c2, .slice a3 d.types.length c3, .slice a4 d.defs.length c4, .slice a5 d.convs.length c5] 43) := (hgr1.block _ (by simp; omega) (fun e => by have := (HOB.out _ e.symm).2; omega)).trans (blk_past KX.out); have q1 : w1.cell? ⟨wr.heap.size, 1, none⟩ = some (.slice a1 d.imps.length c1) := cell_blk (j := 1) kx1 rfl; have HRW : Hid (RowS w1 w.heap.size a1 d.imps) := HIM4.out w1 (fun b hb => (hgr1.block b (by simp; omega) (fun e => by have := (HOB.out _ e.symm).1; omega)).trans (HWA.out b (by omega)))))
        | (refine step_append_row (by rfl) _ _ 24 (by rfl) (w.heap.size + 1) 9 i9 _ 1 16 Tryz.underlying24 hi9 hz90 hz91 hz92 rfl (by omega) v1 (ls.length + 1) (ls.map Value.string ++ [.string d.name]) (by rfl) hown1 a1 d.imps.length c1 (d.imps.map Value.string) (by rfl) (by simp) (news_S (p := fun b => b < w.heap.size) (HRW.out)) (by intro u hu; obtain ⟨_, _, rfl⟩ := List.mem_map.1 hu; rfl) (by unfold maxLen; omega) (by omega) (by omega) ?_; intro v2 w2 hown2 hgr2 hat2))
      all_goals
        have HO2 : Hid (OwnS w2 (w.heap.size + 1) v2 ((ls ++ [d.name]) ++ d.imps)) := by
          show World.ownsRow _ _ _ _ _ _ _
          simp only [List.length_append, List.length_cons, List.length_nil, List.map_append, List.map_cons, List.map_nil]
          exact hown2
        have hbA : Below (w.heap.size + 1) (w.alloc (Obj.cells #[.slice none 0 0, .slice none 0 0] 47)) (W4.alloc (Obj.cells #[.string d.name] 9)) := HB4.out.alloc (by omega) _
        have hb1 : Below (w.heap.size + 1) (w.alloc (Obj.cells #[.slice none 0 0, .slice none 0 0] 47)) w1 := gb_bel (v := .slice oa ls.length oc) hbA (by simp; omega) (fun b hb => (HOB.out b hb).1) (gb_drew hgr1)
        have HB2 : Hid (Below (w.heap.size + 1) (w.alloc (Obj.cells #[.slice none 0 0, .slice none 0 0] 47)) w2) := gb_bel hb1 (by omega) (fun b hb => (own_blk hown1 hb).1) hgr2
        clear hown2 hgr2 hat2 hown1 hgr1 hat1 hbA hb1 kx1 q1 HRW x0 x1 z1
        go_wp2
        go_roundw
        case rel => exact ⟨i + 1, by omega, by go_num, by rw [HMT.out]; exact HO2.out, HB2.out⟩
        case measure => simp [intOf]; omega
    · obtain rfl : i = l.length := by omega
      rw [List.take_length] at HOW hoc hsl ⊢
      have hlt' : decide ((l.length : Int) < (l.length : Int)) = false := by simp
      have hsz := hb.size
      simp at hsz
      go_wp2_with (go_at_call 36; go_loud (refine (rising_any (w.heap.size + 1) _ (allB l) wr hN hsz HOW.out).mono ?_; rintro e w2 ⟨na, nc, rfl, hnc, hnp, hb2⟩; refine stop ?_))
      unfold Hid
      have hnr : RowS w2 w2.heap.size na ((rise ((allB l).map nmL)).map ofNm) := hnp.keep fun b hb => ⟨hb.2, rfl⟩
      rw [allB_nm] at hnc hnr hnp ⊢
      have HNP : Hid (RowSP w2 (fun b => w.heap.size + 1 ≤ b ∧ b < w2.heap.size) na ((srt (toPs l)).map ofNm)) := hnp
      clear hnp
      have hSl : (srt (toPs l)).length ≤ 4194304 := by
        have h1 := rise_len_le (allN (toPs l))
        rw [← allB_nm, List.length_map, allB_nm] at h1
        exact Nat.le_trans h1 hN
      have HSP : Hid ((srt (toPs l)).Pairwise (· < ·)) := srt_lt _
      have hBr : Below (w.heap.size + 1) (w.alloc (Obj.cells #[.slice none 0 0, .slice none 0 0] 47)) w2 := hb.trans hb2
      have HBR : Hid (Below (w.heap.size + 1) (w.alloc (Obj.cells #[.slice none 0 0, .slice none 0 0] 47)) w2) := hBr
      have HNR : Hid (RowS w2 w2.heap.size na ((srt (toPs l)).map ofNm)) := hnr
      have hs2 := hBr.size
      simp at hs2
      have hrs : rise (allN (toPs l)) = srt (toPs l) := rfl
      rw [hrs] at hnc ⊢
      clear hrs hb hb2 hnr hBr HOW hoc hsl hsz
      have HSN : Hid (∀ s ∈ l, nmL s.name ∈ srt (toPs l) ∧ ∀ x ∈ s.imps, nmL x ∈ srt (toPs l)) := fun s hs => by
        have h1 : (nmL s.name, s.imps.map nmL) ∈ toPs l := List.mem_map.2 ⟨s, hs, rfl⟩
        exact ⟨srt_name h1, fun x hx => srt_imp h1 (List.mem_map.2 ⟨x, hx, rfl⟩)⟩
      generalize hSS : srt (toPs l) = S at *
      have HSS : Hid (srt (toPs l) = S) := hSS
      clear hSS
      go_wp2_with (at_make; go_loud (refine wpList_make_full _ rfl _ _ 45 rfl (w2.heap.size + 1) 63 i63 _ 1 Tryz.underlying45 hi63 hz630 hz631 .i64 .i64 _ _ S.length rfl rfl ?c0 ?c0' ?c1 ?c2 ?c3 ?_))
      case c0 => rfl
      case c0' => rfl
      case c1 => rw [hz632]; omega
      case c2 => simp [maxLen]; omega
      case c3 => simp
      intro w3 hown3 hgr3
      obtain ⟨cur, hblk, hcs, hz⟩ := made_row hown3
      have hM3 : MatAt w3 (w2.heap.size + 1) (w2.heap.size + 1) S.length (List.replicate S.length []) := MatAt.new hblk hcs (Nat.le_refl _) hz
      have kT3 : w3.heap[w2.heap.size]? = some (.cells #[.slice na S.length nc, .slice none 0 0] 47) := (hgr3.block _ (by simp) (by simp)).trans (blk_at _ _ _ rfl)
      have t1 := cell_blk (j := 1) kT3 rfl
      have t1f := frozen_blk kT3 1
      have HB3 : Hid (Below (w.heap.size + 1) (w.alloc (Obj.cells #[.slice none 0 0, .slice none 0 0] 47)) w3) := (HBR.out.alloc hs2 _).grown hgr3 (by simp; omega) (fun _ h => by cases h)
      have HOLD : Hid (∀ b, b < w2.heap.size → w3.heap[b]? = w2.heap[b]?) := fun b hb => (hgr3.block b (by simp; omega) (by simp)).trans (Below.heap_alloc _ _ _ hb)
      have hs3 := hM3.lt.2
      obtain ⟨W6, hW6⟩ : ∃ W6, W6 = w3.setCell ⟨w2.heap.size, 1, none⟩ (.slice (some ⟨w2.heap.size + 1, 0, none⟩) S.length S.length) := ⟨_, rfl⟩
      have KT : Hid (W6.heap[w2.heap.size]? = some (.cells #[.slice na S.length nc, .slice (some ⟨w2.heap.size + 1, 0, none⟩) S.length S.length] 47)) := by rw [hW6]; exact heap_setCell_same _ _ _ _ _ _ kT3
      have HM6 : Hid (MatAt W6 (w2.heap.size + 1) (w2.heap.size + 1) S.length (grp S.length [])) := by
        rw [grp_nil, hW6]
        exact hM3.keep fun b hb _ => heap_setCell_other _ _ _ _ (by show b ≠ w2.heap.size; omega)
      have HB6 : Hid (Below (w.heap.size + 1) (w.alloc (Obj.cells #[.slice none 0 0, .slice none 0 0] 47)) W6) := by rw [hW6]; exact HB3.out.setCell (p := ⟨_, _, none⟩) hs2 _
      have HN6 : Hid (RowS W6 w2.heap.size na (S.map ofNm)) := by
        rw [hW6]
        exact HNR.out.keep fun b hb => (heap_setCell_other _ _ _ _ (by show b ≠ w2.heap.size; omega)).trans (HOLD.out b hb)
      have HNP6 : Hid (RowSP W6 (fun b => w.heap.size + 1 ≤ b ∧ b < w2.heap.size) na (S.map ofNm)) := by
        rw [hW6]
        exact HNP.out.keep fun b hb => ⟨hb, (heap_setCell_other _ _ _ _ (by show b ≠ w2.heap.size; omega)).trans (HOLD.out b hb.2)⟩
      have hs6 : w2.heap.size + 1 < W6.heap.size := by rw [hW6]; simp; exact hs3
      clear hown3 hgr3 hblk hcs hz hM3 HB3 HOLD HBR HNR hs3 kT3
      go_wp2
      rw [← hW6]
      clear hW6 t1 t1f
      generalize hT : w2.heap.size = T at *
      go_loopw [37] (fun o wq => ∃ i : Nat, i ≤ l.length ∧ o = .int .i64 i ∧ MatAt wq (T + 1) (T + 1) S.length (grp S.length (pairsOf S (toPs (l.take i)))) ∧ Below (T + 1) W6 wq)
        (fun o _ => l.length - (intOf o).toNat)
      case atStart => exact ⟨0, by omega, rfl, HM6.out, Below.refl _ _⟩
      case round =>
        clear HM6
        obtain ⟨i, hi, rfl, hmat, hb⟩ := hrel
        have HMT : Hid (MatAt wr (T + 1) (T + 1) S.length (grp S.length (pairsOf S (toPs (l.take i))))) := hmat
        have hbW := HB6.out
        have hsz := hb.size
        clear hmat
        by_cases hlt : i < l.length
        · obtain ⟨d, hd⟩ : ∃ d, l[i]? = some d := ⟨_, List.getElem?_eq_getElem hlt⟩
          have hbw : Below w.heap.size w wr := (((Below.refl w.heap.size w).alloc (Nat.le_refl _) _).trans (hbW.mono (by omega))).trans (hb.mono (by omega))
          obtain ⟨b1, o1, cs, rfl, hbb, ⟨a1, a2, a3, a4, a5, c1, c2, c3, c4, c5, rfl, hrows⟩, hlies⟩ := (HR.out.below hbw) i d hd
          have y0 : wr.cell? ⟨b1, o1 + i * 6, none⟩ = some (.string d.name) := hlies 0 _ rfl
          have y1 : wr.cell? ⟨b1, o1 + i * 6 + 1, none⟩ = some (.slice a1 d.imps.length c1) := hlies 1 _ rfl
          have y2 : wr.cell? ⟨b1, o1 + i * 6 + 2, none⟩ = some (.slice a2 d.exps.length c2) := hlies 2 _ rfl
          have y3 : wr.cell? ⟨b1, o1 + i * 6 + 3, none⟩ = some (.slice a3 d.types.length c3) := hlies 3 _ rfl
          have y4 : wr.cell? ⟨b1, o1 + i * 6 + 4, none⟩ = some (.slice a4 d.defs.length c4) := hlies 4 _ rfl
          have y5 : wr.cell? ⟨b1, o1 + i * 6 + 5, none⟩ = some (.slice a5 d.convs.length c5) := hlies 5 _ rfl
          have HIM : Hid (RowS wr w.heap.size a1 d.imps) := rowS_iff.1 hrows.1.1
          have hil : d.imps.length ≤ 4194304 := by
            have h1 := allB_len_take l (i + 1)
            rw [allB_take hd, List.length_append] at h1
            omega
          have HPT : Hid (pairsOf S (toPs (l.take (i + 1))) = pairsOf S (toPs (l.take i)) ++ pairs1 S (nmL d.name, d.imps.map nmL)) := by
            have h1 : (toPs l)[i]? = some (nmL d.name, d.imps.map nmL) := by simp [toPs, hd]
            have h2 := pairsOf_take (S := S) h1
            have h3 : ∀ k, toPs (l.take k) = (toPs l).take k := fun k => by simp [toPs, List.map_take]
            rw [h3, h3]
            exact h2
          have HPL : Hid (∀ k, (pairsOf S (toPs (l.take i)) ++ pairs1 S (nmL d.name, (d.imps.map nmL).take k)).length ≤ 4194304) := fun k => by
            have h1 := allB_len_take l (i + 1)
            have h2 := pairs_len S (l.take i)
            rw [allB_take hd] at h1
            simp only [List.length_append, List.length_cons, List.length_nil] at h1
            simp only [List.length_append, pairs1, List.length_map, List.length_take]
            omega
          obtain ⟨hnm, him⟩ := HSN.out d (List.mem_of_getElem? hd)
          have HIMP : Hid (∀ x ∈ d.imps, nmL x ∈ S) := him
          have hat := num_lt hnm
          clear hd hlies hrows him
          have KTw : wr.heap[T]? = some (.cells #[.slice na S.length nc, .slice (some ⟨T + 1, 0, none⟩) S.length S.length] 47) := blk_keep KT.out hb (by omega)
          obtain ⟨W7, hW7⟩ : ∃ W7, W7 = wr.alloc (Obj.cells #[.string d.name, .slice a1 d.imps.length c1, .slice a2 d.exps.length c2, .slice a3 d.types.length c3, .slice a4 d.defs.length c4, .slice a5 d.convs.length c5] 43) := ⟨_, rfl⟩
          have hs7 : W7.heap.size = wr.heap.size + 1 := by rw [hW7]; simp
          have kT7 : W7.heap[T]? = some (.cells #[.slice na S.length nc, .slice (some ⟨T + 1, 0, none⟩) S.length S.length] 47) := by rw [hW7]; exact blk_past KTw
          have r0 := cell_blk (j := 0) kT7 rfl
          have r1 := cell_blk (j := 1) kT7 rfl
          have KX : Hid (W7.heap[wr.heap.size]? = some (.cells #[.string d.name, .slice a1 d.imps.length c1, .slice a2 d.exps.length c2, .slice a3 d.types.length c3, .slice a4 d.defs.length c4, .slice a5 d.convs.length c5] 43)) := by rw [hW7]; exact blk_at _ _ _ rfl
          have x0 := cell_blk (j := 0) KX.out rfl
          have HB7 : Hid (Below (T + 1) W6 W7) := by rw [hW7]; exact hb.alloc (by omega) _
          have HM7 : Hid (MatAt W7 (T + 1) (T + 1) S.length (grp S.length (pairsOf S (toPs (l.take i))))) := by rw [hW7]; exact HMT.out.keep fun b _ hb => Below.heap_alloc _ _ _ hb
          have HN7 : Hid (RowS W7 W7.heap.size na (S.map ofNm)) := (HN6.out.below (HB7.out.mono (by omega))).mono (by omega)
          have HI7 : Hid (RowS W7 w.heap.size a1 d.imps) := by rw [hW7]; exact HIM.out.keep fun b hb => Below.heap_alloc _ _ _ (by have := hbw.size; omega)
          rw [hW7] at r0 r1 x0
          go_wp2_with (go_at_call 37; go_loud (rw [← hW7]; refine (number_any S na (some ⟨T + 1, 0, none⟩) _ nc _ _ (nmL d.name) W7 HSP.out hnm rfl hSl HN7.out).mono ?_; rintro e w8 ⟨rfl, hb8⟩; refine stop ?_))
          unfold Hid
          have kx8 := blk_keep KX.out hb8 (by omega)
          have x1 := cell_blk (j := 1) kx8 rfl
          have HB8 : Hid (Below (T + 1) W6 w8) := HB7.out.trans (hb8.mono (by omega))
          have HM8 : Hid (MatAt w8 (T + 1) (T + 1) S.length (grp S.length (pairsOf S (toPs (l.take i)) ++ pairs1 S (nmL d.name, (d.imps.map nmL).take 0)))) := by
            rw [List.take_zero]
            show MatAt _ _ _ _ (grp S.length (_ ++ []))
            rw [List.append_nil]
            exact HM7.out.keep fun b _ h => hb8.block b h
          have HI6 : Hid (RowS W6 w.heap.size a1 d.imps) := HIM.out.keep fun b h => (hb.block b (by omega)).symm
          clear hb8 kx8 r0 r1 x0 kT7 hs7 hW7 KX HB7 HM7 HN7 HI7 HIM KTw y0 y1 y2 y3 y4 y5 HMT hbw hb
          go_wp2
          go_loopw [48] (fun o wq => ∃ k : Nat, k ≤ d.imps.length ∧ o = .int .i64 k ∧ MatAt wq (T + 1) (T + 1) S.length (grp S.length (pairsOf S (toPs (l.take i)) ++ pairs1 S (nmL d.name, (d.imps.map nmL).take k))) ∧ Below (T + 1) W6 wq)
            (fun o _ => d.imps.length - (intOf o).toNat)
          case atStart => exact ⟨0, by omega, rfl, HM8.out, HB8.out⟩
          case round =>
            clear HM8 HB8
            obtain ⟨k, hk, rfl, hmat, hb⟩ := hrel
            have hsz := hb.size
            by_cases hkl : k < d.imps.length
            · obtain ⟨x, hx⟩ : ∃ x, d.imps[k]? = some x := ⟨_, List.getElem?_eq_getElem hkl⟩
              obtain ⟨xb, xo, rfl, hxb, hxc⟩ := (HI6.out.below (hb.mono (by omega))) k x hx
              have hxS := HIMP.out x (List.mem_of_getElem? hx)
              have HP1 : Hid (pairsOf S (toPs (l.take i)) ++ pairs1 S (nmL d.name, (d.imps.map nmL).take (k + 1)) = (pairsOf S (toPs (l.take i)) ++ pairs1 S (nmL d.name, (d.imps.map nmL).take k)) ++ [(num S (nmL d.name), num S (nmL x))]) := by
                show _ = _
                rw [pairs1_take (x := nmL x) (by rw [List.getElem?_map, hx]; rfl), List.append_assoc]
              have hpl := HPL.out k
              generalize hps : pairsOf S (toPs (l.take i)) ++ pairs1 S (nmL d.name, (d.imps.map nmL).take k) = ps at *
              clear hps hx
              obtain ⟨row, hrow⟩ : ∃ row, (grp S.length ps)[num S (nmL d.name)]? = some row := ⟨_, grp_at ps hat⟩
              have HGS : Hid (grp S.length (ps ++ [(num S (nmL d.name), num S (nmL x))]) = (grp S.length ps).set (num S (nmL d.name)) (row ++ [num S (nmL x)])) := grp_snoc _ _ _ _ _ hrow
              have HMk : Hid (MatAt wr (T + 1) (T + 1) S.length (grp S.length ps)) := hmat
              obtain ⟨v, hv, hov, hvf, hvg⟩ := hmat.at hrow
              obtain ⟨av, cv, rfl, hcv⟩ := own_slice hov
              have kT := blk_keep KT.out hb (by omega)
              have r0 := cell_blk (j := 0) kT rfl
              have r1 := cell_blk (j := 1) kT rfl
              have HNk : Hid (∀ W9, Below (T + 1) W6 W9 → RowS W9 W9.heap.size na (S.map ofNm)) := fun W9 h9 => (HN6.out.below (h9.mono (by omega))).mono (by have := h9.size; omega)
              have hrl : row.length ≤ 4194304 := Nat.le_trans (grp_row_len hrow) hpl
              generalize hnn : num S (nmL d.name) = nd at *
              have hvo : ∀ b, (Value.slice av row.length cv).ownBlock = some b → T + 1 ≤ b ∧ b < wr.heap.size := fun b h => ⟨(own_blk hov h).1, (own_blk hov h).2.1⟩
              have HVO : Hid (∀ b, (Value.slice av row.length cv).ownBlock = some b → T + 1 ≤ b ∧ b < wr.heap.size) := hvo
              have HOV : Hid (OwnI wr (T + 1) (.slice av row.length cv) row) := hov
              have HBk : Hid (Below (T + 1) W6 wr) := hb
              have i1 : (0 : Int) ≤ (nd : Int) := by omega
              have i2 : (nd : Int) < (S.length : Int) := by omega
              generalize hnx : num S (nmL x) = nx at *
              have HCL : Hid (∀ W9, Below (T + 1) W6 W9 → Calls Tryz.prog 37 #[.agg #[.slice na S.length nc, .slice (some ⟨T + 1, 0, none⟩) S.length S.length], .string x] W9 fun e w' => Ans W9 (.int .i64 nx) e w') := fun W9 h9 => by
                have := number_any S na (some ⟨T + 1, 0, none⟩) _ nc S.length S.length (nmL x) W9 HSP.out hxS rfl hSl (HNk.out W9 h9)
                rw [of_nmL, hnx] at this
                exact this
              clear hvo hov hb hnx hnn
              go_wp2_with fail
              go_region_law
                (first
                  | (refine step_callS (by rfl) 37 #[.agg #[.slice na S.length nc, .slice (some ⟨T + 1, 0, none⟩) S.length S.length], .string x] (by kernel_rfl) ((HCL.out _ (by first | exact HBk.out | exact bel_dr HBk.out)).mono ?_); rintro e w9 ⟨rfl, hb9'⟩; refine ⟨_, rfl, ?_⟩; have hb9' : Below wr.heap.size wr w9 := ⟨hb9'.os, hb9'.tape, hb9'.output, hb9'.size, hb9'.block⟩; have hb9 : Below (T + 1) W6 w9 := HBk.out.trans (hb9'.mono (by omega)); have kT9 := blk_keep KT.out hb9 (by omega); have q0 := cell_blk (j := 0) kT9 rfl; have q1 := cell_blk (j := 1) kT9 rfl; have hM9 : MatAt w9 (T + 1) (T + 1) S.length (grp S.length ps) := HMk.out.keep fun b _ h => hb9'.block b h; have qv : w9.cell? ⟨T + 1, nd, none⟩ = some (.slice av row.length cv) := (World.cell?_of_block (a := ⟨T + 1, nd, none⟩) (hb9'.block _ HMk.out.lt.2)).trans hv; have hs9 := hb9'.size; have hs9' : wr.heap.size ≤ w9.heap.size := hs9; have hO9 : OwnI w9 (T + 1) (.slice av row.length cv) row := HOV.out.keep fun b h => hb9'.block b (HVO.out b h).2; have hbA : Below (T + 1) W6 (w9.alloc (Obj.cells #[.int .i64 nx] 3)) := hb9.alloc (by omega) _; have kTA := blk_keep KT.out hbA (by omega); have z0 := cell_blk (j := 0) kTA rfl; have z1 := cell_blk (j := 1) kTA rfl; have hMA : MatAt (w9.alloc (Obj.cells #[.int .i64 nx] 3)) (T + 1) (T + 1) S.length (grp S.length ps) := hM9.keep fun b _ h => Below.heap_alloc _ _ _ h; have zv : (w9.alloc (Obj.cells #[.int .i64 nx] 3)).cell? ⟨T + 1, nd, none⟩ = some (.slice av row.length cv) := (World.cell?_of_block (a := ⟨T + 1, nd, none⟩) (Below.heap_alloc _ _ _ hM9.lt.2)).trans qv; have zf : (w9.alloc (Obj.cells #[.int .i64 nx] 3)).frozen? ⟨T + 1, nd, none⟩ = false := (World.frozen?_of_block (a := ⟨T + 1, nd, none⟩) (Below.heap_alloc _ _ _ hM9.lt.2)).trans ((World.frozen?_of_block (a := ⟨T + 1, nd, none⟩) (hb9'.block _ HMk.out.lt.2)).trans hvf))
                  | ((refine step_append_row (by rfl) _ _ 63 (by rfl) (T + 1) 3 i3 _ 1 8 Tryz.underlying63 hi3 hz30 hz31 hz32 rfl (by omega) (.slice av row.length cv) row.length (row.map nVal) (by rfl) (World.ownsRow.alloc hO9 _) (some ⟨w9.heap.size, 0, none⟩) 1 1 [nVal nx] (by rfl) (by rfl) (fun _ => ⟨_, rfl, oneI (blk_at _ _ _ rfl)⟩) (by intro u hu; simp [nVal] at hu; subst hu; rfl) (by unfold maxLen; omega) (by omega) (by simp; omega) ?_; intro vB wB hownB hgrB hatB; obtain ⟨ab, cb, rfl, hcb⟩ := own_slice hownB; have hbB : Below (T + 1) W6 wB := gb_bel hbA (by simp; omega) (fun b h => (HVO.out b h).1) hgrB; have kTB := blk_keep KT.out hbB (by omega); have p0 := cell_blk (j := 0) kTB rfl; have p1 := cell_blk (j := 1) kTB rfl; have hkB := hgrB.block (T + 1) hMA.lt.2 (fun e => hvg e.symm); have pv : wB.cell? ⟨T + 1, nd, none⟩ = some (.slice av row.length cv) := (World.cell?_of_block (a := ⟨T + 1, nd, none⟩) hkB).trans zv; have pf : wB.frozen? ⟨T + 1, nd, none⟩ = false := (World.frozen?_of_block (a := ⟨T + 1, nd, none⟩) hkB).trans zf; have hbC : Below (T + 1) W6 (wB.setCell ⟨T + 1, nd, none⟩ (.slice ab (row.length + 1) cb)) := hbB.setCell (p := ⟨_, _, none⟩) (Nat.le_refl _) _; have kTC := blk_keep KT.out hbC (by omega); have s0 := cell_blk (j := 0) kTC rfl; have s1 := cell_blk (j := 1) kTC rfl)))
              all_goals
                have HMn : Hid (MatAt (wB.setCell ⟨T + 1, nd, none⟩ (.slice ab (row.length + 1) cb)) (T + 1) (T + 1) S.length ((grp S.length ps).set nd (row ++ [nx]))) := hMA.push hrow zv hgrB (OwnI.snoc hownB) hatB
                have HBn : Hid (Below (T + 1) W6 (wB.setCell ⟨T + 1, nd, none⟩ (.slice ab (row.length + 1) cb))) := hbC
                clear hownB hgrB hatB hbB kTB p0 p1 hkB pv pf hbC kTC s0 s1 zf zv hMA z1 z0 kTA hbA hO9 hs9 hs9' qv hM9 q1 q0 kT9 hb9 hb9' hcb
                go_wp2
                go_roundw
                case rel => exact ⟨k + 1, by omega, by go_num, by rw [HP1.out, HGS.out]; exact HMn.out, HBn.out⟩
                case measure => simp [intOf]; omega
            · obtain rfl : k = d.imps.length := by omega
              have hmat' : MatAt wr (T + 1) (T + 1) S.length (grp S.length (pairsOf S (toPs (l.take (i + 1))))) := by
                rw [HPT.out]
                have e : (d.imps.map nmL).take d.imps.length = d.imps.map nmL := List.take_of_length_le (by rw [List.length_map]; exact Nat.le_refl _)
                rw [e] at hmat
                exact hmat
              have HM9 : Hid (MatAt wr (T + 1) (T + 1) S.length (grp S.length (pairsOf S (toPs (l.take (i + 1)))))) := hmat'
              have HB9 : Hid (Below (T + 1) W6 wr) := hb
              clear hmat hmat' hb
              have hkl' : decide ((d.imps.length : Int) < (d.imps.length : Int)) = false := by simp
              go_wp2
              go_roundw
              case rel => exact ⟨i + 1, by omega, by go_num, HM9.out, HB9.out⟩
              case measure => simp [intOf]; omega
        · obtain rfl : i = l.length := by omega
          rw [List.take_length] at HMT
          have hlt' : decide ((l.length : Int) < (l.length : Int)) = false := by simp
          have kT := blk_keep KT.out hb (by omega)
          have r0 := cell_blk (j := 0) kT rfl
          have r1 := cell_blk (j := 1) kT rfl
          have HBf : Hid (Below (T + 1) W6 wr) := hb
          have k0 : wr.heap[w.heap.size]? = some (.cells #[.slice none 0 0, .slice none 0 0] 47) := blk_keep (blk_keep (blk_at _ _ _ rfl) hbW (by omega)) hb (by omega)
          have e0 := cell_blk (j := 0) k0 rfl
          have e1 := cell_blk (j := 1) k0 rfl
          have ef0 := frozen_blk k0 0
          have ef1 := frozen_blk k0 1
          have K0 : Hid (wr.heap[w.heap.size]? = some (.cells #[.slice none 0 0, .slice none 0 0] 47)) := k0
          have hNf : RowSP wr (fun b => w.heap.size + 1 ≤ b ∧ b < T) na (S.map ofNm) := HNP6.out.keep fun b h => ⟨h, hb.block b (by omega)⟩
          have HNF : Hid (RowSP wr (fun b => w.heap.size + 1 ≤ b ∧ b < T) na (S.map ofNm)) := hNf
          have hbw : Below w.heap.size w wr := (((Below.refl w.heap.size w).alloc (Nat.le_refl _) _).trans (hbW.mono (by omega))).trans (hb.mono (by omega))
          have HBW : Hid (Below w.heap.size w wr) := hbw
          clear hb hNf hbw k0
          go_wp2
          refine bodyPost_ret (results_cell_row rfl _ _ w.heap.size 47 #[.slice na S.length nc, .slice (some ⟨T + 1, 0, none⟩) S.length S.length] (0, 0) _ rfl (heap_setCell_same _ _ _ _ _ _ (heap_setCell_same _ _ _ _ _ _ K0.out)) Tryz.underlying47 rfl (by kernel_rfl)) rfl ?_
          have hoth : ∀ b, w.heap.size + 1 ≤ b → ((wr.setCell ⟨w.heap.size, 0, none⟩ (.slice na S.length nc)).setCell ⟨w.heap.size, 1, none⟩ (.slice (some ⟨T + 1, 0, none⟩) S.length S.length)).heap[b]? = wr.heap[b]? := fun b hb => by
            rw [heap_setCell_other _ _ _ _ (by show b ≠ w.heap.size; omega), heap_setCell_other _ _ _ _ (by show b ≠ w.heap.size; omega)]
          have hSe := HSS.out
          subst hSe
          refine ⟨na, nc, T + 1, rfl, HNF.out.keep fun b h => ⟨by simp; omega, hoth b h.1⟩, ?_, ((HBW.out.setCell (p := ⟨_, _, none⟩) (Nat.le_refl _) _).setCell (p := ⟨_, _, none⟩) (Nat.le_refl _) _)⟩
          exact (HMT.out.keep fun b h _ => hoth b (by omega)).weak (by omega)
end Go.Proofs.YtkkpiagchkdamaaGreatDoor
