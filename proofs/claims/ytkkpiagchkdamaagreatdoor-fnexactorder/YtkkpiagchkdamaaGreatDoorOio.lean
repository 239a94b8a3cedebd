/- The program's Order. The program's Order. -/
import Derived.Test.YtkkpiagchkdamaaGreatDoorOti
import Derived.Test.YtkkpiagchkdamaaGreatDoorOod
import Derived.Test.YtkkpiagchkdamaaGreatDoorOct
import Derived.Test.YtkkpiagchkdamaaGreatDoorSlh
set_option linter.unusedVariables false
namespace Go.Proofs.YtkkpiagchkdamaaGreatDoor
open Go.ChangeShapes Go.WideShapes Go.ChangeAt Go.RowKit
instance (p : Ps) : Decidable (closedP p) := by unfold closedP; infer_instance
noncomputable def srcsB (l : List Srx) : Bool := l.all Srx.ok && decide ((toPs l).map (·.1)).Nodup
theorem names_toPs (l : List Srx) : (l.map (·.name)).map nmL = (toPs l).map (·.1) := by simp [toPs]
set_option maxRecDepth 100000 in
set_option maxHeartbeats 1000000 in
theorem sourcesOk_any (a : Option Addr) (l : List Srx) (ca : Nat) (w : World) (hl : l.length ≤ 1048576) (hsm : ∀ s ∈ l, Srx.small s) (hr : rgX.Row w (fun b => b < w.heap.size) a l) :
    Calls Tryz.prog 17 #[.slice a l.length ca] w fun e w' => Ans w (.bool (srcsB l)) e w' := by
  have HR : Hid (rgX.Row w (fun b => b < w.heap.size) a l) := hr
  have HSM : Hid (∀ s ∈ l, Srx.small s) := hsm
  clear hr hsm
  obtain ⟨i9, hi9, hz90, hz91, hz92⟩ := info_parts Tryz.inf9
  go_enter Tryz.func17, Tryz.ntmps17
  go_wp2
  go_loopw [3, 8] (fun v o wr => ∃ i : Nat, i ≤ l.length ∧ o = .int .i64 i ∧ OwnS wr w.heap.size v ((l.take i).map (·.name)) ∧ (∀ s ∈ l.take i, Srx.ok s = true) ∧ Below w.heap.size w wr)
    (fun _ o _ => l.length - (intOf o).toNat)
  case atStart => exact ⟨0, by omega, rfl, ⟨rfl, .inl ⟨rfl, rfl⟩⟩, fun s hs => by simp at hs, Below.refl _ _⟩
  case round =>
    obtain ⟨i, hi, rfl, hown, hok, hb⟩ := hrel
    obtain ⟨oa, oc, rfl, hoc⟩ := hown.slice
    have HOK : Hid (∀ s ∈ l.take i, Srx.ok s = true) := hok
    have hsl : ((l.take i).map (fun t : Srx => t.name)).length ≤ 1048576 := by rw [List.length_map, List.length_take]; omega
    by_cases hlt : i < l.length
    · obtain ⟨d, hd⟩ : ∃ d, l[i]? = some d := ⟨_, List.getElem?_eq_getElem hlt⟩
      have HMT : Hid ((l.take (i + 1)).map (fun t : Srx => t.name) = (l.take i).map (fun t : Srx => t.name) ++ [d.name]) := map_take _ hd
      have HOK2 : Hid (Srx.ok d = true → ∀ s ∈ l.take (i + 1), Srx.ok s = true) := fun h s hs => by
        rw [List.take_add_one, hd] at hs
        rcases List.mem_append.1 hs with hs | hs
        · exact HOK.out s hs
        · simp at hs
          subst hs
          exact h
      have HNO : Hid (Srx.ok d = false → srcsB l = false) := fun h => by
        unfold srcsB
        have : l.all Srx.ok = false := by
          rw [List.all_eq_false]
          exact ⟨d, List.mem_of_getElem? hd, by rw [h]; simp⟩
        rw [this]
        rfl
      have hds := HSM.out d (List.mem_of_getElem? hd)
      obtain ⟨b1, o1, cs, rfl, hbb, ⟨a1, a2, a3, a4, a5, c1, c2, c3, c4, c5, rfl, hrows⟩, hlies⟩ := (HR.out.below hb) i d hd
      have y0 : wr.cell? ⟨b1, o1 + i * 6, none⟩ = some (.string d.name) := hlies 0 _ rfl
      have y1 : wr.cell? ⟨b1, o1 + i * 6 + 1, none⟩ = some (.slice a1 d.imps.length c1) := hlies 1 _ rfl
      have y2 : wr.cell? ⟨b1, o1 + i * 6 + 2, none⟩ = some (.slice a2 d.exps.length c2) := hlies 2 _ rfl
      have y3 : wr.cell? ⟨b1, o1 + i * 6 + 3, none⟩ = some (.slice a3 d.types.length c3) := hlies 3 _ rfl
      have y4 : wr.cell? ⟨b1, o1 + i * 6 + 4, none⟩ = some (.slice a4 d.defs.length c4) := hlies 4 _ rfl
      have y5 : wr.cell? ⟨b1, o1 + i * 6 + 5, none⟩ = some (.slice a5 d.convs.length c5) := hlies 5 _ rfl
      generalize hls : (l.take i).map (fun t : Srx => t.name) = ls at *
      have HOW : Hid (OwnS wr w.heap.size (.slice oa ls.length oc) ls) := hown
      obtain ⟨W4, hW4⟩ : ∃ W4, W4 = wr.alloc (Obj.cells #[.string d.name, .slice a1 d.imps.length c1, .slice a2 d.exps.length c2, .slice a3 d.types.length c3, .slice a4 d.defs.length c4, .slice a5 d.convs.length c5] 43) := ⟨_, rfl⟩
      have hsz := hb.size
      have hs4 : W4.heap.size = wr.heap.size + 1 := by rw [hW4]; simp
      have HB4 : Hid (Below w.heap.size w W4) := by rw [hW4]; exact hb.alloc hsz _
      have HRW : Hid (SrxRows W4 (fun b => b < W4.heap.size) a1 a2 a3 a4 a5 c1 c2 c3 c4 c5 d) := by
        refine hrows.keep fun b hb' => ⟨by omega, ?_⟩
        rw [hW4]
        exact Below.heap_alloc _ _ _ (by omega)
      have KX : Hid (W4.heap[wr.heap.size]? = some (.cells #[.string d.name, .slice a1 d.imps.length c1, .slice a2 d.exps.length c2, .slice a3 d.types.length c3, .slice a4 d.defs.length c4, .slice a5 d.convs.length c5] 43)) := by rw [hW4]; exact blk_at _ _ _ rfl
      have HO4 : Hid (OwnS W4 w.heap.size (.slice oa ls.length oc) ls) := by rw [hW4]; exact World.ownsRow.alloc hown _
      have HCL : Hid (Calls Tryz.prog 35 #[.agg #[.string d.name, .slice a1 d.imps.length c1, .slice a2 d.exps.length c2, .slice a3 d.types.length c3, .slice a4 d.defs.length c4, .slice a5 d.convs.length c5]] W4 fun e w' => Ans W4 (.bool (d.ok)) e w') := implSrc_any d a1 a2 a3 a4 a5 c1 c2 c3 c4 c5 W4 hds HRW.out
      have x0 := cell_blk (j := 0) KX.out rfl
      have x1 := cell_blk (j := 1) KX.out rfl
      have x2 := cell_blk (j := 2) KX.out rfl
      have x3 := cell_blk (j := 3) KX.out rfl
      have x4 := cell_blk (j := 4) KX.out rfl
      have x5 := cell_blk (j := 5) KX.out rfl
      rw [hW4] at x0 x1 x2 x3 x4 x5
      clear hd hlies hrows hls hown hok hds hb
      cases hdo : Srx.ok d
      · go_wp2_with (go_at_call 35; go_loud (rw [← hW4]; refine HCL.out.mono ?_; rintro e w5 ⟨rfl, hb5⟩; rw [hdo]; refine stop ?_))
        unfold Hid
        have HB5 : Hid (Below w.heap.size w w5) := HB4.out.trans (hb5.mono (by omega))
        clear hb5
        go_wp2
        go_ret
        refine ⟨?_, HB5.out⟩
        rw [HNO.out hdo]
        rfl
      · go_wp2_with (go_at_call 35; go_loud (rw [← hW4]; refine HCL.out.mono ?_; rintro e w5 ⟨rfl, hb5⟩; rw [hdo]; refine stop ?_))
        unfold Hid
        have k5 := blk_keep KX.out hb5 (by omega)
        have z0 := cell_blk (j := 0) k5 rfl
        have hs5 := hb5.size
        have how5 : OwnS w5 w.heap.size (.slice oa ls.length oc) ls := HO4.out.keep fun b hb => hb5.block b (HO4.out.blk hb).2.1
        have hb5' : Below w.heap.size w w5 := HB4.out.trans (hb5.mono (by omega))
        have HO1 : Hid ((w5.alloc (Obj.cells #[.string d.name] 9)).ownsRow w.heap.size 9 1 (.slice oa ls.length oc) ls.length (ls.map Value.string)) := World.ownsRow.alloc how5 _
        have HB1 : Hid (Below w.heap.size w (w5.alloc (Obj.cells #[.string d.name] 9))) := hb5'.alloc (by omega) _
        have HNW : Hid (∀ j u, [Value.string d.name][j]? = some u → (w5.alloc (Obj.cells #[.string d.name] 9)).cell? ((⟨w5.heap.size, 0, none⟩ : Addr).add j) = some u) := oneS (blk_at _ _ _ rfl)
        clear hb5 k5 how5 hb5' x0 x1 x2 x3 x4 x5 y0 y1 y2 y3 y4 y5
        go_wp2_with (at_builtin; go_loud (refine wpList_append_row rfl _ _ 24 rfl w.heap.size 9 i9 _ 1 16 Tryz.underlying24 hi9 hz90 hz91 hz92 rfl (by omega) (.slice oa ls.length oc) ls.length (ls.map Value.string) rfl HO1.out (some ⟨w5.heap.size, 0, none⟩) 1 1 [.string d.name] rfl rfl (fun _ => ⟨_, rfl, HNW.out⟩) (by intro u hu; simp at hu; subst hu; rfl) (by unfold maxLen; omega) (by omega) (by simp; omega) ?_; intro v' w6 hown6 hgrow hat; refine stop ?_))
        have HO6 : Hid (OwnS w6 w.heap.size v' (ls ++ [d.name])) := OwnS.snoc hown6
        have HB6 : Hid (Below w.heap.size w w6) := app_below HB1.out HB1.out.size HO1.out hgrow
        unfold Hid
        clear hown6 hgrow hat
        go_wp2
        go_roundw
        case rel => exact ⟨i + 1, by omega, by go_num, by rw [HMT.out]; exact HO6.out, HOK2.out hdo, HB6.out⟩
        case measure => simp [intOf]; omega
    · obtain rfl : i = l.length := by omega
      rw [List.take_length] at hown hoc HOK hsl ⊢
      have HOW : Hid (OwnS wr w.heap.size (.slice oa (l.map (fun t : Srx => t.name)).length oc) (l.map (fun t : Srx => t.name))) := hown
      have HB : Hid (Below w.heap.size w wr) := hb
      have hsz := hb.size
      have hlt' : decide ((l.length : Int) < (l.length : Int)) = false := by simp
      obtain ⟨zs, hzs⟩ : ∃ zs, (l.map (fun t : Srx => t.name)).map nmL = zs := ⟨_, rfl⟩
      have HQ : Hid (∀ m : Nat, m = (rise zs).length → ((m : Int) == (l.length : Int)) = srcsB l) := fun m hm => by
        subst hzs
        have h1 : l.all Srx.ok = true := List.all_eq_true.2 HOK.out
        unfold srcsB
        rw [h1, Bool.true_and, hm]
        have h2 := rise_nodup ((l.map (fun t : Srx => t.name)).map nmL)
        rw [List.length_map, List.length_map, names_toPs] at h2
        rw [names_toPs, Bool.eq_iff_iff, beq_iff_eq, decide_eq_true_iff]
        rw [← h2]
        omega
      have HCR : Hid (Calls Tryz.prog 36 #[.slice oa (l.map (fun t : Srx => t.name)).length oc] wr fun e w' => RisP w.heap.size zs wr e w') := by
        show Calls _ _ _ _ _
        rw [← hzs]
        exact rising_any w.heap.size _ (l.map (fun t : Srx => t.name)) wr (by rw [List.length_map]; omega) hsz hown
      clear hown hb HOK hzs
      rw [List.length_map] at *
      go_wp2_with (go_at_call 36; go_loud (refine HCR.out.mono ?_; rintro e w2 ⟨na, nc, rfl, hnc, hnr, hb2⟩; refine stop ?_))
      unfold Hid
      generalize hmm : (rise zs).length = m at *
      have hq := HQ.out m rfl
      have HB2 : Hid (Below w.heap.size w w2) := HB.out.trans hb2
      clear hnr hb2 hnc hmm HQ HCR HOW HB
      go_wp2
      go_ret
      exact ⟨rfl, HB2.out⟩
end Go.Proofs.YtkkpiagchkdamaaGreatDoor
set_option linter.unusedVariables false
namespace Go.Proofs.YtkkpiagchkdamaaGreatDoor
open Go.ChangeShapes Go.WideShapes Go.ChangeAt Go.RowKit
noncomputable def ordB (l : List Srx) : Bool := srcsB l && decide (closedP (toPs l)) && decide ((runO (toPs l) l.length).length = l.length)
noncomputable def ordL (l : List Srx) : List ByteArray := if ordB l then (runO (toPs l) l.length).map ofNm else []
def OrdP (l : List Srx) (w : World) (e : Ending) (w' : World) : Prop := ∃ v, e = .returned (.tuple #[v, .bool (ordB l)]) ∧ OwnS w' w.heap.size v (ordL l) ∧ Below w.heap.size w w'
theorem ordL_no {l : List Srx} (h : ordB l = false) : ordL l = [] := by simp [ordL, h]
theorem ordL_yes {l : List Srx} (h : ordB l = true) : ordL l = (runO (toPs l) l.length).map ofNm := by simp [ordL, h]
theorem filt_succ (ps : List (Nat × Nat)) (n : Nat) : (ps.filter (fun x => decide (x.1 < n + 1))).length = (ps.filter (fun x => decide (x.1 < n))).length + (ps.filter (fun x => decide (x.1 = n))).length := by
  induction ps with
  | nil => rfl
  | cons x ps ih =>
    by_cases h1 : x.1 < n
    · have h2 : x.1 < n + 1 := by omega
      have h3 : ¬ x.1 = n := by omega
      simp [h1, h2, h3]
      omega
    · by_cases h3 : x.1 = n
      · simp [h3]
        omega
      · have h2 : ¬ x.1 < n + 1 := by omega
        simp [h1, h2, h3]
        omega
theorem turned_len (N : Nat) (ps : List (Nat × Nat)) : ∀ n, (turned (grp N ps) n).length ≤ (ps.filter (fun x => decide (x.1 < n))).length
  | 0 => by simp [turned]
  | n + 1 => by
    rw [turned, List.length_append, filt_succ]
    have h1 := turned_len N ps n
    have h2 : (turn1 ((grp N ps).getD n []) n).length ≤ (ps.filter (fun x => decide (x.1 = n))).length := by
      rw [turn1, List.length_map, List.getD_eq_getElem?_getD]
      by_cases hn : n < N
      · rw [grp_at ps hn]
        simp
      · rw [List.getElem?_eq_none (by rw [grp_len]; omega)]
        simp
    omega
theorem turned_le (N : Nat) (ps : List (Nat × Nat)) (n : Nat) : (turned (grp N ps) n).length ≤ ps.length := Nat.le_trans (turned_len N ps n) (List.length_filter_le _ _)
theorem nB_ne {s : ByteArray} (h : nB s = true) : nmL s ≠ [] := by
  intro e
  have : s.toList = [] := by rw [Lib.toList_data]; exact e
  unfold nB at h
  rw [this] at h
  simp [naL] at h
  exact absurd h.1.1 (by decide)
theorem ok_of {l : List Srx} (h1 : srcsB l = true) (h2 : closedP (toPs l)) : OdOk (toPs l) := by
  unfold srcsB at h1
  simp only [Bool.and_eq_true, decide_eq_true_eq] at h1
  refine ⟨fun s hs => ?_, h1.2, h2⟩
  obtain ⟨x, hx, rfl⟩ := List.mem_map.1 hs
  have h3 := List.all_eq_true.1 h1.1 x hx
  unfold Srx.ok at h3
  simp only [Bool.and_eq_true] at h3
  exact nB_ne h3.1.1.1.1.1.1.1
theorem runO_mem {p : Ps} (hn : ∀ s ∈ p, s.1 ≠ []) : ∀ k, ∀ x ∈ runO p k, ∃ s ∈ p, s.1 = x
  | 0, x, hx => by cases hx
  | k + 1, x, hx => by
    by_cases h : bestP p (runO p k) = []
    · rw [runO, if_pos h] at hx
      exact runO_mem hn k x hx
    · rw [runO, if_neg h] at hx
      rcases List.mem_append.1 hx with hx | hx
      · exact runO_mem hn k x hx
      · obtain rfl := List.mem_singleton.1 hx
        rcases bestP_spec (runO p k) hn with ⟨h1, _⟩ | ⟨_, ⟨s, hs, _, h3⟩, _⟩
        · exact absurd h1 h
        · exact ⟨s, hs, h3⟩
theorem toPs_len (l : List Srx) : (toPs l).length = l.length := List.length_map _
set_option maxRecDepth 100000 in
set_option maxHeartbeats 1000000 in
theorem implOrder_any (a : Option Addr) (l : List Srx) (ca : Nat) (w : World) (hl : l.length ≤ 1048576) (hsm : ∀ s ∈ l, Srx.small s) (hN : (allB l).length ≤ 4194304) (hr : rgX.Row w (fun b => b < w.heap.size) a l) (hTab : TabAt 0 Lib.deBruijn64tab w) (h0 : 0 < w.heap.size) :
    Calls Tryz.prog 7 #[.slice a l.length ca] w fun e w' => OrdP l w e w' := by
  have HR : Hid (rgX.Row w (fun b => b < w.heap.size) a l) := hr
  have HSM : Hid (∀ s ∈ l, Srx.small s) := hsm
  have HTab : Hid (TabAt 0 Lib.deBruijn64tab w) := hTab
  have HSO : Hid (Calls Tryz.prog 17 #[.slice a l.length ca] w fun e w' => Ans w (.bool (srcsB l)) e w') := sourcesOk_any a l ca w hl hsm hr
  have HTI : Hid (∀ W, Below w.heap.size w W → Calls Tryz.prog 18 #[.slice a l.length ca] W fun e w' => TieP l W e w') := fun W hW => tiesOf_any a l ca W hl hN (HR.out.now (B := 0) hW)
  clear hr hsm hTab
  cases hso : srcsB l
  · have hob : ordB l = false := by simp [ordB, hso]
    go_enter Tryz.func7, Tryz.ntmps7
    go_wp2_with (go_at_call 17; go_loud (refine HSO.out.mono ?_; rintro e w1 ⟨rfl, hb1⟩; rw [hso]; refine stop ?_))
    unfold Hid
    have HB1 : Hid (Below w.heap.size w w1) := hb1
    clear hb1
    go_wp2
    go_ret2
    exact ⟨_, by rw [hob]; rfl, by rw [ordL_no hob]; exact ⟨rfl, .inl ⟨rfl, rfl⟩⟩, HB1.out⟩
  · go_enter Tryz.func7, Tryz.ntmps7
    go_wp2_with (go_at_call 17; go_loud (refine HSO.out.mono ?_; rintro e w1 ⟨rfl, hb1⟩; rw [hso]; refine stop ?_))
    unfold Hid
    have HB1 : Hid (Below w.heap.size w w1) := hb1
    have hs1 := hb1.size
    clear hb1
    go_wp2_with (go_at_call 18; go_loud (refine (HTI.out _ HB1.out).mono ?_; rintro e w2 ⟨na, nc, g, rfl, hnr, hmat, hb2⟩; refine stop ?_))
    unfold Hid
    have HB2 : Hid (Below w.heap.size w w2) := HB1.out.trans (hb2.mono hs1)
    have hs2 := hb2.size
    obtain ⟨W3, hW3⟩ : ∃ W3, W3 = w2.alloc (Obj.cells #[.slice na (srt (toPs l)).length nc, .slice (some ⟨g, 0, none⟩) (srt (toPs l)).length (srt (toPs l)).length] 47) := ⟨_, rfl⟩
    have hb3 : Below w2.heap.size w2 W3 := by rw [hW3]; exact (Below.refl _ _).alloc (Nat.le_refl _) _
    have hs3 := hb3.size
    have k3 : W3.heap[w2.heap.size]? = some (.cells #[.slice na (srt (toPs l)).length nc, .slice (some ⟨g, 0, none⟩) (srt (toPs l)).length (srt (toPs l)).length] 47) := by rw [hW3]; exact blk_at _ _ _ rfl
    have x0 := cell_blk (j := 0) k3 rfl
    have x1 := cell_blk (j := 1) k3 rfl
    have HN3 : Hid (RowS W3 W3.heap.size na ((srt (toPs l)).map ofNm)) := (hnr.below hb3).mono hs3
    have HM3 : Hid (RdMat W3 g (grp (srt (toPs l)).length (pairsOf (srt (toPs l)) (toPs l)))) := hmat.rd.now hb3
    have HB3 : Hid (Below w.heap.size w W3) := HB2.out.trans (hb3.mono (by omega))
    have HT3 : Hid (TabAt 0 Lib.deBruijn64tab W3) := tab_keep HTab.out (HB3.out.block 0 h0)
    have hnd : ((toPs l).map (·.1)).Nodup := by
      unfold srcsB at hso
      simp only [Bool.and_eq_true, decide_eq_true_eq] at hso
      exact hso.2
    have HLE := srt_len hnd
    rw [toPs_len] at HLE
    have HLE' : Hid ((srt (toPs l)).length = l.length ↔ closedP (toPs l)) := HLE
    rw [hW3] at x0 x1
    clear hnr hmat hb2 hb3 k3 hnd HLE
    by_cases hcl : closedP (toPs l)
    · have hSl : (srt (toPs l)).length = l.length := HLE'.out.2 hcl
      have hneq : (((srt (toPs l)).length : Int) != (l.length : Int)) = false := by simp [hSl]
      have hok := ok_of hso hcl
      have HOC : Hid (Calls Tryz.prog 19 #[.agg #[.slice na (srt (toPs l)).length nc, .slice (some ⟨g, 0, none⟩) (srt (toPs l)).length (srt (toPs l)).length]] W3 fun e w' => ∃ v, e = .returned v ∧ OwnS w' W3.heap.size v ((runO (toPs l) l.length).map ofNm) ∧ Below W3.heap.size W3 w') := by
        have := order_any (toPs l) na nc g (srt (toPs l)).length W3 hok rfl (by omega) (fun n => Nat.le_trans (turned_le _ _ n) (Nat.le_trans (pairs_len _ l) hN)) HN3.out HM3.out HT3.out (by omega)
        rw [← hSl]
        exact this
      have HSZ : Hid (∀ x ∈ (runO (toPs l) l.length).map ofNm, x.size ≤ 1048576) := fun x hx => by
        obtain ⟨y, hy, rfl⟩ := List.mem_map.1 hx
        obtain ⟨s, hs, rfl⟩ := runO_mem hok.ne _ y hy
        obtain ⟨z, hz, rfl⟩ := List.mem_map.1 hs
        show (ofNm (nmL z.name)).size ≤ _
        rw [of_nmL]
        exact (HSM.out z hz).1
      have hrl : ((runO (toPs l) l.length).map ofNm).length ≤ 1048576 := by
        rw [List.length_map]
        exact Nat.le_trans (runO_len _ _) hl
      have HOB : Hid (ordB l = decide (((runO (toPs l) l.length).map ofNm).length = l.length)) := by
        show _ = _
        unfold ordB
        rw [hso, decide_eq_true hcl, List.length_map]
        simp
      have HOL : Hid (ordB l = true → ordL l = (runO (toPs l) l.length).map ofNm) := fun h => ordL_yes h
      obtain ⟨rl, hrl0⟩ : ∃ rl, (runO (toPs l) l.length).map ofNm = rl := ⟨_, rfl⟩
      rw [hrl0] at hrl
      have HSZ' : Hid (∀ x ∈ rl, x.size ≤ 1048576) := by rw [← hrl0]; exact HSZ.out
      have HOC' : Hid (Calls Tryz.prog 19 #[.agg #[.slice na (srt (toPs l)).length nc, .slice (some ⟨g, 0, none⟩) (srt (toPs l)).length (srt (toPs l)).length]] W3 fun e w' => ∃ v, e = .returned v ∧ OwnS w' W3.heap.size v rl ∧ Below W3.heap.size W3 w') := by rw [← hrl0]; exact HOC.out
      have HOB' : Hid (ordB l = decide (rl.length = l.length)) := by rw [← hrl0]; exact HOB.out
      have HOL' : Hid (ordB l = true → ordL l = rl) := by rw [← hrl0]; exact HOL.out
      clear HSZ HOC HOB HOL hrl0 hok hcl HN3 HM3 HT3 hSl
      generalize hSS : (srt (toPs l)).length = N at *
      clear hSS
      go_wp2_with (go_at_call 19; go_loud (rw [← hW3]; refine HOC'.out.mono ?_; rintro e w4 ⟨v4, rfl, ho4, hb4⟩; obtain ⟨a4, c4, rfl, hc4⟩ := ho4.slice; refine stop ?_))
      unfold Hid
      have hs4 := hb4.size
      have HB4 : Hid (Below w.heap.size w w4) := HB3.out.trans (hb4.mono (by omega))
      have HCT : Hid (Calls Tryz.prog 20 #[.slice a4 rl.length c4] w4 fun e w' => ∃ v, e = .returned v ∧ OwnS w' w4.heap.size v rl ∧ Below w4.heap.size w4 w') := copyTexts_any a4 rl c4 w4 hrl HSZ'.out ho4.rowS
      clear ho4 hb4 HOC' x0 x1
      by_cases hrr : rl.length = l.length
      · have hob : ordB l = true := by rw [HOB'.out]; exact decide_eq_true hrr
        have hn2 : ((rl.length : Int) != (l.length : Int)) = false := by simp [hrr]
        clear hrr
        go_wp2_with (go_at_call 20; go_loud (refine HCT.out.mono ?_; rintro e w5 ⟨v5, rfl, ho5, hb5⟩; refine stop ?_))
        unfold Hid
        have HO5 : Hid (OwnS w5 w4.heap.size v5 rl) := ho5
        have HB5 : Hid (Below w.heap.size w w5) := HB4.out.trans (hb5.mono (by omega))
        clear ho5 hb5 HCT
        go_wp2
        go_ret2
        exact ⟨v5, by rw [hob]; rfl, by rw [HOL'.out hob]; exact HO5.out.weak (by omega), HB5.out⟩
      · have hob : ordB l = false := by rw [HOB'.out]; exact decide_eq_false hrr
        have hn2 : ((rl.length : Int) != (l.length : Int)) = true := by simp; omega
        clear hrr
        go_wp2
        go_ret2
        exact ⟨_, by rw [hob]; rfl, by rw [ordL_no hob]; exact ⟨rfl, .inl ⟨rfl, rfl⟩⟩, HB4.out⟩
    · have hob : ordB l = false := by simp [ordB, hcl]
      have hneq : (((srt (toPs l)).length : Int) != (l.length : Int)) = true := by
        have h1 : (srt (toPs l)).length ≠ l.length := fun e => hcl (HLE'.out.1 e)
        simp
        omega
      clear hcl
      generalize hSS : (srt (toPs l)).length = N at *
      clear hSS
      go_wp2
      rw [← hW3]
      go_ret2
      exact ⟨_, by rw [hob]; rfl, by rw [ordL_no hob]; exact ⟨rfl, .inl ⟨rfl, rfl⟩⟩, HB3.out⟩
end Go.Proofs.YtkkpiagchkdamaaGreatDoor
