/- The model's Prim. -/
import Derived.Test.YtngelfohpkpekaaPsq
import Derived.Test.YtngelfohpkpekaaHot
set_option linter.unusedVariables false
namespace Go.Proofs.Ytngelfohpkpekaa
open Go.ChangeShapes Go.WideShapes Go.ChangeAt Go.RowKit
abbrev Z28 : Obj := Obj.cells #[.int .i64 0, .int .i64 0, .string ⟨#[]⟩] 29
theorem alloc_lt (W : World) (o : Obj) {b : Nat} (h : b < W.heap.size) : (W.alloc o).heap[b]? = W.heap[b]? := by
  show (Array.push _ _)[b]? = _
  rw [Array.getElem?_push_lt h, Array.getElem?_eq_getElem h]
/-- No good one, for want of a part. -/
theorem no_heap {h : List Cel} {s : ByteArray} {a : List Val} {r : List Cel × Val × Int} (hn : ¬ HeapP h) (hr : PrimR h s a r) : r = (h, zv, 2) := by
  rcases hr with ⟨p, hg, _⟩ | ⟨_, e⟩
  · exact absurd hg.2.1 hn
  · exact e
theorem no_word {h : List Cel} {s : ByteArray} {a : List Val} {r : List Cel × Val × Int} (hn : plL s.toList = false) (hr : PrimR h s a r) : r = (h, zv, 2) := by
  rcases hr with ⟨p, hg, _⟩ | ⟨_, e⟩
  · have := (plL_of hg.1).1
    rw [hn] at this
    cases this
  · exact e
theorem no_count {h : List Cel} {s : ByteArray} {a : List Val} {r : List Cel × Val × Int} (hn : (a.length : Int) ≠ arL s.toList) (hr : PrimR h s a r) : r = (h, zv, 2) := by
  rcases hr with ⟨p, hg, _⟩ | ⟨_, e⟩
  · have := (plL_of hg.1).2
    exact absurd (by rw [this, hg.2.2.1]) hn
  · exact e
theorem no_value {h : List Cel} {s : ByteArray} {a : List Val} {r : List Cel × Val × Int} {v : Val} (hv : v ∈ a) (hn : v.ok h = false) (hr : PrimR h s a r) : r = (h, zv, 2) := by
  rcases hr with ⟨p, hg, _⟩ | ⟨_, e⟩
  · have := hg.2.2.2 v hv
    rw [hn] at this
    cases this
  · exact e
theorem is_good {h : List Cel} {s : ByteArray} {a : List Val} {r : List Cel × Val × Int} (h1 : HeapP h) (h2 : plL s.toList = true) (h3 : (a.length : Int) = arL s.toList) (h4 : ∀ v ∈ a, v.ok h = true) (hr : PrimR h s a r) : ∃ p, GoodP p h s a ∧ r = primP p h a := by
  rcases hr with h | ⟨hn, _⟩
  · exact h
  · obtain ⟨p, hp⟩ := of_plL h2
    refine absurd ⟨p, hp, h1, ?_, h4⟩ hn
    rw [(plL_of hp).2] at h3
    omega
set_option maxRecDepth 100000 in
set_option maxHeartbeats 4000000 in
theorem specPrim_any (ah : Option Addr) (ch : Nat) (h : List Cel) (s : ByteArray) (aa : Option Addr) (ca : Nat) (a : List Val) (r : List Cel × Val × Int) (w : World) (hl : h.length ≤ 1048576) (hsm : ∀ d ∈ h, d.small) (hla : a.length ≤ 1048576) (has : ∀ v ∈ a, v.small)
    (hrh : RowC w w.heap.size ah h) (hra : RowV w w.heap.size aa a) (hR : PrimR h s a r) :
    Calls Try.prog 7 #[.slice ah h.length ch, .string s, .slice aa a.length ca] w fun e w' => PpPost w.heap.size r w e w' := by
  obtain ⟨i28, hi28, hz280, hz281, hz282⟩ := info_parts info28
  have hb0 : Below w.heap.size w (w.alloc Z28) := (Below.refl _ _).alloc (Nat.le_refl _) _
  have hk0 : (w.alloc Z28).heap[w.heap.size]? = some Z28 := blk_at _ _ _ rfl
  have hs0 : (w.alloc Z28).heap.size = w.heap.size + 1 := by simp
  have HCP : Hid (Calls Try.prog 26 #[.slice ah h.length ch] (w.alloc Z28) fun e w' => ∃ v, e = .returned v ∧ OwnH w' (w.alloc Z28).heap.size w'.heap.size v h ∧ Below (w.alloc Z28).heap.size (w.alloc Z28) w') := copyCells_any ah h ch _ hl hsm ((hrh.below hb0).mono hb0.size)
  have HHO : Hid (∀ w1, Below w.heap.size w w1 → Calls Try.prog 8 #[.slice ah h.length ch] w1 fun e w' => HpPost h w1 e w') := fun w1 hb => specHeap_any ah h ch w1 hl hsm ((hrh.below hb).mono hb.size)
  have HPL : Hid (∀ w, Calls Try.prog 27 #[.string s] w fun e w' => Ans w (.bool (plL s.toList)) e w') := fun w => l7Plain_any s w
  have HAR : Hid (∀ w, Calls Try.prog 15 #[.string s] w fun e w' => e = .returned (.int .i64 (arL s.toList)) ∧ w' = w) := fun w => specAr_any s w
  have HVO : Hid (∀ (v : Val) (w1 : World), v ∈ a → Below w.heap.size w w1 → Calls Try.prog 9 #[.slice ah h.length ch, .agg #[.int .i64 v.k, .int .i64 v.n, .string v.s]] w1 fun e w' => Ans w1 (.bool (v.ok h)) e w') := fun v w1 hv hb => specVal_any v _ h ch w1 hl (has v hv).2.2 ((hrh.below hb).mono hb.size)
  have HLP : Hid (∀ (p B : Nat) (ah : Option Addr) (ch : Nat) (aa : Option Addr) (ca : Nat) (w : World), GoodP p h s a → B ≤ w.heap.size → OwnH w B w.heap.size (.slice ah h.length ch) h → RowV w w.heap.size aa a → Calls Try.prog 28 #[.slice ah h.length ch, .string s, .slice aa a.length ca] w fun e w' => PpPost B (primP p h a) w e w') := fun p B ah ch aa ca w h1 h2 h3 h4 => l7Prim_all p B ah ch h s aa ca a w h1 h2 h3 h4
  have HRA : Hid (RowV w w.heap.size aa a) := hra
  have HR : Hid (PrimR h s a r) := hR
  have HBAD : Hid (∀ (W : World) (v : Value), r = (h, zv, 2) → OwnH W (w.heap.size + 1) W.heap.size v h → Below w.heap.size w W → W.heap[w.heap.size]? = some Z28 → PpPost w.heap.size r w (.returned (.tuple #[v, .agg #[.int .i64 0, .int .i64 0, .string ⟨#[]⟩], .int .i64 2])) (((W.setCell ⟨w.heap.size, 0, none⟩ (.int .i64 0)).setCell ⟨w.heap.size, 1, none⟩ (.int .i64 0)).setCell ⟨w.heap.size, 2, none⟩ (.string ⟨#[]⟩))) := fun W v he ho hb hk => by
    subst he
    have oth : ∀ b, b ≠ w.heap.size → (((W.setCell ⟨w.heap.size, 0, none⟩ (.int .i64 0)).setCell ⟨w.heap.size, 1, none⟩ (.int .i64 0)).setCell ⟨w.heap.size, 2, none⟩ (.string ⟨#[]⟩)).heap[b]? = W.heap[b]? := fun b hb => (heap_setCell_other _ _ _ _ hb).trans ((heap_setCell_other _ _ _ _ hb).trans (heap_setCell_other _ _ _ _ hb))
    exact ⟨v, rfl, ((ho.keep fun b h1 _ _ => oth b (by omega)).weak (Nat.le_succ _) (by simp)), put_below hb (Nat.le_refl _) _ _ _⟩
  clear hrh hra hsm has hR
  go_enter Try.func7, Try.ntmps7
  go_wp2_with fail
  refine HCP.out.mono ?_
  rintro e w1 ⟨xv, rfl, ho1, hb1⟩
  rw [hs0] at ho1
  have k1 := blk_keep hk0 hb1 (by omega)
  have hbw1 := hb0.trans (hb1.mono hb0.size)
  obtain ⟨xa, xc, rfl, hxc⟩ := ho1.slice
  have HO1 : Hid (OwnH w1 (w.heap.size + 1) w1.heap.size (.slice xa h.length xc) h) := ho1
  have K1 : Hid (w1.heap[w.heap.size]? = some Z28) := k1
  have HB1 : Hid (Below w.heap.size w w1) := hbw1
  clear ho1 k1 hbw1 hb1 hb0 hk0 hs0 HCP
  go_wp2_with fail
  refine (HHO.out _ HB1.out).mono ?_
  rintro e w2 ⟨b2, rfl, hq2, hb2⟩
  have HO2 : Hid (OwnH w2 (w.heap.size + 1) w2.heap.size (.slice xa h.length xc) h) := HO1.out.fin hb2
  have k2 := blk_keep K1.out hb2 (Array.getElem?_eq_some_iff.1 K1.out).1
  have K2 : Hid (w2.heap[w.heap.size]? = some Z28) := k2
  have HB2 : Hid (Below w.heap.size w w2) := HB1.out.trans (hb2.mono HB1.out.size)
  clear hb2 HB1 K1 HO1 HHO
  have HQ2 : Hid (b2 = true ↔ HeapP h) := hq2
  clear hq2
  cases b2 with
  | false =>
    have he : r = (h, zv, 2) := no_heap (fun hh => by have := HQ2.out.2 hh; cases this) HR.out
    have g0 := cell_blk (j := 0) k2 rfl
    have g1 := cell_blk (j := 1) k2 rfl
    have g2 := cell_blk (j := 2) k2 rfl
    have z0 := frozen_blk k2 0
    have z1 := frozen_blk k2 1
    have z2 := frozen_blk k2 2
    have HE : Hid (r = (h, zv, 2)) := he
    clear he k2
    go_wp2
    refine bodyPost_ret (res_tct rfl _ _ w.heap.size _ _ _ rfl (put_blk _ _ _ K2.out)) rfl ?_
    exact HBAD.out _ _ HE.out HO2.out HB2.out K2.out
  | true =>
    have hH : HeapP h := HQ2.out.1 rfl
    have HH : Hid (HeapP h) := hH
    clear hH k2
    go_wp2_with fail
    refine (HPL.out _).mono ?_
    rintro e w3 ⟨rfl, hb3⟩
    have HO3 : Hid (OwnH w3 (w.heap.size + 1) w3.heap.size (.slice xa h.length xc) h) := HO2.out.fin hb3
    have K3 : Hid (w3.heap[w.heap.size]? = some Z28) := blk_keep K2.out hb3 (Array.getElem?_eq_some_iff.1 K2.out).1
    have HB3 : Hid (Below w.heap.size w w3) := HB2.out.trans (hb3.mono HB2.out.size)
    clear hb3 HB2 K2 HO2 HPL
    obtain ⟨pb, hpb⟩ : ∃ pb, plL s.toList = pb := ⟨_, rfl⟩
    rw [hpb]
    have HPB : Hid (plL s.toList = pb) := hpb
    clear hpb
    cases pb with
    | false =>
      have he : r = (h, zv, 2) := no_word HPB.out HR.out
      have k9 := K3.out
      have g0 := cell_blk (j := 0) k9 rfl
      have g1 := cell_blk (j := 1) k9 rfl
      have g2 := cell_blk (j := 2) k9 rfl
      have z0 := frozen_blk k9 0
      have z1 := frozen_blk k9 1
      have z2 := frozen_blk k9 2
      have HE : Hid (r = (h, zv, 2)) := he
      clear he k9
      go_wp2
      refine bodyPost_ret (res_tct rfl _ _ w.heap.size _ _ _ rfl (put_blk _ _ _ K3.out)) rfl ?_
      exact HBAD.out _ _ HE.out HO3.out HB3.out K3.out
    | true =>
      go_wp2_with fail
      refine (HAR.out _).mono ?_
      rintro e w4 ⟨rfl, rfl⟩
      clear HAR
      by_cases hc : (a.length : Int) = arL s.toList
      · have hc1 : ((a.length : Int) != arL s.toList) = false := by rw [bne_eq_false_iff_eq]; exact hc
        have HC : Hid ((a.length : Int) = arL s.toList) := hc
        clear hc
        go_wp2
        go_loopw [10] (fun o wr => ∃ (i : Nat), i ≤ a.length ∧ o = .int .i64 i ∧ (∀ j v, j < i → a[j]? = some v → v.ok h = true) ∧ OwnH wr (w.heap.size + 1) wr.heap.size (.slice xa h.length xc) h ∧ wr.heap[w.heap.size]? = some Z28 ∧ Below w.heap.size w wr)
          (fun o _ => a.length - (intOf o).toNat)
        case atStart => exact ⟨0, Nat.zero_le _, rfl, fun j v hj => by omega, HO3.out, K3.out, HB3.out⟩
        case round =>
          clear HO3 K3 HB3
          obtain ⟨i, hi, rfl, hok, ho, hk, hb⟩ := hrel
          have HOK : Hid (∀ j v, j < i → a[j]? = some v → v.ok h = true) := hok
          have HO5 : Hid (OwnH wr (w.heap.size + 1) wr.heap.size (.slice xa h.length xc) h) := ho
          have K5 : Hid (wr.heap[w.heap.size]? = some Z28) := hk
          have HB5 : Hid (Below w.heap.size w wr) := hb
          by_cases hlt : i < a.length
          · obtain ⟨v, hv⟩ : ∃ v, a[i]? = some v := ⟨_, List.getElem?_eq_getElem hlt⟩
            obtain ⟨b, o, rfl, hbl, c0, c1, c2⟩ := (HRA.out.below hb) i v hv
            have hmem := List.mem_of_getElem? hv
            have HV : Hid (Calls Try.prog 9 #[.slice ah h.length ch, .agg #[.int .i64 v.k, .int .i64 v.n, .string v.s]] wr fun e w' => Ans wr (.bool (v.ok h)) e w') := HVO.out v wr hmem hb
            have HVV : Hid (a[i]? = some v) := hv
            clear hok ho hk hb hv
            go_wp2_with fail
            refine HV.out.mono ?_
            rintro e w6 ⟨rfl, hb6⟩
            have HO6 : Hid (OwnH w6 (w.heap.size + 1) w6.heap.size (.slice xa h.length xc) h) := HO5.out.fin hb6
            have K6 : Hid (w6.heap[w.heap.size]? = some Z28) := blk_keep K5.out hb6 (Array.getElem?_eq_some_iff.1 K5.out).1
            have HB6 : Hid (Below w.heap.size w w6) := HB5.out.trans (hb6.mono HB5.out.size)
            obtain ⟨vb, hvb⟩ : ∃ vb, v.ok h = vb := ⟨_, rfl⟩
            rw [hvb]
            have HVB : Hid (v.ok h = vb) := hvb
            clear hb6 HB5 K5 HO5 hvb c0 c1 c2 HV
            cases vb with
            | false =>
              have he : r = (h, zv, 2) := no_value hmem HVB.out HR.out
              have k9 := K6.out
              have g0 := cell_blk (j := 0) k9 rfl
              have g1 := cell_blk (j := 1) k9 rfl
              have g2 := cell_blk (j := 2) k9 rfl
              have z0 := frozen_blk k9 0
              have z1 := frozen_blk k9 1
              have z2 := frozen_blk k9 2
              have HE : Hid (r = (h, zv, 2)) := he
              clear he k9
              go_wp2
              refine bodyPost_ret (res_tct rfl _ _ w.heap.size _ _ _ rfl (put_blk _ _ _ K6.out)) rfl ?_
              exact HBAD.out _ _ HE.out HO6.out HB6.out K6.out
            | true =>
              go_wp2
              go_roundw
              case rel =>
                refine ⟨i + 1, by omega, by go_num, fun j v' hj hv' => ?_, HO6.out, K6.out, HB6.out⟩
                by_cases hji : j = i
                · subst hji
                  obtain rfl : v = v' := Option.some.inj (HVV.out.symm.trans hv')
                  exact HVB.out
                · exact HOK.out j v' (by omega) hv'
              case measure => simp [intOf]; omega
          · have hlt' : decide ((i : Int) < (a.length : Int)) = false := by simp; omega
            obtain rfl : i = a.length := by omega
            obtain ⟨p, hg, hrp⟩ := is_good HH.out HPB.out HC.out (fun v hv => by obtain ⟨j, hj⟩ := List.getElem?_of_mem hv; exact hok j v (List.getElem?_eq_some_iff.1 hj).1 hj) HR.out
            have HG : Hid (GoodP p h s a) := hg
            have HRP : Hid (r = primP p h a) := hrp
            have hb7 : Below wr.heap.size wr (wr.alloc (Obj.cells #[] 29)) := (Below.refl _ _).alloc (Nat.le_refl _) _
            have hn7 := news_V (w := wr.alloc (Obj.cells #[] 29)) (p := fun b => b < w.heap.size) (RowVP.keep (w := w) (p := fun b => b < w.heap.size) HRA.out fun b hb' => ⟨hb', (hb7.block b (Nat.lt_of_lt_of_le hb' hb.size)).trans (hb.block b hb')⟩)
            have ho7 : (wr.alloc (Obj.cells #[] 29)).ownsRow wr.heap.size 29 3 (.slice (some ⟨wr.heap.size, 0, none⟩) 0 0) 0 [] := own_empty (blk_at _ _ _ rfl) (Nat.le_refl _)
            clear hok ho hk hg hrp HOK HVO HRA
            go_wp2_with (at_builtin; go_loud (refine wpList_append_row rfl _ _ 25 rfl wr.heap.size 29 i28 _ 3 32 Try.underlying25 hi28 hz280 hz281 hz282 rfl (by omega) (.slice (some ⟨wr.heap.size, 0, none⟩) 0 0) 0 [] rfl ho7 aa a.length ca (vcells a) rfl (vcells_len _) hn7 (vcells_one _) (by unfold maxLen; omega) (by omega) (by simp) ?_; intro nv w8 hown8 hgr8 hat8; refine stop ?_))
            rw [Nat.zero_add, List.nil_append] at hown8
            have hov := OwnV.of hown8
            have hb8 : Below wr.heap.size wr w8 := hb7.grown hgr8 (by simp) (by intro k hk; simp [Value.ownBlock] at hk; omega)
            obtain ⟨av, cv, rfl, hcv⟩ := hov.slice
            have HO8 : Hid (OwnH w8 (w.heap.size + 1) w8.heap.size (.slice xa h.length xc) h) := HO5.out.fin hb8
            have hk8 := blk_keep K5.out hb8 (Array.getElem?_eq_some_iff.1 K5.out).1
            have K8 : Hid (w8.heap[w.heap.size]? = some Z28) := hk8
            have HB8 : Hid (Below w.heap.size w w8) := HB5.out.trans (hb8.mono HB5.out.size)
            have HCL : Hid (Calls Try.prog 28 #[.slice xa h.length xc, .string s, .slice av a.length cv] w8 fun e w' => PpPost (w.heap.size + 1) (primP p h a) w8 e w') := HLP.out p (w.heap.size + 1) xa xc av cv w8 HG.out (Array.getElem?_eq_some_iff.1 hk8).1 HO8.out (hov.row.keep fun b hb' => ⟨(hov.blk hb').2.1, rfl⟩)
            rw [← HRP.out] at HCL
            clear hown8 hgr8 hat8 hov hb8 hb7 hn7 ho7 HO5 K5 HB5 HLP hk8
            unfold Hid
            go_wp2_with fail
            refine HCL.out.mono ?_
            rintro e w9 ⟨hv9, rfl, ho9, hb9⟩
            have k9 := (hb9.block w.heap.size (by omega)).trans K8.out
            have kA : (w9.alloc (Obj.cells #[.int .i64 r.2.1.k, .int .i64 r.2.1.n, .string r.2.1.s] 29)).heap[w.heap.size]? = some Z28 := blk_past k9
            have KA : Hid ((w9.alloc (Obj.cells #[.int .i64 r.2.1.k, .int .i64 r.2.1.n, .string r.2.1.s] 29)).heap[w.heap.size]? = some Z28) := kA
            have a0 := cell_blk (j := 0) kA rfl
            have a1 := cell_blk (j := 1) kA rfl
            have a2 := cell_blk (j := 2) kA rfl
            have q0 := frozen_blk kA 0
            have q1 := frozen_blk kA 1
            have q2 := frozen_blk kA 2
            have K9 : Hid (w9.heap[w.heap.size]? = some Z28) := k9
            have g0 := cell_blk (j := 0) k9 rfl
            have g1 := cell_blk (j := 1) k9 rfl
            have g2 := cell_blk (j := 2) k9 rfl
            have z0 := frozen_blk k9 0
            have z1 := frozen_blk k9 1
            have z2 := frozen_blk k9 2
            have HO9 : Hid (OwnH w9 (w.heap.size + 1) w9.heap.size hv9 r.1) := ho9
            have HB9 : Hid (Below w.heap.size w w9) := HB8.out.trans (hb9.mono (by omega))
            have hs9 : w.heap.size < w9.heap.size := (Array.getElem?_eq_some_iff.1 k9).1
            clear k9 kA ho9 hb9 HCL K8 HO8 HB8
            go_wp2_with fail
            go_region
            all_goals go_wp2
            all_goals
              refine bodyPost_ret (res_tct rfl _ _ w.heap.size _ _ _ rfl (blk_past (put_blk _ _ _ K9.out))) rfl ?_
              refine ⟨hv9, rfl, ((HO9.out.keep fun b h1 _ h3 => ?_).weak (Nat.le_succ _) ?_), below_drewN ((put_below HB9.out (Nat.le_refl _) _ _ _).alloc (by simp; omega) _) 1⟩
              · refine (alloc_lt _ _ (by simpa using h3)).trans ?_
                have hb : b ≠ w.heap.size := by omega
                exact (heap_setCell_other _ _ _ _ hb).trans ((heap_setCell_other _ _ _ _ hb).trans (heap_setCell_other _ _ _ _ hb))
              · show w9.heap.size ≤ (Array.push _ _).size
                simp
      · have hc1 : ((a.length : Int) != arL s.toList) = true := by rw [bne_iff_ne]; exact hc
        have HC : Hid ((a.length : Int) ≠ arL s.toList) := hc
        have he1 : r = (h, zv, 2) := no_count HC.out HR.out
        clear hc HC
        have he : r = (h, zv, 2) := he1
        have k9 := K3.out
        have g0 := cell_blk (j := 0) k9 rfl
        have g1 := cell_blk (j := 1) k9 rfl
        have g2 := cell_blk (j := 2) k9 rfl
        have z0 := frozen_blk k9 0
        have z1 := frozen_blk k9 1
        have z2 := frozen_blk k9 2
        have HE : Hid (r = (h, zv, 2)) := he
        clear he k9
        go_wp2
        refine bodyPost_ret (res_tct rfl _ _ w.heap.size _ _ _ rfl (put_blk _ _ _ K3.out)) rfl ?_
        exact HBAD.out _ _ HE.out HO3.out HB3.out K3.out
end Go.Proofs.Ytngelfohpkpekaa
