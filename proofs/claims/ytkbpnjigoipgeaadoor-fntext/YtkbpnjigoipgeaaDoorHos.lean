/- Is a heap right? The model's way: one cell. -/
import Derived.Test.YtkbpnjigoipgeaaDoorVox
set_option linter.unusedVariables false
namespace Go.Proofs.YtkbpnjigoipgeaaDoor
open Go.ChangeShapes Go.WideShapes Go.ChangeAt Go.RowKit
set_option maxRecDepth 100000 in
theorem l6Points_any (d : Val) (w : World) :
    Calls Tryd.prog 36 #[.agg #[.int .i64 d.k, .int .i64 d.n, .string d.s]] w fun e w' => Ans w (.bool d.points) e w' := by
  have hbB : Below w.heap.size w (w.alloc (Obj.cells #[.int .i64 d.k, .int .i64 d.n, .string d.s] 26)) := (Below.refl _ _).alloc (Nat.le_refl _) _
  have HIN : Hid (∀ w, Calls Tryd.prog 23 #[.int .i64 d.k, .int .i64 5, .int .i64 7] w fun e w' => e = .returned (.bool d.points) ∧ w' = w) := fun w => l1In_any d.k 5 7 w
  go_enter Tryd.func36, Tryd.ntmps36
  go_wp2_with (go_at_call 23; refine (HIN.out _).mono ?_; rintro e w' ⟨rfl, rfl⟩)
  go_ret
  exact ⟨rfl, hbB⟩
/-- What the model asks of one value of a cell. -/
def vfit (h : List Cel) (i : Nat) (k : Int) (v : Val) : Bool := if k = 3 then v.ok h else v.ok (h.take i)
theorem fits_all (h : List Cel) (i : Nat) (c : Cel) : c.fits h i = c.vals.all (vfit h i c.k) := by
  unfold Cel.fits vfit
  by_cases hk : c.k = 3
  · simp [hk]
  · simp [hk]
theorem all_take_succ {α : Type} (p : α → Bool) {l : List α} {i : Nat} {x : α} (h : l[i]? = some x) : (l.take (i + 1)).all p = ((l.take i).all p && p x) := by
  rw [List.take_add_one, h]
  simp
theorem all_of_bad {α : Type} (p : α → Bool) {l : List α} {i : Nat} {x : α} (h : l[i]? = some x) (hp : p x = false) : l.all p = false := by
  rw [List.all_eq_false]
  exact ⟨x, List.mem_of_getElem? h, by simp [hp]⟩
set_option maxRecDepth 100000 in
set_option maxHeartbeats 4000000 in
theorem specCel_any (a : Option Addr) (h : List Cel) (ca : Nat) (i : Nat) (c : Cel) (w : World) (hl : h.length ≤ 1048576) (hi : h[i]? = some c) (hsm : ∀ d ∈ h, d.small) (hr : RowC w w.heap.size a h) :
    Calls Tryd.prog 22 #[.slice a h.length ca, .int .i64 i] w fun e w' => Ans w (.bool (c.ok h i)) e w' := by
  have hlt : i < h.length := (List.getElem?_eq_some_iff.1 hi).1
  have hs := hsm c (List.mem_of_getElem? hi)
  obtain ⟨s1, s2, s3, s4, s5, s6, s7, s8⟩ := hs
  obtain ⟨b, o, rfl, hb, an, cn, av, cv, c0, c1, c2, c3, c4, c5, hrs, hrv, l1, l2⟩ := hr i c hi
  obtain ⟨ck, cS, cA, cB, nms, vls⟩ := c
  simp only at *
  have HV : Hid (∀ (v : Val) (w1 : World), v ∈ vls → Below w.heap.size w w1 → Calls Tryd.prog 9 #[.slice (some ⟨b, o, none⟩) h.length ca, .agg #[.int .i64 v.k, .int .i64 v.n, .string v.s]] w1 fun e w' => Ans w1 (.bool (v.ok h)) e w') := fun v w1 hv hb => specVal_any v _ h ca w1 hl (s8 v hv).2.2 ((hr.below hb).mono hb.size)
  have HP : Hid (∀ (v : Val) (w1 : World), Calls Tryd.prog 36 #[.agg #[.int .i64 v.k, .int .i64 v.n, .string v.s]] w1 fun e w' => Ans w1 (.bool v.points) e w') := fun v w1 => l6Points_any v w1
  have HN : Hid (∀ (s : ByteArray) (w1 : World), s ∈ nms → Calls Tryd.prog 37 #[.string s] w1 fun e w' => Ans w1 (.bool (naL s.data.toList)) e w') := fun s w1 hv => by have := specNa_any s w1 (s7 s hv); rwa [ByteArray.toList_eq] at this
  have HRV : Hid (RowV w w.heap.size av vls) := hrv
  have HRS : Hid (RowS w w.heap.size an nms) := hrs
  have hbA : Below w.heap.size w (w.alloc (Obj.cells #[.int .i64 ck, .string cS, .int .i64 cA, .int .i64 cB, .slice an nms.length cn, .slice av vls.length cv] 40)) := (Below.refl _ _).alloc (Nat.le_refl _) _
  have kA := blk_alloc w (Obj.cells #[.int .i64 ck, .string cS, .int .i64 cA, .int .i64 cB, .slice an nms.length cn, .slice av vls.length cv] 40)
  have HFA : Hid (Cel.fits h i (⟨ck, cS, cA, cB, nms, vls⟩ : Cel) = vls.all (vfit h i ck)) := fits_all h i (⟨ck, cS, cA, cB, nms, vls⟩ : Cel)
  clear hr hrs hrv hsm
  go_enter Tryd.func22, Tryd.ntmps22
  go_wp2
  go_loopw [6] (fun o wr => ∃ k : Nat, k ≤ vls.length ∧ o = .int .i64 k ∧ (vls.take k).all (vfit h i ck) = true ∧ Below w.heap.size w wr ∧ wr.heap[w.heap.size]? = some (Obj.cells #[.int .i64 ck, .string cS, .int .i64 cA, .int .i64 cB, .slice an nms.length cn, .slice av vls.length cv] 40))
    (fun o _ => vls.length - (intOf o).toNat)
  case atStart => exact ⟨0, by omega, rfl, by simp, hbA, kA⟩
  case round =>
    clear hbA kA
    obtain ⟨k, hk, rfl, hall, hb1, k1⟩ := hrel
    have K1 : Hid (wr.heap[w.heap.size]? = some (Obj.cells #[.int .i64 ck, .string cS, .int .i64 cA, .int .i64 cB, .slice an nms.length cn, .slice av vls.length cv] 40)) := k1
    have x0 := cell_blk (j := 0) k1 rfl
    have x1 := cell_blk (j := 1) k1 rfl
    have x2 := cell_blk (j := 2) k1 rfl
    have x3 := cell_blk (j := 3) k1 rfl
    have x4 := cell_blk (j := 4) k1 rfl
    have x5 := cell_blk (j := 5) k1 rfl
    have hs1 : w.heap.size < wr.heap.size := (Array.getElem?_eq_some_iff.1 k1).1
    clear k1
    by_cases hlk : k < vls.length
    · obtain ⟨v, hv⟩ : ∃ v, vls[k]? = some v := ⟨_, List.getElem?_eq_getElem hlk⟩
      obtain ⟨b1, o1, rfl, hbb, y0, y1, y2⟩ := (HRV.out.below hb1) k v hv
      have HV2 : Hid (∀ w1, Below w.heap.size w w1 → Calls Tryd.prog 9 #[.slice (some ⟨b, o, none⟩) h.length ca, .agg #[.int .i64 v.k, .int .i64 v.n, .string v.s]] w1 fun e w' => Ans w1 (.bool (v.ok h)) e w') := fun w1 h1 => HV.out v w1 (List.mem_of_getElem? hv) h1
      by_cases hok : v.ok h = true
      · rw [hok] at HV2
        have HP2 : Hid (∀ w1, Calls Tryd.prog 36 #[.agg #[.int .i64 v.k, .int .i64 v.n, .string v.s]] w1 fun e w' => Ans w1 (.bool v.points) e w') := fun w1 => HP.out v w1
        have HX : Hid ((vls.take (k + 1)).all (vfit h i ck) = vfit h i ck v) := by show _ = _; rw [all_take_succ _ hv, hall]; rfl
        have HY : Hid (vfit h i ck v = false → Cel.ok h i (⟨ck, cS, cA, cB, nms, vls⟩ : Cel) = false) := fun hq => by
          unfold Cel.ok
          rw [HFA.out, all_of_bad _ hv hq]
          simp
        by_cases h3 : ck = 3
        · have HQ : Hid ((vls.take (k + 1)).all (vfit h i ck) = true) := by show _ = _; rw [HX.out]; unfold vfit; rw [if_pos h3]; exact hok
          subst h3
          clear hall HN HP HV hok hv HX HY
          go_wp2_with (go_at_call 9; refine (HV2.out _ hb1).mono ?_; rintro e w2 ⟨rfl, hb2⟩; have hb3 : Below w.heap.size w w2 := hb1.trans (hb2.mono hb1.size); have k2 := blk_keep K1.out hb2 hs1; have z0 := cell_blk (j := 0) k2 rfl; have z5 := cell_blk (j := 5) k2 rfl; have v0 := cell_keep y0 hb2 (by omega); have v1 := cell_keep y1 hb2 (by omega); have v2 := cell_keep y2 hb2 (by omega))
          go_roundw
          case rel => exact ⟨k + 1, by omega, by go_num, HQ.out, hb3, k2⟩
          case measure => simp [intOf]; omega
        · have e3 : decide (ck = 3) = false := by simp [h3]
          have HZ : Hid (vfit h i ck v = !(v.points && decide ((i : Int) ≤ v.n))) := by show _ = _; unfold vfit; rw [if_neg h3, Val.ok_take, hok]; rfl
          cases hp : v.points
          · have HQ : Hid ((vls.take (k + 1)).all (vfit h i ck) = true) := by show _ = _; rw [HX.out, HZ.out, hp]; rfl
            rw [hp] at HP2
            clear hall HN HP HV hok hv HX HY HZ hp
            go_wp2_with (first | (go_at_call 9; refine (HV2.out _ hb1).mono ?_; rintro e w2 ⟨rfl, hb2⟩; have hb3 : Below w.heap.size w w2 := hb1.trans (hb2.mono hb1.size); have k2 := blk_keep K1.out hb2 hs1; have z0 := cell_blk (j := 0) k2 rfl; have z5 := cell_blk (j := 5) k2 rfl; have v0 := cell_keep y0 hb2 (by omega); have v1 := cell_keep y1 hb2 (by omega); have v2 := cell_keep y2 hb2 (by omega)) | (go_at_call 36; refine (HP2.out _).mono ?_; rintro e w3 ⟨rfl, hb4⟩; have hb5 : Below w.heap.size w w3 := hb3.trans (hb4.mono hb3.size); have k3 := blk_keep k2 hb4 (by have := hb2.size; omega); have z05 := cell_blk (j := 5) k3 rfl; have u0 := cell_keep v0 hb4 (by have := hb2.size; omega); have u1 := cell_keep v1 hb4 (by have := hb2.size; omega); have u2 := cell_keep v2 hb4 (by have := hb2.size; omega)))
            go_roundw
            case rel => exact ⟨k + 1, by omega, by go_num, HQ.out, hb5, k3⟩
            case measure => simp [intOf]; omega
          · rw [hp] at HP2
            by_cases hn : (i : Int) ≤ v.n
            · have HQ : Hid (Cel.ok h i (⟨ck, cS, cA, cB, nms, vls⟩ : Cel) = false) := HY.out (by rw [HZ.out, hp, decide_eq_true hn]; rfl)
              have e4 : decide ((i : Int) ≤ v.n) = true := by simp [hn]
              clear hall HN HP HV hok hv HX HY HZ hp
              go_wp2_with (first | (go_at_call 9; refine (HV2.out _ hb1).mono ?_; rintro e w2 ⟨rfl, hb2⟩; have hb3 : Below w.heap.size w w2 := hb1.trans (hb2.mono hb1.size); have k2 := blk_keep K1.out hb2 hs1; have z0 := cell_blk (j := 0) k2 rfl; have z5 := cell_blk (j := 5) k2 rfl; have v0 := cell_keep y0 hb2 (by omega); have v1 := cell_keep y1 hb2 (by omega); have v2 := cell_keep y2 hb2 (by omega)) | (go_at_call 36; refine (HP2.out _).mono ?_; rintro e w3 ⟨rfl, hb4⟩; have hb5 : Below w.heap.size w w3 := hb3.trans (hb4.mono hb3.size); have k3 := blk_keep k2 hb4 (by have := hb2.size; omega); have z05 := cell_blk (j := 5) k3 rfl; have u0 := cell_keep v0 hb4 (by have := hb2.size; omega); have u1 := cell_keep v1 hb4 (by have := hb2.size; omega); have u2 := cell_keep v2 hb4 (by have := hb2.size; omega)))
              go_ret
              exact ⟨by rw [HQ.out]; rfl, hb5⟩
            · have HQ : Hid ((vls.take (k + 1)).all (vfit h i ck) = true) := by show _ = _; rw [HX.out, HZ.out, hp, decide_eq_false hn]; rfl
              have e4 : decide ((i : Int) ≤ v.n) = false := by simp [hn]
              clear hall HN HP HV hok hv HX HY HZ hp
              go_wp2_with (first | (go_at_call 9; refine (HV2.out _ hb1).mono ?_; rintro e w2 ⟨rfl, hb2⟩; have hb3 : Below w.heap.size w w2 := hb1.trans (hb2.mono hb1.size); have k2 := blk_keep K1.out hb2 hs1; have z0 := cell_blk (j := 0) k2 rfl; have z5 := cell_blk (j := 5) k2 rfl; have v0 := cell_keep y0 hb2 (by omega); have v1 := cell_keep y1 hb2 (by omega); have v2 := cell_keep y2 hb2 (by omega)) | (go_at_call 36; refine (HP2.out _).mono ?_; rintro e w3 ⟨rfl, hb4⟩; have hb5 : Below w.heap.size w w3 := hb3.trans (hb4.mono hb3.size); have k3 := blk_keep k2 hb4 (by have := hb2.size; omega); have z05 := cell_blk (j := 5) k3 rfl; have u0 := cell_keep v0 hb4 (by have := hb2.size; omega); have u1 := cell_keep v1 hb4 (by have := hb2.size; omega); have u2 := cell_keep v2 hb4 (by have := hb2.size; omega)))
              go_roundw
              case rel => exact ⟨k + 1, by omega, by go_num, HQ.out, hb5, k3⟩
              case measure => simp [intOf]; omega
      · have hok : v.ok h = false := by simpa using hok
        rw [hok] at HV2
        have HQ : Hid (Cel.ok h i (⟨ck, cS, cA, cB, nms, vls⟩ : Cel) = false) := by
          show _ = _
          unfold Cel.ok
          rw [HFA.out, all_of_bad _ hv (by unfold vfit; split; exact hok; rw [Val.ok_take, hok]; rfl)]
          simp
        clear hall HN HP HV hok hv
        go_wp2_with (go_at_call 9; refine (HV2.out _ hb1).mono ?_; rintro e w2 ⟨rfl, hb2⟩; have hb3 : Below w.heap.size w w2 := hb1.trans (hb2.mono hb1.size); have k2 := blk_keep K1.out hb2 hs1; have z0 := cell_blk (j := 0) k2 rfl; have z5 := cell_blk (j := 5) k2 rfl; have v0 := cell_keep y0 hb2 (by omega); have v1 := cell_keep y1 hb2 (by omega); have v2 := cell_keep y2 hb2 (by omega))
        go_ret
        exact ⟨by rw [HQ.out]; rfl, hb3⟩
    · obtain rfl : k = vls.length := by omega
      rw [List.take_length] at hall
      have HO : Hid (Cel.ok h i (⟨ck, cS, cA, cB, nms, vls⟩ : Cel) = Cel.shape (⟨ck, cS, cA, cB, nms, vls⟩ : Cel)) := by show _ = _; unfold Cel.ok; rw [HFA.out, hall, Bool.and_true]
      have hlk' : decide ((vls.length : Int) < (vls.length : Int)) = false := by simp
      clear hall HFA HV HP HRV hlk
      by_cases h1 : ck = 1
      · subst h1
        by_cases p1 : cS.size = 0
        · obtain rfl := size_zero p1
          clear p1
          by_cases p2 : cA = 0
          · subst p2
            by_cases p3 : cB = 0
            · subst p3
              by_cases p4 : nms.length = 0
              · obtain rfl := List.eq_nil_of_length_eq_zero p4
                clear p4
                by_cases p5 : vls.length = 2
                · have HQ : Hid (Cel.ok h i (⟨1, ⟨#[]⟩, 0, 0, [], vls⟩ : Cel) = true) := by show _ = _; rw [HO.out]; unfold Cel.shape; simp [p5]; rfl
                  go_wp2
                  go_ret
                  exact ⟨by rw [HQ.out]; first | rfl | (simp; done) | (simp; omega), hb1⟩
                · have g5 : decide ((vls.length : Int) = 2) = false := by simp; omega
                  have HQ : Hid (Cel.ok h i (⟨1, ⟨#[]⟩, 0, 0, [], vls⟩ : Cel) = false) := by show _ = _; rw [HO.out]; unfold Cel.shape; simp [p5]
                  go_wp2
                  go_ret
                  exact ⟨by rw [HQ.out]; first | rfl | (simp; done) | (simp; omega), hb1⟩
              · have g4 : decide ((nms.length : Int) = 0) = false := by simp; intro hq; rw [hq] at p4; exact p4 rfl
                have HQ : Hid (Cel.ok h i (⟨1, ⟨#[]⟩, 0, 0, nms, vls⟩ : Cel) = false) := by show _ = _; rw [HO.out]; unfold Cel.shape; simp [p4]
                go_wp2
                go_ret
                exact ⟨by rw [HQ.out]; first | rfl | (simp; done) | (simp; omega), hb1⟩
            · have g3 := p3
              have HQ : Hid (Cel.ok h i (⟨1, ⟨#[]⟩, 0, cB, nms, vls⟩ : Cel) = false) := by show _ = _; rw [HO.out]; unfold Cel.shape; simp [p3]
              go_wp2
              go_ret
              exact ⟨by rw [HQ.out]; first | rfl | (simp; done) | (simp; omega), hb1⟩
          · have g2 := p2
            have HQ : Hid (Cel.ok h i (⟨1, ⟨#[]⟩, cA, cB, nms, vls⟩ : Cel) = false) := by show _ = _; rw [HO.out]; unfold Cel.shape; simp [p2]
            go_wp2
            go_ret
            exact ⟨by rw [HQ.out]; first | rfl | (simp; done) | (simp; omega), hb1⟩
        · have g0 := str_ne p1
          have HQ : Hid (Cel.ok h i (⟨1, cS, cA, cB, nms, vls⟩ : Cel) = false) := by show _ = _; rw [HO.out]; unfold Cel.shape; simp [p1]
          go_wp2
          go_ret
          exact ⟨by rw [HQ.out]; first | rfl | (simp; done) | (simp; omega), hb1⟩
      by_cases h2 : ck = 2
      · subst h2
        go_wp2
        go_loopw [7] (fun o wr => ∃ k : Nat, k ≤ nms.length ∧ o = .int .i64 k ∧ (nms.take k).all (fun x => naL x.data.toList) = true ∧ Below w.heap.size w wr ∧ wr.heap[w.heap.size]? = some (Obj.cells #[.int .i64 2, .string cS, .int .i64 cA, .int .i64 cB, .slice an nms.length cn, .slice av vls.length cv] 40))
          (fun o _ => nms.length - (intOf o).toNat)
        case atStart => exact ⟨0, by omega, rfl, by simp, hb1, K1.out⟩
        case round =>
          clear hb1 K1 x0 x1 x2 x3 x4 x5 hs1
          obtain ⟨k, hk, rfl, hall, hb1, k1⟩ := hrel
          have K1 : Hid (wr.heap[w.heap.size]? = some (Obj.cells #[.int .i64 2, .string cS, .int .i64 cA, .int .i64 cB, .slice an nms.length cn, .slice av vls.length cv] 40)) := k1
          have x0 := cell_blk (j := 0) k1 rfl
          have x1 := cell_blk (j := 1) k1 rfl
          have x2 := cell_blk (j := 2) k1 rfl
          have x3 := cell_blk (j := 3) k1 rfl
          have x4 := cell_blk (j := 4) k1 rfl
          have x5 := cell_blk (j := 5) k1 rfl
          have hs1 : w.heap.size < wr.heap.size := (Array.getElem?_eq_some_iff.1 k1).1
          clear k1
          by_cases hlk : k < nms.length
          · obtain ⟨v, hv⟩ : ∃ v, nms[k]? = some v := ⟨_, List.getElem?_eq_getElem hlk⟩
            obtain ⟨b1, o1, rfl, hbb, y0⟩ := (HRS.out.below hb1) k v hv
            have HN2 : Hid (∀ w1, Calls Tryd.prog 37 #[.string v] w1 fun e w' => Ans w1 (.bool (naL v.data.toList)) e w') := fun w1 => HN.out v w1 (List.mem_of_getElem? hv)
            cases hna : naL v.data.toList
            · rw [hna] at HN2
              have HQ : Hid (Cel.ok h i (⟨2, cS, cA, cB, nms, vls⟩ : Cel) = false) := by show _ = _; rw [HO.out]; unfold Cel.shape; rw [all_of_bad _ hv hna]; simp
              clear hall HN hv hna
              go_wp2_with (go_at_call 37; refine (HN2.out _).mono ?_; rintro e w2 ⟨rfl, hb2⟩; have hb3 : Below w.heap.size w w2 := hb1.trans (hb2.mono hb1.size); have k2 := blk_keep K1.out hb2 hs1)
              go_ret
              exact ⟨by rw [HQ.out]; rfl, hb3⟩
            · rw [hna] at HN2
              have HQ : Hid ((nms.take (k + 1)).all (fun x => naL x.data.toList) = true) := by show _ = _; rw [all_take_succ _ hv, hall, hna]; rfl
              clear hall HN hv hna
              go_wp2_with (go_at_call 37; refine (HN2.out _).mono ?_; rintro e w2 ⟨rfl, hb2⟩; have hb3 : Below w.heap.size w w2 := hb1.trans (hb2.mono hb1.size); have k2 := blk_keep K1.out hb2 hs1)
              go_roundw
              case rel => exact ⟨k + 1, by omega, by go_num, HQ.out, hb3, k2⟩
              case measure => simp [intOf]; omega
          · obtain rfl : k = nms.length := by omega
            rw [List.take_length] at hall
            have HS : Hid (Cel.ok h i (⟨2, cS, cA, cB, nms, vls⟩ : Cel) = (decide (cS.size = 0) && decide (0 ≤ cA) && decide (0 ≤ cB) && decide (vls.length = nms.length))) := by show _ = _; rw [HO.out]; unfold Cel.shape; rw [hall]; simp
            have hlk' : decide ((nms.length : Int) < (nms.length : Int)) = false := by simp
            clear hall HN HRS hlk HO
            by_cases p1 : cS.size = 0
            · obtain rfl := size_zero p1
              clear p1
              by_cases p2 : 0 ≤ cA
              · have q2 : decide (0 ≤ cA) = true := by simp [p2]
                by_cases p3 : 0 ≤ cB
                · have q3 : decide (0 ≤ cB) = true := by simp [p3]
                  by_cases p4 : vls.length = nms.length
                  · have HQ : Hid (Cel.ok h i (⟨2, ⟨#[]⟩, cA, cB, nms, vls⟩ : Cel) = true) := by show _ = _; rw [HS.out]; simp [p2, p3, p4]; rfl
                    have g4 : decide ((nms.length : Int) = (vls.length : Int)) = true := by simp; omega
                    go_wp2
                    go_ret
                    exact ⟨by rw [HQ.out]; first | rfl | (simp; done) | (simp; omega), hb1⟩
                  · have HQ : Hid (Cel.ok h i (⟨2, ⟨#[]⟩, cA, cB, nms, vls⟩ : Cel) = false) := by show _ = _; rw [HS.out]; simp [p4]
                    have g4 : decide ((nms.length : Int) = (vls.length : Int)) = false := by simp; omega
                    go_wp2
                    go_ret
                    exact ⟨by rw [HQ.out]; first | rfl | (simp; done) | (simp; omega), hb1⟩
                · have HQ : Hid (Cel.ok h i (⟨2, ⟨#[]⟩, cA, cB, nms, vls⟩ : Cel) = false) := by show _ = _; rw [HS.out]; simp [p3]
                  have q3 : decide (0 ≤ cB) = false := by simp; omega
                  go_wp2
                  go_ret
                  exact ⟨by rw [HQ.out]; first | rfl | (simp; done) | (simp; omega), hb1⟩
              · have HQ : Hid (Cel.ok h i (⟨2, ⟨#[]⟩, cA, cB, nms, vls⟩ : Cel) = false) := by show _ = _; rw [HS.out]; simp [p2]
                have q2 : decide (0 ≤ cA) = false := by simp; omega
                go_wp2
                go_ret
                exact ⟨by rw [HQ.out]; first | rfl | (simp; done) | (simp; omega), hb1⟩
            · have g0 := str_ne p1
              have HQ : Hid (Cel.ok h i (⟨2, cS, cA, cB, nms, vls⟩ : Cel) = false) := by show _ = _; rw [HS.out]; simp [p1]
              go_wp2
              go_ret
              exact ⟨by rw [HQ.out]; first | rfl | (simp; done) | (simp; omega), hb1⟩
      by_cases h3 : ck = 3
      · subst h3
        by_cases p1 : cS.size = 0
        · obtain rfl := size_zero p1
          have HQ : Hid (Cel.ok h i (⟨3, ⟨#[]⟩, cA, cB, nms, vls⟩ : Cel) = false) := by show _ = _; rw [HO.out]; unfold Cel.shape; simp; intro hq; exact absurd rfl hq
          clear p1
          go_wp2
          go_ret
          exact ⟨by rw [HQ.out]; first | rfl | (simp; done) | (simp; omega), hb1⟩
        · have g0 := str_ne p1
          by_cases p2 : 0 ≤ cA ∧ cA ≤ 1000
          · have HIN : Hid (∀ w, Calls Tryd.prog 23 #[.int .i64 cA, .int .i64 0, .int .i64 1000] w fun e w' => e = .returned (.bool true) ∧ w' = w) := fun w => by have := l1In_any cA 0 1000 w; rwa [decide_eq_true p2.1, decide_eq_true p2.2] at this
            by_cases p3 : cB = 0
            · subst p3
              by_cases p4 : nms.length = 0
              · obtain rfl := List.eq_nil_of_length_eq_zero p4
                clear p4
                by_cases p5 : vls.length ≤ 8
                · have HQ : Hid (Cel.ok h i (⟨3, cS, cA, 0, [], vls⟩ : Cel) = true) := by show _ = _; rw [HO.out]; unfold Cel.shape; simp [p5, p2]; exact fun hq => p1 (by rw [hq]; rfl)
                  have g5 : decide ((vls.length : Int) ≤ 8) = true := by simp; omega
                  go_wp2_with (go_at_call 23; refine (HIN.out _).mono ?_; rintro e w' ⟨rfl, rfl⟩)
                  go_ret
                  exact ⟨by rw [HQ.out]; first | rfl | (simp; done) | (simp; omega), hb1⟩
                · have HQ : Hid (Cel.ok h i (⟨3, cS, cA, 0, [], vls⟩ : Cel) = false) := by show _ = _; rw [HO.out]; unfold Cel.shape; simp [p5]
                  have g5 : decide ((vls.length : Int) ≤ 8) = false := by simp; omega
                  go_wp2_with (go_at_call 23; refine (HIN.out _).mono ?_; rintro e w' ⟨rfl, rfl⟩)
                  go_ret
                  exact ⟨by rw [HQ.out]; first | rfl | (simp; done) | (simp; omega), hb1⟩
              · have HQ : Hid (Cel.ok h i (⟨3, cS, cA, 0, nms, vls⟩ : Cel) = false) := by show _ = _; rw [HO.out]; unfold Cel.shape; simp [p4]
                have g4 : decide ((nms.length : Int) = 0) = false := by simp; intro hq; rw [hq] at p4; exact p4 rfl
                go_wp2_with (go_at_call 23; refine (HIN.out _).mono ?_; rintro e w' ⟨rfl, rfl⟩)
                go_ret
                exact ⟨by rw [HQ.out]; first | rfl | (simp; done) | (simp; omega), hb1⟩
            · have HQ : Hid (Cel.ok h i (⟨3, cS, cA, cB, nms, vls⟩ : Cel) = false) := by show _ = _; rw [HO.out]; unfold Cel.shape; simp [p3]
              go_wp2_with (go_at_call 23; refine (HIN.out _).mono ?_; rintro e w' ⟨rfl, rfl⟩)
              go_ret
              exact ⟨by rw [HQ.out]; first | rfl | (simp; done) | (simp; omega), hb1⟩
          · have HIN : Hid (∀ w, Calls Tryd.prog 23 #[.int .i64 cA, .int .i64 0, .int .i64 1000] w fun e w' => e = .returned (.bool false) ∧ w' = w) := fun w => by have := l1In_any cA 0 1000 w; rwa [show (decide (0 ≤ cA) && decide (cA ≤ 1000)) = false by simp; omega] at this
            have HQ : Hid (Cel.ok h i (⟨3, cS, cA, cB, nms, vls⟩ : Cel) = false) := by show _ = _; rw [HO.out]; unfold Cel.shape; simp; omega
            go_wp2_with (go_at_call 23; refine (HIN.out _).mono ?_; rintro e w' ⟨rfl, rfl⟩)
            go_ret
            exact ⟨by rw [HQ.out]; first | rfl | (simp; done) | (simp; omega), hb1⟩
      have HQ : Hid (Cel.ok h i (⟨ck, cS, cA, cB, nms, vls⟩ : Cel) = false) := by show _ = _; rw [HO.out]; unfold Cel.shape; simp [h1, h2, h3]
      go_wp2
      go_ret
      exact ⟨by rw [HQ.out]; first | rfl | (simp; done) | (simp; omega), hb1⟩
end Go.Proofs.YtkbpnjigoipgeaaDoor
