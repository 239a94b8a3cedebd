/- The names as they come. -/
import Derived.Test.YtkkpiagchkdamaaGreatDoorOim
import Derived.Test.YtkkpiagchkdamaaGreatDoorOdq
import Derived.Deep.RegionWith
import Derived.Deep.RegionHeldLaw
import Derived.Deep.RegionHeld3
set_option linter.unusedVariables false
namespace Go.Proofs.YtkkpiagchkdamaaGreatDoor
open Go.ChangeShapes Go.WideShapes Go.ChangeAt Go.RowKit
/-- Two blocks alone may have changed. -/
structure Kp (g h : Nat) (W w : World) : Prop where
  os : w.os = W.os
  tape : w.tape = W.tape
  output : w.output = W.output
  size : W.heap.size ≤ w.heap.size
  block : ∀ b, b < W.heap.size → b ≠ g → b ≠ h → w.heap[b]? = W.heap[b]?
theorem Kp.refl (g h : Nat) (W : World) : Kp g h W W := ⟨rfl, rfl, rfl, Nat.le_refl _, fun _ _ _ _ => rfl⟩
theorem Kp.below {g h : Nat} {W w w' : World} (k : Kp g h W w) (hb : Below w.heap.size w w') : Kp g h W w' :=
  ⟨hb.os.trans k.os, hb.tape.trans k.tape, hb.output.trans k.output, Nat.le_trans k.size hb.size, fun b h1 h2 h3 => (hb.block b (Nat.lt_of_lt_of_le h1 k.size)).trans (k.block b h1 h2 h3)⟩
theorem Kp.left {g h : Nat} {W w w' : World} (k : Kp g h W w) (hb : w.grownBy w' (some g)) : Kp g h W w' :=
  ⟨hb.os.trans k.os, hb.tape.trans k.tape, hb.output.trans k.output, Nat.le_trans k.size hb.size, fun b h1 h2 h3 => (hb.block b (Nat.lt_of_lt_of_le h1 k.size) (by intro e; injection e with e; exact h2 e)).trans (k.block b h1 h2 h3)⟩
theorem Kp.right {g h : Nat} {W w w' : World} (k : Kp g h W w) (hb : w.grownBy w' (some h)) : Kp g h W w' :=
  ⟨hb.os.trans k.os, hb.tape.trans k.tape, hb.output.trans k.output, Nat.le_trans k.size hb.size, fun b h1 h2 h3 => (hb.block b (Nat.lt_of_lt_of_le h1 k.size) (by intro e; injection e with e; exact h3 e)).trans (k.block b h1 h2 h3)⟩
theorem Kp.own {g h : Nat} {W w w' : World} {v : Value} (k : Kp g h W w) (hv : ∀ b, v.ownBlock = some b → W.heap.size ≤ b) (hb : w.grownBy w' v.ownBlock) : Kp g h W w' :=
  ⟨hb.os.trans k.os, hb.tape.trans k.tape, hb.output.trans k.output, Nat.le_trans k.size hb.size, fun b h1 h2 h3 => (hb.block b (Nat.lt_of_lt_of_le h1 k.size) (fun e => by have := hv b e.symm; omega)).trans (k.block b h1 h2 h3)⟩
theorem Kp.alloc {g h : Nat} {W w : World} (k : Kp g h W w) (o : Obj) : Kp g h W (w.alloc o) := k.below ((Below.refl _ _).alloc (Nat.le_refl _) o)
/-- What is marked ready at first. -/
def ini (II : List (List Nat)) (n k : Nat) : Bool := decide (k < n) && (II.getD k []).isEmpty
theorem ini_rdy (N : Nat) (II : List (List Nat)) (k : Nat) : ini II N k = rdy N II [] k := by
  unfold ini rdy
  cases II.getD k [] <;> simp
theorem Kp.bel {g h B : Nat} {W w : World} (k : Kp g h W w) (hB : B ≤ W.heap.size) (hg : B ≤ g) (hh : B ≤ h) : Below B W w :=
  ⟨k.os, k.tape, k.output, k.size, fun b hb => k.block b (by omega) (by omega) (by omega)⟩
def slLen : Value → Nat
  | .slice _ n _ => n
  | _ => 0
theorem ini_snoc {II : List (List Nat)} {n : Nat} {r : List Nat} (hr : II[n]? = some r) (k : Nat) : ini II (n + 1) k = (ini II n k || (decide (k = n) && decide (r.length = 0))) := by
  unfold ini
  by_cases hk : k = n
  · subst hk
    rw [List.getD_eq_getElem?_getD, hr]
    cases r <;> simp
  · have : decide (k < n + 1) = decide (k < n) := decide_eq_decide.2 (by omega)
    rw [this]
    simp [hk]
theorem lt_range {o : List Nat} {N n : Nat} (hd : o.Nodup) (ho : ∀ i ∈ o, i < N) (hn : n < N) (hno : n ∉ o) : o.length < N := by
  have h1 : (n :: o).length ≤ (List.range N).length := nodup_len (List.nodup_cons.2 ⟨hno, hd⟩) fun x hx => by
    rcases List.mem_cons.1 hx with rfl | hx
    · exact List.mem_range.2 hn
    · exact List.mem_range.2 (ho x hx)
  rw [List.length_range] at h1
  exact h1
theorem rdy_no {N : Nat} {II : List (List Nat)} {o : List Nat} {n : Nat} (h : rdy N II o n = true) : n < N ∧ n ∉ o ∧ ∀ j ∈ II.getD n [], j ∈ o := by
  unfold rdy at h
  simp only [Bool.and_eq_true, decide_eq_true_eq, Bool.not_eq_true', List.all_eq_true, List.contains_iff_mem] at h
  refine ⟨h.1.1, fun hm => ?_, h.2⟩
  have := h.1.2
  rw [List.contains_iff_mem.2 hm] at this
  cases this
theorem cont_snoc (o : List Nat) (n k : Nat) : (o ++ [n]).contains k = (o.contains k || decide (k = n)) := by
  rw [Bool.eq_iff_iff]
  simp
/-- The state ahead of each round. -/
def OSt (p : Ps) (S : List Nm) (II : List (List Nat)) (N gt gr m : Nat) (W9 : World) (v8 v9 : Value) (wr : World) : Prop :=
  ∃ o : List Nat, o.Nodup ∧ (∀ i ∈ o, i < N) ∧ (∀ i ∈ o, ∀ j ∈ II.getD i [], j ∈ o) ∧ runO p o.length = nmO S o ∧ OwnS wr W9.heap.size v8 ((nmO S o).map ofNm) ∧ MkRow wr gt m (fun k => o.contains k) ∧ Kp gt gr W9 wr ∧
    ((v9 = .int .i64 (-1) ∧ ∀ k, k < N → rdy N II o k = false) ∨ ∃ n : Nat, v9 = .int .i64 n ∧ rdy N II o n = true ∧ (∀ k, k < n → rdy N II o k = false) ∧ MkRow wr gr m (fun k => rdy N II o k && decide (k ≠ n)))
theorem ost_of {p : Ps} {S : List Nm} {II : List (List Nat)} {N gt gr m : Nat} {W9 w w' : World} {v8 : Value} {e : Ending} {o : List Nat} (hd : o.Nodup) (ho : ∀ i ∈ o, i < N) (hc : ∀ i ∈ o, ∀ j ∈ II.getD i [], j ∈ o) (hrun : runO p o.length = nmO S o) (how : OwnS w W9.heap.size v8 ((nmO S o).map ofNm)) (hmt : MkRow w gt m (fun k => o.contains k)) (hk : Kp gt gr W9 w)
    (hne : gt ≠ gr) (hgr : gr < W9.heap.size) (hm : N ≤ 64 * m) (h : FirstP w gr m (rdy N II o) e w') : ∃ v9, e = .returned v9 ∧ OSt p S II N gt gr m W9 v8 v9 w' := by
  obtain ⟨hgb, h⟩ := h
  have how' : OwnS w' W9.heap.size v8 ((nmO S o).map ofNm) := how.keep fun b hb => hgb.block b (how.blk hb).2.1 (by intro e2; injection e2 with e2; have := (how.blk hb).1; omega)
  have hmt' : MkRow w' gt m (fun k => o.contains k) := hmt.keep (hgb.block gt hmt.lt (by intro e2; injection e2 with e2; exact hne e2))
  rcases h with ⟨rfl, hno, _⟩ | ⟨n, rfl, hn, hrn, hmin, hmr⟩
  · exact ⟨_, rfl, o, hd, ho, hc, hrun, how', hmt', hk.right hgb, .inl ⟨rfl, fun k hk => hno k (by omega)⟩⟩
  · exact ⟨_, rfl, o, hd, ho, hc, hrun, how', hmt', hk.right hgb, .inr ⟨n, rfl, hrn, hmin, hmr⟩⟩
set_option maxRecDepth 100000 in
set_option maxHeartbeats 8000000 in
theorem order_any (p : Ps) (na : Option Addr) (nc g N : Nat) (w : World) (h : OdOk p) (hN : N = (srt p).length) (hl : N ≤ 4194304) (hT : ∀ n, (turned (grp (srt p).length (pairsOf (srt p) p)) n).length ≤ 4194304)
    (hn : RowS w w.heap.size na ((srt p).map ofNm)) (hr : RdMat w g (grp (srt p).length (pairsOf (srt p) p))) (hTab : TabAt 0 Lib.deBruijn64tab w) (h0 : 0 < w.heap.size) :
    Calls Tryz.prog 19 #[.agg #[.slice na N nc, .slice (some ⟨g, 0, none⟩) N N]] w fun e w' => ∃ v, e = .returned v ∧ OwnS w' w.heap.size v ((runO p N).map ofNm) ∧ Below w.heap.size w w' := by
  obtain ⟨i9, hi9, hz90, hz91, hz92⟩ := info_parts Tryz.inf9
  have HF1 : Hid (∀ (o : List Nat) (n : Nat), (∀ i ∈ o, i < N) → rdy N (grp N (pairsOf (srt p) p)) o n = true → (∀ k, k < n → rdy N (grp N (pairsOf (srt p) p)) o k = false) → (srt p)[n]? = some (bestP p (nmO (srt p) o)) ∧ bestP p (nmO (srt p) o) ≠ []) := by
    subst hN
    exact fun o n ho h1 h2 => (best_first h ho h1 h2).2
  have HF0 : Hid (∀ (o : List Nat), (∀ i ∈ o, i < N) → (∀ k, k < N → rdy N (grp N (pairsOf (srt p) p)) o k = false) → bestP p (nmO (srt p) o) = []) := by
    subst hN
    exact fun o ho h1 => best_none h ho h1
  rw [← hN] at hT hr
  have HIL : Hid (∀ r ∈ grp N (pairsOf (srt p) p), ∀ i ∈ r, i < N) := fun r hr i hi => by
    obtain ⟨k, hk, rfl⟩ := List.getElem_of_mem hr
    have h1 := (grp_mem (List.getElem?_eq_getElem hk)).1 hi
    obtain ⟨t, ht, hjt⟩ := List.mem_flatMap.1 h1
    obtain ⟨x, hx', he⟩ := List.mem_map.1 hjt
    injection he with he1 he2
    rw [← he2, hN]
    exact num_lt (srt_imp ht hx')
  have HLL : Hid ((grp N (pairsOf (srt p) p)).length = N) := grp_len _ _
  have HSL : Hid ((srt p).length = N) := hN.symm
  have HNn : Hid (RowS w w.heap.size na ((srt p).map ofNm)) := hn
  have HR : Hid (RdMat w g (grp N (pairsOf (srt p) p))) := hr
  have HTab : Hid (TabAt 0 Lib.deBruijn64tab w) := hTab
  have HTT : Hid (∀ n, (turned (grp N (pairsOf (srt p) p)) n).length ≤ 4194304) := hT
  clear hn hr hTab h hT hN
  generalize hII : grp N (pairsOf (srt p) p) = II at *
  clear hII
  generalize hSS : srt p = S at *
  clear hSS
  obtain ⟨W1, hW1⟩ : ∃ W1, W1 = w.alloc (Obj.cells #[.slice na N nc, .slice (some ⟨g, 0, none⟩) N N] 47) := ⟨_, rfl⟩
  have hs1 : W1.heap.size = w.heap.size + 1 := by rw [hW1]; simp
  have HB1 : Hid (Below w.heap.size w W1) := by rw [hW1]; exact (Below.refl _ _).alloc (Nat.le_refl _) _
  have k1 : W1.heap[w.heap.size]? = some (.cells #[.slice na N nc, .slice (some ⟨g, 0, none⟩) N N] 47) := by rw [hW1]; exact blk_at _ _ _ rfl
  have HK1 : Hid (W1.heap[w.heap.size]? = some (.cells #[.slice na N nc, .slice (some ⟨g, 0, none⟩) N N] 47)) := k1
  have q0 := cell_blk (j := 0) k1 rfl
  clear k1
  go_enter Tryz.func19, Tryz.ntmps19
  go_wp2
  rw [← hW1]
  clear hW1
  go_region_held3 (fun w' => w'.cell? ⟨w.heap.size, 0, none⟩ = some (.slice na N nc))
    (first | exact q3 | exact q2 | exact q0)
    (first
    | (go_at_call 38; refine (newMarks_any N W1.drew hl).mono ?_; rintro e w2 ⟨rfl, hm2, hb2⟩; have k2 := blk_keep (w := W1.drew) HK1.out hb2 (by show w.heap.size < W1.heap.size; omega); have q2 := cell_blk (j := 0) k2 rfl)
    | (go_at_call 38; refine (newMarks_any N w2 hl).mono ?_; rintro e w3 ⟨rfl, hm3, hb3⟩; have hs2 : W1.heap.size ≤ w2.heap.size := hb2.size; have k3 := blk_keep k2 hb3 (by omega); have q3 := cell_blk (j := 0) k3 rfl))
  have hs2' : W1.heap.size < w2.heap.size := hm2.lt
  have hs3' : w2.heap.size < w3.heap.size := hm3.lt
  have hb13 : Below W1.heap.size W1 w3 := ⟨hb3.os.trans hb2.os, hb3.tape.trans hb2.tape, hb3.output.trans hb2.output, Nat.le_trans hb2.size hb3.size, fun b hb => (hb3.block b (by omega)).trans (hb2.block b hb)⟩
  have hm2' : MkRow w3 W1.heap.size ((N + 63) / 64) (fun _ => false) := MkRow.keep (w := w2) hm2 (hb3.block _ hs2')
  obtain ⟨gt, egt⟩ : ∃ gt, W1.heap.size = gt := ⟨_, rfl⟩
  obtain ⟨gr, egr⟩ : ∃ gr, w2.heap.size = gr := ⟨_, rfl⟩
  obtain ⟨m, em⟩ : ∃ m, (N + 63) / 64 = m := ⟨_, rfl⟩
  have HMT : Hid (MkRow w3 gt m (fun _ => false)) := by rw [← egt, ← em]; exact hm2'
  have HMR : Hid (MkRow w3 gr m (fun _ => false)) := by rw [← egr, ← em]; exact hm3
  have hm : m ≤ 4194304 := by omega
  have hNm : N ≤ 64 * m := by omega
  have hgt : w.heap.size < gt ∧ gt < w3.heap.size := by omega
  have hgr : w.heap.size < gr ∧ gr < w3.heap.size := by omega
  have hne : gt ≠ gr := by omega
  have HB3 : Hid (Below (w.heap.size + 1) W1 w3) := hb13.mono (by omega)
  have HK3 : Hid (w3.heap[w.heap.size]? = some (.cells #[.slice na N nc, .slice (some ⟨g, 0, none⟩) N N] 47)) := k3
  have HB03 : Hid (Below w.heap.size w w3) := HB1.out.trans (HB3.out.mono (by omega))
  have HTab3 : Hid (∀ W5, Kp gt gr w3 W5 → TabAt 0 Lib.deBruijn64tab W5) := fun W5 h5 => tab_keep HTab.out ((h5.block 0 (by omega) (by omega) (by omega)).trans (HB03.out.block 0 h0))
  have r1 := cell_blk (j := 1) k3 rfl
  have hbk : w.heap.size + 1 = W1.heap.size := hs1.symm
  clear hm2 hm3 hb2 hb3 hb13 hm2' k2 q2 k3 q3 q0 hs2
  go_wp2_with fail
  try rw [hbk]
  rw [em]
  simp only [egt, egr]
  clear egt egr em hbk hs2' hs3'
  go_wp2
  go_loopw [23] (fun o wr => ∃ n : Nat, n ≤ N ∧ o = .int .i64 n ∧ MkRow wr gt m (fun _ => false) ∧ MkRow wr gr m (ini II n) ∧ Kp gt gr w3 wr)
    (fun o _ => N - (intOf o).toNat)
  case atStart => exact ⟨0, by omega, rfl, HMT.out, HMR.out.congr fun k hk => by simp [ini], Kp.refl _ _ _⟩
  case round =>
    clear HMT HMR r1
    obtain ⟨n, hn, rfl, hmt, hmr, hkp⟩ := hrel
    have HMT : Hid (MkRow wr gt m (fun _ => false)) := hmt
    have HMR : Hid (MkRow wr gr m (ini II n)) := hmr
    have HKP : Hid (Kp gt gr w3 wr) := hkp
    have hbw : Below w.heap.size w wr := HB03.out.trans (hkp.bel (by omega) (by omega) (by omega))
    have hsz := hkp.size
    clear hmt hmr hkp
    by_cases hlt : n < N
    · obtain ⟨r, hrr⟩ : ∃ r, II[n]? = some r := ⟨_, List.getElem?_eq_getElem (by have := HLL.out; omega)⟩
      obtain ⟨ra, rc, hrc, hri⟩ := (HR.out.now hbw).2 n r hrr
      have HIS : Hid (∀ k, ini II (n + 1) k = (ini II n k || (decide (k = n) && decide (r.length = 0)))) := fun k => ini_snoc hrr k
      clear hrr hri
      by_cases hr0 : r.length = 0
      · have g0 : ((r.length : Int) == 0) = true := beq_iff_eq.2 (by omega)
        go_wp2_with (go_at_call 39; go_loud (refine (set_any gr m n (ini II n) wr hm (by omega) HMR.out).mono ?_; rintro e w5 ⟨rfl, hm5, hg5⟩; refine stop ?_))
        unfold Hid
        have HM5 : Hid (MkRow w5 gr m (ini II (n + 1))) := hm5.congr fun k hk => by rw [HIS.out k]; simp [hr0]
        have HMT5 : Hid (MkRow w5 gt m (fun _ => false)) := HMT.out.keep (hg5.block gt HMT.out.lt (by intro e; injection e with e; exact hne e))
        have HKP5 : Hid (Kp gt gr w3 w5) := HKP.out.right hg5
        clear hm5 hg5
        go_wp2
        go_roundw
        case rel => exact ⟨n + 1, by omega, by go_num, HMT5.out, HM5.out, HKP5.out⟩
        case measure => simp [intOf]; omega
      · have g0 : ((r.length : Int) == 0) = false := beq_eq_false_iff_ne.2 (by omega)
        go_wp2
        go_roundw
        case rel => exact ⟨n + 1, by omega, by go_num, HMT.out, HMR.out.congr fun k hk => by rw [HIS.out k]; simp [hr0], HKP.out⟩
        case measure => simp [intOf]; omega
    · obtain rfl : n = N := by omega
      have hlt' : decide ((n : Int) < (n : Int)) = false := by simp
      have kb := (HKP.out.block w.heap.size (by omega) (by omega) (by omega)).trans HK3.out
      have r0 := cell_blk (j := 0) kb rfl
      have r1 := cell_blk (j := 1) kb rfl
      have HRN : Hid (RdMat wr g II) := HR.out.now hbw
      go_wp2_with (go_at_call 40; go_loud (refine (importers_any na nc g n II wr HLL.out hl HIL.out HTT.out HRN.out).mono ?_; rintro e W9 ⟨G, rfl, hmat, hb9⟩; refine stop ?_))
      unfold Hid
      have hs9 := hb9.size
      obtain ⟨B4, hB4⟩ : ∃ B4, wr.heap.size = B4 := ⟨_, rfl⟩
      have HMAT : Hid (MatAt W9 B4 G n (grp n (turned II n))) := by rw [← hB4]; exact hmat
      have hB4g : gt < B4 ∧ gr < B4 := by omega
      have HMT9 : Hid (MkRow W9 gt m (fun k => ([] : List Nat).contains k)) := (HMT.out.keep (hb9.block gt HMT.out.lt)).congr fun k hk => by simp
      have HMR9 : Hid (MkRow W9 gr m (rdy n II [])) := (HMR.out.keep (hb9.block gr HMR.out.lt)).congr fun k hk => ini_rdy _ _ _
      have HKP9 : Hid (Kp gt gr w3 W9) := HKP.out.below hb9
      have HB9 : Hid (Below w.heap.size w W9) := hbw.trans (hb9.mono (by have := hbw.size; omega))
      have hTa := HTab3.out W9 HKP9.out
      have HK9 : Hid (W9.heap[w.heap.size]? = some (.cells #[.slice na n nc, .slice (some ⟨g, 0, none⟩) n n] 47)) := (HKP9.out.block w.heap.size (by omega) (by omega) (by omega)).trans HK3.out
      have HTA : Hid (TabAt 0 Lib.deBruijn64tab W9) := hTa
      clear hmat hb9 kb r0 r1 HMT HMR hTa hB4
      go_wp2_with (go_at_call 41; go_loud (refine (takeFirst_any gr m (rdy n II []) W9 hm HMR9.out HTA.out (by omega)).mono ?_; rintro e wA hfA; obtain ⟨v9, rfl, hst⟩ := ost_of (p := p) (S := S) (gt := gt) (W9 := W9) (v8 := .slice none 0 0) (o := []) List.nodup_nil (fun i hi => by cases hi) (fun i hi => by cases hi) rfl ⟨rfl, .inl ⟨rfl, rfl⟩⟩ HMT9.out (Kp.refl _ _ _) hne (by omega) hNm hfA; refine stop ?_))
      unfold Hid
      have HST : Hid (OSt p S II n gt gr m W9 (.slice none 0 0) v9 wA) := hst
      clear hst hfA HMT9 HMR9
      go_wp2
      go_loopw [8, 9] (fun v8 v9 wq => OSt p S II n gt gr m W9 v8 v9 wq) (fun v8 _ _ => n - slLen v8)
      case atStart => exact HST.out
      case round =>
        clear HST
        obtain ⟨o, hnd, hon, hocl, hrun, how, hmt, hkp, hcase⟩ := hrel
        have hls : ((nmO S o).map ofNm).length = o.length := by simp [nmO]
        obtain ⟨ls, hls0⟩ : ∃ ls, (nmO S o).map ofNm = ls := ⟨_, rfl⟩
        have HLS0 : Hid ((nmO S o).map ofNm = ls) := hls0
        rw [hls0] at how hls
        clear hls0
        obtain ⟨oa, oc, rfl, hoc⟩ := how.slice
        have HOW : Hid (OwnS wr W9.heap.size (.slice oa ls.length oc) ls) := how
        have HMT : Hid (MkRow wr gt m (fun k => o.contains k)) := hmt
        have HKP : Hid (Kp gt gr W9 wr) := hkp
        have HRUN : Hid (runO p o.length = nmO S o) := hrun
        have HON : Hid (∀ i ∈ o, i < n) := hon
        have HND : Hid o.Nodup := hnd
        have HOCL : Hid (∀ i ∈ o, ∀ j ∈ II.getD i [], j ∈ o) := hocl
        have hsz := hkp.size
        clear how hmt hkp hrun hon hnd hocl
        rcases hcase with ⟨rfl, hno⟩ | ⟨x, rfl, hrx, hmin, hmr⟩
        · have hbest := HF0.out o HON.out hno
          have HFIN : Hid (runO p n = nmO S o) := by
            have h1 : bestP p (runO p o.length) = [] := by rw [HRUN.out]; exact hbest
            have h2 : o.length ≤ n := by
              have := nodup_len (s := List.range n) HND.out fun i hi => List.mem_range.2 (HON.out i hi)
              simpa using this
            exact (runO_stop h1 n h2).trans HRUN.out
          have HBF : Hid (Below w.heap.size w wr) := HB9.out.trans (HKP.out.bel (by omega) (by omega) (by omega))
          clear hno hbest
          go_wp2
          go_ret
          refine ⟨_, rfl, ?_, HBF.out⟩
          rw [HFIN.out, HLS0.out]
          exact own_weak HOW.out (by have := HB9.out.size; omega)
        · obtain ⟨hxn, hxo, hxa⟩ := rdy_no hrx
          have hol := lt_range HND.out HON.out hxn hxo
          obtain ⟨hSx, hbne⟩ := HF1.out o x HON.out hrx hmin
          have hneq : (((x : Int)) != -1) = true := by simp <;> omega
          have HMR : Hid (MkRow wr gr m (fun k => rdy n II o k && decide (k ≠ x))) := hmr
          have HRX : Hid (rdy n II o x = true) := hrx
          have HRUN2 : Hid (runO p (o ++ [x]).length = nmO S (o ++ [x])) := by
            have h1 : bestP p (runO p o.length) = bestP p (nmO S o) := by rw [HRUN.out]
            rw [List.length_append, List.length_singleton, runO_go (by rw [h1]; exact hbne), h1, HRUN.out]
            show nmO S o ++ _ = (o ++ [x]).map _
            rw [List.map_append]
            congr 1
            simp [List.getD_eq_getElem?_getD, hSx]
          have HON2 : Hid (∀ i ∈ o ++ [x], i < n) := fun i hi => by
            rcases List.mem_append.1 hi with hi | hi
            · exact HON.out i hi
            · obtain rfl := List.mem_singleton.1 hi
              exact hxn
          have HND2 : Hid (o ++ [x]).Nodup := List.nodup_append.2 ⟨HND.out, List.nodup_cons.2 ⟨by simp, List.nodup_nil⟩, fun a ha b hb => by
            obtain rfl := List.mem_singleton.1 hb
            intro e
            exact hxo (e ▸ ha)⟩
          have HOC2 : Hid (∀ i ∈ o ++ [x], ∀ j ∈ II.getD i [], j ∈ o ++ [x]) := fun i hi j hj => by
            rcases List.mem_append.1 hi with hi | hi
            · exact List.mem_append_left _ (HOCL.out i hi j hj)
            · obtain rfl := List.mem_singleton.1 hi
              exact List.mem_append_left _ (hxa j hj)
          have HNS : Hid ((nmO S (o ++ [x])).map ofNm = ls ++ [ofNm (bestP p (nmO S o))]) := by
            show _ = _
            rw [← HLS0.out]
            simp [nmO, List.getD_eq_getElem?_getD, hSx]
          have hxm : x < 64 * m := by omega
          have hlb : ls.length ≤ 4194304 := by omega
          have HLS : Hid (ls.length = o.length) := hls
          clear hls
          clear hrx hmin hmr hbne hxa
          go_wp2_with (go_at_call 39; go_loud (refine (set_any gt m x (fun k => o.contains k) wr hm hxm HMT.out).mono ?_; rintro e w5 ⟨rfl, hm5, hg5⟩; refine stop ?_))
          unfold Hid
          have HMT5 : Hid (MkRow w5 gt m (fun k => (o ++ [x]).contains k)) := hm5.congr fun k hk => (cont_snoc o x k).symm
          have HMR5 : Hid (MkRow w5 gr m (fun k => rdy n II o k && decide (k ≠ x))) := HMR.out.keep (hg5.block gr HMR.out.lt (by intro e; injection e with e; exact hne e.symm))
          have HKP5 : Hid (Kp gt gr W9 w5) := HKP.out.left hg5
          have how5 : OwnS w5 W9.heap.size (.slice oa ls.length oc) ls := HOW.out.keep fun b hb => hg5.block b (HOW.out.blk hb).2.1 (by intro e; injection e with e; have := (HOW.out.blk hb).1; omega)
          have HOB5 : Hid (∀ b, (Value.slice oa ls.length oc).ownBlock = some b → W9.heap.size ≤ b ∧ b < w5.heap.size) := fun b hb => ⟨(how5.blk hb).1, (how5.blk hb).2.1⟩
          have k5 := (HKP5.out.block w.heap.size (by have := HB9.out.size; omega) (by omega) (by omega)).trans HK9.out
          have r0 := cell_blk (j := 0) k5 rfl
          have hb5 : Below w.heap.size w w5 := HB9.out.trans (HKP5.out.bel (by omega) (by omega) (by omega))
          obtain ⟨nb, no, rfl, hnb, hnc⟩ := (HNn.out.below hb5) x (ofNm (bestP p (nmO S o))) (by rw [List.getElem?_map, hSx]; rfl)
          have hs5 := HKP5.out.size
          have HO5 : Hid ((w5.alloc (Obj.cells #[.string (ofNm (bestP p (nmO S o)))] 9)).ownsRow W9.heap.size 9 1 (.slice oa ls.length oc) ls.length (ls.map Value.string)) := World.ownsRow.alloc how5 _
          have hnew : ∀ j u, [Value.string (ofNm (bestP p (nmO S o)))][j]? = some u → (w5.alloc (Obj.cells #[.string (ofNm (bestP p (nmO S o)))] 9)).cell? ((⟨w5.heap.size, 0, none⟩ : Addr).add j) = some u := by
            intro j u hj
            rw [add_lit, Nat.zero_add]
            exact cell_blk (blk_at _ _ _ rfl) (by simpa using hj)
          have HNW : Hid (∀ j u, [Value.string (ofNm (bestP p (nmO S o)))][j]? = some u → (w5.alloc (Obj.cells #[.string (ofNm (bestP p (nmO S o)))] 9)).cell? ((⟨w5.heap.size, 0, none⟩ : Addr).add j) = some u) := hnew
          have HKA : Hid (Kp gt gr W9 (w5.alloc (Obj.cells #[.string (ofNm (bestP p (nmO S o)))] 9))) := HKP5.out.alloc _
          have HMTA : Hid (MkRow (w5.alloc (Obj.cells #[.string (ofNm (bestP p (nmO S o)))] 9)) gt m (fun k => (o ++ [x]).contains k)) := HMT5.out.keep (Below.heap_alloc _ _ _ HMT5.out.lt)
          have HMRA : Hid (MkRow (w5.alloc (Obj.cells #[.string (ofNm (bestP p (nmO S o)))] 9)) gr m (fun k => rdy n II o k && decide (k ≠ x))) := HMR5.out.keep (Below.heap_alloc _ _ _ HMR5.out.lt)
          clear hm5 hg5 how5 hnew k5 hb5 HMT5 HMR5
          generalize hbb : ofNm (bestP p (nmO S o)) = bs at *
          clear hbb
          go_wp2_with (at_builtin; go_loud (refine wpList_append_row rfl _ _ 24 rfl W9.heap.size 9 i9 _ 1 16 Tryz.underlying24 hi9 hz90 hz91 hz92 rfl (by omega) (.slice oa ls.length oc) ls.length (ls.map Value.string) rfl HO5.out (some ⟨w5.heap.size, 0, none⟩) 1 1 [.string bs] rfl rfl (fun _ => ⟨_, rfl, HNW.out⟩) (by intro u hu; simp at hu; subst hu; rfl) (by unfold maxLen; omega) (by omega) (by simp; omega) ?_; intro vB wB hownB hgrB hatB; refine stop ?_))
          unfold Hid
          obtain ⟨ab, cb, rfl, hcb⟩ := own_slice hownB
          have HOB : Hid (OwnS wB W9.heap.size (.slice ab (ls.length + 1) cb) (ls ++ [bs])) := OwnS.snoc hownB
          have HKB : Hid (Kp gt gr W9 wB) := HKA.out.own (fun b hb => (HOB5.out b hb).1) hgrB
          have HMTB : Hid (MkRow wB gt m (fun k => (o ++ [x]).contains k)) := HMTA.out.keep (hgrB.block gt HMTA.out.lt (fun e => by have := (HOB5.out _ e.symm).1; omega))
          have HMRB : Hid (MkRow wB gr m (fun k => rdy n II o k && decide (k ≠ x))) := HMRA.out.keep (hgrB.block gr HMRA.out.lt (fun e => by have := (HOB5.out _ e.symm).1; omega))
          have hMB : MatAt wB B4 G n (grp n (turned II n)) := HMAT.out.keep fun b h1 h2 => HKB.out.block b h2 (by omega) (by omega)
          obtain ⟨jr, hjr⟩ : ∃ jr, (grp n (turned II n))[x]? = some jr := ⟨_, grp_at _ hxn⟩
          obtain ⟨jv, hjv, hjo, _, _⟩ := hMB.at hjr
          obtain ⟨ja, jc, rfl, hjc⟩ := own_slice hjo
          have HJM : Hid (∀ k, k ∈ jr ↔ k < n ∧ x ∈ II.getD k []) := fun k => by
            rw [grp_mem hjr, turned_mem]
          have hjl : jr.length ≤ 4194304 := Nat.le_trans (grp_row_len hjr) (HTT.out n)
          have HJI : Hid (∀ W5, Kp gt gr W9 W5 → RowI W5 W5.heap.size ja (jr.map Int.ofNat)) := fun W5 h5 => by
            have hM5 : MatAt W5 B4 G n (grp n (turned II n)) := HMAT.out.keep fun b h1 h2 => h5.block b h2 (by omega) (by omega)
            obtain ⟨jv', hjv', hjo', _, _⟩ := hM5.at hjr
            have h1 : W5.cell? ⟨G, x, none⟩ = wB.cell? ⟨G, x, none⟩ := by
              have hg := HMAT.out.lt
              exact (World.cell?_of_block (a := ⟨G, x, none⟩) (h5.block G hg.2 (by omega) (by omega))).trans (World.cell?_of_block (a := ⟨G, x, none⟩) (HKB.out.block G hg.2 (by omega) (by omega))).symm
            rw [hjv', hjv] at h1
            obtain rfl := Option.some.inj h1
            exact OwnI.row hjo'
          have HMR0 : Hid (MkRow wB gr m (fun k => (rdy n II o k && decide (k ≠ x)) || (decide (k ∈ jr.take 0) && (II.getD k []).all fun j => (o ++ [x]).contains j))) := HMRB.out.congr fun k hk => by simp
          clear hownB hgrB hatB hMB hjr hjo hnc r0 HMRB HKA HMTA HMRA HO5 HNW HOB5
          go_wp2
          go_loopw [59] (fun v wq => ∃ q : Nat, q ≤ jr.length ∧ v = .int .i64 q ∧ MkRow wq gr m (fun k => (rdy n II o k && decide (k ≠ x)) || (decide (k ∈ jr.take q) && (II.getD k []).all fun j => (o ++ [x]).contains j)) ∧ MkRow wq gt m (fun k => (o ++ [x]).contains k) ∧ OwnS wq W9.heap.size (.slice ab (ls.length + 1) cb) (ls ++ [bs]) ∧ Kp gt gr W9 wq)
            (fun v _ => jr.length - (intOf v).toNat)
          case atStart => exact ⟨0, by omega, rfl, HMR0.out, HMTB.out, HOB.out, HKB.out⟩
          case round =>
            clear HMR0 HMTB HOB HKB hjv
            obtain ⟨q, hq, rfl, hmr, hmt, how, hkp⟩ := hrel
            have HMR : Hid (MkRow wr gr m (fun k => (rdy n II o k && decide (k ≠ x)) || (decide (k ∈ jr.take q) && (II.getD k []).all fun j => (o ++ [x]).contains j))) := hmr
            have HMT : Hid (MkRow wr gt m (fun k => (o ++ [x]).contains k)) := hmt
            have HOW : Hid (OwnS wr W9.heap.size (.slice ab (ls.length + 1) cb) (ls ++ [bs])) := how
            have HKP : Hid (Kp gt gr W9 wr) := hkp
            have hszq := hkp.size
            have hbq : Below w.heap.size w wr := HB9.out.trans (hkp.bel (by omega) (by omega) (by omega))
            clear hmr hmt how hkp
            by_cases hql : q < jr.length
            · obtain ⟨i, hi⟩ : ∃ i, jr[q]? = some i := ⟨_, List.getElem?_eq_getElem hql⟩
              obtain ⟨xb, xo, rfl, hxb, hxc⟩ := HJI.out wr HKP.out q (Int.ofNat i) (by rw [List.getElem?_map, hi]; rfl)
              have c0 : wr.cell? ⟨xb, xo + q, none⟩ = some (.int .i64 (i : Int)) := hxc
              obtain ⟨hiN, hix⟩ := (HJM.out i).1 (List.mem_of_getElem? hi)
              obtain ⟨r, hrr⟩ : ∃ r, II[i]? = some r := ⟨_, List.getElem?_eq_getElem (by have := HLL.out; omega)⟩
              obtain ⟨ra, rc, hrc, hri⟩ := (HR.out.now hbq).2 i r hrr
              have HRI : Hid (RowI wr wr.heap.size ra (r.map Int.ofNat)) := hri
              have HRM : Hid (∀ j ∈ r, j < 64 * m) := fun j hj => by have := HIL.out r (List.mem_of_getElem? hrr) j hj; omega
              have hrl : r.length ≤ 4194304 := by
                have h1 := HTT.out (i + 1)
                have h2 : turned II (i + 1) = turned II i ++ turn1 r i := by
                  show _ ++ turn1 (II.getD i []) i = _
                  rw [List.getD_eq_getElem?_getD, hrr]
                  rfl
                rw [h2] at h1
                simp only [List.length_append, turn1, List.length_map] at h1
                omega
              have HTK : Hid (∀ k, decide (k ∈ jr.take (q + 1)) = (decide (k ∈ jr.take q) || decide (k = i))) := fun k => by
                rw [List.take_add_one, hi]
                rw [Bool.eq_iff_iff]
                simp
              have HGI : Hid (II.getD i [] = r) := by
                show _ = _
                rw [List.getD_eq_getElem?_getD, hrr]
                rfl
              have k5 := (HKP.out.block w.heap.size (by have := HB9.out.size; omega) (by omega) (by omega)).trans HK9.out
              have r1 := cell_blk (j := 1) k5 rfl
              clear hrr hri hxc hi
              cases hall : allM (fun k => (o ++ [x]).contains k) r
              · have HMR6 : Hid (MkRow wr gr m (fun k => (rdy n II o k && decide (k ≠ x)) || (decide (k ∈ jr.take (q + 1)) && (II.getD k []).all fun j => (o ++ [x]).contains j))) := HMR.out.congr fun k hk => by
                  rw [HTK.out k]
                  by_cases hki : k = i
                  · subst hki
                    rw [HGI.out]
                    have : (r.all fun j => (o ++ [x]).contains j) = false := hall
                    rw [this]
                    simp
                  · simp [hki]
                go_wp2_with (go_at_call 42; go_loud (refine (hasAll_any gt m (fun k => (o ++ [x]).contains k) ra r rc wr hm hrl HRM.out HMT.out HRI.out).mono ?_; rintro e w7 ⟨rfl, rfl⟩; rw [hall]))
                go_roundw
                case rel => exact ⟨q + 1, by omega, by go_num, HMR6.out, HMT.out, HOW.out, HKP.out⟩
                case measure => simp [intOf]; omega
              · go_wp2_with (first
                  | (go_at_call 42; go_loud (refine (hasAll_any gt m (fun k => (o ++ [x]).contains k) ra r rc wr hm hrl HRM.out HMT.out HRI.out).mono ?_; rintro e w7 ⟨rfl, rfl⟩; rw [hall]))
                  | (go_at_call 39; go_loud (refine (set_any gr m i _ _ hm (by omega) HMR.out).mono ?_; rintro e w8 ⟨rfl, hm8, hg8⟩; refine stop ?_)))
                unfold Hid
                have HMR8 : Hid (MkRow w8 gr m (fun k => (rdy n II o k && decide (k ≠ x)) || (decide (k ∈ jr.take (q + 1)) && (II.getD k []).all fun j => (o ++ [x]).contains j))) := hm8.congr fun k hk => by
                  rw [HTK.out k]
                  by_cases hki : k = i
                  · subst hki
                    rw [HGI.out]
                    have : (r.all fun j => (o ++ [x]).contains j) = true := hall
                    rw [this]
                    simp
                  · simp [hki]
                have HMT8 : Hid (MkRow w8 gt m (fun k => (o ++ [x]).contains k)) := HMT.out.keep (hg8.block gt HMT.out.lt (by intro e; injection e with e; exact hne e))
                have HOW8 : Hid (OwnS w8 W9.heap.size (.slice ab (ls.length + 1) cb) (ls ++ [bs])) := HOW.out.keep fun b hb => hg8.block b (HOW.out.blk hb).2.1 (by intro e; injection e with e; have := (HOW.out.blk hb).1; omega)
                have HKP8 : Hid (Kp gt gr W9 w8) := HKP.out.right hg8
                clear hm8 hg8
                go_wp2
                go_roundw
                case rel => exact ⟨q + 1, by omega, by go_num, HMR8.out, HMT8.out, HOW8.out, HKP8.out⟩
                case measure => simp [intOf]; omega
            · obtain rfl : q = jr.length := by omega
              have hql' : decide ((jr.length : Int) < (jr.length : Int)) = false := by simp
              have HMRF : Hid (MkRow wr gr m (rdy n II (o ++ [x]))) := HMR.out.congr fun k hk => by
                rw [rdy_snoc HLL.out HOCL.out HRX.out k, List.take_length, decide_eq_decide.2 (HJM.out k)]
              have HTF : Hid (TabAt 0 Lib.deBruijn64tab wr) := tab_keep HTA.out (HKP.out.block 0 (by omega) (by omega) (by omega))
              have HOWF : Hid (OwnS wr W9.heap.size (.slice ab (ls.length + 1) cb) ((nmO S (o ++ [x])).map ofNm)) := by rw [HNS.out]; exact HOW.out
              go_wp2_with (go_at_call 41; go_loud (refine (takeFirst_any gr m (rdy n II (o ++ [x])) wr hm HMRF.out HTF.out (by omega)).mono ?_; rintro e wA hfA; obtain ⟨v9, rfl, hst⟩ := ost_of (p := p) (S := S) (gt := gt) (W9 := W9) (v8 := .slice ab (ls.length + 1) cb) (o := o ++ [x]) HND2.out HON2.out HOC2.out HRUN2.out HOWF.out HMT.out HKP.out hne (by omega) hNm hfA; refine stop ?_))
              unfold Hid
              have HST : Hid (OSt p S II n gt gr m W9 (.slice ab (ls.length + 1) cb) v9 wA) := hst
              clear hst hfA
              go_wp2
              go_roundw
              case rel => exact HST.out
              case measure =>
                show n - (ls.length + 1) < n - ls.length
                have := HLS.out
                omega
end Go.Proofs.YtkkpiagchkdamaaGreatDoor
