/- The model: any program, drawn. -/
import Derived.Test.YtgjeefedcfakdaaYqq
set_option linter.unusedVariables false
namespace Go.Proofs.Ytgjeefedcfakdaa
open Go.ChangeShapes Go.WideShapes Go.ChangeAt Go.RowKit
open Cu (Cw Code1 CurS)
def L3n : List ByteArray := [⟨#[120]⟩, ⟨#[99, 97, 114]⟩, ⟨#[113]⟩]
theorem nodX_cw {w W W' : World} {c : Nat} {d : Code1} {v : Value} {an aa : Option Addr} {cn ca : Nat} {x : Nod} (h : NodX W (NP (fun g => g < w.heap.size + 1) W v) an cn aa ca x) (g : Cw W c d W') (hc : c < w.heap.size) : NodX W' (NP (fun g => g < w.heap.size + 1) W' v) an cn aa ca x :=
 h.keep fun b hb => by
  have hs : W'.heap[b]? = W.heap[b]? := g.2.1.block b hb.1 (fun e => by have := Option.some.inj e; have := hb.2.2.2; omega)
  exact ⟨⟨Nat.lt_of_lt_of_le hb.1 g.2.1.size, hb.2.1, hb.2.2.1.same hs, hb.2.2.2⟩, hs⟩
theorem oneMore_slice {w w' : World} {e : TypeId} {v v' u : Value} {n : Nat} {xs : List Value} (h : OneMore w e v n xs u v' w') : ∃ p m q, v' = Value.slice p m q := by
 rcases h with ⟨_, _, _, _, _, _, _, _, h, _⟩ | ⟨_, h, _⟩ <;> exact ⟨_, _, _, h⟩
theorem heap_push_lt {W : World} {o : Obj} {b : Nat} (h : b < W.heap.size) : (W.alloc o).heap[b]? = W.heap[b]? := by
 show (W.heap.push o)[b]? = W.heap[b]?
 rw [Array.getElem?_push_lt h, Array.getElem?_eq_getElem h]
set_option maxRecDepth 100000 in
set_option maxHeartbeats 40000000 in
theorem l3Any_any (w : World) (c : Nat) (d : Code1) (n : Nat) (hn : n ≤ 4) (hs : ∃ s, CurS w c d s) (hc : c < w.heap.size) :
  Calls Try.prog 16 #[.pointer (some ⟨c, 0, none⟩), .int .i64 (n : Int)] w fun e w' => PwPost w c d e w' := by
 have HC0 : Hid (Cw w c d (w.alloc (Obj.cells #[.slice none 0 0, .int .i64 0] 26))) := (Cw_self hs hc).alloc _
 have HS0 : Hid (Calls Try.prog 28 #[.pointer (some ⟨c, 0, none⟩), .int .i64 (n : Int)] (w.alloc (Obj.cells #[.slice none 0 0, .int .i64 0] 26)) fun e w' => PgPost (w.alloc (Obj.cells #[.slice none 0 0, .int .i64 0] 26)) c d e w') := l3Some_any _ c d n hn HC0.out.1 (by simp; omega)
 have hz0 : (w.alloc (Obj.cells #[.slice none 0 0, .int .i64 0] 26)).heap.size = w.heap.size + 1 := by simp
 clear hs hn
 go_enter Try.func16, Try.ntmps16
 go_wp2_with fail
 refine HS0.out.mono ?_
 rintro e W1 ⟨a, cap, ns, root, rfl, ho, hne, h4, h5, h7, hcw⟩
 have hnl : 1 ≤ ns.length := by
  cases ns with
  | nil => exact absurd rfl hne
  | cons x l => simp
 have hz1 : W1.heap[w.heap.size]? = some (Obj.cells #[.slice none 0 0, .int .i64 0] 26) := Cw_blk hcw (blk_at _ _ _ rfl) (by omega)
 have hw1 : w.heap.size < W1.heap.size := (alt hz1)
 rw [hz0] at ho
 have HA : Hid (PwAt w (W1.alloc (Obj.cells #[.slice a ns.length cap, .int .i64 root] 26)) c d W1.heap.size a cap ns root) := ⟨(ho.weak (fun g h => by simpa using h) (by omega)).below (bR _ _), (Cw_lit hcw hc).alloc _, blk_past hz1, blk_at _ _ _ rfl, hw1⟩
 have HNE : Hid (ns ≠ []) := hne
 have H5 : Hid (∀ d ∈ ns, NSm d) := h5
 have H7 : Hid (i64B root) := h7
 clear ho hne h5 h7 hcw HS0 HC0 hz0
 go_wp2_with fail
 generalize W1.alloc (Obj.cells #[.slice a ns.length cap, .int .i64 root] 26) = W2 at *
 generalize W1.heap.size = g5 at *
 refine (Cu.once_cw W2 c d 6 W2 (Cw_self HA.out.cw.1 HA.out.cw.lt) (by decide) (by decide)).mono ?_
 rintro e W3 ⟨b, rfl, hc3⟩
 have HB : Hid (PwAt w W3 c d g5 a cap ns root) := HA.out.step hc hc3
 clear HA hc3 hz1
 obtain ⟨z0, z1⟩ := zn2 HB.out.z rfl rfl
 have f0 := frozen_blk HB.out.z 0
 have f1 := frozen_blk HB.out.z 1
 obtain ⟨p0, p1⟩ := zn2 HB.out.p rfl rfl
 have HL4 : Hid (ns.length ≤ 400) := h4
 cases b
 ·go_wp2
  refine bodyPost_ret (results_cell_row rfl _ _ w.heap.size 26 #[.slice a ns.length cap, .int .i64 root] (0, 0) _ rfl (heap_setCell_same _ _ 1 _ _ _ (heap_setCell_same _ _ 0 _ _ _ HB.out.z)) Try.underlying26 rfl info26) rfl ?_
  exact pw_end (own_rown HB.out.own HNE.out) HB.out.cw (by omega) (fun d hd => (H5.out d hd).w) H7.out _ _
 ·go_wp2_with fail
  refine (Cu.below_cw W3 c d ns.length W3 (Cw_self HB.out.cw.1 HB.out.cw.lt) hnl (by omega)).mono ?_
  rintro e W4 ⟨k, rfl, hk, hc4⟩
  have HB4 : Hid (PwAt w W4 c d g5 a cap ns root) := HB.out.step hc hc4
  clear HB hc4 z0 z1 f0 f1 p0 p1
  go_wp2_with fail
  refine (Cu.below_cw W4 c d 7 W4 (Cw_self HB4.out.cw.1 HB4.out.cw.lt) (by decide) (by decide)).mono ?_
  rintro e W5 ⟨m, rfl, hm, hc5⟩
  have HB5 : Hid (PwAt w W5 c d g5 a cap ns root) := HB4.out.step hc hc5
  clear HB4 hc5
  obtain ⟨x, hx⟩ : ∃ x, ns[k]? = some x := ⟨_, List.getElem?_eq_getElem hk⟩
  obtain ⟨g, cur, rfl, hg1, hg2, hg3, hg4, hg5, hg6⟩ := own_cells HB5.out.own HNE.out
  obtain ⟨an, cn, aa, ca, hcs, hnx⟩ := hg6 k x hx
  obtain ⟨p0, p1⟩ := zn2 HB5.out.p rfl rfl
  have HX : Hid (ns[k]? = some x) := hx
  have hcc := hg1
  have HNX : Hid (NodX W5 (NP (fun g => g < w.heap.size + 1) W5 (.slice (some ⟨g, 0, none⟩) ns.length cap)) an cn aa ca x) := hnx
  clear hg6 hx hnx
  have hgg := HB5.out.g
  have n5 : ¬ g5 = g := by
   rintro rfl
   have hp := HB5.out.p
   rw [hg2] at hp
   injection Option.some.inj hp with _ q
   exact absurd q (by decide)
  have hs5 : g5 < W5.heap.size := (alt HB5.out.p)
  have hsg : g < W5.heap.size := (alt hg2)
  have n6 : ¬ w.heap.size = g := by omega
  have n7 : ¬ w.heap.size = g5 := by omega
  have n8 : ¬ g = g5 := fun h => n5 h.symm
  have n9 : ¬ g = w.heap.size := by omega
  have n10 : ¬ g5 = w.heap.size := by omega
  have hms : m = 0 ∨ m = 1 ∨ m = 2 ∨ m = 3 ∨ m = 4 ∨ m = 5 ∨ m = 6 := by omega
  clear hm
  rcases hms with rfl | rfl | rfl | rfl | rfl | rfl | rfl
  ·go_upto_region 8 with fail
   go_region_with (go_at_call 17; (refine (Cu.below_cw W5 c d 13 _ ((Cw_self HB5.out.cw.1 HB5.out.cw.lt).drew 1) (by decide) (by decide)).mono ?_; rintro e W6 ⟨q, rfl, hq, hc6⟩; have HB6 : Hid (PwAt w W6 c d g5 (some ⟨g, 0, none⟩) cap ns root) := HB5.out.step hc hc6; have HGB : Hid (W6.heap[g]? = some (Obj.cells cur 35)) := Cw_blk hc6 hg2 (by omega); have q0 := cell_blk (j := 0) HB6.out.p rfl; have q1 := cell_blk (j := 1) HB6.out.p rfl; have s0 := cell_blk (j := k * 5) HGB.out hcs.1; have s1 := frozen_blk HGB.out (k * 5); have z0 := cell_blk (j := 0) HB6.out.z rfl; have z1 := cell_blk (j := 1) HB6.out.z rfl; have f0 := frozen_blk HB6.out.z 0; have f1 := frozen_blk HB6.out.z 1; clear hc6))
   all_goals
    go_wp2
    refine bodyPost_ret (results_cell_row rfl _ _ w.heap.size 26 #[.slice (some ⟨g, 0, none⟩) ns.length cap, .int .i64 root] (0, 0) _ rfl (heap_setCell_same _ _ 1 _ _ _ (heap_setCell_same _ _ 0 _ _ _ ((heap_setCell_other _ _ _ _ n6).trans HB6.out.z))) Try.underlying26 rfl info26) rfl ?_
    have hw9 := (H5.out x (List.mem_of_getElem? HX.out)).w
    have hfin := pw_end (cap := cap) (rown_set HB6.out.own HNE.out rfl HX.out 0 (.int .i64 (q : Int)) { x with k := (q : Int) } (.inl ⟨rfl, rfl, rfl⟩)) (Cw_set HB6.out.cw (by omega)) (by rw [List.length_set]; omega) (nsw_set H5.out k ⟨⟨by show (-9223372036854775808 : Int) ≤ (q : Int); omega, by show (q : Int) ≤ 9223372036854775807; omega⟩, hw9.2⟩) H7.out (.slice (some ⟨g, 0, none⟩) ns.length cap) (.int .i64 root)
    rw [List.length_set] at hfin
    exact hfin
  ·go_upto_region 10 with fail
   go_region_with (go_at_call 17; (refine (Cu.below_cw W5 c d 3 _ ((Cw_self HB5.out.cw.1 HB5.out.cw.lt).drew 1) (by decide) (by decide)).mono ?_; rintro e W6 ⟨q, rfl, hq, hc6⟩; have HB6 : Hid (PwAt w W6 c d g5 (some ⟨g, 0, none⟩) cap ns root) := HB5.out.step hc hc6; have HGB : Hid (W6.heap[g]? = some (Obj.cells cur 35)) := Cw_blk hc6 hg2 (by omega); have q0 := cell_blk (j := 0) HB6.out.p rfl; have q1 := cell_blk (j := 1) HB6.out.p rfl; have s0 := cell_blk (j := k * 5 + 1) HGB.out hcs.2.1; have s1 := frozen_blk HGB.out (k * 5 + 1); have z0 := cell_blk (j := 0) HB6.out.z rfl; have z1 := cell_blk (j := 1) HB6.out.z rfl; have f0 := frozen_blk HB6.out.z 0; have f1 := frozen_blk HB6.out.z 1; clear hc6))
   all_goals
    go_wp2
    refine bodyPost_ret (results_cell_row rfl _ _ w.heap.size 26 #[.slice (some ⟨g, 0, none⟩) ns.length cap, .int .i64 root] (0, 0) _ rfl (heap_setCell_same _ _ 1 _ _ _ (heap_setCell_same _ _ 0 _ _ _ ((heap_setCell_other _ _ _ _ n6).trans HB6.out.z))) Try.underlying26 rfl info26) rfl ?_
    have hw9 := (H5.out x (List.mem_of_getElem? HX.out)).w
    have hfin := pw_end (cap := cap) (rown_set HB6.out.own HNE.out rfl HX.out 1 (.int .i64 (q : Int)) { x with n := (q : Int) } (.inr (.inl ⟨rfl, rfl, rfl⟩))) (Cw_set HB6.out.cw (by omega)) (by rw [List.length_set]; omega) (nsw_set H5.out k ⟨hw9.1, ⟨by show (-9223372036854775808 : Int) ≤ (q : Int); omega, by show (q : Int) ≤ 9223372036854775807; omega⟩, hw9.2.2⟩) H7.out (.slice (some ⟨g, 0, none⟩) ns.length cap) (.int .i64 root)
    rw [List.length_set] at hfin
    exact hfin
  ·go_upto_region 12 with fail
   go_region_with (go_at_call 29; (refine (pick_drew L6 W5 c d _ 6 W5 (Cw_self HB5.out.cw.1 HB5.out.cw.lt) rfl (by decide) (by decide) _ rfl (by decide)).mono ?_; rintro e W6 ⟨t, rfl, ht, hc6⟩; have HB6 : Hid (PwAt w W6 c d g5 (some ⟨g, 0, none⟩) cap ns root) := HB5.out.step hc hc6; have HGB : Hid (W6.heap[g]? = some (Obj.cells cur 35)) := Cw_blk hc6 hg2 (by omega); have q0 := cell_blk (j := 0) HB6.out.p rfl; have q1 := cell_blk (j := 1) HB6.out.p rfl; have s0 := cell_blk (j := k * 5 + 2) HGB.out hcs.2.2.1; have s1 := frozen_blk HGB.out (k * 5 + 2); have z0 := cell_blk (j := 0) HB6.out.z rfl; have z1 := cell_blk (j := 1) HB6.out.z rfl; have f0 := frozen_blk HB6.out.z 0; have f1 := frozen_blk HB6.out.z 1; clear hc6))
   all_goals
    go_wp2
    refine bodyPost_ret (results_cell_row rfl _ _ w.heap.size 26 #[.slice (some ⟨g, 0, none⟩) ns.length cap, .int .i64 root] (0, 0) _ rfl (heap_setCell_same _ _ 1 _ _ _ (heap_setCell_same _ _ 0 _ _ _ ((heap_setCell_other _ _ _ _ n6).trans HB6.out.z))) Try.underlying26 rfl info26) rfl ?_
    have hw9 := (H5.out x (List.mem_of_getElem? HX.out)).w
    have hfin := pw_end (cap := cap) (rown_set HB6.out.own HNE.out rfl HX.out 2 (.string t) { x with s := t } (.inr (.inr ⟨rfl, rfl, rfl⟩))) (Cw_set HB6.out.cw (by omega)) (by rw [List.length_set]; omega) (nsw_set H5.out k ⟨hw9.1, hw9.2.1, by show t.size ≤ _; omega, hw9.2.2.2⟩) H7.out (.slice (some ⟨g, 0, none⟩) ns.length cap) (.int .i64 root)
    rw [List.length_set] at hfin
    exact hfin
  ·as_aux_lemma =>
    obtain ⟨i9, hi9, hz90, hz91, hz92⟩ := info_parts R2.bldInfo3
    have sA := cell_blk (j := k * 5 + 4) hg2 hcs.2.2.2.2
    have HCL : Hid (Calls Try.prog 17 #[.pointer (some ⟨c, 0, none⟩), .int .i64 (ns.length : Int)] W5.drew fun e W' => ∃ k : Nat, e = .returned (.int .i64 (k : Int)) ∧ k < ns.length ∧ Cw W5 c d W') := Cu.below_cw W5 c d ns.length _ ((Cw_self HB5.out.cw.1 HB5.out.cw.lt).drew 1) hnl (by omega)
    go_upto_region 14 with fail
    go_region_law (first
     | (refine step_call17 rfl _ _ _ _ rfl _ _ (by kernel_rfl) (by kernel_rfl) _ HCL.out ?_; rintro e W6 ⟨q, rfl, hq, hc6⟩; refine ⟨_, rfl, ?_⟩; have HB6 : Hid (PwAt w W6 c d g5 (some ⟨g, 0, none⟩) cap ns root) := HB5.out.step hc hc6; have hgw6 : W6.heap[g]? = some (Obj.cells cur 35) := Cw_blk hc6 hg2 (by omega); have HGB : Hid (W6.heap[g]? = some (Obj.cells cur 35)) := hgw6; have hs56 : g5 < W6.heap.size := (alt HB6.out.p); have hsg6 : g < W6.heap.size := (alt hgw6); have q0 := cell_blk (j := 0) HB6.out.p rfl; have q1 := cell_blk (j := 1) HB6.out.p rfl; have sB := cell_blk (j := k * 5 + 4) hgw6 hcs.2.2.2.2; have HNX6 : Hid (NodX W6 (NP (fun g => g < w.heap.size + 1) W6 (.slice (some ⟨g, 0, none⟩) ns.length cap)) an cn aa ca x) := nodX_cw HNX.out hc6 hc; clear hc6 hgw6)
     | (refine step_append_one rfl _ _ 33 rfl (w.heap.size + 1) 3 i9 _ 8 Try.underlying33 hi9 hz90 hz91 hz92 rfl (.slice aa x.args.length ca) x.args.length (x.args.map (Value.int .i64)) (by kernel_rfl) (World.ownsRow.alloc (rowI_own HNX6.out.1.2.1 HNX6.out.2.2 (fun b hb => Nat.le_of_not_lt hb.2.2.2)) _) ⟨W6.heap.size, 0, none⟩ 1 (.int .i64 (q : Int)) (by kernel_rfl) (by first | exact cell_blk (blk_at _ _ _ rfl) rfl) rfl (by have := (H5.out x (List.mem_of_getElem? HX.out)).2.2.2.2.1; simp [maxLen]; omega) (by have := (H5.out x (List.mem_of_getElem? HX.out)).2.2.2.2.1; omega) ?_; intro v7 W7 hO7; obtain ⟨p7, m7, c7, rfl⟩ := oneMore_slice hO7; have HT := args_more HB6.out HNE.out H5.out HX.out HGB.out hcs HNX6.out (by first | exact (bR _ _).drew | exact bR _ _ | exact (Below.refl _ _).drew.alloc (Nat.le_refl _) _) hO7; obtain ⟨ns', hln, hrg, hsw, hbk, hg7, hs7, hbl⟩ := HT; have HLN : Hid (ns'.length = ns.length) := hln; have HRG : Hid _ := hrg; have HSW : Hid (∀ d ∈ ns', NSw d) := hsw; have HCW7 : Hid (Cw w c d W7) := Cw_lo HB6.out.cw hbl; have hz7 : W7.heap[w.heap.size]? = some (Obj.cells #[.slice none 0 0, .int .i64 0] 26) := (hbk _ (by omega) (.inl (by omega))).trans HB6.out.z; have hp7 : W7.heap[g5]? = some (Obj.cells #[.slice (some ⟨g, 0, none⟩) ns.length cap, .int .i64 root] 26) := (hbk _ hs56 (.inr rfl)).trans HB6.out.p; have HZ7 : Hid _ := hz7; have r0 := cell_blk (j := 0) hp7 rfl; have r1 := cell_blk (j := 1) hp7 rfl; have r2 := cell_blk (j := k * 5 + 4) hg7 hcs.2.2.2.2; have r3 := frozen_blk hg7 (k * 5 + 4); have z0 := cell_blk (j := 0) hz7 rfl; have z1 := cell_blk (j := 1) hz7 rfl; have f0 := frozen_blk hz7 0; have f1 := frozen_blk hz7 1; clear hO7 hln hrg hsw hbk hg7 hs7 hbl hz7 hp7))
    all_goals
     go_wp2
     refine bodyPost_ret (results_cell_row rfl _ _ w.heap.size 26 #[.slice (some ⟨g, 0, none⟩) ns.length cap, .int .i64 root] (0, 0) _ rfl (heap_setCell_same _ _ 1 _ _ _ (heap_setCell_same _ _ 0 _ _ _ ((heap_setCell_other _ _ _ _ n6).trans HZ7.out))) Try.underlying26 rfl info26) rfl ?_
     have hfin := pw_end (cap := cap) HRG.out (Cw_set HCW7.out (by omega)) (by rw [HLN.out]; omega) HSW.out H7.out (.slice (some ⟨g, 0, none⟩) ns.length cap) (.int .i64 root)
     rw [HLN.out] at hfin
     exact hfin
  ·as_aux_lemma =>
    obtain ⟨i9, hi9, hz90, hz91, hz92⟩ := info_parts Try.info9
    have sA := cell_blk (j := k * 5 + 3) hg2 hcs.2.2.2.1
    have HCL : Hid (Calls Try.prog 29 #[.pointer (some ⟨c, 0, none⟩), .slice (some ⟨W5.heap.size, 0, none⟩) 3 3] (W5.alloc (.cells #[.string ⟨#[120]⟩, .string ⟨#[99, 97, 114]⟩, .string ⟨#[113]⟩] 9)).drew fun e W' => ∃ t, e = .returned (.string t) ∧ t.size ≤ 40 ∧ Cw W5 c d W') := pick_drew L3n W5 c d _ 3 W5 (Cw_self HB5.out.cw.1 HB5.out.cw.lt) rfl (by decide) (by decide) _ rfl (by decide)
    go_upto_region 16 with fail
    go_region_law (first
     | (refine step_call29 rfl _ _ _ _ rfl _ _ (by kernel_rfl) (by kernel_rfl) _ HCL.out ?_; rintro e W6 ⟨q, rfl, hq, hc6⟩; refine ⟨_, rfl, ?_⟩; have HB6 : Hid (PwAt w W6 c d g5 (some ⟨g, 0, none⟩) cap ns root) := HB5.out.step hc hc6; have hgw6 : W6.heap[g]? = some (Obj.cells cur 35) := Cw_blk hc6 hg2 (by omega); have HGB : Hid (W6.heap[g]? = some (Obj.cells cur 35)) := hgw6; have hs56 : g5 < W6.heap.size := (alt HB6.out.p); have hsg6 : g < W6.heap.size := (alt hgw6); have q0 := cell_blk (j := 0) HB6.out.p rfl; have q1 := cell_blk (j := 1) HB6.out.p rfl; have sB := cell_blk (j := k * 5 + 3) hgw6 hcs.2.2.2.1; have HNX6 : Hid (NodX W6 (NP (fun g => g < w.heap.size + 1) W6 (.slice (some ⟨g, 0, none⟩) ns.length cap)) an cn aa ca x) := nodX_cw HNX.out hc6 hc; clear hc6 hgw6)
     | (refine step_append_one rfl _ _ 29 rfl (w.heap.size + 1) 9 i9 _ 16 Try.underlying29 hi9 hz90 hz91 hz92 rfl (.slice an x.names.length cn) x.names.length (x.names.map Value.string) (by kernel_rfl) (World.ownsRow.alloc (rowS_own HNX6.out.1.1 HNX6.out.2.1 (fun b hb => Nat.le_of_not_lt hb.2.2.2)) _) ⟨W6.heap.size, 0, none⟩ 1 (.string q) (by kernel_rfl) (by first | exact cell_blk (blk_at _ _ _ rfl) rfl) rfl (by have := (H5.out x (List.mem_of_getElem? HX.out)).2.2.2.1; simp [maxLen]; omega) (by have := (H5.out x (List.mem_of_getElem? HX.out)).2.2.2.1; omega) ?_; intro v7 W7 hO7; obtain ⟨p7, m7, c7, rfl⟩ := oneMore_slice hO7; have HT := names_more HB6.out HNE.out H5.out HX.out HGB.out hcs HNX6.out (by first | exact (bR _ _).drew | exact bR _ _ | exact (Below.refl _ _).drew.alloc (Nat.le_refl _) _) (by omega) hO7; obtain ⟨ns', hln, hrg, hsw, hbk, hg7, hs7, hbl⟩ := HT; have HLN : Hid (ns'.length = ns.length) := hln; have HRG : Hid _ := hrg; have HSW : Hid (∀ d ∈ ns', NSw d) := hsw; have HCW7 : Hid (Cw w c d W7) := Cw_lo HB6.out.cw hbl; have hz7 : W7.heap[w.heap.size]? = some (Obj.cells #[.slice none 0 0, .int .i64 0] 26) := (hbk _ (by omega) (.inl (by omega))).trans HB6.out.z; have hp7 : W7.heap[g5]? = some (Obj.cells #[.slice (some ⟨g, 0, none⟩) ns.length cap, .int .i64 root] 26) := (hbk _ hs56 (.inr rfl)).trans HB6.out.p; have HZ7 : Hid _ := hz7; have r0 := cell_blk (j := 0) hp7 rfl; have r1 := cell_blk (j := 1) hp7 rfl; have r2 := cell_blk (j := k * 5 + 3) hg7 hcs.2.2.2.1; have r3 := frozen_blk hg7 (k * 5 + 3); have z0 := cell_blk (j := 0) hz7 rfl; have z1 := cell_blk (j := 1) hz7 rfl; have f0 := frozen_blk hz7 0; have f1 := frozen_blk hz7 1; clear hO7 hln hrg hsw hbk hg7 hs7 hbl hz7 hp7))
    all_goals
     go_wp2
     refine bodyPost_ret (results_cell_row rfl _ _ w.heap.size 26 #[.slice (some ⟨g, 0, none⟩) ns.length cap, .int .i64 root] (0, 0) _ rfl (heap_setCell_same _ _ 1 _ _ _ (heap_setCell_same _ _ 0 _ _ _ ((heap_setCell_other _ _ _ _ n6).trans HZ7.out))) Try.underlying26 rfl info26) rfl ?_
     have hfin := pw_end (cap := cap) HRG.out (Cw_set HCW7.out (by omega)) (by rw [HLN.out]; omega) HSW.out H7.out (.slice (some ⟨g, 0, none⟩) ns.length cap) (.int .i64 root)
     rw [HLN.out] at hfin
     exact hfin
  ·go_wp2_with fail
   refine (Cu.below_cw W5 c d (ns.length + 1) W5 (Cw_self HB5.out.cw.1 HB5.out.cw.lt) (by omega) (by omega)).mono ?_
   rintro e W6 ⟨q, rfl, hq, hc6⟩
   have HB6 : Hid (PwAt w W6 c d g5 (some ⟨g, 0, none⟩) cap ns root) := HB5.out.step hc hc6
   obtain ⟨q0, q1⟩ := zn2 HB6.out.p rfl rfl
   have q2 := frozen_blk HB6.out.p 1
   obtain ⟨z0, z1⟩ := zn2 HB6.out.z rfl rfl
   have f0 := frozen_blk HB6.out.z 0
   have f1 := frozen_blk HB6.out.z 1
   clear hc6
   go_wp2
   refine bodyPost_ret (results_cell_row rfl _ _ w.heap.size 26 #[.slice (some ⟨g, 0, none⟩) ns.length cap, .int .i64 (q : Int)] (0, 0) _ rfl (heap_setCell_same _ _ 1 _ _ _ (heap_setCell_same _ _ 0 _ _ _ ((heap_setCell_other _ _ _ _ n7).trans HB6.out.z))) Try.underlying26 rfl info26) rfl ?_
   exact pw_end (own_rown (HB6.out.own.set (j := 1) (y := .int .i64 (q : Int)) HL4.out HB6.out.p ⟨by decide, by decide, by decide⟩) HNE.out) (Cw_set HB6.out.cw (by omega)) (by omega) (fun d hd => (H5.out d hd).w) ⟨by omega, by omega⟩ _ _
  ·obtain ⟨xs, how, hnd⟩ := HB5.out.own
   obtain ⟨i0, hi0, hz0, hz1, hz2⟩ := info_parts info35
   have HND : Hid _ := hnd
   have HOW : Hid _ := how
   have HXL : Hid (xs.length = ns.length * 5) := how.1
   have HOA : Hid ((W5.alloc (Obj.cells #[.int .i64 3, .int .i64 0, .string ⟨#[]⟩, .slice none 0 0, .slice none 0 0] 35)).ownsRow (w.heap.size + 1) 35 5 (.slice (some ⟨g, 0, none⟩) ns.length cap) ns.length xs) := World.ownsRow.alloc how _
   have kA : (W5.alloc (Obj.cells #[.int .i64 3, .int .i64 0, .string ⟨#[]⟩, .slice none 0 0, .slice none 0 0] 35)).heap[W5.heap.size]? = some (Obj.cells #[.int .i64 3, .int .i64 0, .string ⟨#[]⟩, .slice none 0 0, .slice none 0 0] 35) := blk_at _ _ _ rfl
   have hAz : (W5.alloc (Obj.cells #[.int .i64 3, .int .i64 0, .string ⟨#[]⟩, .slice none 0 0, .slice none 0 0] 35)).heap.size = W5.heap.size + 1 := by simp
   have hwA : w.heap.size + 1 ≤ (W5.alloc (Obj.cells #[.int .i64 3, .int .i64 0, .string ⟨#[]⟩, .slice none 0 0, .slice none 0 0] 35)).heap.size := by rw [hAz]; omega
   clear how hnd
   go_wp2_with (at_builtin; refine wpList_append_lies _ rfl _ _ 24 rfl (w.heap.size + 1) 35 i0 _ 5 80 Try.underlying24 hi0 hz0 hz1 hz2 rfl (by omega) (.slice (some ⟨g, 0, none⟩) ns.length cap) ns.length xs rfl HOA.out ⟨W5.heap.size, 0, none⟩ 1 1 [.int .i64 3, .int .i64 0, .string ⟨#[]⟩, .slice none 0 0, .slice none 0 0] rfl rfl (World.news_of_block kA) (by intro u hu; simp at hu; (first | (rcases hu with rfl | rfl | rfl | rfl | rfl <;> rfl) | (rcases hu with rfl | rfl | rfl | rfl <;> rfl))) (by omega) (by simp [maxLen]; omega) (by omega) hwA (W5.heap.size + 1) hAz ?_)
   intro gg cap' w5 hown5 hgr5 hat5 hlt5
   have hk7 : ∀ b, b < W5.heap.size → b ≠ g → w5.heap[b]? = W5.heap[b]? := fun b h hne => (hgr5.block b (by rw [hAz]; omega) (fun e => hne (Option.some.inj e))).trans (heap_push_lt h)
   have hlo5 : w.heap.size + 1 < W5.heap.size := by omega
   have hz5 : w5.heap[w.heap.size]? = some (Obj.cells #[.slice none 0 0, .int .i64 0] 26) := (hk7 _ (by omega) n6).trans HB5.out.z
   have hp5 : w5.heap[g5]? = some (Obj.cells #[.slice (some ⟨g, 0, none⟩) ns.length cap, .int .i64 root] 26) := (hk7 _ hs5 n5).trans HB5.out.p
   have hbl5 : Below (w.heap.size + 1) W5 w5 := ⟨hgr5.os, hgr5.tape, hgr5.output, by have := hgr5.size; rw [hAz] at this; omega, fun b h => hk7 b (by omega) (by omega)⟩
   obtain ⟨cur9, h7, h8, h10⟩ : ∃ cur9, w5.heap[gg]? = some (Obj.cells cur9 35) ∧ w.heap.size + 1 ≤ gg ∧ cur9.toList.take ((ns.length + 1) * 5) = xs ++ [.int .i64 3, .int .i64 0, .string ⟨#[]⟩, .slice none 0 0, .slice none 0 0] := by
    rcases hown5.2 with ⟨h, _⟩ | ⟨g9, c9, cur9, h, b1, b2, b3, b4, b5, b6⟩
    ·cases h
    ·injection h with h _ _
     have h := Option.some.inj h
     injection h with h _
     subst h
     exact ⟨cur9, b2, b1, b6⟩
   have n11 : ¬ gg = g5 := by
    rintro rfl
    rw [hp5] at h7
    injection Option.some.inj h7 with _ h
    exact absurd h (by decide)
   have n12 : ¬ g5 = gg := fun h => n11 h.symm
   have n13 : ¬ w.heap.size = gg := by omega
   have HZ5 : Hid _ := hz5
   have HP5 : Hid _ := hp5
   have HBL5 : Hid (Below (w.heap.size + 1) W5 w5) := hbl5
   have HK7 : Hid (∀ b, b < W5.heap.size → b ≠ g → w5.heap[b]? = W5.heap[b]?) := hk7
   have H7G : Hid _ := h7
   have H10 : Hid (cur9.toList.take ((ns.length + 1) * 5) = xs ++ [.int .i64 3, .int .i64 0, .string ⟨#[]⟩, .slice none 0 0, .slice none 0 0]) := h10
   obtain ⟨y0, y1⟩ := zn2 hp5 rfl rfl
   have y2 := frozen_blk hp5 0
   obtain ⟨z0, z1⟩ := zn2 hz5 rfl rfl
   have f0 := frozen_blk hz5 0
   have f1 := frozen_blk hz5 1
   clear hown5 hgr5 hat5 hz5 hp5 hbl5 hk7 h7 h10 kA hAz hwA
   go_wp2
   refine bodyPost_ret (results_cell_row rfl _ _ w.heap.size 26 #[.slice (some ⟨gg, 0, none⟩) (ns.length + 1) cap', .int .i64 root] (0, 0) _ rfl (heap_setCell_same _ _ 1 _ _ _ (heap_setCell_same _ _ 0 _ _ _ ((heap_setCell_other _ _ _ _ n7).trans HZ5.out))) Try.underlying26 rfl info26) rfl ?_
   have hrg : RowG (w5.setCell ⟨g5, 0, none⟩ (.slice (some ⟨gg, 0, none⟩) (ns.length + 1) cap')) (w.heap.size + 1) (some ⟨gg, 0, none⟩) (ns ++ [nilN]) := own_more (nd := nilN) HND.out HXL.out ((heap_setCell_other _ _ _ _ n11).trans H7G.out) H10.out h8 (fun b hb => (heap_setCell_other _ _ _ _ (hb.2.2.1.ne HB5.out.p ⟨by decide, by decide⟩)).trans (HK7.out b hb.1 (fun e => hb.2.1 (by rw [e]; rfl)))) (by have := HBL5.out.size; simpa using this) rfl rfl
   have hfin := pw_end (cap := cap') hrg (Cw_set (Cw_lo HB5.out.cw HBL5.out) (by omega)) (by simp; omega) (fun d hd => by rcases List.mem_append.1 hd with hd | hd; (· exact (H5.out d hd).w); (· rw [List.mem_singleton.1 hd]; exact ⟨i64c rfl, i64c rfl, Nat.zero_le _, Nat.zero_le _, Nat.zero_le _, fun x h => by cases h⟩)) H7.out (.slice (some ⟨gg, 0, none⟩) (ns.length + 1) cap') (.int .i64 root)
   rw [List.length_append] at hfin
   exact hfin
end Go.Proofs.Ytgjeefedcfakdaa
