/- Draws: a heap. -/
import Derived.Test.YtkbpnjigoipgeaaDoorDvc
import Derived.Deep.RegionLaw
set_option linter.unusedVariables false
namespace Go.Proofs.YtkbpnjigoipgeaaDoor
open Go.ChangeShapes Go.WideShapes Go.ChangeAt Go.RowKit
open Cu (Cw Code1 CurS)
theorem info62 : (Tryd.prog.info? 40).map (fun i => (i.zero, i.size, i.bytes)) = some (some (.agg #[.int .i64 0, .string ⟨#[]⟩, .int .i64 0, .int .i64 0, .slice none 0 0, .slice none 0 0]), 6, 88) := by kernel_rfl
set_option maxRecDepth 100000 in
set_option maxHeartbeats 4000000 in
theorem l6Heap_any (c : Nat) (d : Code1) (most : Nat) (W : World) (hC : Cw W c d W) (hm : 0 < most) (hm2 : most ≤ 20) :
    Calls Tryd.prog 15 #[.pointer (some ⟨c, 0, none⟩), .int .i64 (most : Int)] W fun e W' => HdPost W c d e W' := by
  obtain ⟨i62, hi62, hz620, hz621, hz622⟩ := info_parts info62
  obtain ⟨i29, hi29, hz290, hz291, hz292⟩ := info_parts info29
  have hcw : c < W.heap.size := hC.2.2
  have hC1 : Cw W c d (W.alloc (Obj.cells #[] 40)) := hC.alloc _
  have HB0 : Hid (Calls Tryd.prog 26 #[.pointer (some ⟨c, 0, none⟩), .int .i64 (most : Int)] (W.alloc (Obj.cells #[] 40)) fun e W' => ∃ k : Nat, e = .returned (.int .i64 (k : Int)) ∧ k < most ∧ Cw (W.alloc (Obj.cells #[] 40)) c d W') := Cu.below_cw _ c d most _ (Cw_self hC1.1 (by show c < (W.heap.push _).size; rw [Array.size_push]; omega)) hm (by omega)
  have HBE : Hid (∀ (n : Nat) (U : World), 0 < n → n ≤ 1000 → Cw W c d U → Calls Tryd.prog 26 #[.pointer (some ⟨c, 0, none⟩), .int .i64 (n : Int)] U fun e W' => ∃ k : Nat, e = .returned (.int .i64 (k : Int)) ∧ k < n ∧ Cw U c d W') := fun n U h0 h1 hU => Cu.below_cw _ c d n U (Cw_self hU.1 (by have := hU.2.1.size; omega)) h0 (by omega)
  have HC0 : Hid (Cw W c d (W.alloc (Obj.cells #[] 40))) := hC1
  clear hC hC1
  go_enter Tryd.func15, Tryd.ntmps15
  go_wp2_with fail
  refine HB0.out.mono ?_
  rintro e w0 ⟨n0, rfl, hn0, hc0⟩
  have hs00 : (W.alloc (Obj.cells #[] 40)).heap.size = W.heap.size + 1 := by simp
  have HCI : Hid (Cw W c d w0) := Cw_trans HC0.out hc0
  have HOI : Hid (OwnH w0 W.heap.size w0.heap.size (.slice (some ⟨W.heap.size, 0, none⟩) 0 0) []) := OwnH.nil (own_empty (Cw_blk hc0 (blk_at _ _ _ rfl) (by omega)) (Nat.le_refl _)) (fun k hk => by have : W.heap.size = k := (by injection hk); subst this; have := hc0.2.1.size; omega) (by have := hc0.2.1.size; omega)
  clear hc0 HB0
  go_wp2
  go_loopw [5, 6] (fun o nv wr => ∃ (h : List Cel) (m : Nat), h.length + m ≤ 20 ∧ nv = .int .i64 m ∧ OwnH wr W.heap.size wr.heap.size o h ∧ (∀ x ∈ h, x.tiny ∧ x.vals.length ≤ 2) ∧ Cw W c d wr)
    (fun _ nv _ => (intOf nv).toNat)
  case atStart => exact ⟨[], n0, by simp; omega, rfl, HOI.out, (fun x hx => by simp at hx), HCI.out⟩
  case round =>
    clear HCI HOI
    obtain ⟨h, m, hlm, rfl, ho, htn, hcr⟩ := hrel
    obtain ⟨oa, oc, rfl, hoc⟩ := ho.slice
    have HOR : Hid (OwnH wr W.heap.size wr.heap.size (.slice oa h.length oc) h) := ho
    have HTN : Hid (∀ x ∈ h, x.tiny ∧ x.vals.length ≤ 2) := htn
    have HCR : Hid (Cw W c d wr) := hcr
    have hswr : W.heap.size ≤ wr.heap.size := hcr.2.1.size
    clear ho htn hcr
    match m with
    | m + 1 =>
      have hpos : (0 : Int) < ((m + 1 : Nat) : Int) := by omega
      go_wp2_with fail
      refine (HBE.out 4 wr (by omega) (by omega) HCR.out).mono ?_
      rintro e wq ⟨k4, rfl, hk4, hcq⟩
      have HCQ : Hid (Cw wr c d wq) := hcq
      have hswq : wr.heap.size ≤ wq.heap.size := hcq.2.1.size
      have HCW : Hid (Cw W c d wq) := Cw_trans HCR.out hcq
      have HOQ : Hid (OwnH wq W.heap.size wr.heap.size (.slice oa h.length oc) h) := HOR.out.keep fun b h1 _ h3 => hcq.2.1.block b h3 fun e => by have : b = c := Option.some.inj e; omega
      have HKQ : Hid (KindsAt wq c oa h) := HOQ.out.kinds (by omega)
      clear hcq HCR HOR
      obtain rfl | rfl | hk4' : k4 = 0 ∨ k4 = 1 ∨ (2 ≤ k4) := by omega
      · have hCq : Cw wq c d wq := Cw_self HCQ.out.1 (by omega)
        have HV1 : Hid (Calls Tryd.prog 27 #[.pointer (some ⟨c, 0, none⟩), .slice oa h.length oc] wq fun e W' => VdPost wq c d e W') := l6Val_any c d oa oc h _ hCq (by omega) HKQ.out
        clear hCq
        go_wp2_with fail
        refine HV1.out.mono ?_
        rintro e wa ⟨v1, rfl, ht1, hca⟩
        have hsa : wq.heap.size ≤ wa.heap.size := hca.2.1.size
        have HCA : Hid (Cw wq c d wa) := hca
        clear HV1 hca
        have hsw : ((wa.alloc (Obj.cells #[.int .i64 v1.k, .int .i64 v1.n, .string v1.s] 26)).alloc (Obj.cells #[.int .i64 3, .string ⟨#[108, 105, 98, 58, 112, 116]⟩, .int .i64 1, .int .i64 0, .slice none 0 0, .slice (some ⟨wa.heap.size, 0, none⟩) 1 1] 40)).heap.size = wa.heap.size + 1 + 1 := by simp
        have kv3 : ((wa.alloc (Obj.cells #[.int .i64 v1.k, .int .i64 v1.n, .string v1.s] 26)).alloc (Obj.cells #[.int .i64 3, .string ⟨#[108, 105, 98, 58, 112, 116]⟩, .int .i64 1, .int .i64 0, .slice none 0 0, .slice (some ⟨wa.heap.size, 0, none⟩) 1 1] 40)).heap[wa.heap.size]? = some (Obj.cells #[.int .i64 v1.k, .int .i64 v1.n, .string v1.s] 26) := blk_past (blk_at _ _ _ rfl)
        have kc3 : ((wa.alloc (Obj.cells #[.int .i64 v1.k, .int .i64 v1.n, .string v1.s] 26)).alloc (Obj.cells #[.int .i64 3, .string ⟨#[108, 105, 98, 58, 112, 116]⟩, .int .i64 1, .int .i64 0, .slice none 0 0, .slice (some ⟨wa.heap.size, 0, none⟩) 1 1] 40)).heap[wa.heap.size + 1]? = some (Obj.cells #[.int .i64 3, .string ⟨#[108, 105, 98, 58, 112, 116]⟩, .int .i64 1, .int .i64 0, .slice none 0 0, .slice (some ⟨wa.heap.size, 0, none⟩) 1 1] 40) := blk_at _ _ _ (by simp)
        have HC3 : Hid (Cw wq c d ((wa.alloc (Obj.cells #[.int .i64 v1.k, .int .i64 v1.n, .string v1.s] 26)).alloc (Obj.cells #[.int .i64 3, .string ⟨#[108, 105, 98, 58, 112, 116]⟩, .int .i64 1, .int .i64 0, .slice none 0 0, .slice (some ⟨wa.heap.size, 0, none⟩) 1 1] 40))) := (HCA.out.alloc _).alloc _
        have hO3 : OwnH ((wa.alloc (Obj.cells #[.int .i64 v1.k, .int .i64 v1.n, .string v1.s] 26)).alloc (Obj.cells #[.int .i64 3, .string ⟨#[108, 105, 98, 58, 112, 116]⟩, .int .i64 1, .int .i64 0, .slice none 0 0, .slice (some ⟨wa.heap.size, 0, none⟩) 1 1] 40)) W.heap.size wr.heap.size (.slice oa h.length oc) h := HOQ.out.keep fun b h1 _ h3 => HC3.out.2.1.block b h3 fun e => by have : b = c := Option.some.inj e; omega
        obtain ⟨xs, hxs⟩ := hO3.1
        have hov3 : OwnV ((wa.alloc (Obj.cells #[.int .i64 v1.k, .int .i64 v1.n, .string v1.s] 26)).alloc (Obj.cells #[.int .i64 3, .string ⟨#[108, 105, 98, 58, 112, 116]⟩, .int .i64 1, .int .i64 0, .slice none 0 0, .slice (some ⟨wa.heap.size, 0, none⟩) 1 1] 40)) wa.heap.size (.slice (some ⟨wa.heap.size, 0, none⟩) 1 1) [v1] := OwnV.of ⟨rfl, .inr ⟨wa.heap.size, 1, _, rfl, Nat.le_refl _, kv3, Nat.le_refl _, by unfold maxLen; omega, rfl, rfl⟩⟩
        have hos3 : OwnS ((wa.alloc (Obj.cells #[.int .i64 v1.k, .int .i64 v1.n, .string v1.s] 26)).alloc (Obj.cells #[.int .i64 3, .string ⟨#[108, 105, 98, 58, 112, 116]⟩, .int .i64 1, .int .i64 0, .slice none 0 0, .slice (some ⟨wa.heap.size, 0, none⟩) 1 1] 40)) wq.heap.size (.slice none 0 0) [] := ⟨rfl, .inl ⟨rfl, rfl⟩⟩
        have HO3 : Hid (OwnH ((wa.alloc (Obj.cells #[.int .i64 v1.k, .int .i64 v1.n, .string v1.s] 26)).alloc (Obj.cells #[.int .i64 3, .string ⟨#[108, 105, 98, 58, 112, 116]⟩, .int .i64 1, .int .i64 0, .slice none 0 0, .slice (some ⟨wa.heap.size, 0, none⟩) 1 1] 40)) W.heap.size wr.heap.size (.slice oa h.length oc) h) := hO3
        have HOS3 : Hid (OwnS ((wa.alloc (Obj.cells #[.int .i64 v1.k, .int .i64 v1.n, .string v1.s] 26)).alloc (Obj.cells #[.int .i64 3, .string ⟨#[108, 105, 98, 58, 112, 116]⟩, .int .i64 1, .int .i64 0, .slice none 0 0, .slice (some ⟨wa.heap.size, 0, none⟩) 1 1] 40)) wq.heap.size (.slice none 0 0) []) := hos3
        have HOV3 : Hid (OwnV ((wa.alloc (Obj.cells #[.int .i64 v1.k, .int .i64 v1.n, .string v1.s] 26)).alloc (Obj.cells #[.int .i64 3, .string ⟨#[108, 105, 98, 58, 112, 116]⟩, .int .i64 1, .int .i64 0, .slice none 0 0, .slice (some ⟨wa.heap.size, 0, none⟩) 1 1] 40)) wq.heap.size (.slice (some ⟨wa.heap.size, 0, none⟩) 1 1) [v1]) := hov3.weak (by omega)
        have hone : ∀ u ∈ ([.int .i64 3, .string ⟨#[108, 105, 98, 58, 112, 116]⟩, .int .i64 1, .int .i64 0, .slice none 0 0, .slice (some ⟨wa.heap.size, 0, none⟩) 1 1] : List Value), u.oneCell' = true := by
          intro u hu
          simp at hu
          rcases hu with rfl | rfl | rfl | rfl | rfl | rfl <;> rfl
        have HTI : Hid ((⟨3, ⟨#[108, 105, 98, 58, 112, 116]⟩, 1, 0, [], [v1]⟩ : Cel).tiny) := ⟨by show (-10 : Int) ≤ 3; omega, by show (3 : Int) ≤ 20; omega, by show (-10 : Int) ≤ 1; omega, by show (1 : Int) ≤ 2000; omega, rfl, by show (6 : Nat) ≤ 40; omega, by show (0 : Nat) ≤ 1; omega, by intro y hy; simp at hy, by show (1 : Nat) ≤ 3; omega, by intro v hv; simp at hv; subst hv; exact ht1⟩
        clear hO3 hos3 hov3 kv3 HCA
        go_wp2_with (at_builtin; go_loud (refine wpList_append_row rfl _ _ 24 rfl W.heap.size 40 i62 _ 6 88 Tryd.underlying24 hi62 hz620 hz621 hz622 rfl (by omega) (.slice oa h.length oc) h.length xs rfl hxs (some ⟨wa.heap.size + 1, 0, none⟩) 1 1 [.int .i64 3, .string ⟨#[108, 105, 98, 58, 112, 116]⟩, .int .i64 1, .int .i64 0, .slice none 0 0, .slice (some ⟨wa.heap.size, 0, none⟩) 1 1] rfl rfl (fun _ => ⟨_, rfl, World.news_of_block kc3⟩) hone (by unfold maxLen; omega) (by omega) (by omega) ?_; intro v4 w4 hown4 hgr4 hat4))
        have HF : Hid (OwnH w4 W.heap.size w4.heap.size v4 (h ++ [(⟨3, ⟨#[108, 105, 98, 58, 112, 116]⟩, 1, 0, [], [v1]⟩ : Cel)])) := HO3.out.push (c := (⟨3, ⟨#[108, 105, 98, 58, 112, 116]⟩, 1, 0, [], [v1]⟩ : Cel)) (lo := wq.heap.size) hxs hown4 hgr4 HOS3.out HOV3.out (by omega) (by omega)
        have HCF : Hid (Cw W c d w4) := Cw_grow (Cw_trans HCW.out HC3.out) hgr4 fun k hk => (own_blk hxs hk).1
        clear hown4 hgr4 hat4 hxs kc3
        go_roundw
        case rel => exact ⟨h ++ [(⟨3, ⟨#[108, 105, 98, 58, 112, 116]⟩, 1, 0, [], [v1]⟩ : Cel)], m, by simp; omega, by go_num, HF.out, (fun x hx => by rcases List.mem_append.1 hx with hx | hx; exact HTN.out x hx; simp at hx; subst hx; exact ⟨HTI.out, by show (1 : Nat) ≤ 2; omega⟩), HCF.out⟩
        case measure => simp [intOf]
      · have hCq : Cw (wq.alloc (Obj.cells #[.string ⟨#[120]⟩] 9)) c d (wq.alloc (Obj.cells #[.string ⟨#[120]⟩] 9)) := Cw_self (HCQ.out.alloc _).1 (by show c < (wq.heap.push _).size; rw [Array.size_push]; omega)
        have HV1 : Hid (Calls Tryd.prog 27 #[.pointer (some ⟨c, 0, none⟩), .slice oa h.length oc] (wq.alloc (Obj.cells #[.string ⟨#[120]⟩] 9)) fun e W' => VdPost (wq.alloc (Obj.cells #[.string ⟨#[120]⟩] 9)) c d e W') := l6Val_any c d oa oc h _ hCq (by omega) (HKQ.out.lit _)
        clear hCq
        go_wp2_with fail
        refine HV1.out.mono ?_
        rintro e wa ⟨v1, rfl, ht1, hca⟩
        have hsa : wq.heap.size + 1 ≤ wa.heap.size := by have := hca.2.1.size; have e : (wq.alloc (Obj.cells #[.string ⟨#[120]⟩] 9)).heap.size = wq.heap.size + 1 := by simp
                                                         omega
        have HNA : Hid (wa.heap[wq.heap.size]? = some (Obj.cells #[.string ⟨#[120]⟩] 9)) := Cw_blk hca (blk_at _ _ _ rfl) (by omega)
        have HCA : Hid (Cw wq c d wa) := Cw_lit hca (by omega)
        clear HV1 hca
        have hsw : ((wa.alloc (Obj.cells #[.int .i64 v1.k, .int .i64 v1.n, .string v1.s] 26)).alloc (Obj.cells #[.int .i64 2, .string ⟨#[]⟩, .int .i64 0, .int .i64 0, .slice (some ⟨wq.heap.size, 0, none⟩) 1 1, .slice (some ⟨wa.heap.size, 0, none⟩) 1 1] 40)).heap.size = wa.heap.size + 1 + 1 := by simp
        have kv3 : ((wa.alloc (Obj.cells #[.int .i64 v1.k, .int .i64 v1.n, .string v1.s] 26)).alloc (Obj.cells #[.int .i64 2, .string ⟨#[]⟩, .int .i64 0, .int .i64 0, .slice (some ⟨wq.heap.size, 0, none⟩) 1 1, .slice (some ⟨wa.heap.size, 0, none⟩) 1 1] 40)).heap[wa.heap.size]? = some (Obj.cells #[.int .i64 v1.k, .int .i64 v1.n, .string v1.s] 26) := blk_past (blk_at _ _ _ rfl)
        have kc3 : ((wa.alloc (Obj.cells #[.int .i64 v1.k, .int .i64 v1.n, .string v1.s] 26)).alloc (Obj.cells #[.int .i64 2, .string ⟨#[]⟩, .int .i64 0, .int .i64 0, .slice (some ⟨wq.heap.size, 0, none⟩) 1 1, .slice (some ⟨wa.heap.size, 0, none⟩) 1 1] 40)).heap[wa.heap.size + 1]? = some (Obj.cells #[.int .i64 2, .string ⟨#[]⟩, .int .i64 0, .int .i64 0, .slice (some ⟨wq.heap.size, 0, none⟩) 1 1, .slice (some ⟨wa.heap.size, 0, none⟩) 1 1] 40) := blk_at _ _ _ (by simp)
        have HC3 : Hid (Cw wq c d ((wa.alloc (Obj.cells #[.int .i64 v1.k, .int .i64 v1.n, .string v1.s] 26)).alloc (Obj.cells #[.int .i64 2, .string ⟨#[]⟩, .int .i64 0, .int .i64 0, .slice (some ⟨wq.heap.size, 0, none⟩) 1 1, .slice (some ⟨wa.heap.size, 0, none⟩) 1 1] 40))) := (HCA.out.alloc _).alloc _
        have hO3 : OwnH ((wa.alloc (Obj.cells #[.int .i64 v1.k, .int .i64 v1.n, .string v1.s] 26)).alloc (Obj.cells #[.int .i64 2, .string ⟨#[]⟩, .int .i64 0, .int .i64 0, .slice (some ⟨wq.heap.size, 0, none⟩) 1 1, .slice (some ⟨wa.heap.size, 0, none⟩) 1 1] 40)) W.heap.size wr.heap.size (.slice oa h.length oc) h := HOQ.out.keep fun b h1 _ h3 => HC3.out.2.1.block b h3 fun e => by have : b = c := Option.some.inj e; omega
        obtain ⟨xs, hxs⟩ := hO3.1
        have hov3 : OwnV ((wa.alloc (Obj.cells #[.int .i64 v1.k, .int .i64 v1.n, .string v1.s] 26)).alloc (Obj.cells #[.int .i64 2, .string ⟨#[]⟩, .int .i64 0, .int .i64 0, .slice (some ⟨wq.heap.size, 0, none⟩) 1 1, .slice (some ⟨wa.heap.size, 0, none⟩) 1 1] 40)) wa.heap.size (.slice (some ⟨wa.heap.size, 0, none⟩) 1 1) [v1] := OwnV.of ⟨rfl, .inr ⟨wa.heap.size, 1, _, rfl, Nat.le_refl _, kv3, Nat.le_refl _, by unfold maxLen; omega, rfl, rfl⟩⟩
        have kn3 : ((wa.alloc (Obj.cells #[.int .i64 v1.k, .int .i64 v1.n, .string v1.s] 26)).alloc (Obj.cells #[.int .i64 2, .string ⟨#[]⟩, .int .i64 0, .int .i64 0, .slice (some ⟨wq.heap.size, 0, none⟩) 1 1, .slice (some ⟨wa.heap.size, 0, none⟩) 1 1] 40)).heap[wq.heap.size]? = some (Obj.cells #[.string ⟨#[120]⟩] 9) := blk_past (blk_past HNA.out)
        have hos3 : OwnS ((wa.alloc (Obj.cells #[.int .i64 v1.k, .int .i64 v1.n, .string v1.s] 26)).alloc (Obj.cells #[.int .i64 2, .string ⟨#[]⟩, .int .i64 0, .int .i64 0, .slice (some ⟨wq.heap.size, 0, none⟩) 1 1, .slice (some ⟨wa.heap.size, 0, none⟩) 1 1] 40)) wq.heap.size (.slice (some ⟨wq.heap.size, 0, none⟩) 1 1) [⟨#[120]⟩] := ⟨rfl, .inr ⟨wq.heap.size, 1, _, rfl, Nat.le_refl _, kn3, Nat.le_refl _, by unfold maxLen; omega, rfl, rfl⟩⟩
        have HO3 : Hid (OwnH ((wa.alloc (Obj.cells #[.int .i64 v1.k, .int .i64 v1.n, .string v1.s] 26)).alloc (Obj.cells #[.int .i64 2, .string ⟨#[]⟩, .int .i64 0, .int .i64 0, .slice (some ⟨wq.heap.size, 0, none⟩) 1 1, .slice (some ⟨wa.heap.size, 0, none⟩) 1 1] 40)) W.heap.size wr.heap.size (.slice oa h.length oc) h) := hO3
        have HOS3 : Hid (OwnS ((wa.alloc (Obj.cells #[.int .i64 v1.k, .int .i64 v1.n, .string v1.s] 26)).alloc (Obj.cells #[.int .i64 2, .string ⟨#[]⟩, .int .i64 0, .int .i64 0, .slice (some ⟨wq.heap.size, 0, none⟩) 1 1, .slice (some ⟨wa.heap.size, 0, none⟩) 1 1] 40)) wq.heap.size (.slice (some ⟨wq.heap.size, 0, none⟩) 1 1) [⟨#[120]⟩]) := hos3
        have HOV3 : Hid (OwnV ((wa.alloc (Obj.cells #[.int .i64 v1.k, .int .i64 v1.n, .string v1.s] 26)).alloc (Obj.cells #[.int .i64 2, .string ⟨#[]⟩, .int .i64 0, .int .i64 0, .slice (some ⟨wq.heap.size, 0, none⟩) 1 1, .slice (some ⟨wa.heap.size, 0, none⟩) 1 1] 40)) wq.heap.size (.slice (some ⟨wa.heap.size, 0, none⟩) 1 1) [v1]) := hov3.weak (by omega)
        have hone : ∀ u ∈ ([.int .i64 2, .string ⟨#[]⟩, .int .i64 0, .int .i64 0, .slice (some ⟨wq.heap.size, 0, none⟩) 1 1, .slice (some ⟨wa.heap.size, 0, none⟩) 1 1] : List Value), u.oneCell' = true := by
          intro u hu
          simp at hu
          rcases hu with rfl | rfl | rfl | rfl | rfl | rfl <;> rfl
        have HTI : Hid ((⟨2, ⟨#[]⟩, 0, 0, [⟨#[120]⟩], [v1]⟩ : Cel).tiny) := ⟨by show (-10 : Int) ≤ 2; omega, by show (2 : Int) ≤ 20; omega, by show (-10 : Int) ≤ 0; omega, by show (0 : Int) ≤ 2000; omega, rfl, by show (0 : Nat) ≤ 40; omega, by show (1 : Nat) ≤ 1; omega, by intro y hy; simp at hy; subst hy; decide, by show (1 : Nat) ≤ 3; omega, by intro v hv; simp at hv; subst hv; exact ht1⟩
        clear hO3 hos3 hov3 kv3 kn3 HNA HCA
        go_wp2_with (at_builtin; go_loud (refine wpList_append_row rfl _ _ 24 rfl W.heap.size 40 i62 _ 6 88 Tryd.underlying24 hi62 hz620 hz621 hz622 rfl (by omega) (.slice oa h.length oc) h.length xs rfl hxs (some ⟨wa.heap.size + 1, 0, none⟩) 1 1 [.int .i64 2, .string ⟨#[]⟩, .int .i64 0, .int .i64 0, .slice (some ⟨wq.heap.size, 0, none⟩) 1 1, .slice (some ⟨wa.heap.size, 0, none⟩) 1 1] rfl rfl (fun _ => ⟨_, rfl, World.news_of_block kc3⟩) hone (by unfold maxLen; omega) (by omega) (by omega) ?_; intro v4 w4 hown4 hgr4 hat4))
        have HF : Hid (OwnH w4 W.heap.size w4.heap.size v4 (h ++ [(⟨2, ⟨#[]⟩, 0, 0, [⟨#[120]⟩], [v1]⟩ : Cel)])) := HO3.out.push (c := (⟨2, ⟨#[]⟩, 0, 0, [⟨#[120]⟩], [v1]⟩ : Cel)) (lo := wq.heap.size) hxs hown4 hgr4 HOS3.out HOV3.out (by omega) (by omega)
        have HCF : Hid (Cw W c d w4) := Cw_grow (Cw_trans HCW.out HC3.out) hgr4 fun k hk => (own_blk hxs hk).1
        clear hown4 hgr4 hat4 hxs kc3
        go_roundw
        case rel => exact ⟨h ++ [(⟨2, ⟨#[]⟩, 0, 0, [⟨#[120]⟩], [v1]⟩ : Cel)], m, by simp; omega, by go_num, HF.out, (fun x hx => by rcases List.mem_append.1 hx with hx | hx; exact HTN.out x hx; simp at hx; subst hx; exact ⟨HTI.out, by show (1 : Nat) ≤ 2; omega⟩), HCF.out⟩
        case measure => simp [intOf]
      · have r0 : ((k4 : Int) == 0) = false := by rw [beq_eq_false_iff_ne]; omega
        have r1 : ((k4 : Int) == 1) = false := by rw [beq_eq_false_iff_ne]; omega
        have hCq : Cw wq c d wq := Cw_self HCQ.out.1 (by omega)
        have HV1 : Hid (Calls Tryd.prog 27 #[.pointer (some ⟨c, 0, none⟩), .slice oa h.length oc] wq fun e W' => VdPost wq c d e W') := l6Val_any c d oa oc h _ hCq (by omega) HKQ.out
        clear hCq
        go_wp2_with fail
        refine HV1.out.mono ?_
        rintro e wa ⟨v1, rfl, ht1, hca⟩
        have hsa : wq.heap.size ≤ wa.heap.size := hca.2.1.size
        have HCA : Hid (Cw wq c d wa) := hca
        clear HV1 hca
        have HV2 : Hid (Calls Tryd.prog 27 #[.pointer (some ⟨c, 0, none⟩), .slice oa h.length oc] wa fun e W' => VdPost wa c d e W') := l6Val_any c d oa oc h _ (Cw_self HCA.out.1 (by omega)) (by omega) (HKQ.out.keep HCA.out)
        go_wp2_with fail
        refine HV2.out.mono ?_
        rintro e wb ⟨v2, rfl, ht2, hcb⟩
        have hsb : wq.heap.size ≤ wb.heap.size := by have := hcb.2.1.size; omega
        have HCB : Hid (Cw wq c d wb) := Cw_trans HCA.out hcb
        clear HV2 hcb
        have hsw : ((wb.alloc (Obj.cells #[.int .i64 v1.k, .int .i64 v1.n, .string v1.s, .int .i64 v2.k, .int .i64 v2.n, .string v2.s] 26)).alloc (Obj.cells #[.int .i64 1, .string ⟨#[]⟩, .int .i64 0, .int .i64 0, .slice none 0 0, .slice (some ⟨wb.heap.size, 0, none⟩) 2 2] 40)).heap.size = wb.heap.size + 1 + 1 := by simp
        have kv3 : ((wb.alloc (Obj.cells #[.int .i64 v1.k, .int .i64 v1.n, .string v1.s, .int .i64 v2.k, .int .i64 v2.n, .string v2.s] 26)).alloc (Obj.cells #[.int .i64 1, .string ⟨#[]⟩, .int .i64 0, .int .i64 0, .slice none 0 0, .slice (some ⟨wb.heap.size, 0, none⟩) 2 2] 40)).heap[wb.heap.size]? = some (Obj.cells #[.int .i64 v1.k, .int .i64 v1.n, .string v1.s, .int .i64 v2.k, .int .i64 v2.n, .string v2.s] 26) := blk_past (blk_at _ _ _ rfl)
        have kc3 : ((wb.alloc (Obj.cells #[.int .i64 v1.k, .int .i64 v1.n, .string v1.s, .int .i64 v2.k, .int .i64 v2.n, .string v2.s] 26)).alloc (Obj.cells #[.int .i64 1, .string ⟨#[]⟩, .int .i64 0, .int .i64 0, .slice none 0 0, .slice (some ⟨wb.heap.size, 0, none⟩) 2 2] 40)).heap[wb.heap.size + 1]? = some (Obj.cells #[.int .i64 1, .string ⟨#[]⟩, .int .i64 0, .int .i64 0, .slice none 0 0, .slice (some ⟨wb.heap.size, 0, none⟩) 2 2] 40) := blk_at _ _ _ (by simp)
        have HC3 : Hid (Cw wq c d ((wb.alloc (Obj.cells #[.int .i64 v1.k, .int .i64 v1.n, .string v1.s, .int .i64 v2.k, .int .i64 v2.n, .string v2.s] 26)).alloc (Obj.cells #[.int .i64 1, .string ⟨#[]⟩, .int .i64 0, .int .i64 0, .slice none 0 0, .slice (some ⟨wb.heap.size, 0, none⟩) 2 2] 40))) := (HCB.out.alloc _).alloc _
        have hO3 : OwnH ((wb.alloc (Obj.cells #[.int .i64 v1.k, .int .i64 v1.n, .string v1.s, .int .i64 v2.k, .int .i64 v2.n, .string v2.s] 26)).alloc (Obj.cells #[.int .i64 1, .string ⟨#[]⟩, .int .i64 0, .int .i64 0, .slice none 0 0, .slice (some ⟨wb.heap.size, 0, none⟩) 2 2] 40)) W.heap.size wr.heap.size (.slice oa h.length oc) h := HOQ.out.keep fun b h1 _ h3 => HC3.out.2.1.block b h3 fun e => by have : b = c := Option.some.inj e; omega
        obtain ⟨xs, hxs⟩ := hO3.1
        have hov3 : OwnV ((wb.alloc (Obj.cells #[.int .i64 v1.k, .int .i64 v1.n, .string v1.s, .int .i64 v2.k, .int .i64 v2.n, .string v2.s] 26)).alloc (Obj.cells #[.int .i64 1, .string ⟨#[]⟩, .int .i64 0, .int .i64 0, .slice none 0 0, .slice (some ⟨wb.heap.size, 0, none⟩) 2 2] 40)) wb.heap.size (.slice (some ⟨wb.heap.size, 0, none⟩) 2 2) [v1, v2] := OwnV.of ⟨rfl, .inr ⟨wb.heap.size, 2, _, rfl, Nat.le_refl _, kv3, Nat.le_refl _, by unfold maxLen; omega, rfl, rfl⟩⟩
        have hos3 : OwnS ((wb.alloc (Obj.cells #[.int .i64 v1.k, .int .i64 v1.n, .string v1.s, .int .i64 v2.k, .int .i64 v2.n, .string v2.s] 26)).alloc (Obj.cells #[.int .i64 1, .string ⟨#[]⟩, .int .i64 0, .int .i64 0, .slice none 0 0, .slice (some ⟨wb.heap.size, 0, none⟩) 2 2] 40)) wq.heap.size (.slice none 0 0) [] := ⟨rfl, .inl ⟨rfl, rfl⟩⟩
        have HO3 : Hid (OwnH ((wb.alloc (Obj.cells #[.int .i64 v1.k, .int .i64 v1.n, .string v1.s, .int .i64 v2.k, .int .i64 v2.n, .string v2.s] 26)).alloc (Obj.cells #[.int .i64 1, .string ⟨#[]⟩, .int .i64 0, .int .i64 0, .slice none 0 0, .slice (some ⟨wb.heap.size, 0, none⟩) 2 2] 40)) W.heap.size wr.heap.size (.slice oa h.length oc) h) := hO3
        have HOS3 : Hid (OwnS ((wb.alloc (Obj.cells #[.int .i64 v1.k, .int .i64 v1.n, .string v1.s, .int .i64 v2.k, .int .i64 v2.n, .string v2.s] 26)).alloc (Obj.cells #[.int .i64 1, .string ⟨#[]⟩, .int .i64 0, .int .i64 0, .slice none 0 0, .slice (some ⟨wb.heap.size, 0, none⟩) 2 2] 40)) wq.heap.size (.slice none 0 0) []) := hos3
        have HOV3 : Hid (OwnV ((wb.alloc (Obj.cells #[.int .i64 v1.k, .int .i64 v1.n, .string v1.s, .int .i64 v2.k, .int .i64 v2.n, .string v2.s] 26)).alloc (Obj.cells #[.int .i64 1, .string ⟨#[]⟩, .int .i64 0, .int .i64 0, .slice none 0 0, .slice (some ⟨wb.heap.size, 0, none⟩) 2 2] 40)) wq.heap.size (.slice (some ⟨wb.heap.size, 0, none⟩) 2 2) [v1, v2]) := hov3.weak (by omega)
        have hone : ∀ u ∈ ([.int .i64 1, .string ⟨#[]⟩, .int .i64 0, .int .i64 0, .slice none 0 0, .slice (some ⟨wb.heap.size, 0, none⟩) 2 2] : List Value), u.oneCell' = true := by
          intro u hu
          simp at hu
          rcases hu with rfl | rfl | rfl | rfl | rfl <;> rfl
        have HTI : Hid ((⟨1, ⟨#[]⟩, 0, 0, [], [v1, v2]⟩ : Cel).tiny) := ⟨by show (-10 : Int) ≤ 1; omega, by show (1 : Int) ≤ 20; omega, by show (-10 : Int) ≤ 0; omega, by show (0 : Int) ≤ 2000; omega, rfl, by show (0 : Nat) ≤ 40; omega, by show (0 : Nat) ≤ 1; omega, by intro y hy; simp at hy, by show (2 : Nat) ≤ 3; omega, by intro v hv; simp at hv; rcases hv with rfl | rfl; exact ht1; exact ht2⟩
        clear hO3 hos3 hov3 kv3 HCB
        go_wp2_with (at_builtin; go_loud (refine wpList_append_row rfl _ _ 24 rfl W.heap.size 40 i62 _ 6 88 Tryd.underlying24 hi62 hz620 hz621 hz622 rfl (by omega) (.slice oa h.length oc) h.length xs rfl hxs (some ⟨wb.heap.size + 1, 0, none⟩) 1 1 [.int .i64 1, .string ⟨#[]⟩, .int .i64 0, .int .i64 0, .slice none 0 0, .slice (some ⟨wb.heap.size, 0, none⟩) 2 2] rfl rfl (fun _ => ⟨_, rfl, World.news_of_block kc3⟩) hone (by unfold maxLen; omega) (by omega) (by omega) ?_; intro v4 w4 hown4 hgr4 hat4))
        have HF : Hid (OwnH w4 W.heap.size w4.heap.size v4 (h ++ [(⟨1, ⟨#[]⟩, 0, 0, [], [v1, v2]⟩ : Cel)])) := HO3.out.push (c := (⟨1, ⟨#[]⟩, 0, 0, [], [v1, v2]⟩ : Cel)) (lo := wq.heap.size) hxs hown4 hgr4 HOS3.out HOV3.out (by omega) (by omega)
        have HCF : Hid (Cw W c d w4) := Cw_grow (Cw_trans HCW.out HC3.out) hgr4 fun k hk => (own_blk hxs hk).1
        clear hown4 hgr4 hat4 hxs kc3
        go_roundw
        case rel => exact ⟨h ++ [(⟨1, ⟨#[]⟩, 0, 0, [], [v1, v2]⟩ : Cel)], m, by simp; omega, by go_num, HF.out, (fun x hx => by rcases List.mem_append.1 hx with hx | hx; exact HTN.out x hx; simp at hx; subst hx; exact ⟨HTI.out, by show (2 : Nat) ≤ 2; omega⟩), HCF.out⟩
        case measure => simp [intOf]
    | 0 =>
      have HFIN : Hid (HdPost W c d (.returned (.slice oa h.length oc)) wr) := ⟨h, oa, oc, rfl, by omega, hoc, fun x hx => (HTN.out x hx).1, HOR.out.rowc hcw, HOR.out.top hcw, HCR.out⟩
      by_cases h0 : h.length = 0
      · obtain rfl : h = [] := List.eq_nil_of_length_eq_zero h0
        simp only [List.length_nil] at HFIN ⊢
        clear HOR h0
        go_wp2
        go_ret
        exact HFIN.out
      · have hpos : (0 : Int) < (h.length : Int) := by omega
        have hposN : 0 < h.length := by omega
        clear h0
        have HON : Hid (Calls Tryd.prog 14 #[.pointer (some ⟨c, 0, none⟩), .int .i64 10] wr fun e W' => ∃ b : Bool, e = .returned (.bool b) ∧ Cw wr c d W') := Cu.once_cw _ c d 10 _ (Cw_self HCR.out.1 (by omega)) (by omega) (by omega)
        go_wp2_with fail
        refine HON.out.mono ?_
        rintro e w1 ⟨ob, rfl, hc1⟩
        have HC1 : Hid (Cw wr c d w1) := hc1
        clear hc1 HON
        cases ob with
        | false =>
          have HF1 : Hid (HdPost W c d (.returned (.slice oa h.length oc)) w1) := ⟨h, oa, oc, rfl, by omega, hoc, fun x hx => (HTN.out x hx).1, (HOR.out.rowc hcw).keep HC1.out, (HOR.out.top hcw).keep HC1.out, Cw_trans HCR.out HC1.out⟩
          go_wp2
          go_ret
          exact HF1.out
        | true =>
          go_wp2_with fail
          refine (HBE.out h.length w1 (by omega) (by omega) (Cw_trans HCR.out HC1.out)).mono ?_
          rintro e w2 ⟨k, rfl, hk, hc2⟩
          have HC2 : Hid (Cw wr c d w2) := Cw_trans HC1.out hc2
          clear hc2 HC1
          go_wp2_with fail
          refine (HBE.out 4 w2 (by omega) (by omega) (Cw_trans HCR.out HC2.out)).mono ?_
          rintro e w3 ⟨k4, rfl, hk4, hc3⟩
          have HC3 : Hid (Cw W c d w3) := Cw_trans HCR.out (Cw_trans HC2.out hc3)
          have HO3 : Hid (OwnH w3 W.heap.size wr.heap.size (.slice oa h.length oc) h) := HOR.out.keep fun b h1 _ h3 => (Cw_trans HC2.out hc3).2.1.block b h3 fun e => by have : b = c := Option.some.inj e; omega
          have hs3 : wr.heap.size ≤ w3.heap.size := (Cw_trans HC2.out hc3).2.1.size
          obtain ⟨x, hx⟩ : ∃ x, h[k]? = some x := ⟨h[k], List.getElem?_eq_getElem hk⟩
          obtain ⟨g, cur, rfl, hg3, hBg, hgT⟩ := HO3.out.parts hposN
          have hkeep : ∀ U, Cw w3 c d U → OwnH U W.heap.size wr.heap.size (.slice (some ⟨g, 0, none⟩) h.length oc) h := fun U hU => HO3.out.keep fun b h1 _ h3 => hU.2.1.block b h3 fun e => by have : b = c := Option.some.inj e; omega
          have HKE : Hid (∀ U, Cw w3 c d U → OwnH U W.heap.size wr.heap.size (.slice (some ⟨g, 0, none⟩) h.length oc) h) := hkeep
          have HTX : Hid (x.tiny ∧ x.vals.length ≤ 2) := HTN.out x (List.mem_of_getElem? hx)
          have HFE : Hid (∀ (x' : Cel) (U : World), x'.tiny → RowCc U c (some ⟨g, 0, none⟩) (h.set k x') → TopO U c (.slice (some ⟨g, 0, none⟩) h.length oc) h.length → Cw W c d U → HdPost W c d (.returned (.slice (some ⟨g, 0, none⟩) h.length oc)) U) := fun x' U hx' hr ht hU => ⟨h.set k x', _, oc, by rw [List.length_set], by rw [List.length_set]; omega, by rw [List.length_set]; exact hoc, mem_set (fun x hx => (HTN.out x hx).1) hx', hr, by rw [List.length_set]; exact ht, hU⟩
          have HS3 : Hid (Cw w3 c d w3) := Cw_self HC3.out.1 (by omega)
          clear hc3 HC2 HFIN HOR hkeep hg3
          obtain rfl | rfl | rfl | rfl : k4 = 0 ∨ k4 = 1 ∨ k4 = 2 ∨ k4 = 3 := by omega
          · go_wp2_with fail
            refine (HBE.out 5 w3 (by omega) (by omega) HC3.out).mono ?_
            rintro e w4 ⟨i5, rfl, hi5, hc4⟩
            have HC4 : Hid (Cw W c d w4) := Cw_trans HC3.out hc4
            have HO4 : Hid (OwnH w4 W.heap.size wr.heap.size (.slice (some ⟨g, 0, none⟩) h.length oc) h) := HKE.out w4 hc4
            obtain ⟨nv, av, cv, cur4, hg4, p0, p1, p2, p4, p5, hov, hbT⟩ := HO4.out.cells hx
            have hfz := frozen_blk hg4 (k * 6)
            clear hg4 hc4 p1 p2 p4 p5 hov hbT
            go_wp2
            go_ret
            exact HFE.out { x with k := (i5 : Int) } _ ⟨by show (-10 : Int) ≤ (i5 : Int); omega, by show (i5 : Int) ≤ 20; omega, HTX.out.1.2.2⟩ (HO4.out.set_f 0 hcw hx (by omega) (by omega) rfl rfl rfl (.inl ⟨rfl, rfl⟩) (.inr ⟨by omega, rfl⟩) (.inr ⟨by omega, rfl⟩)) (HO4.out.set_t 0 hcw hx (by omega) (by omega)) (Cw_set HC4.out hBg)
          · have hCd : Cw w3 c d w3.drew := HS3.out.drew 1
            have hOd : OwnH w3.drew W.heap.size wr.heap.size (.slice (some ⟨g, 0, none⟩) h.length oc) h := HKE.out _ hCd
            have HCV : Hid (Calls Tryd.prog 17 #[.pointer (some ⟨c, 0, none⟩), (.slice (some ⟨g, 0, none⟩) h.length oc)] w3.drew fun e W' => VdPost w3.drew c d e W') := l6AnyVal_any c d _ oc h _ (Cw_self hCd.1 (by show c < w3.heap.size; omega)) (by omega) (hOd.kinds (by omega))
            obtain ⟨nv, av, cv, curd, hgd, p0, p1, p2, p4, p5, hov, hbT⟩ := hOd.cells hx
            obtain ⟨xs, hxs, hxv⟩ := hov
            have hxl : xs.length = x.vals.length * 3 := hxs.1
            have HXV : Hid (∀ j d, x.vals[j]? = some d → xs[j * 3]? = some (.int .i64 d.k) ∧ xs[j * 3 + 1]? = some (.int .i64 d.n) ∧ xs[j * 3 + 2]? = some (.string d.s)) := hxv
            have HXO : Hid (w3.drew.ownsRow W.heap.size 26 3 (.slice av x.vals.length cv) x.vals.length xs) := hxs
            have HCD : Hid (Cw w3 c d w3.drew) := hCd
            have hgne : ∀ b, (Value.slice av x.vals.length cv).ownBlock = some b → b ≠ g := fun b hb => by
              obtain ⟨_, _, cu, _, _, _, q3, _⟩ := own_blk HXO.out hb
              exact ne_ty q3 hgd (by decide)
            have hcne : ∀ b, (Value.slice av x.vals.length cv).ownBlock = some b → W.heap.size ≤ b ∧ b < w3.heap.size := fun b hb => ⟨(own_blk HXO.out hb).1, (own_blk HXO.out hb).2.1⟩
            have hx3 : x.vals.length ≤ 2 := HTX.out.2
            have hone : ∀ v : Val, ∀ u ∈ [Value.int .i64 v.k, .int .i64 v.n, .string v.s], u.oneCell' = true := by
              intro v u hu
              simp at hu
              rcases hu with rfl | rfl | rfl <;> rfl
            have HGD : Hid (w3.drew.heap[g]? = some (.cells curd 40 (0, 0))) := hgd
            have hgw : g < w3.heap.size := by omega
            clear hCd hOd p0 p1 p2 p4 hgd hbT hxs hxv
            go_wp2_with fail
            go_region_law (first
              | (refine step_append_lies _ rfl _ _ 32 rfl W.heap.size 26 i29 _ 3 32 Tryd.underlying32 hi29 hz290 hz291 hz292 rfl (by omega) (.slice av x.vals.length cv) x.vals.length xs rfl hxs5 ⟨w4.heap.size, 0, none⟩ 1 1 [.int .i64 v.k, .int .i64 v.n, .string v.s] rfl rfl (World.news_of_block ke5) (hone _) (by omega) (by unfold maxLen; omega) (by omega) hB5 (w4.heap.size + 1) hs5 ?_; intro g6 c6 w6 hown6 hgr6 hat6 hlt6; have kg6 : w6.heap[g]? = some (.cells curd 40 (0, 0)) := (hgr6.block g (by omega) (fun e => hgne g e.symm rfl)).trans kg5; have t5 := hgr6.cell e5 (fun e => hgne g e.symm rfl); have t1 := frozen_blk kg6 (k * 6 + 5))
              | (refine step_call21 rfl _ _ _ _ rfl _ _ (by kernel_rfl) (by kernel_rfl) _ HCV.out ?_; rintro e w4 ⟨v, rfl, hv, hc4⟩; refine ⟨_, rfl, ?_⟩; have hs4 : w3.heap.size ≤ w4.heap.size := hc4.2.1.size; have d5 : w4.cell? ⟨g, k * 6 + 5, none⟩ = some (.slice av x.vals.length cv) := Cw_cell hc4 p5 (by omega); have e5 : (w4.alloc (Obj.cells #[.int .i64 v.k, .int .i64 v.n, .string v.s] 26)).cell? ⟨g, k * 6 + 5, none⟩ = some (.slice av x.vals.length cv) := (alloc_cell _ _ _ (by omega)).trans d5; have ke5 : (w4.alloc (Obj.cells #[.int .i64 v.k, .int .i64 v.n, .string v.s] 26)).heap[w4.heap.size]? = some (Obj.cells #[.int .i64 v.k, .int .i64 v.n, .string v.s] 26) := (blk_at _ _ _ rfl); have hs5 : (w4.alloc (Obj.cells #[.int .i64 v.k, .int .i64 v.n, .string v.s] 26)).heap.size = w4.heap.size + 1 := (by simp); have kg5 : (w4.alloc (Obj.cells #[.int .i64 v.k, .int .i64 v.n, .string v.s] 26)).heap[g]? = some (.cells curd 40 (0, 0)) := blk_past (Cw_blk hc4 HGD.out (by omega)); have hxs5 : (w4.alloc (Obj.cells #[.int .i64 v.k, .int .i64 v.n, .string v.s] 26)).ownsRow W.heap.size 26 3 (.slice av x.vals.length cv) x.vals.length xs := own_keep HXO.out (fun b hb => (al_same _ _ (by have := (hcne b hb).2; omega)).trans (hc4.2.1.block b (hcne b hb).2 (fun e => by have : b = c := Option.some.inj e; have := (hcne b hb).1; omega))); have hB5 : W.heap.size ≤ (w4.alloc (Obj.cells #[.int .i64 v.k, .int .i64 v.n, .string v.s] 26)).heap.size := (by rw [hs5]; omega)))
            all_goals
              have hC5 : Cw w3 c d (w4.alloc (Obj.cells #[.int .i64 v.k, .int .i64 v.n, .string v.s] 26)) := (Cw_trans HCD.out hc4).alloc _
              have hO5 := HKE.out _ hC5
              have hv6 : OwnV w6 W.heap.size (.slice (some ⟨g6, 0, none⟩) (x.vals.length + 1) c6) (x.vals ++ [v]) := OwnV.push (w := w6) hxl HXV.out hown6
              have HR6 : Hid (RowCc (w6.setCell ⟨g, k * 6 + 5, none⟩ (.slice (some ⟨g6, 0, none⟩) (x.vals.length + 1) c6)) c (some ⟨g, 0, none⟩) (h.set k { x with vals := x.vals ++ [v] })) := hO5.set_vals hcw hx rfl e5 hgr6 hv6
              have HTO6 : Hid (TopO (w6.setCell ⟨g, k * 6 + 5, none⟩ (.slice (some ⟨g6, 0, none⟩) (x.vals.length + 1) c6)) c (.slice (some ⟨g, 0, none⟩) h.length oc) h.length) := hO5.vals_t hcw hx rfl e5 hgr6
              have HC6 : Hid (Cw W c d (w6.setCell ⟨g, k * 6 + 5, none⟩ (.slice (some ⟨g6, 0, none⟩) (x.vals.length + 1) c6))) := Cw_set (Cw_grow (Cw_trans HC3.out hC5) hgr6 fun k hk => (hcne k hk).1) hBg
              have HT6 : Hid (({ x with vals := x.vals ++ [v] } : Cel).tiny) := ⟨HTX.out.1.1, HTX.out.1.2.1, HTX.out.1.2.2.1, HTX.out.1.2.2.2.1, HTX.out.1.2.2.2.2.1, HTX.out.1.2.2.2.2.2.1, HTX.out.1.2.2.2.2.2.2.1, HTX.out.1.2.2.2.2.2.2.2.1, by show (x.vals ++ [v]).length ≤ 3; simp; omega, by intro u hu; rcases List.mem_append.1 hu with hu | hu; exact HTX.out.1.2.2.2.2.2.2.2.2.2 u hu; simp at hu; subst hu; exact hv⟩
              clear hC5 hO5 hv6 hown6 hgr6 hat6 hxs5 e5 t5 ke5 kg5 kg6 d5 hc4
              go_wp2
              go_ret
              exact HFE.out _ _ HT6.out HR6.out HTO6.out HC6.out
          · have HPI : Hid (Calls Tryd.prog 30 #[.pointer (some ⟨c, 0, none⟩), .slice (some ⟨w3.heap.size, 0, none⟩) 3 3] (w3.alloc (.cells #[.int .i64 (-1), .int .i64 1000, .int .i64 1001] 3)) fun e W' => ∃ x, e = .returned (.int .i64 x) ∧ x ∈ [(-1 : Int), 1000, 1001] ∧ Cw w3 c d W') := pickI_cw [-1, 1000, 1001] w3 c d _ 3 w3 HS3.out rfl (by simp) (by simp) _ rfl
            go_wp2_with fail
            refine HPI.out.mono ?_
            rintro e w4 ⟨i5, rfl, hi5, hc4⟩
            have HC4 : Hid (Cw W c d w4) := Cw_trans HC3.out hc4
            have HO4 : Hid (OwnH w4 W.heap.size wr.heap.size (.slice (some ⟨g, 0, none⟩) h.length oc) h) := HKE.out w4 hc4
            obtain ⟨nv, av, cv, cur4, hg4, p0, p1, p2, p4, p5, hov, hbT⟩ := HO4.out.cells hx
            have hfz := frozen_blk hg4 (k * 6 + 2)
            have hi6 : -10 ≤ i5 ∧ i5 ≤ 2000 := by simp at hi5; omega
            clear hg4 hc4 p0 p1 p4 p5 hov hbT hi5 HPI
            go_wp2
            go_ret
            exact HFE.out { x with a := i5 } _ ⟨HTX.out.1.1, HTX.out.1.2.1, hi6.1, hi6.2, HTX.out.1.2.2.2.2⟩ (HO4.out.set_f 2 hcw hx (by omega) (by omega) rfl rfl rfl (.inr ⟨by omega, rfl⟩) (.inr ⟨by omega, rfl⟩) (.inl ⟨rfl, rfl⟩)) (HO4.out.set_t 2 hcw hx (by omega) (by omega)) (Cw_set HC4.out hBg)
          · have HPI : Hid (Calls Tryd.prog 31 #[.pointer (some ⟨c, 0, none⟩), .slice (some ⟨w3.heap.size, 0, none⟩) 2 2] (w3.alloc (.cells #[.string ⟨#[]⟩, .string ⟨#[122]⟩] 9)) fun e W' => ∃ x, e = .returned (.string x) ∧ x.size ≤ 40 ∧ Cw w3 c d W') := (Cu.pick_cw [⟨#[]⟩, ⟨#[122]⟩] w3 c d _ 2 w3 HS3.out rfl (by simp) (by simp) _ rfl (by simp; decide)).mono fun e W' ⟨x, h1, h3, h4⟩ => ⟨x, h1, h3, h4⟩
            go_wp2_with fail
            refine HPI.out.mono ?_
            rintro e w4 ⟨i5, rfl, hi6, hc4⟩
            have HC4 : Hid (Cw W c d w4) := Cw_trans HC3.out hc4
            have HO4 : Hid (OwnH w4 W.heap.size wr.heap.size (.slice (some ⟨g, 0, none⟩) h.length oc) h) := HKE.out w4 hc4
            obtain ⟨nv, av, cv, cur4, hg4, p0, p1, p2, p4, p5, hov, hbT⟩ := HO4.out.cells hx
            have hfz := frozen_blk hg4 (k * 6 + 1)
            clear hg4 hc4 p0 p2 p4 p5 hov hbT HPI
            go_wp2
            go_ret
            exact HFE.out { x with s := i5 } _ ⟨HTX.out.1.1, HTX.out.1.2.1, HTX.out.1.2.2.1, HTX.out.1.2.2.2.1, HTX.out.1.2.2.2.2.1, hi6, HTX.out.1.2.2.2.2.2.2⟩ (HO4.out.set_f 1 hcw hx (by omega) (by omega) rfl rfl rfl (.inr ⟨by omega, rfl⟩) (.inl ⟨rfl, rfl⟩) (.inr ⟨by omega, rfl⟩)) (HO4.out.set_t 1 hcw hx (by omega) (by omega)) (Cw_set HC4.out hBg)
end Go.Proofs.YtkbpnjigoipgeaaDoor
