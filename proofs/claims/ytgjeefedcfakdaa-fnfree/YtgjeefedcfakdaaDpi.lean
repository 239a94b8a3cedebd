/- The model's Free. The program's Free. The program's Sets. The model's Depth. The program's Depth. -/
import Derived.Test.YtgjeefedcfakdaaFrs
import Derived.Test.YtgjeefedcfakdaaVit
import Derived.Test.YtgjeefedcfakdaaSts
import Derived.Test.YtgjeefedcfakdaaMpe
set_option linter.unusedVariables false
set_option maxRecDepth 100000
set_option maxHeartbeats 8000000
namespace Go.Proofs.Ytgjeefedcfakdaa
open Go.ChangeShapes Go.WideShapes Go.ChangeAt Go.RowKit
theorem specFree_yes (a : Option Addr) (ns : List Nod) (cap : Nat) (root : Int) (i : Nat) (w : World) (hn : ns.length ≤ 1048576) (hfl : (flat ns).length ≤ 1048576) (hr : RowN w w.heap.size a ns) (hsm : ∀ d ∈ ns, d.small) (hok : OkP ns root) (hi : i < ns.length) :
  Calls Try.prog 8 #[.agg #[.slice a ns.length cap, .int .i64 root], .int .i64 (i : Int)] w fun e w' => TellP (freeF ns ns.length (i : Int) [] []) w e w' := by
 obtain ⟨w0, hw0⟩ : ∃ w0, w0 = w.alloc (Obj.cells #[.slice a ns.length cap, .int .i64 root] 26) := ⟨_, rfl⟩
 have hbB : Below w.heap.size w w0 := by rw [hw0]; exact bR _ _
 have kB : w0.heap[w.heap.size]? = some (Obj.cells #[.slice a ns.length cap, .int .i64 root] 26) := by rw [hw0]; exact blk_alloc _ _
 have HOK : Hid (Calls Try.prog 9 #[.agg #[.slice a ns.length cap, .int .i64 root]] w0 fun e w' => OkPost ns root w0 e w') := specOk_any a ns cap root _ hn hfl ((hr.below hbB).mono hbB.size) hsm
 have HW0 : Hid (w0 = w.alloc (Obj.cells #[.slice a ns.length cap, .int .i64 root] 26)) := hw0
 have hs0 : w0.heap.size = w.heap.size + 1 := by rw [hw0]; simp
 have HL5 : Hid (∀ (W : World) (g1 g2 : Nat), Below w.heap.size w W → W.heap[g2]? = some (.cells #[] 9 (0, 0)) → w.heap.size ≤ g2 → Calls Try.prog 23 #[.agg #[.slice a ns.length cap, .int .i64 root], .int .i64 (i : Int), .slice (some ⟨g1, 0, none⟩) 0 0, .slice (some ⟨g2, 0, none⟩) 0 0] W fun e w' => L5P w.heap.size (.slice (some ⟨g2, 0, none⟩) 0 0) (freeF ns ns.length (i : Int) [] []) W e w') := fun W g1 g2 hW h2 hg2 => l5Free_any a ns cap root hsm hok w.heap.size ns.length i hi hi (some ⟨g1, 0, none⟩) (some ⟨g2, 0, none⟩) 0 0 [] [] W (hr.below hW) hW.size (fun j x hx => by simp at hx) (own_nil h2 hg2) (by simp) (Fnd.nil ns)
 have HOKP : Hid (OkP ns root) := hok
 have hi1 : decide ((i : Int) < 0) = false := by simp
 have hi2 : decide ((ns.length : Int) ≤ (i : Int)) = false := by simp; omega
 clear hr hsm hok hw0
 go_enter Try.func8, Try.ntmps8
 go_wp2_with fail
 rw [← HW0.out]
 refine HOK.out.mono ?_
 rintro e w1 ⟨b, rfl, hq, hb1⟩
 obtain rfl : b = true := hq.2 HOKP.out
 have k1 := blk_keep kB hb1 (by omega)
 have HB1 : Hid (Below w.heap.size w w1) := bT hbB hb1
 have hs1 := hb1.size
 obtain ⟨e0, e1⟩ := zn2 k1 rfl rfl
 clear hbB hb1 hq kB HW0 HOK
 go_wp2_with fail
 have hbb : Below w1.heap.size w1 ((w1.alloc (Obj.cells #[] 9)).alloc (Obj.cells #[] 9)) := (bR _ _).alloc (by simp) _
 have HB2 : Hid (Below w.heap.size w ((w1.alloc (Obj.cells #[] 9)).alloc (Obj.cells #[] 9))) := bT HB1.out hbb
 have hw1 := HB1.out.size
 refine (HL5.out _ _ _ HB2.out (blk_at _ _ _ (by simp)) (by omega)).mono ?_
 rintro e w2 ⟨v, rfl, hown, hgr, _⟩
 have HO2 : Hid (OwnS w2 w.heap.size v (freeF ns ns.length (i : Int) [] [])) := hown
 have HB3 : Hid (Below w.heap.size w w2) := HB2.out.trans ⟨hgr.os, hgr.tape, hgr.output, hgr.size, fun k hk => hgr.block k (by simp; omega) (fun e => by have e' : k = w1.heap.size + 1 := Option.some.inj e; omega)⟩
 clear hown hgr hbb HB1 HB2 e0 e1 k1
 go_wp2
 go_ret
 exact ⟨v, rfl, HO2.out, HB3.out⟩
theorem specFree_no (a : Option Addr) (ns : List Nod) (cap : Nat) (root idx : Int) (w : World) (hn : ns.length ≤ 1048576) (hfl : (flat ns).length ≤ 1048576) (hr : RowN w w.heap.size a ns) (hsm : ∀ d ∈ ns, d.small) (hidx : i64B idx) (hno : ¬ (OkP ns root ∧ 0 ≤ idx ∧ idx < ns.length)) :
  Calls Try.prog 8 #[.agg #[.slice a ns.length cap, .int .i64 root], .int .i64 idx] w fun e w' => TellP [] w e w' := by
 obtain ⟨w0, hw0⟩ : ∃ w0, w0 = w.alloc (Obj.cells #[.slice a ns.length cap, .int .i64 root] 26) := ⟨_, rfl⟩
 have hbB : Below w.heap.size w w0 := by rw [hw0]; exact bR _ _
 have kB : w0.heap[w.heap.size]? = some (Obj.cells #[.slice a ns.length cap, .int .i64 root] 26) := by rw [hw0]; exact blk_alloc _ _
 have HOK : Hid (Calls Try.prog 9 #[.agg #[.slice a ns.length cap, .int .i64 root]] w0 fun e w' => OkPost ns root w0 e w') := specOk_any a ns cap root _ hn hfl ((hr.below hbB).mono hbB.size) hsm
 have HW0 : Hid (w0 = w.alloc (Obj.cells #[.slice a ns.length cap, .int .i64 root] 26)) := hw0
 have hs0 : w0.heap.size = w.heap.size + 1 := by rw [hw0]; simp
 clear hr hsm hw0
 go_enter Try.func8, Try.ntmps8
 go_wp2_with fail
 rw [← HW0.out]
 refine HOK.out.mono ?_
 rintro e w1 ⟨b, rfl, hq, hb1⟩
 have k1 := blk_keep kB hb1 (by omega)
 have HB1 : Hid (Below w.heap.size w w1) := bT hbB hb1
 have e0 := zB 0 k1 rfl
 have HFIN : Hid (TellP [] w (.returned (.slice (some ⟨w1.heap.size, 0, none⟩) 0 0)) (w1.alloc (Obj.cells #[] 9))) := ⟨_, rfl, own_nil (blk_at _ _ _ rfl) HB1.out.size, HB1.out.alloc HB1.out.size _⟩
 clear hbB hb1 kB HW0 HOK k1
 cases b with
 | false =>
  clear hq hno
  go_wp2
  go_ret
  exact HFIN.out
 | true =>
  have hok := hq.1 rfl
  have hor : idx < 0 ∨ (ns.length : Int) ≤ idx := by
   by_cases h : idx < 0
   ·exact .inl h
   ·right
    apply Classical.byContradiction
    intro hc
    exact hno ⟨hok, by omega, by omega⟩
  clear hq hno hok
  by_cases h0 : idx < 0
  ·have h0' : decide (idx < 0) = true := by simp [h0]
   clear hor h0
   go_wp2
   go_ret
   exact HFIN.out
  ·have h0' : decide (idx < 0) = false := by simp; omega
   have h1' : decide ((ns.length : Int) ≤ idx) = true := by simp; omega
   clear hor h0
   go_wp2
   go_ret
   exact HFIN.out
end Go.Proofs.Ytgjeefedcfakdaa
set_option linter.unusedVariables false
set_option maxRecDepth 100000
set_option maxHeartbeats 8000000
namespace Go.Proofs.Ytgjeefedcfakdaa
open Go.ChangeShapes Go.WideShapes Go.ChangeAt Go.RowKit
theorem make44 (W : World) : (Instr.makeMap 44 none).run Try.prog W = .ok (.map (some W.heap.size)) (W.alloc (.map #[] 0)) := by
 rfl
theorem implFree_yes (a : Option Addr) (ns : List Nod) (cap : Nat) (root : Int) (i : Nat) (w : World) (hn : ns.length ≤ 1048576) (hr : RowN w w.heap.size a ns) (hsm : ∀ d ∈ ns, d.small) (hok : OkP ns root) (hi : i < ns.length) (hLk : (Lk ns).length ≤ 8388608) :
  Calls Try.prog 6 #[.agg #[.slice a ns.length cap, .int .i64 root], .int .i64 (i : Int)] w fun e w' => TellP (freeF ns ns.length (i : Int) [] []) w e w' := by
 obtain ⟨w0, hw0⟩ : ∃ w0, w0 = w.alloc (Obj.cells #[.slice a ns.length cap, .int .i64 root] 26) := ⟨_, rfl⟩
 have hbB : Below w.heap.size w w0 := by rw [hw0]; exact bR _ _
 have kB : w0.heap[w.heap.size]? = some (Obj.cells #[.slice a ns.length cap, .int .i64 root] 26) := by rw [hw0]; exact blk_alloc _ _
 have HOK : Hid (Calls Try.prog 19 #[.agg #[.slice a ns.length cap, .int .i64 root]] w0 fun e w' => OkPost ns root w0 e w') := implOk_any a ns cap root _ hn ((hr.below hbB).mono hbB.size) hsm
 have HW0 : Hid (w0 = w.alloc (Obj.cells #[.slice a ns.length cap, .int .i64 root] 26)) := hw0
 have hs0 : w0.heap.size = w.heap.size + 1 := by rw [hw0]; simp
 have HR : Hid (RowN w w.heap.size a ns) := hr
 have HOKP : Hid (OkP ns root) := hok
 have HSM : Hid (∀ d ∈ ns, d.small) := hsm
 have hi1 : decide ((i : Int) < 0) = false := by simp
 have hi2 : decide ((ns.length : Int) ≤ (i : Int)) = false := by simp; omega
 clear hr hsm hok hw0
 go_enter Try.func6, Try.ntmps6
 go_wp2_with fail
 rw [← HW0.out]
 refine HOK.out.mono ?_
 rintro e w1 ⟨b, rfl, hq, hb1⟩
 obtain rfl : b = true := hq.2 HOKP.out
 have k1 := blk_keep kB hb1 (by omega)
 have HB1 : Hid (Below w.heap.size w w1) := bT hbB hb1
 have hs1 := hb1.size
 obtain ⟨e0, e1⟩ := zn2 k1 rfl rfl
 clear hbB hb1 hq kB HW0 HOK
 have hsto := fun (W : World) (f x y z u : Nat) => run_store Try.prog W ⟨f, 0, none⟩ (Value.func (Fn.func 20) #[] #[.pointer (some ⟨x, 0, none⟩), .pointer (some ⟨y, 0, none⟩), .pointer (some ⟨z, 0, none⟩), .pointer (some ⟨u, 0, none⟩)]) .plain rfl
 have hmk := make44 (w1.alloc (Obj.cells #[Value.slice none 0 0] 29))
 go_wp2_with fail
 obtain ⟨W, hW⟩ : ∃ W, W = (((w1.alloc (Obj.cells #[Value.slice none 0 0] 29)).alloc (Obj.map #[] 0)).alloc (Obj.cells #[Value.map (some (w1.heap.size + 1))] 44)).alloc (Obj.cells #[Value.func (Fn.func 20) #[] #[.pointer (some ⟨w1.heap.size + 1 + 1, 0, none⟩), .pointer (some ⟨w1.heap.size, 0, none⟩), .pointer (some ⟨w1.heap.size + 1 + 1 + 1, 0, none⟩), .pointer (some ⟨w.heap.size, 0, none⟩)]] 45) := ⟨_, rfl⟩
 obtain ⟨x, hxd⟩ : ∃ x : Bx, x = ⟨w1.heap.size + 1 + 1, w1.heap.size, w1.heap.size + 1 + 1 + 1, w.heap.size, w1.heap.size + 1, w.heap.size, w1.heap.size + 4⟩ := ⟨_, rfl⟩
 have hw1 : w.heap.size < w1.heap.size := (alt k1)
 have hxo : x.Ok := by
  rw [hxd]
  constructor <;> (simp only; omega)
 have hz : W.heap.size = w1.heap.size + 4 := by rw [hW]; simp
 have hbW : Below w1.heap.size w1 W := by rw [hW]; exact (((bR _ _).alloc (by simp) _).alloc (by simp; omega) _).alloc (by simp; omega) _
 have HBW : Hid (Below w.heap.size w W) := bT HB1.out hbW
 have hst : VSt x a ns cap root (FB [] []) [] (.slice none 0 0) W := by
  have hm : MapC W (w1.heap.size + 1) (Lk ns) (FB [] []) := by
   have h0 := (MapC.made (w1.alloc (Obj.cells #[Value.slice none 0 0] 29)) (Lk ns)).eq (G := FB [] []) FB_nil
   have e0 : (w1.alloc (Obj.cells #[Value.slice none 0 0] 29)).heap.size = w1.heap.size + 1 := by simp
   rw [e0] at h0
   refine h0.same ?_
   rw [hW]
   have hm0 : ((w1.alloc (Obj.cells #[Value.slice none 0 0] 29)).alloc (.map #[] 0)).heap[w1.heap.size + 1]? = some (.map #[] 0) := blk_at _ _ _ e0.symm
   rw [hm0]
   exact blk_past (blk_past hm0)
  rw [hxd]
  refine ⟨?_, ?_, ?_, (hbW.block _ hw1).trans k1, hm, ⟨rfl, .inl ⟨rfl, rfl⟩⟩, HR.out.below HBW.out, by simp only; omega⟩
  ·rw [hW]; exact blk_past (blk_at _ _ _ (by simp))
  ·rw [hW]; exact blk_past (blk_past (blk_past (blk_at _ _ _ rfl)))
  ·rw [hW]; exact blk_at _ _ _ (by simp)
 obtain ⟨d, hd⟩ : ∃ d, ns[i]? = some d := ⟨_, List.getElem?_eq_getElem hi⟩
 obtain ⟨b1, o1, ha, hbb, an, cn, aa, ca, v0, v1, v2, v3, v4, her⟩ := hst.rows i d hd
 have HV : Hid (Calls Try.prog 20 #[.agg #[.int .i64 d.k, .int .i64 d.n, .string d.s, .slice an d.names.length cn, .slice aa d.args.length ca], .pointer (some ⟨x.S, 0, none⟩), .pointer (some ⟨x.F, 0, none⟩), .pointer (some ⟨x.V, 0, none⟩), .pointer (some ⟨x.P, 0, none⟩)] W.drew fun e w' => VP x a ns cap root [] (freeF ns ns.length (i : Int) [] []) (.slice none 0 0) W e w') := (visit_any x hxo a ns cap root HSM.out HOKP.out hLk ns.length i hi hi d an aa cn ca [] [] (.slice none 0 0) W.drew hd her ⟨hst.s, hst.f, hst.vb, hst.p, hst.map.same rfl, hst.own, hst.rows, hst.size⟩ (by simp) (Fnd.nil ns)).mono (fun e w' ⟨v', h1, h2, h3, h4⟩ => ⟨v', h1, h2, ⟨h3.os, h3.tape, h3.output, h3.size, h3.block⟩, h4⟩)
 have p0 : W.cell? ⟨x.P, 0, none⟩ = some (.slice a ns.length cap) := cell_blk (j := 0) hst.p rfl
 have g0 : W.cell? ⟨x.V, 0, none⟩ = some (Value.func (.func 20) #[] #[.pointer (some ⟨x.S, 0, none⟩), .pointer (some ⟨x.F, 0, none⟩), .pointer (some ⟨x.V, 0, none⟩), .pointer (some ⟨x.P, 0, none⟩)]) := cell_blk (j := 0) hst.vb rfl
 have hx1 : x.S = w1.heap.size + 1 + 1 := by rw [hxd]
 have hx2 : x.F = w1.heap.size := by rw [hxd]
 have hx3 : x.V = w1.heap.size + 1 + 1 + 1 := by rw [hxd]
 have hx4 : x.P = w.heap.size := by rw [hxd]
 have hx5 : x.C = w1.heap.size + 4 := by rw [hxd]
 have hx6 : x.m = w1.heap.size + 1 := by rw [hxd]
 rw [hx1, hx2, hx3, hx4] at HV g0
 rw [hx4] at p0
 have HX2 : Hid (x.F = w1.heap.size) := hx2
 have HX5 : Hid (x.C = w1.heap.size + 4) := hx5
 have HX6 : Hid (x.m = w1.heap.size + 1) := hx6
 have HZ : Hid (W.heap.size = w1.heap.size + 4) := hz
 rw [← hW]
 clear hst hmk hW hbW hxd hx1 hx2 hx3 hx4 hx5 hx6 her hd hsto HB1 HR HSM HOKP e0 e1 k1 hxo hz
 subst ha
 go_wp2_with fail
 go_region_with (go_at_call 20; refine HV.out.mono ?_; rintro e5 w5 ⟨v5, rfl, hvs5, hvg5, hnw5⟩)
 all_goals
  have f5 := zB 0 hvs5.f rfl
  rw [HX2.out] at f5
  obtain ⟨a5, c5, rfl⟩ := hvs5.own.slice
  have HO5 : Hid (OwnS w5 w.heap.size (.slice a5 (freeF ns ns.length (i : Int) [] []).length c5) (freeF ns ns.length (i : Int) [] [])) := hvs5.own.weak (by rw [HX5.out]; omega)
  have HB5 : Hid (Below w.heap.size w w5) := HBW.out.trans ⟨hvg5.os, hvg5.tape, hvg5.output, hvg5.size, fun k hk => hvg5.block k (by rw [HZ.out]; omega) (by rw [HX6.out]; omega) (by rw [HX2.out]; omega) (fun e => by cases e)⟩
  clear hvs5 hvg5 hnw5
  go_wp2
  go_ret
  exact ⟨_, rfl, HO5.out, HB5.out⟩
theorem implFree_no (a : Option Addr) (ns : List Nod) (cap : Nat) (root idx : Int) (w : World) (hn : ns.length ≤ 1048576) (hr : RowN w w.heap.size a ns) (hsm : ∀ d ∈ ns, d.small) (hidx : i64B idx) (hno : ¬ (OkP ns root ∧ 0 ≤ idx ∧ idx < ns.length)) :
  Calls Try.prog 6 #[.agg #[.slice a ns.length cap, .int .i64 root], .int .i64 idx] w fun e w' => TellP [] w e w' := by
 obtain ⟨w0, hw0⟩ : ∃ w0, w0 = w.alloc (Obj.cells #[.slice a ns.length cap, .int .i64 root] 26) := ⟨_, rfl⟩
 have hbB : Below w.heap.size w w0 := by rw [hw0]; exact bR _ _
 have HOK : Hid (Calls Try.prog 19 #[.agg #[.slice a ns.length cap, .int .i64 root]] w0 fun e w' => OkPost ns root w0 e w') := implOk_any a ns cap root _ hn ((hr.below hbB).mono hbB.size) hsm
 have HW0 : Hid (w0 = w.alloc (Obj.cells #[.slice a ns.length cap, .int .i64 root] 26)) := hw0
 have HB0 : Hid (Below w.heap.size w w0) := hbB
 clear hr hsm hw0 hbB
 by_cases h0 : idx < 0
 ·have h0' : decide (idx < 0) = true := by simp [h0]
  clear hno h0 HOK
  go_enter Try.func6, Try.ntmps6
  go_wp2
  go_ret
  exact ⟨.slice none 0 0, rfl, ⟨rfl, .inl ⟨rfl, rfl⟩⟩, by rw [← HW0.out]; exact HB0.out⟩
 ·have h0' : decide (idx < 0) = false := by simp; omega
  by_cases h1 : (ns.length : Int) ≤ idx
  ·have h1' : decide ((ns.length : Int) ≤ idx) = true := by simp [h1]
   clear hno h0 h1 HOK
   go_enter Try.func6, Try.ntmps6
   go_wp2
   go_ret
   exact ⟨.slice none 0 0, rfl, ⟨rfl, .inl ⟨rfl, rfl⟩⟩, by rw [← HW0.out]; exact HB0.out⟩
  ·have h1' : decide ((ns.length : Int) ≤ idx) = false := by simp; omega
   have hnk : ¬ OkP ns root := fun h => hno ⟨h, by omega, by omega⟩
   clear hno h0 h1
   go_enter Try.func6, Try.ntmps6
   go_wp2_with fail
   rw [← HW0.out]
   refine HOK.out.mono ?_
   rintro e w1 ⟨b, rfl, hq, hb1⟩
   obtain rfl : b = false := by
    cases b with
    | false => rfl
    | true => exact absurd (hq.1 rfl) hnk
   have HB1 : Hid (Below w.heap.size w w1) := bT HB0.out hb1
   clear hq hb1 HB0 HOK hnk
   go_wp2
   go_ret
   exact ⟨.slice none 0 0, rfl, ⟨rfl, .inl ⟨rfl, rfl⟩⟩, HB1.out⟩
end Go.Proofs.Ytgjeefedcfakdaa
set_option linter.unusedVariables false
set_option maxRecDepth 100000
set_option maxHeartbeats 8000000
namespace Go.Proofs.Ytgjeefedcfakdaa
open Go.ChangeShapes Go.WideShapes Go.ChangeAt Go.RowKit
theorem implSets_yes (a : Option Addr) (ns : List Nod) (cap : Nat) (root : Int) (w : World) (hn : ns.length ≤ 1048576) (hr : RowN w w.heap.size a ns) (hsm : ∀ d ∈ ns, d.small) (hok : OkP ns root) :
  Calls Try.prog 11 #[.agg #[.slice a ns.length cap, .int .i64 root]] w fun e w' => TellP (setsL ns) w e w' := by
 obtain ⟨w0, hw0⟩ : ∃ w0, w0 = w.alloc (Obj.cells #[.slice a ns.length cap, .int .i64 root] 26) := ⟨_, rfl⟩
 have hbB : Below w.heap.size w w0 := by rw [hw0]; exact bR _ _
 have kB : w0.heap[w.heap.size]? = some (Obj.cells #[.slice a ns.length cap, .int .i64 root] 26) := by rw [hw0]; exact blk_alloc _ _
 have HOK : Hid (Calls Try.prog 19 #[.agg #[.slice a ns.length cap, .int .i64 root]] w0 fun e w' => OkPost ns root w0 e w') := implOk_any a ns cap root _ hn ((hr.below hbB).mono hbB.size) hsm
 have HW0 : Hid (w0 = w.alloc (Obj.cells #[.slice a ns.length cap, .int .i64 root] 26)) := hw0
 have hs0 : w0.heap.size = w.heap.size + 1 := by rw [hw0]; simp
 have HR : Hid (RowN w w.heap.size a ns) := hr
 have HS : Hid (∀ d ∈ ns, d.small) := hsm
 obtain ⟨hl1, hl2, -⟩ := id hok
 have HOKP : Hid (OkP ns root) := hok
 clear hr hsm hok hw0
 obtain ⟨i9, hi9, hz90, hz91, hz92⟩ := info_parts Try.info9
 go_enter Try.func11, Try.ntmps11
 go_wp2_with fail
 rw [← HW0.out]
 refine HOK.out.mono ?_
 rintro e w1 ⟨b, rfl, hq, hb1⟩
 obtain rfl : b = true := hq.2 HOKP.out
 have k1 := blk_keep kB hb1 (by omega)
 have hb2 := bT hbB hb1
 have hs1 := hb1.size
 have e0 := zB 0 k1 rfl
 clear hbB hb1 hq kB HW0 k1 HOK
 go_wp2
 clear e0
 go_loopw [3, 12] (fun v o wr => ∃ (i : Nat), i ≤ ns.length ∧ o = .int .i64 i ∧ OwnS wr w.heap.size v (setsL (ns.take i)) ∧ Below w.heap.size w wr)
  (fun _ o _ => ns.length - (intOf o).toNat)
 case atStart => exact ⟨0, by omega, rfl, ⟨rfl, .inl ⟨rfl, rfl⟩⟩, hb2⟩
 case round =>
  clear hb2
  obtain ⟨i, hi, rfl, hown, hb⟩ := hrel
  obtain ⟨oa, oc, rfl⟩ := hown.slice
  have HOW : Hid (OwnS wr w.heap.size (.slice oa (setsL (ns.take i)).length oc) (setsL (ns.take i))) := hown
  have hws := hb.size
  have hsl : (setsL (ns.take i)).length ≤ i := setsL_len i _ (by rw [List.length_take]; omega)
  clear hown
  by_cases hlt : i < ns.length
  ·obtain ⟨d, hd⟩ : ∃ d, ns[i]? = some d := ⟨_, List.getElem?_eq_getElem hlt⟩
   obtain ⟨b1, o1, rfl, hbb, an, cn, aa, ca, v0, v1, v2, v3, v4, hrs, hri, hcn1, hca1⟩ := HR.out i d hd
   have c0 := cell_keep v0 hb hbb
   have c1 := cell_keep v1 hb hbb
   have c2 := cell_keep v2 hb hbb
   have c3 := cell_keep v3 hb hbb
   have c4 := cell_keep v4 hb hbb
   have HST : Hid (setsL (ns.take (i + 1)) = if d.k = 10 ∧ hasS (setsL (ns.take i)) d.s = false then setsL (ns.take i) ++ [d.s] else setsL (ns.take i)) := setsL_take hd
   have hds := (HS.out d (List.mem_of_getElem? hd)).2.2.1
   have hki := (HS.out d (List.mem_of_getElem? hd)).1
   obtain ⟨w2, hw2⟩ : ∃ w2, w2 = wr.alloc (Obj.cells #[.int .i64 d.k, .int .i64 d.n, .string d.s, .slice an d.names.length cn, .slice aa d.args.length ca] 35) := ⟨_, rfl⟩
   have hbn : Below wr.heap.size wr w2 := by rw [hw2]; exact bR _ _
   have kn : w2.heap[wr.heap.size]? = some (Obj.cells #[.int .i64 d.k, .int .i64 d.n, .string d.s, .slice an d.names.length cn, .slice aa d.args.length ca] 35) := by rw [hw2]; exact blk_at _ _ _ rfl
   have HB2 : Hid (Below w.heap.size w w2) := hb.trans (hbn.mono hws)
   have HO2 : Hid (OwnS w2 w.heap.size (.slice oa (setsL (ns.take i)).length oc) (setsL (ns.take i))) := HOW.out.below hbn
   have HW2 : Hid (w2 = wr.alloc (Obj.cells #[.int .i64 d.k, .int .i64 d.n, .string d.s, .slice an d.names.length cn, .slice aa d.args.length ca] 35)) := hw2
   have KN : Hid (w2.heap[wr.heap.size]? = some (Obj.cells #[.int .i64 d.k, .int .i64 d.n, .string d.s, .slice an d.names.length cn, .slice aa d.args.length ca] 35)) := kn
   have hnl := (alt kn)
   generalize setsL (ns.take i) = l at *
   have HIN : Hid (Calls Try.prog 26 #[.slice oa l.length oc, .string d.s] w2 fun e w' => Ans w2 (.bool (hasS l d.s)) e w') := containsS_any oa l oc d.s w2 (by omega) HO2.out.row.2
   clear hrs hri hd v0 v1 v2 v3 v4 hb hw2 hbn kn HOW
   by_cases hk : d.k = 10
   ·have hkb : (d.k == 10) = true := by rw [hk]; rfl
    cases hh : hasS l d.s
    ·rw [hh] at HIN HST
     have HST2 : Hid (setsL (ns.take (i + 1)) = l ++ [d.s]) := by have := HST.out; rw [if_pos ⟨hk, rfl⟩] at this; exact this
     clear HST hh hk
     go_wp2_with fail
     rw [← HW2.out]
     refine HIN.out.mono ?_
     rintro e w3 ⟨rfl, hb4⟩
     have kn3 := (hb4.block _ hnl).trans KN.out
     have d2 := zB 2 kn3 rfl
     have hb5 : Below w.heap.size w w3 := bT HB2.out hb4
     have HO3 : Hid (OwnS w3 w.heap.size (.slice oa l.length oc) l) := HO2.out.below hb4
     have HCL : Hid (Calls Try.prog 21 #[.string d.s] w3 fun e w' => Ans w3 (.string d.s) e w') := clone_any d.s w3 hds
     have HB5 : Hid (Below w.heap.size w w3) := hb5
     clear hb4 hb5 kn3 HO2 HIN HB2 HW2 c0 c1 c2 c3 c4
     go_wp2_with fail
     refine HCL.out.mono ?_
     rintro e w4 ⟨rfl, hb6⟩
     have HB6 : Hid (Below w.heap.size w w4) := bT HB5.out hb6
     have HO4 : Hid (OwnS w4 w.heap.size (.slice oa l.length oc) l) := HO3.out.below hb6
     have HOA : Hid ((w4.alloc (.cells #[.string d.s] 9 (0, 0))).ownsRow w.heap.size 9 1 (.slice oa l.length oc) l.length (l.map Value.string)) := World.ownsRow.alloc HO4.out _
     have kA : (w4.alloc (.cells #[.string d.s] 9 (0, 0))).heap[w4.heap.size]? = some (.cells #[.string d.s] 9 (0, 0)) := blk_at _ _ _ rfl
     have hAz : (w4.alloc (.cells #[.string d.s] 9 (0, 0))).heap.size = w4.heap.size + 1 := by simp
     have hwA : w.heap.size ≤ (w4.alloc (.cells #[.string d.s] 9 (0, 0))).heap.size := by have := HB6.out.size; rw [hAz]; omega
     have HBA : Hid (Below w.heap.size w (w4.alloc (.cells #[.string d.s] 9 (0, 0)))) := HB6.out.alloc HB6.out.size _
     clear hb6 HO3 HO4 HB5 HB6 HCL d2
     go_wp2_with (at_builtin; refine wpList_append_lies _ rfl _ _ 29 rfl w.heap.size 9 i9 _ 1 16 Try.underlying29 hi9 hz90 hz91 hz92 rfl (by omega) (.slice oa l.length oc) l.length (l.map Value.string) rfl HOA.out ⟨w4.heap.size, 0, none⟩ 1 1 [.string d.s] rfl rfl (World.news_of_block kA) (by intro u hu; simp at hu; subst hu; rfl) (by omega) (by simp [maxLen]; omega) (by omega) hwA (w4.heap.size + 1) hAz ?_)
     intro gg cap' w5 hown hgrow hat hlt4
     have HO5 : Hid (OwnS w5 w.heap.size (.slice (some ⟨gg, 0, none⟩) (l ++ [d.s]).length cap') (l ++ [d.s])) := ownS_snoc hown
     have HB5 : Hid (Below w.heap.size w w5) := HBA.out.trans ⟨hgrow.os, hgrow.tape, hgrow.output, hgrow.size, fun k hk => hgrow.block k (by rw [hAz] at hwA ⊢; omega) (fun e => by have := (World.ownsRow.lt HOA.out _ e.symm).1; omega)⟩
     have hln : (l ++ [d.s]).length = l.length + 1 := by simp
     clear hown hgrow hat hlt4 kA hAz hwA HBA HOA
     go_wp2
     go_roundw
     case rel => exact ⟨i + 1, by omega, by go_num, by rw [HST2.out, ← hln]; exact HO5.out, HB5.out⟩
     case measure => simp [intOf]; omega
    ·rw [hh] at HIN HST
     have HST2 : Hid (setsL (ns.take (i + 1)) = l) := by have := HST.out; rw [if_neg (by simp)] at this; exact this
     clear HST hh hk
     go_wp2_with fail
     rw [← HW2.out]
     refine HIN.out.mono ?_
     rintro e w3 ⟨rfl, hb4⟩
     have HB3 : Hid (Below w.heap.size w w3) := bT HB2.out hb4
     have HO3 : Hid (OwnS w3 w.heap.size (.slice oa l.length oc) l) := HO2.out.below hb4
     clear hb4 c0 c1 c2 c3 c4 HO2 HIN HB2 HW2 KN
     go_wp2
     go_roundw
     case rel => exact ⟨i + 1, by omega, by go_num, by rw [HST2.out]; exact HO3.out, HB3.out⟩
     case measure => simp [intOf]; omega
   ·have hkb : (d.k == 10) = false := by rw [beq_eq_false_iff_ne]; exact hk
    have HST2 : Hid (setsL (ns.take (i + 1)) = l) := by have := HST.out; rw [if_neg (by simp [hk])] at this; exact this
    clear HST hk HIN
    go_wp2
    rw [← HW2.out]
    go_roundw
    case rel => exact ⟨i + 1, by omega, by go_num, by rw [HST2.out]; exact HO2.out, HB2.out⟩
    case measure => simp [intOf]; omega
  ·have hlt' : decide ((i : Int) < (ns.length : Int)) = false := by simp; omega
   obtain rfl : i = ns.length := by omega
   rw [List.take_length] at HOW ⊢
   clear hlt hi
   go_wp2
   go_ret
   exact ⟨.slice oa (setsL ns).length oc, rfl, HOW.out, hb⟩
end Go.Proofs.Ytgjeefedcfakdaa
set_option linter.unusedVariables false
set_option maxRecDepth 100000
set_option maxHeartbeats 8000000
namespace Go.Proofs.Ytgjeefedcfakdaa
open Go.ChangeShapes Go.WideShapes Go.ChangeAt Go.RowKit
theorem specDepth_yes (a : Option Addr) (ns : List Nod) (cap : Nat) (root : Int) (w : World) (hn : ns.length ≤ 1048576) (hfl : (flat ns).length ≤ 1048576) (hr : RowN w w.heap.size a ns) (hsm : ∀ d ∈ ns, d.small) (hok : OkP ns root) :
  Calls Try.prog 14 #[.agg #[.slice a ns.length cap, .int .i64 root]] w fun e w' => Ans w (.int .i64 (depN ns : Nat)) e w' := by
 obtain ⟨w0, hw0⟩ : ∃ w0, w0 = w.alloc (Obj.cells #[.slice a ns.length cap, .int .i64 root] 26) := ⟨_, rfl⟩
 have hbB : Below w.heap.size w w0 := by rw [hw0]; exact bR _ _
 have kB : w0.heap[w.heap.size]? = some (Obj.cells #[.slice a ns.length cap, .int .i64 root] 26) := by rw [hw0]; exact blk_alloc _ _
 have HOK : Hid (Calls Try.prog 9 #[.agg #[.slice a ns.length cap, .int .i64 root]] w0 fun e w' => OkPost ns root w0 e w') := specOk_any a ns cap root _ hn hfl ((hr.below hbB).mono hbB.size) hsm
 have HW0 : Hid (w0 = w.alloc (Obj.cells #[.slice a ns.length cap, .int .i64 root] 26)) := hw0
 have hs0 : w0.heap.size = w.heap.size + 1 := by rw [hw0]; simp
 have HR : Hid (RowN w w.heap.size a ns) := hr
 obtain ⟨hl1, hl2, hroot, _, hin, _⟩ := id hok
 have HIN : Hid (inR ns) := hin
 have HRT : Hid (root = (ns.length : Int) - 1) := hroot
 have HOKP : Hid (OkP ns root) := hok
 clear hr hsm hok hin hw0 hroot
 obtain ⟨i0, hi, hz0, hz1, hz2⟩ := info_parts Try.info3
 go_enter Try.func14, Try.ntmps14
 go_wp2_with fail
 rw [← HW0.out]
 refine HOK.out.mono ?_
 rintro e w1 ⟨b, rfl, hq, hb1⟩
 obtain rfl : b = true := hq.2 HOKP.out
 have k1 := blk_keep kB hb1 (by omega)
 have hb2 := bT hbB hb1
 have hs1 := hb1.size
 have e0 := zB 0 k1 rfl
 have K1 : Hid (w1.heap[w.heap.size]? = some (Obj.cells #[.slice a ns.length cap, .int .i64 root] 26)) := k1
 clear hbB hb1 hq kB HW0 k1 HOK
 go_wp2_with (at_make; refine wpList_make_full _ rfl _ _ 33 rfl w1.heap.size 3 i0 _ 1 Try.underlying33 hi hz0 hz1 .i64 .i64 _ _ ns.length rfl rfl rfl rfl ?c1 ?c2 ?c3 ?_)
 case c1 => rw [hz2]; omega
 case c2 => simp [maxLen]; omega
 case c3 => simp
 intro w2 hown2 hgr2
 have hb3 : Below w1.heap.size w1 w2 := (Below.refl _ _).grown hgr2 (by simp) (fun _ h => by cases h)
 have hb4 := bT hb2 hb3
 have HK2 : Hid (w2.heap[w.heap.size]? = some (Obj.cells #[.slice a ns.length cap, .int .i64 root] 26)) := blk_keep K1.out hb3 (by omega)
 have HC : Hid (DpAt w2 w1.heap.size ns.length []) := DpAt.zero hown2
 have hgw : w.heap.size < w1.heap.size := by omega
 obtain ⟨G, hG⟩ : ∃ G, G = w1.heap.size := ⟨_, rfl⟩
 rw [← hG] at HC hgw ⊢
 clear hown2 hgr2 hb3 hb2 K1 e0 hs1 hG
 go_wp2
 go_loopw [4] (fun o wr => ∃ (i : Nat), i ≤ ns.length ∧ o = .int .i64 i ∧ wr.heap[w.heap.size]? = some (Obj.cells #[.slice a ns.length cap, .int .i64 root] 26) ∧ DpAt wr G ns.length (dps (ns.take i)) ∧ Below w.heap.size w wr)
  (fun o _ => ns.length - (intOf o).toNat)
 case atStart => exact ⟨0, by omega, rfl, HK2.out, by simpa [dps] using HC.out, hb4⟩
 case round =>
  clear HK2 HC hb4
  obtain ⟨i, hi, rfl, hkd, hcn, hb⟩ := hrel
  obtain ⟨e0, e1⟩ := zn2 hkd rfl rfl
  have HKD : Hid (wr.heap[w.heap.size]? = some (Obj.cells #[.slice a ns.length cap, .int .i64 root] 26)) := hkd
  have HCN : Hid (DpAt wr G ns.length (dps (ns.take i))) := hcn
  have hws := hb.size
  clear hkd hcn
  by_cases hlt : i < ns.length
  ·obtain ⟨d, hd⟩ : ∃ d, ns[i]? = some d := ⟨_, List.getElem?_eq_getElem hlt⟩
   have HD : Hid (ns[i]? = some d) := hd
   obtain ⟨b1, o1, rfl, hbb, an, cn, aa, ca, v0, v1, v2, v3, v4, hrs, hri, hcn1, hca1⟩ := HR.out i d hd
   have HRI : Hid (∀ w3, Below w.heap.size w w3 → RowIP w3 (fun b => b < w.heap.size) aa d.args) := fun w3 h3 => hri.keep fun b h => ⟨h, h3.block b h⟩
   have C4 : Hid (∀ w3, Below w.heap.size w w3 → w3.cell? ⟨b1, o1 + i * 5 + 4, none⟩ = some (.slice aa d.args.length ca)) := fun w3 h3 => cell_keep v4 h3 hbb
   obtain ⟨hdl, hdm⟩ := dps_len i (ns.take i) (by rw [List.length_take]; omega)
   have HDM : Hid (∀ x ∈ dps (ns.take i), x ≤ i) := hdm
   have HDT : Hid (dps (ns.take (i + 1)) = dps (ns.take i) ++ [dpO (dps (ns.take i)) d.args + 1]) := dps_take hd
   have HDI : Hid (∀ a ∈ d.args, 0 ≤ a ∧ a < (i : Int)) := HIN.out i d hd
   have hdal : d.args.length ≤ 1048576 := by
    have h1 := flat_split hd
    have h2 := hfl
    rw [h1] at h2
    simp at h2
    omega
   have HC0 : Hid (DpAt wr G ns.length (dps (ns.take i) ++ [dpO (dps (ns.take i)) []])) := HCN.out.begin
   generalize dps (ns.take i) = l at *
   clear hrs hri hd v0 v1 v2 v3 v4 hdm HCN
   go_wp2
   go_loopw [5] (fun o wr => ∃ (k : Nat), k ≤ d.args.length ∧ o = .int .i64 k ∧ wr.heap[w.heap.size]? = some (Obj.cells #[.slice (some ⟨b1, o1, none⟩) ns.length cap, .int .i64 root] 26) ∧ DpAt wr G ns.length (l ++ [dpO l (d.args.take k)]) ∧ Below w.heap.size w wr)
    (fun o _ => d.args.length - (intOf o).toNat)
   case atStart => exact ⟨0, by omega, rfl, HKD.out, HC0.out, hb⟩
   case round =>
    clear HKD HC0 hb e0 e1 hws
    obtain ⟨k, hk, rfl, hkd, hcn, hb⟩ := hrel
    have e0 := zB 0 hkd rfl
    have c4 := C4.out _ hb
    have HKD : Hid (wr.heap[w.heap.size]? = some (Obj.cells #[.slice (some ⟨b1, o1, none⟩) ns.length cap, .int .i64 root] 26)) := hkd
    obtain ⟨g3, f3⟩ := hcn.cell (j := i) (by omega)
    have hgi : (l ++ [dpO l (d.args.take k)]).getD i 0 = dpO l (d.args.take k) := by rw [← hdl]; exact getD_snoc_eq
    rw [hgi] at g3
    have hmx : dpO l (d.args.take k) ≤ i := dpO_le HDM.out _
    by_cases hkl : k < d.args.length
    ·obtain ⟨x, hx⟩ : ∃ x, d.args[k]? = some x := ⟨_, List.getElem?_eq_getElem hkl⟩
     obtain ⟨b2, o2, rfl, hb2b, cx⟩ := HRI.out _ hb k x hx
     obtain ⟨hx0, hx1⟩ := HDI.out x (List.mem_of_getElem? hx)
     obtain ⟨A, rfl⟩ := Int.eq_ofNat_of_zero_le hx0
     have HTS : Hid (dpO l (d.args.take (k + 1)) = max (dpO l (d.args.take k)) (l.getD A 0)) := by show _ = _; rw [List.take_add_one, hx]; exact dpO_snoc _ _ _
     obtain ⟨g4, f4⟩ := hcn.cell (j := A) (by omega)
     rw [getD_snoc_lt (by omega)] at g4
     have hgA : l.getD A 0 ≤ i := getD_le HDM.out _
     have HCN : Hid (DpAt wr G ns.length (l ++ [dpO l (d.args.take k)])) := hcn
     generalize l.getD A 0 = y at *
     generalize dpO l (d.args.take k) = z at *
     clear hx hkd hcn hgi
     by_cases hyz : z < y
     ·have q1 : decide ((y : Int) ≤ (z : Int)) = false := by simp; omega
      have q2 : decide ((z : Int) < (y : Int)) = true := by simp; omega
      have HP : Hid _ := HCN.out.put (y := y) (by omega)
      rw [hdl] at HP
      go_wp2_with fail
      go_quiet (fail)
      go_wp2
      go_roundw
      case rel =>
       refine ⟨k + 1, by omega, by go_num, (heap_setCell_other _ _ _ _ (by show w.heap.size ≠ G; omega)).trans HKD.out, ?_, (below_drewN hb _).setCell (p := ⟨_, _, none⟩) (by show w.heap.size ≤ G; omega) _⟩
       rw [HTS.out, Nat.max_eq_right (by omega)]
       exact HP.out
      case measure => simp [intOf]; omega
     ·have q1 : decide ((y : Int) ≤ (z : Int)) = true := by simp; omega
      have q2 : decide ((z : Int) < (y : Int)) = false := by simp; omega
      go_wp2_with fail
      go_quiet (fail)
      go_wp2
      go_roundw
      case rel =>
       refine ⟨k + 1, by omega, by go_num, HKD.out, ?_, below_drewN hb _⟩
       rw [HTS.out, Nat.max_eq_left (by omega)]
       exact HCN.out
      case measure => simp [intOf]; omega
    ·have hkl' : decide ((k : Int) < (d.args.length : Int)) = false := by simp; omega
     obtain rfl : k = d.args.length := by omega
     rw [List.take_length] at hcn g3 hmx
     have HP : Hid _ := hcn.put (y := dpO l d.args + 1) (by omega)
     rw [hdl, ← HDT.out] at HP
     generalize dpO l d.args = z at *
     clear hkd hcn hgi
     go_wp2
     go_roundw
     case rel =>
      refine ⟨i + 1, by omega, by go_num, (heap_setCell_other _ _ _ _ (by show w.heap.size ≠ G; omega)).trans HKD.out, HP.out, hb.setCell (p := ⟨_, _, none⟩) (by show w.heap.size ≤ G; omega) _⟩
     case measure => simp [intOf]; omega
  ·have hlt' : decide ((i : Int) < (ns.length : Int)) = false := by simp; omega
   obtain rfl : i = ns.length := by omega
   rw [List.take_length] at HCN
   obtain ⟨g3, f3⟩ := HCN.out.cell (j := ns.length - 1) (by omega)
   have hrt : root = ((ns.length - 1 : Nat) : Int) := by have := HRT.out; omega
   subst hrt
   clear hlt hi
   go_wp2
   go_ret
   exact ⟨rfl, hb⟩
end Go.Proofs.Ytgjeefedcfakdaa
set_option linter.unusedVariables false
set_option maxRecDepth 100000
set_option maxHeartbeats 8000000
namespace Go.Proofs.Ytgjeefedcfakdaa
open Go.ChangeShapes Go.WideShapes Go.ChangeAt Go.RowKit
theorem implDepth_yes (a : Option Addr) (ns : List Nod) (cap : Nat) (root : Int) (w : World) (hn : ns.length ≤ 1048576) (hfl : (flat ns).length ≤ 1048576) (hr : RowN w w.heap.size a ns) (hsm : ∀ d ∈ ns, d.small) (hok : OkP ns root) :
  Calls Try.prog 12 #[.agg #[.slice a ns.length cap, .int .i64 root]] w fun e w' => Ans w (.int .i64 (depN ns : Nat)) e w' := by
 obtain ⟨w0, hw0⟩ : ∃ w0, w0 = w.alloc (Obj.cells #[.slice a ns.length cap, .int .i64 root] 26) := ⟨_, rfl⟩
 have hbB : Below w.heap.size w w0 := by rw [hw0]; exact bR _ _
 have kB : w0.heap[w.heap.size]? = some (Obj.cells #[.slice a ns.length cap, .int .i64 root] 26) := by rw [hw0]; exact blk_alloc _ _
 have HOK : Hid (Calls Try.prog 19 #[.agg #[.slice a ns.length cap, .int .i64 root]] w0 fun e w' => OkPost ns root w0 e w') := implOk_any a ns cap root _ hn ((hr.below hbB).mono hbB.size) hsm
 have HW0 : Hid (w0 = w.alloc (Obj.cells #[.slice a ns.length cap, .int .i64 root] 26)) := hw0
 have hs0 : w0.heap.size = w.heap.size + 1 := by rw [hw0]; simp
 have HR : Hid (RowN w w.heap.size a ns) := hr
 obtain ⟨hl1, hl2, hroot, _, hin, _⟩ := id hok
 have HIN : Hid (inR ns) := hin
 have HRT : Hid (root = (ns.length : Int) - 1) := hroot
 have HOKP : Hid (OkP ns root) := hok
 clear hr hsm hok hin hw0 hroot
 obtain ⟨i0, hi, hz0, hz1, hz2⟩ := info_parts Try.info3
 go_enter Try.func12, Try.ntmps12
 go_wp2_with fail
 rw [← HW0.out]
 refine HOK.out.mono ?_
 rintro e w1 ⟨b, rfl, hq, hb1⟩
 obtain rfl : b = true := hq.2 HOKP.out
 have k1 := blk_keep kB hb1 (by omega)
 have hb2 := bT hbB hb1
 have hs1 := hb1.size
 have e0 := zB 0 k1 rfl
 have K1 : Hid (w1.heap[w.heap.size]? = some (Obj.cells #[.slice a ns.length cap, .int .i64 root] 26)) := k1
 clear hbB hb1 hq kB HW0 k1 HOK
 go_wp2_with (at_make; refine wpList_make_full _ rfl _ _ 33 rfl w1.heap.size 3 i0 _ 1 Try.underlying33 hi hz0 hz1 .i64 .i64 _ _ ns.length rfl rfl rfl rfl ?c1 ?c2 ?c3 ?_)
 case c1 => rw [hz2]; omega
 case c2 => simp [maxLen]; omega
 case c3 => simp
 intro w2 hown2 hgr2
 have hb3 : Below w1.heap.size w1 w2 := (Below.refl _ _).grown hgr2 (by simp) (fun _ h => by cases h)
 have hb4 := bT hb2 hb3
 have k2 := blk_keep K1.out hb3 (by omega)
 have HK2 : Hid (w2.heap[w.heap.size]? = some (Obj.cells #[.slice a ns.length cap, .int .i64 root] 26)) := k2
 have e0 := zB 0 k2 rfl
 have HC : Hid (DpAt w2 w1.heap.size ns.length []) := DpAt.zero hown2
 have hgw : w.heap.size < w1.heap.size := by omega
 obtain ⟨G, hG⟩ : ∃ G, G = w1.heap.size := ⟨_, rfl⟩
 rw [← hG] at HC hgw ⊢
 clear hown2 hgr2 hb3 hb2 K1 hs1 hG k2
 go_wp2
 go_loopw [18] (fun o wr => ∃ (i : Nat), i ≤ ns.length ∧ o = .int .i64 i ∧ wr.heap[w.heap.size]? = some (Obj.cells #[.slice a ns.length cap, .int .i64 root] 26) ∧ DpAt wr G ns.length (dps (ns.take i)) ∧ Below w.heap.size w wr)
  (fun o _ => ns.length - (intOf o).toNat)
 case atStart => exact ⟨0, by omega, rfl, HK2.out, by simpa [dps] using HC.out, hb4⟩
 case round =>
  clear HK2 HC hb4 e0
  obtain ⟨i, hi, rfl, hkd, hcn, hb⟩ := hrel
  have e1 := zB 1 hkd rfl
  have HKD : Hid (wr.heap[w.heap.size]? = some (Obj.cells #[.slice a ns.length cap, .int .i64 root] 26)) := hkd
  have HCN : Hid (DpAt wr G ns.length (dps (ns.take i))) := hcn
  have hws := hb.size
  have hgl := hcn.lt
  clear hkd hcn
  by_cases hlt : i < ns.length
  ·obtain ⟨d, hd⟩ : ∃ d, ns[i]? = some d := ⟨_, List.getElem?_eq_getElem hlt⟩
   have HD : Hid (ns[i]? = some d) := hd
   obtain ⟨b1, o1, rfl, hbb, an, cn, aa, ca, v0, v1, v2, v3, v4, hrs, hri, hcn1, hca1⟩ := HR.out i d hd
   have c0 := cell_keep v0 hb hbb
   have c1 := cell_keep v1 hb hbb
   have c2 := cell_keep v2 hb hbb
   have c3 := cell_keep v3 hb hbb
   have c4 := cell_keep v4 hb hbb
   have HRI : Hid (∀ w3, Below w.heap.size w w3 → RowIP w3 (fun b => b < w.heap.size) aa d.args) := fun w3 h3 => hri.keep fun b h => ⟨h, h3.block b h⟩
   obtain ⟨hdl, hdm⟩ := dps_len i (ns.take i) (by rw [List.length_take]; omega)
   have HDM : Hid (∀ x ∈ dps (ns.take i), x ≤ i) := hdm
   have HDT : Hid (dps (ns.take (i + 1)) = dps (ns.take i) ++ [dpO (dps (ns.take i)) d.args + 1]) := dps_take hd
   have HDI : Hid (∀ a ∈ d.args, 0 ≤ a ∧ a < (i : Int)) := HIN.out i d hd
   have hdal : d.args.length ≤ 1048576 := by
    have h1 := flat_split hd
    have h2 := hfl
    rw [h1] at h2
    simp at h2
    omega
   have HC0 : Hid (DpAt wr G ns.length (dps (ns.take i) ++ [dpO (dps (ns.take i)) []])) := HCN.out.begin
   generalize dps (ns.take i) = l at *
   clear hrs hri hd v0 v1 v2 v3 v4 hdm HCN e1
   go_wp2
   have hbx : Below wr.heap.size wr (wr.alloc (Obj.cells #[.int .i64 d.k, .int .i64 d.n, .string d.s, .slice an d.names.length cn, .slice aa d.args.length ca] 35)) := bR _ _
   have hb2 : Below w.heap.size w (wr.alloc (Obj.cells #[.int .i64 d.k, .int .i64 d.n, .string d.s, .slice an d.names.length cn, .slice aa d.args.length ca] 35)) := hb.alloc (by omega) _
   have HC1 : Hid _ := HC0.out.keep hbx hgl
   have HK1 : Hid _ := blk_keep HKD.out hbx (by omega)
   clear HC0 HKD c0 c1 c2 c3 c4
   go_loopw [26] (fun o wr => ∃ (k : Nat), k ≤ d.args.length ∧ o = .int .i64 k ∧ wr.heap[w.heap.size]? = some (Obj.cells #[.slice (some ⟨b1, o1, none⟩) ns.length cap, .int .i64 root] 26) ∧ DpAt wr G ns.length (l ++ [dpO l (d.args.take k)]) ∧ Below w.heap.size w wr)
    (fun o _ => d.args.length - (intOf o).toNat)
   case atStart => exact ⟨0, by omega, rfl, HK1.out, HC1.out, hb2⟩
   case round =>
    clear HK1 HC1 hb hb2 hbx hws hgl
    obtain ⟨k, hk, rfl, hkd, hcn, hb⟩ := hrel
    have HKD : Hid (wr.heap[w.heap.size]? = some (Obj.cells #[.slice (some ⟨b1, o1, none⟩) ns.length cap, .int .i64 root] 26)) := hkd
    obtain ⟨g3, f3⟩ := hcn.cell (j := i) (by omega)
    have hgi : (l ++ [dpO l (d.args.take k)]).getD i 0 = dpO l (d.args.take k) := by rw [← hdl]; exact getD_snoc_eq
    rw [hgi] at g3
    have hmx : dpO l (d.args.take k) ≤ i := dpO_le HDM.out _
    by_cases hkl : k < d.args.length
    ·obtain ⟨x, hx⟩ : ∃ x, d.args[k]? = some x := ⟨_, List.getElem?_eq_getElem hkl⟩
     obtain ⟨b2, o2, rfl, hb2b, cx⟩ := HRI.out _ hb k x hx
     obtain ⟨hx0, hx1⟩ := HDI.out x (List.mem_of_getElem? hx)
     obtain ⟨A, rfl⟩ := Int.eq_ofNat_of_zero_le hx0
     have HTS : Hid (dpO l (d.args.take (k + 1)) = max (dpO l (d.args.take k)) (l.getD A 0)) := by show _ = _; rw [List.take_add_one, hx]; exact dpO_snoc _ _ _
     obtain ⟨g4, f4⟩ := hcn.cell (j := A) (by omega)
     rw [getD_snoc_lt (by omega)] at g4
     have hgA : l.getD A 0 ≤ i := getD_le HDM.out _
     have HCN : Hid (DpAt wr G ns.length (l ++ [dpO l (d.args.take k)])) := hcn
     generalize l.getD A 0 = y at *
     generalize dpO l (d.args.take k) = z at *
     clear hx hkd hcn hgi
     have HMX : Hid ((if z < y then (y : Int) else (z : Int)) = ((max z y : Nat) : Int)) := by
      show _ = _
      by_cases hzy : z < y
      ·rw [if_pos hzy, Nat.max_eq_right (by omega)]
      ·rw [if_neg hzy, Nat.max_eq_left (by omega)]
     have HP : Hid _ := HCN.out.put (y := max z y) (by omega)
     rw [hdl] at HP
     go_wp2_with fail
     go_region
     first | rw [HMX.out] | rw [show (max (z : Int) (y : Int)) = ((max z y : Nat) : Int) by omega]
     go_wp2
     go_roundw
     case rel =>
      refine ⟨k + 1, by omega, by go_num, (heap_setCell_other _ _ _ _ (by show w.heap.size ≠ G; omega)).trans HKD.out, ?_, below_drewN (hb.setCell (p := ⟨G, i, none⟩) (by show w.heap.size ≤ G; omega) _) 1⟩
      rw [HTS.out]
      exact HP.out
     case measure => simp [intOf]; omega
    ·have hkl' : decide ((k : Int) < (d.args.length : Int)) = false := by simp; omega
     obtain rfl : k = d.args.length := by omega
     rw [List.take_length] at hcn g3 hmx
     have HP : Hid _ := hcn.put (y := dpO l d.args + 1) (by omega)
     rw [hdl, ← HDT.out] at HP
     generalize dpO l d.args = z at *
     clear hkd hcn hgi
     go_wp2
     go_roundw
     case rel =>
      refine ⟨i + 1, by omega, by go_num, (heap_setCell_other _ _ _ _ (by show w.heap.size ≠ G; omega)).trans HKD.out, HP.out, hb.setCell (p := ⟨_, _, none⟩) (by show w.heap.size ≤ G; omega) _⟩
     case measure => simp [intOf]; omega
  ·have hlt' : decide ((i : Int) < (ns.length : Int)) = false := by simp; omega
   obtain rfl : i = ns.length := by omega
   rw [List.take_length] at HCN
   obtain ⟨g3, f3⟩ := HCN.out.cell (j := ns.length - 1) (by omega)
   have hrt : root = ((ns.length - 1 : Nat) : Int) := by have := HRT.out; omega
   subst hrt
   clear hlt hi
   go_wp2
   go_ret
   exact ⟨rfl, hb⟩
end Go.Proofs.Ytgjeefedcfakdaa
