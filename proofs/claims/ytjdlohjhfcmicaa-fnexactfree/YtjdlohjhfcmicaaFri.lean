/- The program's Free. -/
import Derived.Test.YtjdlohjhfcmicaaVit
import Derived.Test.YtjdlohjhfcmicaaFrt
import Derived.Test.YtjdlohjhfcmicaaSzp
import Derived.Test.YtjdlohjhfcmicaaMkp
set_option linter.unusedVariables false
namespace Go.Proofs.Ytjdlohjhfcmicaa
open Go.ChangeShapes Go.WideShapes Go.ChangeAt Go.RowKit
theorem make44 (W : World) : (Instr.makeMap 44 none).run Try.prog W = .ok (.map (some W.heap.size)) (W.alloc (.map #[] 0)) := by
  rfl
set_option maxRecDepth 100000 in
set_option maxHeartbeats 1000000 in
theorem implFree_yes (a : Option Addr) (ns : List Nod) (cap : Nat) (root : Int) (i : Nat) (w : World) (hn : ns.length ≤ 1048576) (hr : RowN w w.heap.size a ns) (hsm : ∀ d ∈ ns, d.small) (hok : OkP ns root) (hi : i < ns.length) (hLk : (Lk ns).length ≤ 8388608) :
    Calls Try.prog 9 #[.agg #[.slice a ns.length cap, .int .i64 root], .int .i64 (i : Int)] w fun e w' => TellP (freeF ns ns.length (i : Int) [] []) w e w' := by
  obtain ⟨w0, hw0⟩ : ∃ w0, w0 = w.alloc (Obj.cells #[.slice a ns.length cap, .int .i64 root] 30) := ⟨_, rfl⟩
  have hbB : Below w.heap.size w w0 := by rw [hw0]; exact (Below.refl _ _).alloc (Nat.le_refl _) _
  have kB : w0.heap[w.heap.size]? = some (Obj.cells #[.slice a ns.length cap, .int .i64 root] 30) := by rw [hw0]; exact blk_alloc _ _
  have HOK : Hid (Calls Try.prog 23 #[.agg #[.slice a ns.length cap, .int .i64 root]] w0 fun e w' => OkPost ns root w0 e w') := implOk_any a ns cap root _ hn ((hr.below hbB).mono hbB.size) hsm
  have HW0 : Hid (w0 = w.alloc (Obj.cells #[.slice a ns.length cap, .int .i64 root] 30)) := hw0
  have hs0 : w0.heap.size = w.heap.size + 1 := by rw [hw0]; simp
  have HR : Hid (RowN w w.heap.size a ns) := hr
  have HOKP : Hid (OkP ns root) := hok
  have HSM : Hid (∀ d ∈ ns, d.small) := hsm
  have hi1 : decide ((i : Int) < 0) = false := by simp
  have hi2 : decide ((ns.length : Int) ≤ (i : Int)) = false := by simp; omega
  clear hr hsm hok hw0
  go_enter Try.func9, Try.ntmps9
  go_wp2_with fail
  rw [← HW0.out]
  refine HOK.out.mono ?_
  rintro e w1 ⟨b, rfl, hq, hb1⟩
  obtain rfl : b = true := hq.2 HOKP.out
  have k1 := blk_keep kB hb1 (by omega)
  have HB1 : Hid (Below w.heap.size w w1) := hbB.trans (hb1.mono hbB.size)
  have hs1 := hb1.size
  have e0 := cell_blk (j := 0) k1 rfl
  have e1 := cell_blk (j := 1) k1 rfl
  clear hbB hb1 hq kB HW0 HOK
  have hsto := fun (W : World) (f x y z u : Nat) => run_store Try.prog W ⟨f, 0, none⟩ (Value.func (Fn.func 24) #[] #[.pointer (some ⟨x, 0, none⟩), .pointer (some ⟨y, 0, none⟩), .pointer (some ⟨z, 0, none⟩), .pointer (some ⟨u, 0, none⟩)]) .plain rfl
  have hmk := make44 (w1.alloc (Obj.cells #[Value.slice none 0 0] 26))
  go_wp2_with fail
  obtain ⟨W, hW⟩ : ∃ W, W = (((w1.alloc (Obj.cells #[Value.slice none 0 0] 26)).alloc (Obj.map #[] 0)).alloc (Obj.cells #[Value.map (some (w1.heap.size + 1))] 44)).alloc (Obj.cells #[Value.func (Fn.func 24) #[] #[.pointer (some ⟨w1.heap.size + 1 + 1, 0, none⟩), .pointer (some ⟨w1.heap.size, 0, none⟩), .pointer (some ⟨w1.heap.size + 1 + 1 + 1, 0, none⟩), .pointer (some ⟨w.heap.size, 0, none⟩)]] 45) := ⟨_, rfl⟩
  obtain ⟨x, hxd⟩ : ∃ x : Bx, x = ⟨w1.heap.size + 1 + 1, w1.heap.size, w1.heap.size + 1 + 1 + 1, w.heap.size, w1.heap.size + 1, w.heap.size, w1.heap.size + 4⟩ := ⟨_, rfl⟩
  have hw1 : w.heap.size < w1.heap.size := (Array.getElem?_eq_some_iff.1 k1).1
  have hxo : x.Ok := by
    rw [hxd]
    constructor <;> (simp only; omega)
  have hz : W.heap.size = w1.heap.size + 4 := by rw [hW]; simp
  have hbW : Below w1.heap.size w1 W := by rw [hW]; exact ((((Below.refl _ _).alloc (Nat.le_refl _) _).alloc (by simp) _).alloc (by simp; omega) _).alloc (by simp; omega) _
  have HBW : Hid (Below w.heap.size w W) := HB1.out.trans (hbW.mono HB1.out.size)
  have hst : VSt x a ns cap root (FB [] []) [] (.slice none 0 0) W := by
    have hm : MapC W (w1.heap.size + 1) (Lk ns) (FB [] []) := by
      have h0 := (MapC.made (w1.alloc (Obj.cells #[Value.slice none 0 0] 26)) (Lk ns)).eq (G := FB [] []) FB_nil
      have e0 : (w1.alloc (Obj.cells #[Value.slice none 0 0] 26)).heap.size = w1.heap.size + 1 := by simp
      rw [e0] at h0
      refine h0.same ?_
      rw [hW]
      have hm0 : ((w1.alloc (Obj.cells #[Value.slice none 0 0] 26)).alloc (.map #[] 0)).heap[w1.heap.size + 1]? = some (.map #[] 0) := blk_at _ _ _ e0.symm
      rw [hm0]
      exact blk_past (blk_past hm0)
    rw [hxd]
    refine ⟨?_, ?_, ?_, (hbW.block _ hw1).trans k1, hm, ⟨rfl, .inl ⟨rfl, rfl⟩⟩, HR.out.below HBW.out, by simp only; omega⟩
    · rw [hW]; exact blk_past (blk_at _ _ _ (by simp))
    · rw [hW]; exact blk_past (blk_past (blk_past (blk_at _ _ _ rfl)))
    · rw [hW]; exact blk_at _ _ _ (by simp)
  obtain ⟨d, hd⟩ : ∃ d, ns[i]? = some d := ⟨_, List.getElem?_eq_getElem hi⟩
  obtain ⟨b1, o1, ha, hbb, an, cn, aa, ca, v0, v1, v2, v3, v4, her⟩ := hst.rows i d hd
  have HV : Hid (Calls Try.prog 24 #[.agg #[.int .i64 d.k, .int .i64 d.n, .string d.s, .slice an d.names.length cn, .slice aa d.args.length ca], .pointer (some ⟨x.S, 0, none⟩), .pointer (some ⟨x.F, 0, none⟩), .pointer (some ⟨x.V, 0, none⟩), .pointer (some ⟨x.P, 0, none⟩)] W.drew fun e w' => VP x a ns cap root [] (freeF ns ns.length (i : Int) [] []) (.slice none 0 0) W e w') := (visit_any x hxo a ns cap root HSM.out HOKP.out hLk ns.length i hi hi d an aa cn ca [] [] (.slice none 0 0) W.drew hd her ⟨hst.s, hst.f, hst.vb, hst.p, hst.map.same rfl, hst.own, hst.rows, hst.size⟩ (by simp) (Fnd.nil ns)).mono (fun e w' ⟨v', h1, h2, h3, h4⟩ => ⟨v', h1, h2, ⟨h3.os, h3.tape, h3.output, h3.size, h3.block⟩, h4⟩)
  have p0 : W.cell? ⟨x.P, 0, none⟩ = some (.slice a ns.length cap) := cell_blk (j := 0) hst.p rfl
  have g0 : W.cell? ⟨x.V, 0, none⟩ = some (Value.func (.func 24) #[] #[.pointer (some ⟨x.S, 0, none⟩), .pointer (some ⟨x.F, 0, none⟩), .pointer (some ⟨x.V, 0, none⟩), .pointer (some ⟨x.P, 0, none⟩)]) := cell_blk (j := 0) hst.vb rfl
  have hx1 : x.S = w1.heap.size + 1 + 1 := by rw [hxd]
  have hx2 : x.F = w1.heap.size := by rw [hxd]
  have hx3 : x.V = w1.heap.size + 1 + 1 + 1 := by rw [hxd]
  have hx4 : x.P = w.heap.size := by rw [hxd]
  have hx5 : x.C = w1.heap.size + 4 := by rw [hxd]
  have hx6 : x.m = w1.heap.size + 1 := by rw [hxd]
  rw [hx1, hx2, hx3, hx4] at HV g0
  rw [hx4] at p0
  have HX2 : Hid (x.F = w1.heap.size) := hx2
  have HX5 : Hid (x.C = w1.heap.size + 4) := hx5
  have HX6 : Hid (x.m = w1.heap.size + 1) := hx6
  have HZ : Hid (W.heap.size = w1.heap.size + 4) := hz
  rw [← hW]
  clear hst hmk hW hbW hxd hx1 hx2 hx3 hx4 hx5 hx6 her hd hsto HB1 HR HSM HOKP e0 e1 k1 hxo hz
  subst ha
  go_wp2_with fail
  go_region_with (go_at_call 24; refine HV.out.mono ?_; rintro e5 w5 ⟨v5, rfl, hvs5, hvg5, hnw5⟩)
  all_goals
    have f5 := cell_blk (j := 0) hvs5.f rfl
    rw [HX2.out] at f5
    obtain ⟨a5, c5, rfl⟩ := hvs5.own.slice
    have HO5 : Hid (OwnS w5 w.heap.size (.slice a5 (freeF ns ns.length (i : Int) [] []).length c5) (freeF ns ns.length (i : Int) [] [])) := hvs5.own.weak (by rw [HX5.out]; omega)
    have HB5 : Hid (Below w.heap.size w w5) := HBW.out.trans ⟨hvg5.os, hvg5.tape, hvg5.output, hvg5.size, fun k hk => hvg5.block k (by rw [HZ.out]; omega) (by rw [HX6.out]; omega) (by rw [HX2.out]; omega) (fun e => by cases e)⟩
    clear hvs5 hvg5 hnw5
    go_wp2
    go_ret
    exact ⟨_, rfl, HO5.out, HB5.out⟩
set_option maxRecDepth 100000 in
set_option maxHeartbeats 1000000 in
theorem implFree_no (a : Option Addr) (ns : List Nod) (cap : Nat) (root idx : Int) (w : World) (hn : ns.length ≤ 1048576) (hr : RowN w w.heap.size a ns) (hsm : ∀ d ∈ ns, d.small) (hidx : i64B idx) (hno : ¬ (OkP ns root ∧ 0 ≤ idx ∧ idx < ns.length)) :
    Calls Try.prog 9 #[.agg #[.slice a ns.length cap, .int .i64 root], .int .i64 idx] w fun e w' => TellP [] w e w' := by
  obtain ⟨w0, hw0⟩ : ∃ w0, w0 = w.alloc (Obj.cells #[.slice a ns.length cap, .int .i64 root] 30) := ⟨_, rfl⟩
  have hbB : Below w.heap.size w w0 := by rw [hw0]; exact (Below.refl _ _).alloc (Nat.le_refl _) _
  have HOK : Hid (Calls Try.prog 23 #[.agg #[.slice a ns.length cap, .int .i64 root]] w0 fun e w' => OkPost ns root w0 e w') := implOk_any a ns cap root _ hn ((hr.below hbB).mono hbB.size) hsm
  have HW0 : Hid (w0 = w.alloc (Obj.cells #[.slice a ns.length cap, .int .i64 root] 30)) := hw0
  have HB0 : Hid (Below w.heap.size w w0) := hbB
  clear hr hsm hw0 hbB
  by_cases h0 : idx < 0
  · have h0' : decide (idx < 0) = true := by simp [h0]
    clear hno h0 HOK
    go_enter Try.func9, Try.ntmps9
    go_wp2
    go_ret
    exact ⟨.slice none 0 0, rfl, ⟨rfl, .inl ⟨rfl, rfl⟩⟩, by rw [← HW0.out]; exact HB0.out⟩
  · have h0' : decide (idx < 0) = false := by simp; omega
    by_cases h1 : (ns.length : Int) ≤ idx
    · have h1' : decide ((ns.length : Int) ≤ idx) = true := by simp [h1]
      clear hno h0 h1 HOK
      go_enter Try.func9, Try.ntmps9
      go_wp2
      go_ret
      exact ⟨.slice none 0 0, rfl, ⟨rfl, .inl ⟨rfl, rfl⟩⟩, by rw [← HW0.out]; exact HB0.out⟩
    · have h1' : decide ((ns.length : Int) ≤ idx) = false := by simp; omega
      have hnk : ¬ OkP ns root := fun h => hno ⟨h, by omega, by omega⟩
      clear hno h0 h1
      go_enter Try.func9, Try.ntmps9
      go_wp2_with fail
      rw [← HW0.out]
      refine HOK.out.mono ?_
      rintro e w1 ⟨b, rfl, hq, hb1⟩
      obtain rfl : b = false := by
        cases b with
        | false => rfl
        | true => exact absurd (hq.1 rfl) hnk
      have HB1 : Hid (Below w.heap.size w w1) := HB0.out.trans (hb1.mono HB0.out.size)
      clear hq hb1 HB0 HOK hnk
      go_wp2
      go_ret
      exact ⟨.slice none 0 0, rfl, ⟨rfl, .inl ⟨rfl, rfl⟩⟩, HB1.out⟩
theorem Lk_bulk (ns : List Nod) : (ns.flatMap fun d => d.s :: d.names).length ≤ bulkN ns := by
  induction ns with
  | nil => simp
  | cons d ns ih =>
    have := bulk_ge d
    simp only [List.flatMap_cons, List.length_append, List.length_cons, bulkN]
    omega
/-- Both Frees tell the same. -/
theorem frees (ns : List Nod) (root idx : Int) (hidx : i64B idx) (hn : ns.length ≤ 1048576) (hfl : (flat ns).length ≤ 1048576) (hsm : ∀ d ∈ ns, d.small) (hbk : bulkN ns ≤ 1048576) :
    ∃ l : List ByteArray, l.length ≤ 400 ∧ (∀ (a : Option Addr) (ca : Nat) (w : World), RowN w w.heap.size a ns → Calls Try.prog 7 #[.agg #[.slice a ns.length ca, .int .i64 root], .int .i64 idx] w fun e w' => TellP l w e w') ∧ ∀ (a : Option Addr) (ca : Nat) (w : World), RowN w w.heap.size a ns → Calls Try.prog 9 #[.agg #[.slice a ns.length ca, .int .i64 root], .int .i64 idx] w fun e w' => TellP l w e w' := by
  by_cases h : OkP ns root ∧ 0 ≤ idx ∧ idx < ns.length
  · obtain ⟨hok, h0, h1⟩ := h
    obtain ⟨i, rfl⟩ := Int.eq_ofNat_of_zero_le h0
    have hi : i < ns.length := by omega
    have hLk : (Lk ns).length ≤ 8388608 := by
      rw [Lk_len]
      have := Lk_bulk ns
      omega
    refine ⟨freeF ns ns.length (i : Int) [] [], ?_, fun a ca w hr => specFree_yes a ns ca root i w hn hfl hr hsm hok hi, fun a ca w hr => implFree_yes a ns ca root i w hn hr hsm hok hi hLk⟩
    have := (Fnd.free hok.2.2.2.2.1 ns.length i [] [] hi (Fnd.nil ns)).len
    have := hok.2.1
    omega
  · exact ⟨[], by simp, fun a ca w hr => specFree_no a ns ca root idx w hn hfl hr hsm hidx h, fun a ca w hr => implFree_no a ns ca root idx w hn hr hsm hidx h⟩
end Go.Proofs.Ytjdlohjhfcmicaa
