/- The model's Free. -/
import Derived.Test.YtjdlohjhfcmicaaFrs
set_option linter.unusedVariables false
namespace Go.Proofs.Ytjdlohjhfcmicaa
open Go.ChangeShapes Go.WideShapes Go.ChangeAt Go.RowKit
set_option maxRecDepth 100000 in
set_option maxHeartbeats 1000000 in
theorem specFree_yes (a : Option Addr) (ns : List Nod) (cap : Nat) (root : Int) (i : Nat) (w : World) (hn : ns.length ≤ 1048576) (hfl : (flat ns).length ≤ 1048576) (hr : RowN w w.heap.size a ns) (hsm : ∀ d ∈ ns, d.small) (hok : OkP ns root) (hi : i < ns.length) :
    Calls Try.prog 7 #[.agg #[.slice a ns.length cap, .int .i64 root], .int .i64 (i : Int)] w fun e w' => TellP (freeF ns ns.length (i : Int) [] []) w e w' := by
  obtain ⟨w0, hw0⟩ : ∃ w0, w0 = w.alloc (Obj.cells #[.slice a ns.length cap, .int .i64 root] 30) := ⟨_, rfl⟩
  have hbB : Below w.heap.size w w0 := by rw [hw0]; exact (Below.refl _ _).alloc (Nat.le_refl _) _
  have kB : w0.heap[w.heap.size]? = some (Obj.cells #[.slice a ns.length cap, .int .i64 root] 30) := by rw [hw0]; exact blk_alloc _ _
  have HOK : Hid (Calls Try.prog 20 #[.agg #[.slice a ns.length cap, .int .i64 root]] w0 fun e w' => OkPost ns root w0 e w') := specOk_any a ns cap root _ hn hfl ((hr.below hbB).mono hbB.size) hsm
  have HW0 : Hid (w0 = w.alloc (Obj.cells #[.slice a ns.length cap, .int .i64 root] 30)) := hw0
  have hs0 : w0.heap.size = w.heap.size + 1 := by rw [hw0]; simp
  have HL5 : Hid (∀ (W : World) (g1 g2 : Nat), Below w.heap.size w W → W.heap[g2]? = some (.cells #[] 9 (0, 0)) → w.heap.size ≤ g2 → Calls Try.prog 21 #[.agg #[.slice a ns.length cap, .int .i64 root], .int .i64 (i : Int), .slice (some ⟨g1, 0, none⟩) 0 0, .slice (some ⟨g2, 0, none⟩) 0 0] W fun e w' => L5P w.heap.size (.slice (some ⟨g2, 0, none⟩) 0 0) (freeF ns ns.length (i : Int) [] []) W e w') := fun W g1 g2 hW h2 hg2 => l5Free_any a ns cap root hsm hok w.heap.size ns.length i hi hi (some ⟨g1, 0, none⟩) (some ⟨g2, 0, none⟩) 0 0 [] [] W (hr.below hW) hW.size (fun j x hx => by simp at hx) (own_nil h2 hg2) (by simp) (Fnd.nil ns)
  have HOKP : Hid (OkP ns root) := hok
  have hi1 : decide ((i : Int) < 0) = false := by simp
  have hi2 : decide ((ns.length : Int) ≤ (i : Int)) = false := by simp; omega
  clear hr hsm hok hw0
  go_enter Try.func7, Try.ntmps7
  go_wp2_with fail
  rw [← HW0.out]
  refine HOK.out.mono ?_
  rintro e w1 ⟨b, rfl, hq, hb1⟩
  obtain rfl : b = true := hq.2 HOKP.out
  have k1 := blk_keep kB hb1 (by omega)
  have HB1 : Hid (Below w.heap.size w w1) := hbB.trans (hb1.mono hbB.size)
  have hs1 := hb1.size
  have e0 := cell_blk (j := 0) k1 rfl
  have e1 := cell_blk (j := 1) k1 rfl
  clear hbB hb1 hq kB HW0 HOK
  go_wp2_with fail
  have hbb : Below w1.heap.size w1 ((w1.alloc (Obj.cells #[] 9)).alloc (Obj.cells #[] 9)) := ((Below.refl _ _).alloc (Nat.le_refl _) _).alloc (by simp) _
  have HB2 : Hid (Below w.heap.size w ((w1.alloc (Obj.cells #[] 9)).alloc (Obj.cells #[] 9))) := HB1.out.trans (hbb.mono HB1.out.size)
  have hw1 := HB1.out.size
  refine (HL5.out _ _ _ HB2.out (blk_at _ _ _ (by simp)) (by omega)).mono ?_
  rintro e w2 ⟨v, rfl, hown, hgr, _⟩
  have HO2 : Hid (OwnS w2 w.heap.size v (freeF ns ns.length (i : Int) [] [])) := hown
  have HB3 : Hid (Below w.heap.size w w2) := HB2.out.trans ⟨hgr.os, hgr.tape, hgr.output, hgr.size, fun k hk => hgr.block k (by simp; omega) (fun e => by have e' : k = w1.heap.size + 1 := Option.some.inj e; omega)⟩
  clear hown hgr hbb HB1 HB2 e0 e1 k1
  go_wp2
  go_ret
  exact ⟨v, rfl, HO2.out, HB3.out⟩
set_option maxRecDepth 100000 in
set_option maxHeartbeats 1000000 in
theorem specFree_no (a : Option Addr) (ns : List Nod) (cap : Nat) (root idx : Int) (w : World) (hn : ns.length ≤ 1048576) (hfl : (flat ns).length ≤ 1048576) (hr : RowN w w.heap.size a ns) (hsm : ∀ d ∈ ns, d.small) (hidx : i64B idx) (hno : ¬ (OkP ns root ∧ 0 ≤ idx ∧ idx < ns.length)) :
    Calls Try.prog 7 #[.agg #[.slice a ns.length cap, .int .i64 root], .int .i64 idx] w fun e w' => TellP [] w e w' := by
  obtain ⟨w0, hw0⟩ : ∃ w0, w0 = w.alloc (Obj.cells #[.slice a ns.length cap, .int .i64 root] 30) := ⟨_, rfl⟩
  have hbB : Below w.heap.size w w0 := by rw [hw0]; exact (Below.refl _ _).alloc (Nat.le_refl _) _
  have kB : w0.heap[w.heap.size]? = some (Obj.cells #[.slice a ns.length cap, .int .i64 root] 30) := by rw [hw0]; exact blk_alloc _ _
  have HOK : Hid (Calls Try.prog 20 #[.agg #[.slice a ns.length cap, .int .i64 root]] w0 fun e w' => OkPost ns root w0 e w') := specOk_any a ns cap root _ hn hfl ((hr.below hbB).mono hbB.size) hsm
  have HW0 : Hid (w0 = w.alloc (Obj.cells #[.slice a ns.length cap, .int .i64 root] 30)) := hw0
  have hs0 : w0.heap.size = w.heap.size + 1 := by rw [hw0]; simp
  clear hr hsm hw0
  go_enter Try.func7, Try.ntmps7
  go_wp2_with fail
  rw [← HW0.out]
  refine HOK.out.mono ?_
  rintro e w1 ⟨b, rfl, hq, hb1⟩
  have k1 := blk_keep kB hb1 (by omega)
  have HB1 : Hid (Below w.heap.size w w1) := hbB.trans (hb1.mono hbB.size)
  have e0 := cell_blk (j := 0) k1 rfl
  have HFIN : Hid (TellP [] w (.returned (.slice (some ⟨w1.heap.size, 0, none⟩) 0 0)) (w1.alloc (Obj.cells #[] 9))) := ⟨_, rfl, own_nil (blk_at _ _ _ rfl) HB1.out.size, HB1.out.alloc HB1.out.size _⟩
  clear hbB hb1 kB HW0 HOK k1
  cases b with
  | false =>
    clear hq hno
    go_wp2
    go_ret
    exact HFIN.out
  | true =>
    have hok := hq.1 rfl
    have hor : idx < 0 ∨ (ns.length : Int) ≤ idx := by
      by_cases h : idx < 0
      · exact .inl h
      · right
        apply Classical.byContradiction
        intro hc
        exact hno ⟨hok, by omega, by omega⟩
    clear hq hno hok
    by_cases h0 : idx < 0
    · have h0' : decide (idx < 0) = true := by simp [h0]
      clear hor h0
      go_wp2
      go_ret
      exact HFIN.out
    · have h0' : decide (idx < 0) = false := by simp; omega
      have h1' : decide ((ns.length : Int) ≤ idx) = true := by simp; omega
      clear hor h0
      go_wp2
      go_ret
      exact HFIN.out
end Go.Proofs.Ytjdlohjhfcmicaa
