/- Is a heap right? The program's way, whole. -/
import Derived.Test.YtkbpnjigoipgeaaDoorHov
set_option linter.unusedVariables false
namespace Go.Proofs.YtkbpnjigoipgeaaDoor
open Go.ChangeShapes Go.WideShapes Go.ChangeAt Go.RowKit
set_option maxRecDepth 100000 in
set_option maxHeartbeats 1000000 in
theorem implHeap_any (a : Option Addr) (h : List Cel) (ca : Nat) (w : World) (hl : h.length ≤ 1048576) (hca : h.length ≤ ca) (hsm : ∀ d ∈ h, d.small) (hr : RowC w w.heap.size a h) :
    Calls Tryd.prog 19 #[.slice a h.length ca] w fun e w' => HpPost h w e w' := by
  by_cases h0 : 300 < h.length
  · have g0 : decide ((300 : Int) < (h.length : Int)) = true := by simp; omega
    have HQ : Hid (¬ HeapP h) := fun hq => by have := hq.1; omega
    clear hr hsm
    go_enter Tryd.func19, Tryd.ntmps19
    go_wp2
    go_ret
    exact HpPost.no HQ.out (Below.refl _ _)
  · have g0 : decide ((300 : Int) < (h.length : Int)) = false := by simp; omega
    have HC : Hid (∀ (i : Nat) (c : Cel) (w1 : World), h[i]? = some c → Below w.heap.size w w1 → Calls Tryd.prog 33 #[.slice a h.length ca, .int .i64 i] w1 fun e w' => Ans w1 (.bool (c.ok h i)) e w') := fun i c w1 hi hb => implCel_any a h ca i c w1 hl hca hi hsm ((hr.below hb).mono hb.size)
    have HP : Hid ((∀ (i : Nat) (c : Cel), h[i]? = some c → c.ok h i = true) → HeapP h) := fun hq => ⟨by omega, hq⟩
    clear hr hsm
    go_enter Tryd.func19, Tryd.ntmps19
    go_wp2
    go_loopw [9] (fun o wr => ∃ i : Nat, i ≤ h.length ∧ o = .int .i64 i ∧ (∀ (j : Nat) (c : Cel), j < i → h[j]? = some c → c.ok h j = true) ∧ Below w.heap.size w wr)
      (fun o _ => h.length - (intOf o).toNat)
    case atStart => exact ⟨0, by omega, rfl, fun j c hj => absurd hj (by omega), Below.refl _ _⟩
    case round =>
      obtain ⟨i, hi, rfl, hall, hb⟩ := hrel
      by_cases hlt : i < h.length
      · obtain ⟨c, hc⟩ : ∃ c, h[i]? = some c := ⟨_, List.getElem?_eq_getElem hlt⟩
        have HC2 := HC.out i c wr hc hb
        have HC3 : Hid (Calls Tryd.prog 33 #[.slice a h.length ca, .int .i64 i] wr fun e w' => Ans wr (.bool (c.ok h i)) e w') := HC2
        clear HC2
        cases hok : c.ok h i
        · rw [hok] at HC3
          have HQ : Hid (¬ HeapP h) := fun hq => by have := hq.2 i c hc; rw [hok] at this; cases this
          clear hall hok hc HC HP
          go_wp2_with (go_at_call 33; refine HC3.out.mono ?_; rintro e w2 ⟨rfl, hb2⟩)
          go_ret
          exact HpPost.no HQ.out (hb.trans (hb2.mono hb.size))
        · rw [hok] at HC3
          have HQ : Hid (∀ (j : Nat) (c : Cel), j < i + 1 → h[j]? = some c → c.ok h j = true) := fun j c' hj hc' => by
            by_cases hji : j = i
            · subst hji
              obtain rfl : c = c' := Option.some.inj (hc.symm.trans hc')
              exact hok
            · exact hall j c' (by omega) hc'
          clear hall hok hc HC HP
          go_wp2_with (go_at_call 33; refine HC3.out.mono ?_; rintro e w2 ⟨rfl, hb2⟩)
          go_roundw
          case rel => exact ⟨i + 1, by omega, by go_num, HQ.out, hb.trans (hb2.mono hb.size)⟩
          case measure => simp [intOf]; omega
      · obtain rfl : i = h.length := by omega
        have HQ : Hid (HeapP h) := HP.out fun j c hc => hall j c (List.getElem?_eq_some_iff.1 hc).1 hc
        have hlt' : decide ((h.length : Int) < (h.length : Int)) = false := by simp
        clear hall HC HP
        go_wp2
        go_ret
        exact HpPost.yes HQ.out hb
end Go.Proofs.YtkbpnjigoipgeaaDoor
