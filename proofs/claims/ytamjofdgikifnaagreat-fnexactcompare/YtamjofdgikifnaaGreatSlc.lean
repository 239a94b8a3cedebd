/- The model: a name that is there twice; too many; alike names. -/
import Derived.Test.YtamjofdgikifnaaGreatSla
import Derived.Deep.RegionWith
set_option linter.unusedVariables false
namespace Go.Proofs.YtamjofdgikifnaaGreat
open Go.ChangeShapes Go.WideShapes Go.ChangeAt Go.RowKit
set_option maxRecDepth 100000 in
set_option maxHeartbeats 1000000 in
theorem l11Twice_any (a : Option Addr) (ts : List ByteArray) (cap : Nat) (w : World) (hn : ts.length ≤ 1048576) (hcap : ts.length ≤ cap) (hr : RowS w w.heap.size a ts) :
    Calls Tryz.prog 83 #[.slice a ts.length cap] w fun e w' => Ans w (.bool (twA ts)) e w' := by
  have HR : Hid (RowS w w.heap.size a ts) := hr
  clear hr
  go_enter Tryz.func83, Tryz.ntmps83
  go_wp2
  go_loopw [3] (fun o wr => ∃ (i : Nat), i ≤ ts.length ∧ o = .int .i64 i ∧ twB ts i = false ∧ Below w.heap.size w wr)
    (fun o _ => ts.length - (intOf o).toNat)
  case atStart => exact ⟨0, by omega, rfl, rfl, Below.refl _ _⟩
  case round =>
    obtain ⟨i, hi, rfl, hno, hb⟩ := hrel
    by_cases hlt : i < ts.length
    · obtain ⟨d, hd⟩ : ∃ d, ts[i]? = some d := ⟨_, List.getElem?_eq_getElem hlt⟩
      have hrow := (HR.out.below hb)
      obtain ⟨b1, o1, rfl, hbb, c0⟩ := hrow i d hd
      have hsz0 := hb.size
      have HI : Hid (∀ n, Calls Tryz.prog 27 #[.slice (some ⟨b1, o1, none⟩) i cap, .string d] (wr.drewN n) fun e w' => Ans (wr.drewN n) (.bool (hasS (ts.take i) d)) e w') := fun n => by
        have := l3In_any (some ⟨b1, o1, none⟩) (ts.take i) cap d (wr.drewN n) (by rw [List.length_take]; omega) ((hrow.take i).mono hsz0)
        rwa [List.length_take, Nat.min_eq_left (by omega)] at this
      clear hrow
      have hq : (i : Int) ≤ (cap : Int) := by omega
      have g1 : decide ((i : Int) < (ts.length : Int)) = true := by simp; omega
      cases hna : hasS (ts.take i) d
      · have HQ : Hid (twB ts (i + 1) = false) := by show _ = _; rw [twB_step hd, hno, hna]; rfl
        rw [hna] at HI
        clear hno hna hd
        go_wp2_with fail
        go_region_with (go_at_call 27; refine (HI.out 1).mono ?_; rintro e w2 ⟨rfl, hb2⟩)
        all_goals
          have hb2 : Below wr.heap.size wr w2 := ⟨hb2.os, hb2.tape, hb2.output, hb2.size, hb2.block⟩
          go_wp2
          go_roundw
          case rel => exact ⟨i + 1, by omega, by go_num, HQ.out, hb.trans (hb2.mono hsz0)⟩
          case measure => simp [intOf]; omega
      · have HQ : Hid (twA ts = true) := twA_true hd hna
        rw [hna] at HI
        clear hno hna hd
        go_wp2_with fail
        go_region_with (go_at_call 27; refine (HI.out 1).mono ?_; rintro e w2 ⟨rfl, hb2⟩)
        all_goals
          have hb2 : Below wr.heap.size wr w2 := ⟨hb2.os, hb2.tape, hb2.output, hb2.size, hb2.block⟩
          go_wp2
          go_ret
          exact ⟨by rw [HQ.out]; rfl, hb.trans (hb2.mono hsz0)⟩
    · have hlt' : decide ((i : Int) < (ts.length : Int)) = false := by simp; omega
      obtain rfl : i = ts.length := by omega
      have HQ : Hid (twA ts = false) := hno
      clear hno
      go_wp2
      go_ret
      exact ⟨by rw [HQ.out]; rfl, hb⟩
end Go.Proofs.YtamjofdgikifnaaGreat
