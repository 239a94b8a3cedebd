/- The program's Dec makes the digits that the model's Dec makes. -/
import Derived.Test.YtkbpnjigoipgeaaDoorDeca
import Derived.Test.YtkbpnjigoipgeaaDoorShelf
import Derived.WalkSmall
import Derived.OpenShut
namespace Go.Proofs.YtkbpnjigoipgeaaDoor
open Go.ChangeShapes Go.WideShapes Go.ChangeAt Go.RowKit
theorem digs_decDigits : ∀ (f u : Nat), 0 < u → u < 10 ^ f → digs f u = Lib.decDigits u
  | 0, u, h, h2 => by simp at h2; omega
  | f + 1, u, h, h2 => by
    rw [digs_pos f u (by omega)]
    by_cases h10 : u < 10
    · rw [Lib.decDigits_one h10, show u / 10 = 0 by omega, digs_zero, show u % 10 = u by omega]; rfl
    · rw [Nat.pow_succ] at h2
      rw [digs_decDigits f (u / 10) (by omega) (by omega), Lib.decDigits.eq_def u, dif_neg h10]
theorem itoa_decL (x : Int) (h1 : -9223372036854775808 ≤ x) (h2 : x ≤ 9223372036854775807) : Lib.itoa x = decL x := by
  rcases Int.lt_trichotomy x 0 with h | rfl | h
  · rw [decL_neg x h]
    unfold Lib.itoa
    rw [if_pos h, digs_decDigits 20 _ (by omega) (by omega)]
    congr 2
    omega
  · unfold Lib.itoa
    rw [if_neg (by omega)]
    exact Lib.decDigits_one (by decide)
  · rw [decL_pos x h]
    unfold Lib.itoa
    rw [if_neg (by omega), digs_decDigits 20 _ (by omega) (by omega)]
theorem below_grow (w : World) (k : Nat) (os : Array Obj) : Below w.heap.size w (Go.Sort.grow (w.drewN k) os) := by
  refine (below_drewN (Below.refl _ w) k).trans ⟨rfl, rfl, rfl, ?_, ?_⟩
  · simp [Go.Sort.grow]
  · intro j hj
    exact Array.getElem?_append_left (xs := w.heap) (ys := os) hj
theorem implDec_any (x : Int) (w : World) (h1 : -9223372036854775808 ≤ x) (h2 : x ≤ 9223372036854775807) (htab : Lib.TabIs Tryd.prog w "internal/strconv.uint64pow10" .u64 Lib.pow10Tab) :
    Calls Tryd.prog 47 #[.int .i64 x] w fun e w' => e = .returned (.string ⟨(decL x).toArray⟩) ∧ Below w.heap.size w w' := by
  have HT : Hid _ := htab
  clear htab
  rw [← itoa_decL x h1 h2]
  generalize hl : (Lib.itoa x).toArray = l
  have HI : Hid (∀ w, Lib.TabIs Tryd.prog w "internal/strconv.uint64pow10" .u64 Lib.pow10Tab → Calls Tryd.prog 55 #[.int .i64 x] w fun e w' => e = .returned (.string ⟨l⟩) ∧ ∃ k os, w' = Go.Sort.grow (w.drewN k) os) := fun w ht => by rw [← hl]; exact Tryd.strconv_Itoa x h1 h2 w ht
  clear hl
  go_enter Tryd.func47, Tryd.ntmps47
  go_wp2_with fail
  refine (HI.out _ HT.out).mono ?_
  rintro e w' ⟨rfl, k, os, hw⟩
  have hb : Below w.heap.size w w' := by rw [hw]; exact below_grow w k os
  clear hw
  go_wp2
  go_ret
  exact ⟨rfl, hb⟩
theorem gPow : Tryd.prog.globalNamed "internal/strconv.uint64pow10" = some 0 := by kernel_rfl
end Go.Proofs.YtkbpnjigoipgeaaDoor
