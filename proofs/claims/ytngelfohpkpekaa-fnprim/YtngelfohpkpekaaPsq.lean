/- The model's primitives: all of them; which are plain. -/
import Derived.Test.YtngelfohpkpekaaPm0
import Derived.Test.YtngelfohpkpekaaPm1
import Derived.Test.YtngelfohpkpekaaPm2
import Derived.Test.YtngelfohpkpekaaPm3
import Derived.Test.YtngelfohpkpekaaPm4
import Derived.Test.YtngelfohpkpekaaPm5
import Derived.Test.YtngelfohpkpekaaPm6
import Derived.Test.YtngelfohpkpekaaPm7
import Derived.Test.YtngelfohpkpekaaPm9
set_option linter.unusedVariables false
namespace Go.Proofs.Ytngelfohpkpekaa
open Go.ChangeShapes Go.WideShapes Go.ChangeAt Go.RowKit
/-- A primitive, a right heap, as many right values as it takes. -/
def GoodP (p : Nat) (h : List Cel) (s : ByteArray) (a : List Val) : Prop := wdP[p]? = some s.toList ∧ HeapP h ∧ a.length = arP p ∧ ∀ v ∈ a, v.ok h = true
/-- What Prim tells. -/
def PrimR (h : List Cel) (s : ByteArray) (a : List Val) (r : List Cel × Val × Int) : Prop := (∃ p, GoodP p h s a ∧ r = primP p h a) ∨ ((¬ ∃ p, GoodP p h s a) ∧ r = (h, zv, 2))
theorem l7Prim_all (p B : Nat) (ah : Option Addr) (ch : Nat) (h : List Cel) (s : ByteArray) (aa : Option Addr) (ca : Nat) (a : List Val) (w : World) (hg : GoodP p h s a) (hB : B ≤ w.heap.size) (ho : OwnH w B w.heap.size (.slice ah h.length ch) h) (hr : RowV w w.heap.size aa a) :
    Calls Try.prog 28 #[.slice ah h.length ch, .string s, .slice aa a.length ca] w fun e w' => PpPost B (primP p h a) w e w' := by
  obtain ⟨hw, hH, hl, hok⟩ := hg
  have hp : p < 12 := (List.getElem?_eq_some_iff.1 hw).1
  by_cases h7 : p < 7
  · have hl2 : a.length = 2 := by rw [hl]; unfold arP; rw [if_pos h7]
    match a, hl2 with
    | [x, y], _ =>
      have hx := hok x (by simp)
      have hy := hok y (by simp)
      match p, hp, h7, hw with
      | 0, _, _, hw => exact l7Prim_0 B ah ch h s aa ca x y w (Option.some.inj hw).symm hB hH ho hx hy hr
      | 1, _, _, hw => exact l7Prim_1 B ah ch h s aa ca x y w (Option.some.inj hw).symm hB hH ho hx hy hr
      | 2, _, _, hw => exact l7Prim_2 B ah ch h s aa ca x y w (Option.some.inj hw).symm hB hH ho hx hy hr
      | 3, _, _, hw => exact l7Prim_3 B ah ch h s aa ca x y w (Option.some.inj hw).symm hB hH ho hx hy hr
      | 4, _, _, hw => exact l7Prim_4 B ah ch h s aa ca x y w (Option.some.inj hw).symm hB hH ho hx hy hr
      | 5, _, _, hw => exact l7Prim_5 B ah ch h s aa ca x y w (Option.some.inj hw).symm hB hH ho hx hy hr
      | 6, _, _, hw => exact l7Prim_6 B ah ch h s aa ca x y w (Option.some.inj hw).symm hB hH ho hx hy hr
  · have hl1 : a.length = 1 := by rw [hl]; unfold arP; rw [if_neg h7]
    match a, hl1 with
    | [x], _ =>
      have hx := hok x (by simp)
      match p, hp, h7, hw with
      | 7, _, _, hw => exact l7Prim_7 B ah ch h s aa ca x w (Option.some.inj hw).symm hB hH ho hx hr
      | 8, _, _, hw => exact l7Prim_8 B ah ch h s aa ca x w (Option.some.inj hw).symm hB hH ho hx hr
      | 9, _, _, hw => exact l7Prim_9 B ah ch h s aa ca x w (Option.some.inj hw).symm hB hH ho hx hr
      | 10, _, _, hw => exact l7Prim_10 B ah ch h s aa ca x w (Option.some.inj hw).symm hB hH ho hx hr
      | 11, _, _, hw => exact l7Prim_11 B ah ch h s aa ca x w (Option.some.inj hw).symm hB hH ho hx hr
/-- Which ones need no more than a heap. -/
def plL (l : List UInt8) : Bool := decide (0 < arL l) && !(l == [112, 114, 105, 110, 116]) && !(l == [101, 114, 114, 111, 114]) && !(l == [102, 105, 101, 108, 100]) && !(l == [105, 115])
theorem plL_of {p : Nat} {l : List UInt8} (h : wdP[p]? = some l) : plL l = true ∧ arL l = (arP p : Nat) := by
  have hp : p < 12 := (List.getElem?_eq_some_iff.1 h).1
  match p, hp, h with
  | 0, _, h => obtain rfl := Option.some.inj h; exact ⟨rfl, rfl⟩
  | 1, _, h => obtain rfl := Option.some.inj h; exact ⟨rfl, rfl⟩
  | 2, _, h => obtain rfl := Option.some.inj h; exact ⟨rfl, rfl⟩
  | 3, _, h => obtain rfl := Option.some.inj h; exact ⟨rfl, rfl⟩
  | 4, _, h => obtain rfl := Option.some.inj h; exact ⟨rfl, rfl⟩
  | 5, _, h => obtain rfl := Option.some.inj h; exact ⟨rfl, rfl⟩
  | 6, _, h => obtain rfl := Option.some.inj h; exact ⟨rfl, rfl⟩
  | 7, _, h => obtain rfl := Option.some.inj h; exact ⟨rfl, rfl⟩
  | 8, _, h => obtain rfl := Option.some.inj h; exact ⟨rfl, rfl⟩
  | 9, _, h => obtain rfl := Option.some.inj h; exact ⟨rfl, rfl⟩
  | 10, _, h => obtain rfl := Option.some.inj h; exact ⟨rfl, rfl⟩
  | 11, _, h => obtain rfl := Option.some.inj h; exact ⟨rfl, rfl⟩
theorem of_plL {l : List UInt8} (h : plL l = true) : ∃ p : Nat, wdP[p]? = some l := by
  unfold plL at h
  simp only [Bool.and_eq_true, decide_eq_true_eq, Bool.not_eq_true', beq_eq_false_iff_ne] at h
  obtain ⟨⟨⟨⟨h0, h1⟩, h2⟩, h3⟩, h4⟩ := h
  unfold arL at h0
  split at h0
  · rename_i hq
    simp only [Bool.or_eq_true, beq_iff_eq] at hq
    rcases hq with ((((((rfl | rfl) | rfl) | rfl) | rfl) | rfl) | rfl)
    · exact ⟨0, rfl⟩
    · exact ⟨1, rfl⟩
    · exact ⟨2, rfl⟩
    · exact ⟨3, rfl⟩
    · exact ⟨4, rfl⟩
    · exact ⟨5, rfl⟩
    · exact ⟨6, rfl⟩
  · split at h0
    · rename_i hq
      simp only [Bool.or_eq_true, beq_iff_eq] at hq
      rcases hq with ((((((((rfl | rfl) | rfl) | rfl) | rfl) | rfl) | rfl) | rfl) | rfl)
      · exact ⟨7, rfl⟩
      · exact ⟨8, rfl⟩
      · exact ⟨9, rfl⟩
      · exact ⟨10, rfl⟩
      · exact ⟨11, rfl⟩
      · exact absurd rfl h1
      · exact absurd rfl h2
      · exact absurd rfl h3
      · exact absurd rfl h4
    · split at h0 <;> omega
set_option maxRecDepth 100000 in
set_option maxHeartbeats 1000000 in
theorem l7Plain_any (s : ByteArray) (w : World) : Calls Try.prog 27 #[.string s] w fun e w' => Ans w (.bool (plL s.toList)) e w' := by
  have HA : Hid (∀ w, Calls Try.prog 15 #[.string s] w fun e w' => e = .returned (.int .i64 (arL s.toList)) ∧ w' = w) := fun w => specAr_any s w
  have HQ : Hid (plL s.toList = (decide (0 < arL s.toList) && !(s.toList == [112, 114, 105, 110, 116]) && !(s.toList == [101, 114, 114, 111, 114]) && !(s.toList == [102, 105, 101, 108, 100]) && !(s.toList == [105, 115]))) := rfl
  rw [HQ.out]
  generalize arL s.toList = n at *
  clear HQ
  cases h0 : decide (0 < n) with
  | false =>
    simp only [Bool.false_and]
    go_enter Try.func27, Try.ntmps27
    go_wp2_with (go_at_call 15; refine (HA.out _).mono ?_; rintro e w2 ⟨rfl, rfl⟩)
    all_goals go_ret
    all_goals exact ⟨rfl, Below.refl _ _⟩
  | true =>
    cases h1 : (s.toList == [112, 114, 105, 110, 116]) <;> cases h2 : (s.toList == [101, 114, 114, 111, 114]) <;> cases h3 : (s.toList == [102, 105, 101, 108, 100]) <;> cases h4 : (s.toList == [105, 115])
    all_goals
      go_enter Try.func27, Try.ntmps27
      go_wp2_with (go_at_call 15; refine (HA.out _).mono ?_; rintro e w2 ⟨rfl, rfl⟩)
      all_goals go_ret
      all_goals exact ⟨rfl, Below.refl _ _⟩
end Go.Proofs.Ytngelfohpkpekaa
