/- Which texts are names: the model's and the program's way, and the law. -/
import Derived.Test.YtfjjnngaeccdjaaNac
namespace Go.Proofs.Ytfjjnngaeccdjaa
open Go.ChangeShapes Go.WideShapes Go.ChangeAt Go.RowKit
/-- The words. -/
def wordsL : List ByteArray := [⟨#[113, 117, 111, 116, 101]⟩, ⟨#[105, 102]⟩, ⟨#[108, 97, 109, 98, 100, 97]⟩, ⟨#[98, 101, 103, 105, 110]⟩, ⟨#[115, 101, 116, 33]⟩, ⟨#[108, 101, 116]⟩, ⟨#[108, 101, 116, 42]⟩, ⟨#[99, 111, 110, 100]⟩, ⟨#[101, 108, 115, 101]⟩, ⟨#[97, 110, 100]⟩, ⟨#[111, 114]⟩, ⟨#[119, 104, 101, 110]⟩, ⟨#[100, 101, 102, 105, 110, 101]⟩]
theorem toList_mk (l : List UInt8) : (⟨l.toArray⟩ : ByteArray).toList = l := by rw [ByteArray.toList_eq]
theorem has_words (s : ByteArray) : hasS wordsL s = woL s.toList := by
  have key : (fun l : List UInt8 => ((⟨l.toArray⟩ : ByteArray).toList == s.toList)) = fun l => s.toList == l := by
    funext l
    rw [toList_mk]
    exact BEq.comm
  have e : wordsL = [[113, 117, 111, 116, 101], [105, 102], [108, 97, 109, 98, 100, 97], [98, 101, 103, 105, 110], [115, 101, 116, 33], [108, 101, 116], [108, 101, 116, 42], [99, 111, 110, 100], [101, 108, 115, 101], [97, 110, 100], [111, 114], [119, 104, 101, 110], [100, 101, 102, 105, 110, 101]].map (fun l : List UInt8 => (⟨l.toArray⟩ : ByteArray)) := rfl
  unfold hasS
  rw [e, List.any_map]
  show List.any _ (fun l : List UInt8 => ((⟨l.toArray⟩ : ByteArray).toList == s.toList)) = _
  rw [key]
  simp only [woL, List.any_cons, List.any_nil, Bool.or_false, Bool.or_assoc]
set_option maxRecDepth 100000 in
set_option maxHeartbeats 1000000 in
theorem l3Word_any (s : ByteArray) (w : World) :
    Calls Try.prog 23 #[.string s] w fun e w' => Ans w (.bool (woL s.toList)) e w' := by
  have HQ : Hid (hasS wordsL s = woL s.toList) := has_words s
  go_enter Try.func23, Try.ntmps23
  go_wp2_with fail
  have hr : RowS (w.alloc (Obj.cells #[Value.string ⟨#[113, 117, 111, 116, 101]⟩, Value.string ⟨#[105, 102]⟩, Value.string ⟨#[108, 97, 109, 98, 100, 97]⟩, Value.string ⟨#[98, 101, 103, 105, 110]⟩, Value.string ⟨#[115, 101, 116, 33]⟩, Value.string ⟨#[108, 101, 116]⟩, Value.string ⟨#[108, 101, 116, 42]⟩, Value.string ⟨#[99, 111, 110, 100]⟩, Value.string ⟨#[101, 108, 115, 101]⟩, Value.string ⟨#[97, 110, 100]⟩, Value.string ⟨#[111, 114]⟩, Value.string ⟨#[119, 104, 101, 110]⟩, Value.string ⟨#[100, 101, 102, 105, 110, 101]⟩] 9)) (w.alloc (Obj.cells #[Value.string ⟨#[113, 117, 111, 116, 101]⟩, Value.string ⟨#[105, 102]⟩, Value.string ⟨#[108, 97, 109, 98, 100, 97]⟩, Value.string ⟨#[98, 101, 103, 105, 110]⟩, Value.string ⟨#[115, 101, 116, 33]⟩, Value.string ⟨#[108, 101, 116]⟩, Value.string ⟨#[108, 101, 116, 42]⟩, Value.string ⟨#[99, 111, 110, 100]⟩, Value.string ⟨#[101, 108, 115, 101]⟩, Value.string ⟨#[97, 110, 100]⟩, Value.string ⟨#[111, 114]⟩, Value.string ⟨#[119, 104, 101, 110]⟩, Value.string ⟨#[100, 101, 102, 105, 110, 101]⟩] 9)).heap.size (some ⟨w.heap.size, 0, none⟩) wordsL := by
    intro i x hx
    refine ⟨w.heap.size, 0, rfl, by simp, ?_⟩
    rw [Nat.zero_add]
    refine cell_blk (blk_alloc _ _) ?_
    have hl : i < 13 := (List.getElem?_eq_some_iff.1 hx).1
    match i, hl, hx with
    | 0, _, hx => exact congrArg (Option.map Value.string) hx
    | 1, _, hx => exact congrArg (Option.map Value.string) hx
    | 2, _, hx => exact congrArg (Option.map Value.string) hx
    | 3, _, hx => exact congrArg (Option.map Value.string) hx
    | 4, _, hx => exact congrArg (Option.map Value.string) hx
    | 5, _, hx => exact congrArg (Option.map Value.string) hx
    | 6, _, hx => exact congrArg (Option.map Value.string) hx
    | 7, _, hx => exact congrArg (Option.map Value.string) hx
    | 8, _, hx => exact congrArg (Option.map Value.string) hx
    | 9, _, hx => exact congrArg (Option.map Value.string) hx
    | 10, _, hx => exact congrArg (Option.map Value.string) hx
    | 11, _, hx => exact congrArg (Option.map Value.string) hx
    | 12, _, hx => exact congrArg (Option.map Value.string) hx
  refine (l3In_any (some ⟨w.heap.size, 0, none⟩) wordsL 13 s _ (by decide) hr).mono ?_
  rintro e w1 ⟨rfl, hb1⟩
  have hb0 : Below w.heap.size w (w.alloc (Obj.cells #[Value.string ⟨#[113, 117, 111, 116, 101]⟩, Value.string ⟨#[105, 102]⟩, Value.string ⟨#[108, 97, 109, 98, 100, 97]⟩, Value.string ⟨#[98, 101, 103, 105, 110]⟩, Value.string ⟨#[115, 101, 116, 33]⟩, Value.string ⟨#[108, 101, 116]⟩, Value.string ⟨#[108, 101, 116, 42]⟩, Value.string ⟨#[99, 111, 110, 100]⟩, Value.string ⟨#[101, 108, 115, 101]⟩, Value.string ⟨#[97, 110, 100]⟩, Value.string ⟨#[111, 114]⟩, Value.string ⟨#[119, 104, 101, 110]⟩, Value.string ⟨#[100, 101, 102, 105, 110, 101]⟩] 9)) := (Below.refl _ _).alloc (Nat.le_refl _) _
  have hb2 : Below w.heap.size w w1 := hb0.trans (hb1.mono hb0.size)
  rw [HQ.out]
  clear hr hb0 hb1
  go_wp2
  go_ret
  exact ⟨rfl, hb2⟩
set_option maxRecDepth 100000 in
set_option maxHeartbeats 1000000 in
theorem specNa_any (s : ByteArray) (w : World) (hs : s.size ≤ 1048576) :
    Calls Try.prog 11 #[.string s] w fun e w' => Ans w (.bool (naL s.toList)) e w' := by
  have HE : Hid (s.data.toList = s.toList) := by show _ = _; rw [ByteArray.toList_eq]
  have HY : Hid (∀ w, Calls Try.prog 22 #[.string s] w fun e w' => Ans w (.bool (syL s.toList)) e w') := fun w => by rw [← HE.out]; exact l2Sym_any s w hs
  have HW : Hid (∀ w, Calls Try.prog 23 #[.string s] w fun e w' => Ans w (.bool (woL s.toList)) e w') := fun w => l3Word_any s w
  have HA : Hid (∀ w, Calls Try.prog 13 #[.string s] w fun e w' => e = .returned (.int .i64 (arL s.toList)) ∧ w' = w) := fun w => specAr_any s w
  have HN : Hid (naL s.toList = (s.toList == [37, 116] || (syL s.toList && !woL s.toList && decide (arL s.toList < 0)))) := rfl
  generalize naL s.toList = na at *
  generalize syL s.toList = sy at *
  generalize woL s.toList = wo at *
  generalize arL s.toList = ar at *
  by_cases ht : (s.toList == [37, 116]) = true
  · obtain rfl : na = true := by rw [HN.out, ht]; rfl
    clear HN
    go_enter Try.func11, Try.ntmps11
    go_wp2_with fail
    go_ret
    exact ⟨by simp, Below.refl _ _⟩
  · have ht : (s.toList == [37, 116]) = false := by simpa using ht
    rw [ht] at HN
    cases sy
    · obtain rfl : na = false := by rw [HN.out]; rfl
      clear HN
      go_enter Try.func11, Try.ntmps11
      go_wp2_with (go_at_call 22; refine (HY.out _).mono ?_; rintro e w1 ⟨rfl, hb1⟩)
      go_ret
      exact ⟨by simp, hb1⟩
    · cases wo
      · obtain rfl : na = decide (ar < 0) := by rw [HN.out]; rfl
        clear HN
        go_enter Try.func11, Try.ntmps11
        go_wp2_with (first | (go_at_call 22; refine (HY.out _).mono ?_; rintro e w1 ⟨rfl, hb1⟩) | (go_at_call 23; refine (HW.out _).mono ?_; rintro e w2 ⟨rfl, hb2⟩) | (go_at_call 13; refine (HA.out _).mono ?_; rintro e w3 ⟨rfl, rfl⟩))
        go_ret
        exact ⟨by simp, hb1.trans (hb2.mono hb1.size)⟩
      · obtain rfl : na = false := by rw [HN.out]; rfl
        clear HN
        go_enter Try.func11, Try.ntmps11
        go_wp2_with (first | (go_at_call 22; refine (HY.out _).mono ?_; rintro e w1 ⟨rfl, hb1⟩) | (go_at_call 23; refine (HW.out _).mono ?_; rintro e w2 ⟨rfl, hb2⟩))
        go_ret
        exact ⟨by simp, hb1.trans (hb2.mono hb1.size)⟩
set_option maxRecDepth 100000 in
set_option maxHeartbeats 1000000 in
theorem implNa_any (s : ByteArray) (w : World) (hs : s.size ≤ 1048576) :
    Calls Try.prog 12 #[.string s] w fun e w' => Ans w (.bool (naL s.toList)) e w' := by
  have HE : Hid (s.data.toList = s.toList) := by show _ = _; rw [ByteArray.toList_eq]
  have HY : Hid (∀ w, Calls Try.prog 24 #[.string s] w fun e w' => Ans w (.bool (syL s.toList)) e w') := fun w => by rw [← HE.out]; exact isSymbol_any s w hs
  have HW : Hid (∀ w, Calls Try.prog 25 #[.string s] w fun e w' => e = .returned (.bool (woL s.toList)) ∧ w' = w) := fun w => implWo_any s w
  have HA : Hid (∀ w, Calls Try.prog 14 #[.string s] w fun e w' => e = .returned (.int .i64 (arL s.toList)) ∧ w' = w) := fun w => implAr_any s w
  have HN : Hid (naL s.toList = (s.toList == [37, 116] || (syL s.toList && !woL s.toList && decide (arL s.toList < 0)))) := rfl
  generalize naL s.toList = na at *
  generalize syL s.toList = sy at *
  generalize woL s.toList = wo at *
  generalize arL s.toList = ar at *
  by_cases ht : (s.toList == [37, 116]) = true
  · obtain rfl : na = true := by rw [HN.out, ht]; rfl
    clear HN
    go_enter Try.func12, Try.ntmps12
    go_wp2_with fail
    go_ret
    exact ⟨by simp, Below.refl _ _⟩
  · have ht : (s.toList == [37, 116]) = false := by simpa using ht
    rw [ht] at HN
    cases sy
    · obtain rfl : na = false := by rw [HN.out]; rfl
      clear HN
      go_enter Try.func12, Try.ntmps12
      go_wp2_with (go_at_call 24; refine (HY.out _).mono ?_; rintro e w1 ⟨rfl, hb1⟩)
      go_ret
      exact ⟨by simp, hb1⟩
    · cases wo
      · obtain rfl : na = decide (ar < 0) := by rw [HN.out]; rfl
        clear HN
        go_enter Try.func12, Try.ntmps12
        go_wp2_with (first | (go_at_call 24; refine (HY.out _).mono ?_; rintro e w1 ⟨rfl, hb1⟩) | (go_at_call 25; refine (HW.out _).mono ?_; rintro e w2 ⟨rfl, rfl⟩) | (go_at_call 14; refine (HA.out _).mono ?_; rintro e w3 ⟨rfl, rfl⟩))
        go_ret
        exact ⟨by simp, hb1⟩
      · obtain rfl : na = false := by rw [HN.out]; rfl
        clear HN
        go_enter Try.func12, Try.ntmps12
        go_wp2_with (first | (go_at_call 24; refine (HY.out _).mono ?_; rintro e w1 ⟨rfl, hb1⟩) | (go_at_call 25; refine (HW.out _).mono ?_; rintro e w2 ⟨rfl, rfl⟩))
        go_ret
        exact ⟨by simp, hb1⟩
namespace fnExactIsName
theorem walk (a0 : ByteArray) (w0 : a0.size ≤ maxLen) (w : World) :
    Calls Try.prog 4 #[.string a0] w fun e w' => e = .returned (.bool true) ∧ Below w.heap.size w w' := by
  unfold maxLen at w0
  by_cases hl : a0.size ≤ 1048576
  · go_enter Try.func4, Try.ntmps4
    go_wp2_with fail
    refine (specNa_any a0 _ hl).mono ?_
    rintro e w1 ⟨rfl, hb1⟩
    go_wp2_with fail
    refine (implNa_any a0 _ hl).mono ?_
    rintro e w2 ⟨rfl, hb2⟩
    generalize naL a0.toList = x
    go_wp2
    go_ret
    exact ⟨rfl, hb1.trans (hb2.mono hb1.size)⟩
  · go_enter Try.func4, Try.ntmps4
    go_wp2
    go_ret
    exact ⟨rfl, Below.refl _ _⟩
end fnExactIsName
end Go.Proofs.Ytfjjnngaeccdjaa
