/- The program's way with names, texts and counts of a node. -/
import Derived.Test.YtfjjnngaeccdjaaNms
namespace Go.Proofs.Ytfjjnngaeccdjaa
open Go.ChangeShapes Go.WideShapes Go.ChangeAt Go.RowKit
/-- What slices.Index tells: a number that is not below zero just where the text is there. -/
def IxPost (ts : List ByteArray) (s : ByteArray) (w : World) (e : Ending) (w' : World) : Prop := ∃ x : Int, e = .returned (.int .i64 x) ∧ decide (0 ≤ x) = hasS ts s ∧ Below w.heap.size w w'
set_option maxRecDepth 100000 in
theorem indexS_any (a : Option Addr) (ts : List ByteArray) (cap : Nat) (s : ByteArray) (w : World) (hn : ts.length ≤ 1048576) (hr : RowS w w.heap.size a ts) :
    Calls Try.prog 56 #[.slice a ts.length cap, .string s] w fun e w' => IxPost ts s w e w' := by
  have HR : Hid (RowS w w.heap.size a ts) := hr
  clear hr
  go_enter Try.func56, Try.ntmps56
  go_wp2
  go_loopw [8] (fun o wr => ∃ (i : Nat), i ≤ ts.length ∧ o = .int .i64 i ∧ hasS (ts.take i) s = false ∧ Below w.heap.size w wr)
    (fun o _ => ts.length - (intOf o).toNat)
  case atStart => exact ⟨0, by omega, rfl, by simp [hasS], Below.refl _ _⟩
  case round =>
    obtain ⟨i, hi, rfl, hno, hb⟩ := hrel
    by_cases hlt : i < ts.length
    · obtain ⟨d, hd⟩ : ∃ d, ts[i]? = some d := ⟨_, List.getElem?_eq_getElem hlt⟩
      obtain ⟨b1, o1, rfl, hbb, c0⟩ := (HR.out.below hb) i d hd
      by_cases he : (d.toList == s.toList) = true
      · have HQ : Hid (hasS ts s = true) := hasS_of hd he
        have he' : (s.toList == d.toList) = true := by rw [BEq.comm]; exact he
        clear hno he
        go_wp2
        go_ret
        exact ⟨i, rfl, by rw [HQ.out]; simp, hb⟩
      · have he : (d.toList == s.toList) = false := by simpa using he
        have he' : (s.toList == d.toList) = false := by rw [BEq.comm]; exact he
        have HQ : Hid (hasS (ts.take (i + 1)) s = false) := by show _ = _; rw [hasS_take hd, hno, he]; rfl
        clear hno he
        go_wp2
        go_roundw
        case rel => exact ⟨i + 1, by omega, by go_num, HQ.out, hb⟩
        case measure => simp [intOf]; omega
    · have hlt' : decide ((i : Int) < (ts.length : Int)) = false := by simp; omega
      obtain rfl : i = ts.length := by omega
      rw [List.take_length] at hno
      have HQ : Hid (hasS ts s = false) := hno
      clear hno
      go_wp2
      go_ret
      exact ⟨-1, rfl, by rw [HQ.out]; rfl, hb⟩
set_option maxRecDepth 100000 in
theorem containsS_any (a : Option Addr) (ts : List ByteArray) (cap : Nat) (s : ByteArray) (w : World) (hn : ts.length ≤ 1048576) (hr : RowS w w.heap.size a ts) :
    Calls Try.prog 54 #[.slice a ts.length cap, .string s] w fun e w' => Ans w (.bool (hasS ts s)) e w' := by
  have HI : Hid (Calls Try.prog 56 #[.slice a ts.length cap, .string s] w fun e w' => IxPost ts s w e w') := indexS_any a ts cap s w hn hr
  clear hr
  go_enter Try.func54, Try.ntmps54
  go_wp2_with fail
  refine HI.out.mono ?_
  rintro e w1 ⟨x, rfl, hx, hb⟩
  have HX : Hid (decide (0 ≤ x) = hasS ts s) := hx
  clear hx HI
  go_wp2
  go_ret
  exact ⟨by rw [← HX.out]; simp, hb⟩
set_option maxRecDepth 100000 in
set_option maxHeartbeats 1000000 in
theorem namesOk_any (a : Option Addr) (ts : List ByteArray) (cap : Nat) (w : World) (hn : ts.length ≤ 1048576) (hcap : ts.length ≤ cap) (hr : RowS w w.heap.size a ts) (hsz : ∀ x ∈ ts, x.size ≤ 1048576) :
    Calls Try.prog 47 #[.slice a ts.length cap] w fun e w' => Ans w (.bool (nmA ts)) e w' := by
  have HR : Hid (RowS w w.heap.size a ts) := hr
  have HS : Hid (∀ x ∈ ts, x.size ≤ 1048576) := hsz
  clear hr hsz
  go_enter Try.func47, Try.ntmps47
  go_wp2
  go_loopw [7] (fun o wr => ∃ (i : Nat), i ≤ ts.length ∧ o = .int .i64 i ∧ nmB ts i = true ∧ Below w.heap.size w wr)
    (fun o _ => ts.length - (intOf o).toNat)
  case atStart => exact ⟨0, by omega, rfl, rfl, Below.refl _ _⟩
  case round =>
    obtain ⟨i, hi, rfl, hno, hb⟩ := hrel
    by_cases hlt : i < ts.length
    · obtain ⟨d, hd⟩ : ∃ d, ts[i]? = some d := ⟨_, List.getElem?_eq_getElem hlt⟩
      have hrow := (HR.out.below hb)
      obtain ⟨b1, o1, rfl, hbb, c0⟩ := hrow i d hd
      have hsz0 := hb.size
      have HRT : Hid (∀ w2, Below wr.heap.size wr w2 → RowS w2 w2.heap.size (some ⟨b1, o1, none⟩) (ts.take i)) := fun w2 h2 => ((hrow.take i).keep (fun b hb' => h2.block b (by omega))).mono (by have := h2.size; omega)
      have HN : Hid (∀ w, Calls Try.prog 12 #[.string d] w fun e w' => Ans w (.bool (naL d.toList)) e w') := fun w => implNa_any d w (HS.out d (List.mem_of_getElem? hd))
      have HI : Hid (∀ w2, Below wr.heap.size wr w2 → Calls Try.prog 54 #[.slice (some ⟨b1, o1, none⟩) i cap, .string d] w2 fun e w' => Ans w2 (.bool (hasS (ts.take i) d)) e w') := fun w2 h2 => by
        have := containsS_any (some ⟨b1, o1, none⟩) (ts.take i) cap d w2 (by rw [List.length_take]; omega) (HRT.out w2 h2)
        rwa [List.length_take, Nat.min_eq_left (by omega)] at this
      clear hrow HRT
      cases hna : naL d.toList
      · have HQ : Hid (nmA ts = false) := nmA_false hd (.inl hna)
        rw [hna] at HN
        clear hno hna HI
        go_wp2_with (go_at_call 12; refine (HN.out _).mono ?_; rintro e w2 ⟨rfl, hb2⟩)
        go_ret
        exact ⟨by rw [HQ.out]; rfl, hb.trans (hb2.mono hsz0)⟩
      · rw [hna] at HN
        cases hha : hasS (ts.take i) d
        · have HQ : Hid (nmB ts (i + 1) = true) := by show _ = _; rw [nmB_step hd, hno, hna, hha]; rfl
          rw [hha] at HI
          clear hno hna hha
          go_wp2_with (first | (go_at_call 12; refine (HN.out _).mono ?_; rintro e w2 ⟨rfl, hb2⟩) | (go_at_call 54; refine (HI.out _ hb2).mono ?_; rintro e w3 ⟨rfl, hb3⟩))
          go_roundw
          case rel => exact ⟨i + 1, by omega, by go_num, HQ.out, (hb.trans (hb2.mono hsz0)).trans (hb3.mono (by have := hb2.size; omega))⟩
          case measure => simp [intOf]; omega
        · have HQ : Hid (nmA ts = false) := nmA_false hd (.inr hha)
          rw [hha] at HI
          clear hno hna hha
          go_wp2_with (first | (go_at_call 12; refine (HN.out _).mono ?_; rintro e w2 ⟨rfl, hb2⟩) | (go_at_call 54; refine (HI.out _ hb2).mono ?_; rintro e w3 ⟨rfl, hb3⟩))
          go_ret
          exact ⟨by rw [HQ.out]; rfl, (hb.trans (hb2.mono hsz0)).trans (hb3.mono (by have := hb2.size; omega))⟩
    · have hlt' : decide ((i : Int) < (ts.length : Int)) = false := by simp; omega
      obtain rfl : i = ts.length := by omega
      have HQ : Hid (nmA ts = true) := hno
      clear hno
      go_wp2
      go_ret
      exact ⟨by rw [HQ.out]; rfl, hb⟩
set_option maxRecDepth 100000 in
theorem textOk_any (s : ByteArray) (t : Int) (w : World) (hs : s.size ≤ 1048576) (ht : t = 0 ∨ t = 1 ∨ t = 2 ∨ t = 3) :
    Calls Try.prog 46 #[.string s, .int .i64 t] w fun e w' => Ans w (.bool (txB s t)) e w' := by
  have HE : Hid (s.data.toList = s.toList) := by show _ = _; rw [ByteArray.toList_eq]
  have HY : Hid (∀ w, Calls Try.prog 24 #[.string s] w fun e w' => Ans w (.bool (syL s.toList)) e w') := fun w => by rw [← HE.out]; exact isSymbol_any s w hs
  have HN : Hid (∀ w, Calls Try.prog 12 #[.string s] w fun e w' => Ans w (.bool (naL s.toList)) e w') := fun w => implNa_any s w hs
  have HS : Hid (∀ w, Calls Try.prog 26 #[.string s] w fun e w' => e = .returned (.int .i64 (soL s.toList)) ∧ w' = w) := fun w => implSo_any s w
  rcases ht with rfl | rfl | rfl | rfl
  · have HT : Hid (txB s 0 = s.toList.isEmpty) := rfl
    rw [HT.out]
    go_enter Try.func46, Try.ntmps46
    go_wp2
    go_ret
    exact ⟨by simp, Below.refl _ _⟩
  · have HT : Hid (txB s 1 = syL s.toList) := rfl
    rw [HT.out]
    generalize syL s.toList = q at *
    go_enter Try.func46, Try.ntmps46
    go_wp2_with (go_at_call 24; refine (HY.out _).mono ?_; rintro e w1 ⟨rfl, hb1⟩)
    go_ret
    exact ⟨rfl, hb1⟩
  · have HT : Hid (txB s 2 = naL s.toList) := rfl
    rw [HT.out]
    generalize naL s.toList = q at *
    go_enter Try.func46, Try.ntmps46
    go_wp2_with (go_at_call 12; refine (HN.out _).mono ?_; rintro e w1 ⟨rfl, hb1⟩)
    go_ret
    exact ⟨rfl, hb1⟩
  · have HT : Hid (txB s 3 = !(soL s.toList == 0)) := rfl
    rw [HT.out]
    generalize soL s.toList = q at *
    go_enter Try.func46, Try.ntmps46
    go_wp2_with (go_at_call 26; refine (HS.out _).mono ?_; rintro e w1 ⟨rfl, rfl⟩)
    go_ret
    exact ⟨by simp; rfl, Below.refl _ _⟩
end Go.Proofs.Ytfjjnngaeccdjaa
