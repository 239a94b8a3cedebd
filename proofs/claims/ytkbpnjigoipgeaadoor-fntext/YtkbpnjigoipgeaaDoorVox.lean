/- Is it a value in a heap? The model's way, and the program's. Is it a value in a heap? The model's way. -/
import Derived.Test.YtkbpnjigoipgeaaDoorVlp
set_option linter.unusedVariables false
namespace Go.Proofs.YtkbpnjigoipgeaaDoor
open Go.ChangeShapes Go.WideShapes Go.ChangeAt Go.RowKit
theorem cellB_neg {h : List Cel} {n k : Int} (hn : n < 0) : cellB h n k = false := by
  unfold cellB
  rw [decide_eq_false (by omega)]
  rfl
theorem cellB_out {h : List Cel} {n k : Int} (hn : (h.length : Int) ≤ n) : cellB h n k = false := by
  unfold cellB
  rw [List.getElem?_eq_none (by omega)]
  simp
theorem cellB_at {h : List Cel} {m : Nat} {d : Cel} {k : Int} (hd : h[m]? = some d) : cellB h (m : Int) k = decide (d.k = k) := by
  unfold cellB
  rw [Int.toNat_natCast, hd]
  by_cases hq : d.k = k
  · simp [hq]
  · simp [hq]
set_option maxRecDepth 100000 in
theorem l6Cell_any (a : Option Addr) (h : List Cel) (ca : Nat) (n k : Int) (w : World) (hl : h.length ≤ 1048576) (hr : RowC w w.heap.size a h) :
    Calls Tryd.prog 25 #[.slice a h.length ca, .int .i64 n, .int .i64 k] w fun e w' => e = .returned (.bool (cellB h n k)) ∧ w' = w := by
  by_cases h0 : n < 0
  · have HQ : Hid (cellB h n k = false) := cellB_neg h0
    have g0 : decide (0 ≤ n) = false := by simp; omega
    rw [HQ.out]
    clear hr
    go_enter Tryd.func25, Tryd.ntmps25
    go_wp2
    go_ret
    exact ⟨rfl, rfl⟩
  · obtain ⟨m, rfl⟩ : ∃ m : Nat, n = m := ⟨n.toNat, by omega⟩
    by_cases h1 : m < h.length
    · obtain ⟨d, hd⟩ : ∃ d, h[m]? = some d := ⟨_, List.getElem?_eq_getElem h1⟩
      obtain ⟨b, o, rfl, hb, an, cn, av, cv, c0, _⟩ := hr m d hd
      have HQ : Hid (cellB h (m : Int) k = decide (d.k = k)) := cellB_at hd
      rw [HQ.out]
      clear hr hd HQ h0
      by_cases hk : d.k = k
      · rw [decide_eq_true hk]
        go_enter Tryd.func25, Tryd.ntmps25
        go_wp2
        go_ret
        exact ⟨by simp, rfl⟩
      · rw [decide_eq_false hk]
        go_enter Tryd.func25, Tryd.ntmps25
        go_wp2
        go_ret
        exact ⟨by simp [hk], rfl⟩
    · have HQ : Hid (cellB h (m : Int) k = false) := cellB_out (by omega)
      rw [HQ.out]
      clear hr h0
      have g1 : decide ((m : Int) < (h.length : Int)) = false := by simp; omega
      go_enter Tryd.func25, Tryd.ntmps25
      go_wp2
      go_ret
      exact ⟨rfl, rfl⟩
set_option maxRecDepth 100000 in
theorem isCell_any (a : Option Addr) (h : List Cel) (ca : Nat) (n k : Int) (w : World) (hl : h.length ≤ 1048576) (hr : RowC w w.heap.size a h) :
    Calls Tryd.prog 100 #[.slice a h.length ca, .int .i64 n, .int .i64 k] w fun e w' => e = .returned (.bool (cellB h n k)) ∧ w' = w := by
  by_cases h0 : n < 0
  · have HQ : Hid (cellB h n k = false) := cellB_neg h0
    have g0 : decide (0 ≤ n) = false := by simp; omega
    rw [HQ.out]
    clear hr
    go_enter Tryd.func100, Tryd.ntmps100
    go_wp2
    go_ret
    exact ⟨rfl, rfl⟩
  · obtain ⟨m, rfl⟩ : ∃ m : Nat, n = m := ⟨n.toNat, by omega⟩
    by_cases h1 : m < h.length
    · obtain ⟨d, hd⟩ : ∃ d, h[m]? = some d := ⟨_, List.getElem?_eq_getElem h1⟩
      obtain ⟨b, o, rfl, hb, an, cn, av, cv, c0, _⟩ := hr m d hd
      have HQ : Hid (cellB h (m : Int) k = decide (d.k = k)) := cellB_at hd
      rw [HQ.out]
      clear hr hd HQ h0
      by_cases hk : d.k = k
      · rw [decide_eq_true hk]
        go_enter Tryd.func100, Tryd.ntmps100
        go_wp2
        go_ret
        exact ⟨by simp, rfl⟩
      · rw [decide_eq_false hk]
        go_enter Tryd.func100, Tryd.ntmps100
        go_wp2
        go_ret
        exact ⟨by simp [hk], rfl⟩
    · have HQ : Hid (cellB h (m : Int) k = false) := cellB_out (by omega)
      rw [HQ.out]
      clear hr h0
      have g1 : decide ((m : Int) < (h.length : Int)) = false := by simp; omega
      go_enter Tryd.func100, Tryd.ntmps100
      go_wp2
      go_ret
      exact ⟨rfl, rfl⟩
/-- The answers, by the kind. -/
theorem vok4 {h : List Cel} {v : Val} (hk : v.k = 4) : v.ok h = (decide (v.n = 0) && syL v.s.data.toList) := by unfold Val.ok; rw [if_pos hk]
theorem vokS {h : List Cel} {v : Val} (hk : v.k ≠ 4) (hs : v.s.size ≠ 0) : v.ok h = false := by unfold Val.ok; rw [if_neg hk, decide_eq_false hs]; rfl
theorem vok1 {h : List Cel} {v : Val} (hk : v.k = 1) (hs : v.s.size = 0) : v.ok h = (decide (-1000000 ≤ v.n) && decide (v.n ≤ 1000000)) := by unfold Val.ok; simp [hk, hs]
theorem vok2 {h : List Cel} {v : Val} (hk : v.k = 2) (hs : v.s.size = 0) : v.ok h = (decide (v.n = 0) || decide (v.n = 1)) := by unfold Val.ok; simp [hk, hs]
theorem vok3 {h : List Cel} {v : Val} (hk : v.k = 3) (hs : v.s.size = 0) : v.ok h = decide (v.n = 0) := by unfold Val.ok; simp [hk, hs]
theorem vok5 {h : List Cel} {v : Val} (hk : v.k = 5) (hs : v.s.size = 0) : v.ok h = cellB h v.n 1 := by unfold Val.ok; simp [hk, hs]
theorem vok6 {h : List Cel} {v : Val} (hk : v.k = 6) (hs : v.s.size = 0) : v.ok h = cellB h v.n 2 := by unfold Val.ok; simp [hk, hs]
theorem vok7 {h : List Cel} {v : Val} (hk : v.k = 7) (hs : v.s.size = 0) : v.ok h = cellB h v.n 3 := by unfold Val.ok; simp [hk, hs]
theorem vok0 {h : List Cel} {v : Val} (h1 : v.k ≠ 1) (h2 : v.k ≠ 2) (h3 : v.k ≠ 3) (h4 : v.k ≠ 4) (h5 : v.k ≠ 5) (h6 : v.k ≠ 6) (h7 : v.k ≠ 7) : v.ok h = false := by unfold Val.ok; simp [h1, h2, h3, h4, h5, h6, h7]
theorem size_zero {s : ByteArray} (h : s.size = 0) : s = ⟨#[]⟩ := by
  obtain ⟨l⟩ := s
  have : l.size = 0 := h
  rw [Array.eq_empty_of_size_eq_zero this]
end Go.Proofs.YtkbpnjigoipgeaaDoor
set_option linter.unusedVariables false
namespace Go.Proofs.YtkbpnjigoipgeaaDoor
open Go.ChangeShapes Go.WideShapes Go.ChangeAt Go.RowKit
theorem str_ne {s : ByteArray} (h : s.size ≠ 0) : (s.toList == []) = false := by
  have : s.toList.length ≠ 0 := by rw [ByteArray.toList_eq]; simpa using h
  cases hq : s.toList with
  | nil => rw [hq] at this; exact absurd rfl this
  | cons x r => rfl
set_option maxRecDepth 100000 in
set_option maxHeartbeats 2000000 in
theorem specVal_any (d : Val) (a : Option Addr) (h : List Cel) (ca : Nat) (w : World) (hl : h.length ≤ 1048576) (hs : d.s.size ≤ 1048576) (hr : RowC w w.heap.size a h) :
    Calls Tryd.prog 9 #[.slice a h.length ca, .agg #[.int .i64 d.k, .int .i64 d.n, .string d.s]] w fun e w' => Ans w (.bool (d.ok h)) e w' := by
  have hbB : Below w.heap.size w (w.alloc (Obj.cells #[.int .i64 d.k, .int .i64 d.n, .string d.s] 26)) := (Below.refl _ _).alloc (Nat.le_refl _) _
  have HIN : Hid (∀ (x lo hi : Int) w, Calls Tryd.prog 23 #[.int .i64 x, .int .i64 lo, .int .i64 hi] w fun e w' => e = .returned (.bool (decide (lo ≤ x) && decide (x ≤ hi))) ∧ w' = w) := l1In_any
  have HSY : Hid (∀ w, Calls Tryd.prog 24 #[.string d.s] w fun e w' => Ans w (.bool (syL d.s.data.toList)) e w') := fun w => l2Sym_any d.s w hs
  have HCE : Hid (∀ (n k : Int) w1, Below w.heap.size w w1 → Calls Tryd.prog 25 #[.slice a h.length ca, .int .i64 n, .int .i64 k] w1 fun e w' => e = .returned (.bool (cellB h n k)) ∧ w' = w1) := fun n k w1 hb => l6Cell_any a h ca n k w1 hl ((hr.below hb).mono hb.size)
  clear hr
  obtain ⟨k, n, s⟩ := d
  simp only at *
  by_cases h4 : k = 4
  · subst h4
    have HQ : Hid (Val.ok h ⟨4, n, s⟩ = (decide (n = 0) && syL s.data.toList)) := vok4 rfl
    rw [HQ.out]
    clear HQ
    by_cases h0 : n = 0
    · subst h0
      rw [decide_eq_true rfl, Bool.true_and]
      go_enter Tryd.func9, Tryd.ntmps9
      go_wp2_with (go_at_call 24; refine (HSY.out _).mono ?_; rintro e w' ⟨rfl, hb1⟩)
      go_ret
      exact ⟨rfl, hbB.trans (hb1.mono hbB.size)⟩
    · rw [decide_eq_false h0, Bool.false_and]
      go_enter Tryd.func9, Tryd.ntmps9
      go_wp2
      go_ret
      exact ⟨by simp, hbB⟩
  by_cases h0 : s.size = 0
  · obtain rfl := size_zero h0
    by_cases h1 : k = 1
    · subst h1
      have HQ : Hid (Val.ok h ⟨1, n, ⟨#[]⟩⟩ = (decide (-1000000 ≤ n) && decide (n ≤ 1000000))) := vok1 rfl rfl
      rw [HQ.out]
      clear HQ h4 h0
      go_enter Tryd.func9, Tryd.ntmps9
      go_wp2_with (go_at_call 23; refine (HIN.out _ _ _ _).mono ?_; rintro e w' ⟨rfl, rfl⟩)
      go_ret
      exact ⟨rfl, hbB⟩
    by_cases h2 : k = 2
    · subst h2
      have HQ : Hid (Val.ok h ⟨2, n, ⟨#[]⟩⟩ = (decide (0 ≤ n) && decide (n ≤ 1))) := by
        show _ = _
        rw [vok2 rfl rfl]
        by_cases e0 : n = 0
        · simp [e0]
        by_cases e1 : n = 1
        · simp [e1]
        by_cases e2 : 0 ≤ n
        · have : ¬ n ≤ 1 := by omega
          simp [e0, e1, this]
        · simp [e0, e1, e2]
      rw [HQ.out]
      clear HQ h4 h0 h1
      go_enter Tryd.func9, Tryd.ntmps9
      go_wp2_with (go_at_call 23; refine (HIN.out _ _ _ _).mono ?_; rintro e w' ⟨rfl, rfl⟩)
      go_ret
      exact ⟨rfl, hbB⟩
    by_cases h3 : k = 3
    · subst h3
      have HQ : Hid (Val.ok h ⟨3, n, ⟨#[]⟩⟩ = decide (n = 0)) := vok3 rfl rfl
      rw [HQ.out]
      clear HQ h4 h0 h1 h2
      by_cases h0 : n = 0
      · subst h0
        go_enter Tryd.func9, Tryd.ntmps9
        go_wp2
        go_ret
        exact ⟨rfl, hbB⟩
      · rw [decide_eq_false h0]
        go_enter Tryd.func9, Tryd.ntmps9
        go_wp2
        go_ret
        exact ⟨by simp [h0], hbB⟩
    by_cases h5 : k = 5
    · subst h5
      have HQ : Hid (Val.ok h ⟨5, n, ⟨#[]⟩⟩ = cellB h n 1) := vok5 rfl rfl
      rw [HQ.out]
      clear HQ h4 h0 h1 h2 h3
      go_enter Tryd.func9, Tryd.ntmps9
      go_wp2_with (go_at_call 25; refine (HCE.out _ _ _ hbB).mono ?_; rintro e w' ⟨rfl, rfl⟩)
      go_ret
      exact ⟨rfl, hbB⟩
    by_cases h6 : k = 6
    · subst h6
      have HQ : Hid (Val.ok h ⟨6, n, ⟨#[]⟩⟩ = cellB h n 2) := vok6 rfl rfl
      rw [HQ.out]
      clear HQ h4 h0 h1 h2 h3 h5
      go_enter Tryd.func9, Tryd.ntmps9
      go_wp2_with (go_at_call 25; refine (HCE.out _ _ _ hbB).mono ?_; rintro e w' ⟨rfl, rfl⟩)
      go_ret
      exact ⟨rfl, hbB⟩
    by_cases h7 : k = 7
    · subst h7
      have HQ : Hid (Val.ok h ⟨7, n, ⟨#[]⟩⟩ = cellB h n 3) := vok7 rfl rfl
      rw [HQ.out]
      clear HQ h4 h0 h1 h2 h3 h5 h6
      go_enter Tryd.func9, Tryd.ntmps9
      go_wp2_with (go_at_call 25; refine (HCE.out _ _ _ hbB).mono ?_; rintro e w' ⟨rfl, rfl⟩)
      go_ret
      exact ⟨rfl, hbB⟩
    have HQ : Hid (Val.ok h ⟨k, n, ⟨#[]⟩⟩ = false) := vok0 h1 h2 h3 h4 h5 h6 h7
    rw [HQ.out]
    clear HQ h0
    go_enter Tryd.func9, Tryd.ntmps9
    go_wp2
    go_ret
    exact ⟨rfl, hbB⟩
  · have HQ : Hid (Val.ok h ⟨k, n, s⟩ = false) := vokS h4 h0
    rw [HQ.out]
    have g0 := str_ne h0
    clear HQ h0
    go_enter Tryd.func9, Tryd.ntmps9
    go_wp2
    go_ret
    exact ⟨rfl, hbB⟩
end Go.Proofs.YtkbpnjigoipgeaaDoor
