/- Is it a value in a heap? The model's way, and the program's. -/
import Derived.Test.YtpjafenpjigmkaaVlp
set_option linter.unusedVariables false
namespace Go.Proofs.Ytpjafenpjigmkaa
open Go.ChangeShapes Go.WideShapes Go.ChangeAt Go.RowKit
theorem cellB_neg {h : List Cel} {n k : Int} (hn : n < 0) : cellB h n k = false := by
  unfold cellB
  rw [decide_eq_false (by omega)]
  rfl
theorem cellB_out {h : List Cel} {n k : Int} (hn : (h.length : Int) ≤ n) : cellB h n k = false := by
  unfold cellB
  rw [List.getElem?_eq_none (by omega)]
  simp
theorem cellB_at {h : List Cel} {m : Nat} {d : Cel} {k : Int} (hd : h[m]? = some d) : cellB h (m : Int) k = decide (d.k = k) := by
  unfold cellB
  rw [Int.toNat_natCast, hd]
  by_cases hq : d.k = k
  · simp [hq]
  · simp [hq]
set_option maxRecDepth 100000 in
theorem l6Cell_any (a : Option Addr) (h : List Cel) (ca : Nat) (n k : Int) (w : World) (hl : h.length ≤ 1048576) (hr : RowC w w.heap.size a h) :
    Calls Try.prog 32 #[.slice a h.length ca, .int .i64 n, .int .i64 k] w fun e w' => e = .returned (.bool (cellB h n k)) ∧ w' = w := by
  by_cases h0 : n < 0
  · have HQ : Hid (cellB h n k = false) := cellB_neg h0
    have g0 : decide (0 ≤ n) = false := by simp; omega
    rw [HQ.out]
    clear hr
    go_enter Try.func32, Try.ntmps32
    go_wp2
    go_ret
    exact ⟨rfl, rfl⟩
  · obtain ⟨m, rfl⟩ : ∃ m : Nat, n = m := ⟨n.toNat, by omega⟩
    by_cases h1 : m < h.length
    · obtain ⟨d, hd⟩ : ∃ d, h[m]? = some d := ⟨_, List.getElem?_eq_getElem h1⟩
      obtain ⟨b, o, rfl, hb, an, cn, av, cv, c0, _⟩ := hr m d hd
      have HQ : Hid (cellB h (m : Int) k = decide (d.k = k)) := cellB_at hd
      rw [HQ.out]
      clear hr hd HQ h0
      by_cases hk : d.k = k
      · rw [decide_eq_true hk]
        go_enter Try.func32, Try.ntmps32
        go_wp2
        go_ret
        exact ⟨by simp, rfl⟩
      · rw [decide_eq_false hk]
        go_enter Try.func32, Try.ntmps32
        go_wp2
        go_ret
        exact ⟨by simp [hk], rfl⟩
    · have HQ : Hid (cellB h (m : Int) k = false) := cellB_out (by omega)
      rw [HQ.out]
      clear hr h0
      have g1 : decide ((m : Int) < (h.length : Int)) = false := by simp; omega
      go_enter Try.func32, Try.ntmps32
      go_wp2
      go_ret
      exact ⟨rfl, rfl⟩
set_option maxRecDepth 100000 in
theorem isCell_any (a : Option Addr) (h : List Cel) (ca : Nat) (n k : Int) (w : World) (hl : h.length ≤ 1048576) (hr : RowC w w.heap.size a h) :
    Calls Try.prog 83 #[.slice a h.length ca, .int .i64 n, .int .i64 k] w fun e w' => e = .returned (.bool (cellB h n k)) ∧ w' = w := by
  by_cases h0 : n < 0
  · have HQ : Hid (cellB h n k = false) := cellB_neg h0
    have g0 : decide (0 ≤ n) = false := by simp; omega
    rw [HQ.out]
    clear hr
    go_enter Try.func83, Try.ntmps83
    go_wp2
    go_ret
    exact ⟨rfl, rfl⟩
  · obtain ⟨m, rfl⟩ : ∃ m : Nat, n = m := ⟨n.toNat, by omega⟩
    by_cases h1 : m < h.length
    · obtain ⟨d, hd⟩ : ∃ d, h[m]? = some d := ⟨_, List.getElem?_eq_getElem h1⟩
      obtain ⟨b, o, rfl, hb, an, cn, av, cv, c0, _⟩ := hr m d hd
      have HQ : Hid (cellB h (m : Int) k = decide (d.k = k)) := cellB_at hd
      rw [HQ.out]
      clear hr hd HQ h0
      by_cases hk : d.k = k
      · rw [decide_eq_true hk]
        go_enter Try.func83, Try.ntmps83
        go_wp2
        go_ret
        exact ⟨by simp, rfl⟩
      · rw [decide_eq_false hk]
        go_enter Try.func83, Try.ntmps83
        go_wp2
        go_ret
        exact ⟨by simp [hk], rfl⟩
    · have HQ : Hid (cellB h (m : Int) k = false) := cellB_out (by omega)
      rw [HQ.out]
      clear hr h0
      have g1 : decide ((m : Int) < (h.length : Int)) = false := by simp; omega
      go_enter Try.func83, Try.ntmps83
      go_wp2
      go_ret
      exact ⟨rfl, rfl⟩
/-- The answers, by the kind. -/
theorem vok4 {h : List Cel} {v : Val} (hk : v.k = 4) : v.ok h = (decide (v.n = 0) && syL v.s.data.toList) := by unfold Val.ok; rw [if_pos hk]
theorem vokS {h : List Cel} {v : Val} (hk : v.k ≠ 4) (hs : v.s.size ≠ 0) : v.ok h = false := by unfold Val.ok; rw [if_neg hk, decide_eq_false hs]; rfl
theorem vok1 {h : List Cel} {v : Val} (hk : v.k = 1) (hs : v.s.size = 0) : v.ok h = (decide (-1000000 ≤ v.n) && decide (v.n ≤ 1000000)) := by unfold Val.ok; simp [hk, hs]
theorem vok2 {h : List Cel} {v : Val} (hk : v.k = 2) (hs : v.s.size = 0) : v.ok h = (decide (v.n = 0) || decide (v.n = 1)) := by unfold Val.ok; simp [hk, hs]
theorem vok3 {h : List Cel} {v : Val} (hk : v.k = 3) (hs : v.s.size = 0) : v.ok h = decide (v.n = 0) := by unfold Val.ok; simp [hk, hs]
theorem vok5 {h : List Cel} {v : Val} (hk : v.k = 5) (hs : v.s.size = 0) : v.ok h = cellB h v.n 1 := by unfold Val.ok; simp [hk, hs]
theorem vok6 {h : List Cel} {v : Val} (hk : v.k = 6) (hs : v.s.size = 0) : v.ok h = cellB h v.n 2 := by unfold Val.ok; simp [hk, hs]
theorem vok7 {h : List Cel} {v : Val} (hk : v.k = 7) (hs : v.s.size = 0) : v.ok h = cellB h v.n 3 := by unfold Val.ok; simp [hk, hs]
theorem vok0 {h : List Cel} {v : Val} (h1 : v.k ≠ 1) (h2 : v.k ≠ 2) (h3 : v.k ≠ 3) (h4 : v.k ≠ 4) (h5 : v.k ≠ 5) (h6 : v.k ≠ 6) (h7 : v.k ≠ 7) : v.ok h = false := by unfold Val.ok; simp [h1, h2, h3, h4, h5, h6, h7]
theorem size_zero {s : ByteArray} (h : s.size = 0) : s = ⟨#[]⟩ := by
  obtain ⟨l⟩ := s
  have : l.size = 0 := h
  rw [Array.eq_empty_of_size_eq_zero this]
end Go.Proofs.Ytpjafenpjigmkaa
