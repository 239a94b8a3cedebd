/- Is it a value in a heap? The program's way, whole. -/
import Derived.Test.YtkbpnjigoipgeaaDoorVou
set_option linter.unusedVariables false
namespace Go.Proofs.YtkbpnjigoipgeaaDoor
open Go.ChangeShapes Go.WideShapes Go.ChangeAt Go.RowKit
set_option maxRecDepth 100000 in
theorem fits67 (s : ByteArray) (v : Value) (w : World) (hs : s.size ≤ 1048576) :
    Calls Tryd.prog 95 #[.string s, v] w fun e w' => Ans w (.bool (syL s.data.toList)) e w' := by
  have HSY : Hid (∀ w, Calls Tryd.prog 58 #[.string s] w fun e w' => Ans w (.bool (syL s.data.toList)) e w') := fun w => isSymbol_any s w hs
  go_enter Tryd.func95, Tryd.ntmps95
  go_wp2_with (go_at_call 58; refine (HSY.out _).mono ?_; rintro e w2 ⟨rfl, hb3⟩)
  go_ret
  exact ⟨rfl, hb3⟩
theorem fits68 (v : Value) (w : World) : Calls Tryd.prog 96 #[.agg #[], v] w fun e w' => Ans w (.bool true) e w' := by
  have hbB : Below w.heap.size w (w.alloc (Obj.cells #[] 69)) := (Below.refl _ _).alloc (Nat.le_refl _) _
  go_enter Tryd.func96, Tryd.ntmps96
  go_wp2
  go_ret
  exact ⟨rfl, by first | exact hbB | exact Below.refl _ _⟩
theorem fits69 (n : Int) (v : Value) (w : World) : Calls Tryd.prog 97 #[.int .i64 n, v] w fun e w' => Ans w (.bool (decide (-1000000 ≤ n) && decide (n ≤ 1000000))) e w' := by
  by_cases e1 : -1000000 ≤ n
  · rw [decide_eq_true e1]
    go_enter Tryd.func97, Tryd.ntmps97
    go_wp2
    go_ret
    exact ⟨by simp, Below.refl _ _⟩
  · rw [decide_eq_false e1]
    go_enter Tryd.func97, Tryd.ntmps97
    go_wp2
    go_ret
    exact ⟨by simp, Below.refl _ _⟩
theorem fits70 (n : Int) (v : Value) (w : World) : Calls Tryd.prog 98 #[.int .i64 n, v] w fun e w' => Ans w (.bool (decide (n = 0) || decide (n = 1))) e w' := by
  by_cases e1 : n = 0
  · subst e1
    go_enter Tryd.func98, Tryd.ntmps98
    go_wp2
    go_ret
    exact ⟨by simp, Below.refl _ _⟩
  · rw [decide_eq_false e1]
    by_cases e2 : n = 1
    · subst e2
      go_enter Tryd.func98, Tryd.ntmps98
      go_wp2
      go_ret
      exact ⟨by simp, Below.refl _ _⟩
    · rw [decide_eq_false e2]
      go_enter Tryd.func98, Tryd.ntmps98
      go_wp2
      go_ret
      exact ⟨by simp [e1, e2], Below.refl _ _⟩
theorem fits71 (a : Option Addr) (h : List Cel) (ca : Nat) (n : Int) (w : World) (hl : h.length ≤ 1048576) (hr : RowC w w.heap.size a h) :
    Calls Tryd.prog 99 #[.int .i64 n, .slice a h.length ca] w fun e w' => Ans w (.bool (cellB h n 1)) e w' := by
  have HCE : Hid (Calls Tryd.prog 100 #[.slice a h.length ca, .int .i64 n, .int .i64 1] w fun e w' => e = .returned (.bool (cellB h n 1)) ∧ w' = w) := isCell_any a h ca n 1 w hl hr
  clear hr
  go_enter Tryd.func99, Tryd.ntmps99
  go_wp2_with (go_at_call 100; refine HCE.out.mono ?_; rintro e w2 ⟨rfl, rfl⟩)
  go_ret
  exact ⟨rfl, Below.refl _ _⟩
theorem fits73 (a : Option Addr) (h : List Cel) (ca : Nat) (n : Int) (w : World) (hl : h.length ≤ 1048576) (hr : RowC w w.heap.size a h) :
    Calls Tryd.prog 101 #[.int .i64 n, .slice a h.length ca] w fun e w' => Ans w (.bool (cellB h n 2)) e w' := by
  have HCE : Hid (Calls Tryd.prog 100 #[.slice a h.length ca, .int .i64 n, .int .i64 2] w fun e w' => e = .returned (.bool (cellB h n 2)) ∧ w' = w) := isCell_any a h ca n 2 w hl hr
  clear hr
  go_enter Tryd.func101, Tryd.ntmps101
  go_wp2_with (go_at_call 100; refine HCE.out.mono ?_; rintro e w2 ⟨rfl, rfl⟩)
  go_ret
  exact ⟨rfl, Below.refl _ _⟩
theorem fits74 (a : Option Addr) (h : List Cel) (ca : Nat) (n : Int) (w : World) (hl : h.length ≤ 1048576) (hr : RowC w w.heap.size a h) :
    Calls Tryd.prog 102 #[.int .i64 n, .slice a h.length ca] w fun e w' => Ans w (.bool (cellB h n 3)) e w' := by
  have HCE : Hid (Calls Tryd.prog 100 #[.slice a h.length ca, .int .i64 n, .int .i64 3] w fun e w' => e = .returned (.bool (cellB h n 3)) ∧ w' = w) := isCell_any a h ca n 3 w hl hr
  clear hr
  go_enter Tryd.func102, Tryd.ntmps102
  go_wp2_with (go_at_call 100; refine HCE.out.mono ?_; rintro e w2 ⟨rfl, rfl⟩)
  go_ret
  exact ⟨rfl, Below.refl _ _⟩
set_option maxRecDepth 100000 in
set_option maxHeartbeats 2000000 in
theorem implVal_any (d : Val) (a : Option Addr) (h : List Cel) (ca : Nat) (w : World) (hl : h.length ≤ 1048576) (hs : d.s.size ≤ 1048576) (hr : RowC w w.heap.size a h) :
    Calls Tryd.prog 18 #[.slice a h.length ca, .agg #[.int .i64 d.k, .int .i64 d.n, .string d.s]] w fun e w' => Ans w (.bool (d.ok h)) e w' := by
  have hbB : Below w.heap.size w (w.alloc (Obj.cells #[.int .i64 d.k, .int .i64 d.n, .string d.s] 26)) := (Below.refl _ _).alloc (Nat.le_refl _) _
  have HSY : Hid (∀ v w, Calls Tryd.prog 95 #[.string d.s, v] w fun e w' => Ans w (.bool (syL d.s.data.toList)) e w') := fun v w => fits67 d.s v w hs
  have HIN : Hid (∀ w, Calls Tryd.prog 32 #[.agg #[.int .i64 d.k, .int .i64 d.n, .string d.s]] w fun e w' => Ans w (inV d) e w') := fun w => innerOf_any d w
  have HC5 : Hid (∀ (n : Int) w1, Below w.heap.size w w1 → Calls Tryd.prog 99 #[.int .i64 n, .slice a h.length ca] w1 fun e w' => Ans w1 (.bool (cellB h n 1)) e w') := fun n w1 hb => fits71 a h ca n w1 hl ((hr.below hb).mono hb.size)
  have HC6 : Hid (∀ (n : Int) w1, Below w.heap.size w w1 → Calls Tryd.prog 101 #[.int .i64 n, .slice a h.length ca] w1 fun e w' => Ans w1 (.bool (cellB h n 2)) e w') := fun n w1 hb => fits73 a h ca n w1 hl ((hr.below hb).mono hb.size)
  have HC7 : Hid (∀ (n : Int) w1, Below w.heap.size w w1 → Calls Tryd.prog 102 #[.int .i64 n, .slice a h.length ca] w1 fun e w' => Ans w1 (.bool (cellB h n 3)) e w') := fun n w1 hb => fits74 a h ca n w1 hl ((hr.below hb).mono hb.size)
  clear hr
  obtain ⟨k, n, s⟩ := d
  simp only at *
  by_cases h4 : k = 4
  · subst h4
    by_cases h0 : n = 0
    · subst h0
      rw [inV4] at HIN
      have HQ : Hid (Val.ok h ⟨4, 0, s⟩ = syL s.data.toList) := by show _ = _; rw [vok4 rfl]; simp
      rw [HQ.out]
      have hm : ∀ w : World, (method 222 67 (.string s) "loop.example/g00765/impl.fits").run Tryd.prog w = .ok (95, (.string s)) w := fun _ => by kernel_rfl
      go_enter Tryd.func18, Tryd.ntmps18
      go_wp2_with (first | (go_at_call 32; refine (HIN.out _).mono ?_; rintro e w1 ⟨rfl, hb1⟩; have hb2 := hbB.trans (hb1.mono hbB.size)) | (go_at_call 95; refine (HSY.out _ _).mono ?_; rintro e w2 ⟨rfl, hb3⟩))
      go_ret
      exact ⟨rfl, hb2.trans (hb3.mono hb2.size)⟩
    · rw [inV4n n s h0] at HIN
      have HQ : Hid (Val.ok h ⟨4, n, s⟩ = false) := by show _ = _; rw [vok4 rfl]; simp [h0]
      rw [HQ.out]
      go_enter Tryd.func18, Tryd.ntmps18
      go_wp2_with (go_at_call 32; refine (HIN.out _).mono ?_; rintro e w1 ⟨rfl, hb1⟩; have hb2 := hbB.trans (hb1.mono hbB.size))
      go_ret
      exact ⟨rfl, hb2⟩
  by_cases h0 : s.size = 0
  · obtain rfl := size_zero h0
    clear h0
    by_cases h1 : k = 1
    · subst h1
      rw [inV1] at HIN
      have HQ : Hid (Val.ok h ⟨1, n, ⟨#[]⟩⟩ = (decide (-1000000 ≤ n) && decide (n ≤ 1000000))) := vok1 rfl rfl
      rw [HQ.out]
      clear HQ h4
      have hm : ∀ w : World, (method 222 70 (.int .i64 n) "loop.example/g00765/impl.fits").run Tryd.prog w = .ok (97, (.int .i64 n)) w := fun _ => by kernel_rfl
      have HF : Hid (∀ v w, Calls Tryd.prog 97 #[.int .i64 n, v] w fun e w' => Ans w (.bool (decide (-1000000 ≤ n) && decide (n ≤ 1000000))) e w') := fun v w => fits69 n v w
      go_enter Tryd.func18, Tryd.ntmps18
      go_wp2_with (first | (go_at_call 32; refine (HIN.out _).mono ?_; rintro e w1 ⟨rfl, hb1⟩; have hb2 := hbB.trans (hb1.mono hbB.size)) | (go_at_call 97; refine (HF.out _ _).mono ?_; rintro e w2 ⟨rfl, hb3⟩))
      go_ret
      exact ⟨rfl, hb2.trans (hb3.mono hb2.size)⟩
    by_cases h2 : k = 2
    · subst h2
      rw [inV2] at HIN
      have HQ : Hid (Val.ok h ⟨2, n, ⟨#[]⟩⟩ = (decide (n = 0) || decide (n = 1))) := vok2 rfl rfl
      rw [HQ.out]
      clear HQ h4 h1
      have hm : ∀ w : World, (method 222 71 (.int .i64 n) "loop.example/g00765/impl.fits").run Tryd.prog w = .ok (98, (.int .i64 n)) w := fun _ => by kernel_rfl
      have HF : Hid (∀ v w, Calls Tryd.prog 98 #[.int .i64 n, v] w fun e w' => Ans w (.bool (decide (n = 0) || decide (n = 1))) e w') := fun v w => fits70 n v w
      go_enter Tryd.func18, Tryd.ntmps18
      go_wp2_with (first | (go_at_call 32; refine (HIN.out _).mono ?_; rintro e w1 ⟨rfl, hb1⟩; have hb2 := hbB.trans (hb1.mono hbB.size)) | (go_at_call 98; refine (HF.out _ _).mono ?_; rintro e w2 ⟨rfl, hb3⟩))
      go_ret
      exact ⟨rfl, hb2.trans (hb3.mono hb2.size)⟩
    by_cases h3 : k = 3
    · subst h3
      have HQ : Hid (Val.ok h ⟨3, n, ⟨#[]⟩⟩ = decide (n = 0)) := vok3 rfl rfl
      rw [HQ.out]
      clear HQ h4 h1 h2
      by_cases h0 : n = 0
      · subst h0
        rw [inV3] at HIN
        have hm : ∀ w : World, (method 222 69 (.agg #[]) "loop.example/g00765/impl.fits").run Tryd.prog w = .ok (96, (.agg #[])) w := fun _ => by kernel_rfl
        go_enter Tryd.func18, Tryd.ntmps18
        go_wp2_with (first | (go_at_call 32; refine (HIN.out _).mono ?_; rintro e w1 ⟨rfl, hb1⟩; have hb2 := hbB.trans (hb1.mono hbB.size)) | (go_at_call 96; refine (fits68 _ _).mono ?_; rintro e w2 ⟨rfl, hb3⟩))
        go_ret
        exact ⟨rfl, hb2.trans (hb3.mono hb2.size)⟩
      · rw [decide_eq_false h0]
        rw [inV3n n h0] at HIN
        go_enter Tryd.func18, Tryd.ntmps18
        go_wp2_with (go_at_call 32; refine (HIN.out _).mono ?_; rintro e w1 ⟨rfl, hb1⟩; have hb2 := hbB.trans (hb1.mono hbB.size))
        go_ret
        exact ⟨rfl, hb2⟩
    by_cases h5 : k = 5
    · subst h5
      rw [inV5] at HIN
      have HQ : Hid (Val.ok h ⟨5, n, ⟨#[]⟩⟩ = cellB h n 1) := vok5 rfl rfl
      rw [HQ.out]
      clear HQ h4 h1 h2 h3
      have hm : ∀ w : World, (method 222 72 (.int .i64 n) "loop.example/g00765/impl.fits").run Tryd.prog w = .ok (99, (.int .i64 n)) w := fun _ => by kernel_rfl
      go_enter Tryd.func18, Tryd.ntmps18
      go_wp2_with (first | (go_at_call 32; refine (HIN.out _).mono ?_; rintro e w1 ⟨rfl, hb1⟩; have hb2 := hbB.trans (hb1.mono hbB.size)) | (go_at_call 99; refine (HC5.out _ _ hb2).mono ?_; rintro e w2 ⟨rfl, hb3⟩))
      go_ret
      exact ⟨rfl, hb2.trans (hb3.mono hb2.size)⟩
    by_cases h6 : k = 6
    · subst h6
      rw [inV6] at HIN
      have HQ : Hid (Val.ok h ⟨6, n, ⟨#[]⟩⟩ = cellB h n 2) := vok6 rfl rfl
      rw [HQ.out]
      clear HQ h4 h1 h2 h3 h5
      have hm : ∀ w : World, (method 222 73 (.int .i64 n) "loop.example/g00765/impl.fits").run Tryd.prog w = .ok (101, (.int .i64 n)) w := fun _ => by kernel_rfl
      go_enter Tryd.func18, Tryd.ntmps18
      go_wp2_with (first | (go_at_call 32; refine (HIN.out _).mono ?_; rintro e w1 ⟨rfl, hb1⟩; have hb2 := hbB.trans (hb1.mono hbB.size)) | (go_at_call 101; refine (HC6.out _ _ hb2).mono ?_; rintro e w2 ⟨rfl, hb3⟩))
      go_ret
      exact ⟨rfl, hb2.trans (hb3.mono hb2.size)⟩
    by_cases h7 : k = 7
    · subst h7
      rw [inV7] at HIN
      have HQ : Hid (Val.ok h ⟨7, n, ⟨#[]⟩⟩ = cellB h n 3) := vok7 rfl rfl
      rw [HQ.out]
      clear HQ h4 h1 h2 h3 h5 h6
      have hm : ∀ w : World, (method 222 74 (.int .i64 n) "loop.example/g00765/impl.fits").run Tryd.prog w = .ok (102, (.int .i64 n)) w := fun _ => by kernel_rfl
      go_enter Tryd.func18, Tryd.ntmps18
      go_wp2_with (first | (go_at_call 32; refine (HIN.out _).mono ?_; rintro e w1 ⟨rfl, hb1⟩; have hb2 := hbB.trans (hb1.mono hbB.size)) | (go_at_call 102; refine (HC7.out _ _ hb2).mono ?_; rintro e w2 ⟨rfl, hb3⟩))
      go_ret
      exact ⟨rfl, hb2.trans (hb3.mono hb2.size)⟩
    · rw [inV0 k n _ h1 h2 h3 h4 h5 h6 h7] at HIN
      have HQ : Hid (Val.ok h ⟨k, n, ⟨#[]⟩⟩ = false) := vok0 h1 h2 h3 h4 h5 h6 h7
      rw [HQ.out]
      go_enter Tryd.func18, Tryd.ntmps18
      go_wp2_with (go_at_call 32; refine (HIN.out _).mono ?_; rintro e w1 ⟨rfl, hb1⟩; have hb2 := hbB.trans (hb1.mono hbB.size))
      go_ret
      exact ⟨rfl, hb2⟩
  · rw [inVS k n s h4 h0] at HIN
    have HQ : Hid (Val.ok h ⟨k, n, s⟩ = false) := vokS h4 h0
    rw [HQ.out]
    clear HQ h0
    go_enter Tryd.func18, Tryd.ntmps18
    go_wp2_with (go_at_call 32; refine (HIN.out _).mono ?_; rintro e w1 ⟨rfl, hb1⟩; have hb2 := hbB.trans (hb1.mono hbB.size))
    go_ret
    exact ⟨rfl, hb2⟩
end Go.Proofs.YtkbpnjigoipgeaaDoor
