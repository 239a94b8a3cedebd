/- Is it a value in a heap? The program's way: a value as it is inside, behind an interface. Is it a value in a heap? The program's way, whole. -/
import Derived.Test.YtlacidojljilaaaGreatDoorVox
set_option linter.unusedVariables false
set_option maxRecDepth 100000
set_option maxHeartbeats 8000000
namespace Go.Proofs.YtlacidojljilaaaGreatDoor
open Go.ChangeShapes Go.WideShapes Go.ChangeAt Go.RowKit
def inV (v : Val) : Value :=
 if v.k = 4 ∧ v.n = 0 then .iface 166 (.string v.s)
 else if v.s.size ≠ 0 then .nilIface
 else if v.k = 3 ∧ v.n = 0 then .iface 165 (.agg #[])
 else if v.k = 1 then .iface 161 (.int .i64 v.n)
 else if v.k = 2 then .iface 163 (.int .i64 v.n)
 else if v.k = 5 then .iface 167 (.int .i64 v.n)
 else if v.k = 6 then .iface 169 (.int .i64 v.n)
 else if v.k = 7 then .iface 170 (.int .i64 v.n)
 else .nilIface
theorem inV4 (s : ByteArray) : inV ⟨4, 0, s⟩ = .iface 166 (.string s) := by simp [inV]
theorem inV4n (n : Int) (s : ByteArray) (h : n ≠ 0) : inV ⟨4, n, s⟩ = .nilIface := by simp [inV, h]
theorem inVS (k n : Int) (s : ByteArray) (hk : k ≠ 4) (h : s.size ≠ 0) : inV ⟨k, n, s⟩ = .nilIface := by simp [inV, h, hk]
theorem inV3 : inV ⟨3, 0, ⟨#[]⟩⟩ = .iface 165 (.agg #[]) := by simp [inV]; rfl
theorem inV3n (n : Int) (h : n ≠ 0) : inV ⟨3, n, ⟨#[]⟩⟩ = .nilIface := by simp [inV, h]
theorem inV1 (n : Int) : inV ⟨1, n, ⟨#[]⟩⟩ = .iface 161 (.int .i64 n) := by simp [inV]; rfl
theorem inV2 (n : Int) : inV ⟨2, n, ⟨#[]⟩⟩ = .iface 163 (.int .i64 n) := by simp [inV]; rfl
theorem inV5 (n : Int) : inV ⟨5, n, ⟨#[]⟩⟩ = .iface 167 (.int .i64 n) := by simp [inV]; rfl
theorem inV6 (n : Int) : inV ⟨6, n, ⟨#[]⟩⟩ = .iface 169 (.int .i64 n) := by simp [inV]; rfl
theorem inV7 (n : Int) : inV ⟨7, n, ⟨#[]⟩⟩ = .iface 170 (.int .i64 n) := by simp [inV]; rfl
theorem inV0 (k n : Int) (s : ByteArray) (h1 : k ≠ 1) (h2 : k ≠ 2) (h3 : k ≠ 3) (h4 : k ≠ 4) (h5 : k ≠ 5) (h6 : k ≠ 6) (h7 : k ≠ 7) : inV ⟨k, n, s⟩ = .nilIface := by simp [inV, h1, h2, h3, h4, h5, h6, h7]
theorem innerOf_any (d : Val) (w : World) :
  Calls Tryz.prog 90 #[.agg #[.int .i64 d.k, .int .i64 d.n, .string d.s]] w fun e w' => Ans w (inV d) e w' := by
 have hbB : Below w.heap.size w (w.alloc (Obj.cells #[.int .i64 d.k, .int .i64 d.n, .string d.s] 44)) := bR _ _
 obtain ⟨k, n, s⟩ := d
 simp only at *
 by_cases h4 : k = 4
 ·subst h4
  by_cases h0 : n = 0
  ·subst h0
   rw [inV4]
   go_enter Tryz.func90, Tryz.ntmps90
   go_wp2
   go_ret
   exact ⟨rfl, hbB⟩
  ·rw [inV4n n s h0]
   by_cases hs : s.size = 0
   ·obtain rfl := size_zero hs
    go_enter Tryz.func90, Tryz.ntmps90
    go_wp2
    go_ret
    exact ⟨rfl, hbB⟩
   ·have g0 := str_ne hs
    clear hs
    go_enter Tryz.func90, Tryz.ntmps90
    go_wp2
    go_ret
    exact ⟨rfl, hbB⟩
 by_cases hs : s.size = 0
 ·obtain rfl := size_zero hs
  clear hs
  by_cases h1 : k = 1
  ·subst h1
   rw [inV1]
   clear h4
   go_enter Tryz.func90, Tryz.ntmps90
   go_wp2
   go_ret
   exact ⟨rfl, hbB⟩
  by_cases h2 : k = 2
  ·subst h2
   rw [inV2]
   clear h4 h1
   go_enter Tryz.func90, Tryz.ntmps90
   go_wp2
   go_ret
   exact ⟨rfl, hbB⟩
  by_cases h5 : k = 5
  ·subst h5
   rw [inV5]
   clear h4 h1 h2
   go_enter Tryz.func90, Tryz.ntmps90
   go_wp2
   go_ret
   exact ⟨rfl, hbB⟩
  by_cases h6 : k = 6
  ·subst h6
   rw [inV6]
   clear h4 h1 h2 h5
   go_enter Tryz.func90, Tryz.ntmps90
   go_wp2
   go_ret
   exact ⟨rfl, hbB⟩
  by_cases h7 : k = 7
  ·subst h7
   rw [inV7]
   clear h4 h1 h2 h5 h6
   go_enter Tryz.func90, Tryz.ntmps90
   go_wp2
   go_ret
   exact ⟨rfl, hbB⟩
  by_cases h3 : k = 3
  ·subst h3
   clear h4 h1 h2 h5 h6 h7
   by_cases h0 : n = 0
   ·subst h0
    rw [inV3]
    go_enter Tryz.func90, Tryz.ntmps90
    go_wp2
    go_ret
    exact ⟨rfl, hbB⟩
   ·rw [inV3n n h0]
    go_enter Tryz.func90, Tryz.ntmps90
    go_wp2
    go_ret
    exact ⟨rfl, hbB⟩
  ·rw [inV0 k n _ h1 h2 h3 h4 h5 h6 h7]
   go_enter Tryz.func90, Tryz.ntmps90
   go_wp2
   go_ret
   exact ⟨rfl, hbB⟩
 ·rw [inVS k n s h4 hs]
  have g0 := str_ne hs
  clear hs
  go_enter Tryz.func90, Tryz.ntmps90
  go_wp2
  go_ret
  exact ⟨rfl, hbB⟩
theorem fits67 (s : ByteArray) (v : Value) (w : World) (hs : s.size ≤ 1048576) :
  Calls Tryz.prog 190 #[.string s, v] w fun e w' => Ans w (.bool (syL s.data.toList)) e w' := by
 have HSY : Hid (∀ w, Calls Tryz.prog 121 #[.string s] w fun e w' => Ans w (.bool (syL s.data.toList)) e w') := fun w => isSymbol_any s w hs
 go_enter Tryz.func190, Tryz.ntmps190
 go_wp2_with (go_at_call 121; refine (HSY.out _).mono ?_; rintro e w2 ⟨rfl, hb3⟩)
 go_ret
 exact ⟨rfl, hb3⟩
theorem fits68 (v : Value) (w : World) : Calls Tryz.prog 189 #[.agg #[], v] w fun e w' => Ans w (.bool true) e w' := by
 have hbB : Below w.heap.size w (w.alloc (Obj.cells #[] 165)) := bR _ _
 go_enter Tryz.func189, Tryz.ntmps189
 go_wp2
 go_ret
 exact ⟨rfl, by first | exact hbB | exact Below.refl _ _⟩
theorem fits69 (n : Int) (v : Value) (w : World) : Calls Tryz.prog 187 #[.int .i64 n, v] w fun e w' => Ans w (.bool (decide (-1000000 ≤ n) && decide (n ≤ 1000000))) e w' := by
 by_cases e1 : -1000000 ≤ n
 ·rw [decide_eq_true e1]
  go_enter Tryz.func187, Tryz.ntmps187
  go_wp2
  go_ret
  exact ⟨by simp, Below.refl _ _⟩
 ·rw [decide_eq_false e1]
  go_enter Tryz.func187, Tryz.ntmps187
  go_wp2
  go_ret
  exact ⟨by simp, Below.refl _ _⟩
theorem fits70 (n : Int) (v : Value) (w : World) : Calls Tryz.prog 188 #[.int .i64 n, v] w fun e w' => Ans w (.bool (decide (n = 0) || decide (n = 1))) e w' := by
 by_cases e1 : n = 0
 ·subst e1
  go_enter Tryz.func188, Tryz.ntmps188
  go_wp2
  go_ret
  exact ⟨by simp, Below.refl _ _⟩
 ·rw [decide_eq_false e1]
  by_cases e2 : n = 1
  ·subst e2
   go_enter Tryz.func188, Tryz.ntmps188
   go_wp2
   go_ret
   exact ⟨by simp, Below.refl _ _⟩
  ·rw [decide_eq_false e2]
   go_enter Tryz.func188, Tryz.ntmps188
   go_wp2
   go_ret
   exact ⟨by simp [e1, e2], Below.refl _ _⟩
theorem fits71 (a : Option Addr) (h : List Cel) (ca : Nat) (n : Int) (w : World) (hl : h.length ≤ 1048576) (hr : RowC w w.heap.size a h) :
  Calls Tryz.prog 191 #[.int .i64 n, .slice a h.length ca] w fun e w' => Ans w (.bool (cellB h n 1)) e w' := by
 have HCE : Hid (Calls Tryz.prog 192 #[.slice a h.length ca, .int .i64 n, .int .i64 1] w fun e w' => e = .returned (.bool (cellB h n 1)) ∧ w' = w) := isCell_any a h ca n 1 w hl hr
 clear hr
 go_enter Tryz.func191, Tryz.ntmps191
 go_wp2_with (go_at_call 192; refine HCE.out.mono ?_; rintro e w2 ⟨rfl, rfl⟩)
 go_ret
 exact ⟨rfl, Below.refl _ _⟩
theorem fits73 (a : Option Addr) (h : List Cel) (ca : Nat) (n : Int) (w : World) (hl : h.length ≤ 1048576) (hr : RowC w w.heap.size a h) :
  Calls Tryz.prog 193 #[.int .i64 n, .slice a h.length ca] w fun e w' => Ans w (.bool (cellB h n 2)) e w' := by
 have HCE : Hid (Calls Tryz.prog 192 #[.slice a h.length ca, .int .i64 n, .int .i64 2] w fun e w' => e = .returned (.bool (cellB h n 2)) ∧ w' = w) := isCell_any a h ca n 2 w hl hr
 clear hr
 go_enter Tryz.func193, Tryz.ntmps193
 go_wp2_with (go_at_call 192; refine HCE.out.mono ?_; rintro e w2 ⟨rfl, rfl⟩)
 go_ret
 exact ⟨rfl, Below.refl _ _⟩
theorem fits74 (a : Option Addr) (h : List Cel) (ca : Nat) (n : Int) (w : World) (hl : h.length ≤ 1048576) (hr : RowC w w.heap.size a h) :
  Calls Tryz.prog 194 #[.int .i64 n, .slice a h.length ca] w fun e w' => Ans w (.bool (cellB h n 3)) e w' := by
 have HCE : Hid (Calls Tryz.prog 192 #[.slice a h.length ca, .int .i64 n, .int .i64 3] w fun e w' => e = .returned (.bool (cellB h n 3)) ∧ w' = w) := isCell_any a h ca n 3 w hl hr
 clear hr
 go_enter Tryz.func194, Tryz.ntmps194
 go_wp2_with (go_at_call 192; refine HCE.out.mono ?_; rintro e w2 ⟨rfl, rfl⟩)
 go_ret
 exact ⟨rfl, Below.refl _ _⟩
theorem implVal_any (d : Val) (a : Option Addr) (h : List Cel) (ca : Nat) (w : World) (hl : h.length ≤ 1048576) (hs : d.s.size ≤ 1048576) (hr : RowC w w.heap.size a h) :
  Calls Tryz.prog 85 #[.slice a h.length ca, .agg #[.int .i64 d.k, .int .i64 d.n, .string d.s]] w fun e w' => Ans w (.bool (d.ok h)) e w' := by
 have hbB : Below w.heap.size w (w.alloc (Obj.cells #[.int .i64 d.k, .int .i64 d.n, .string d.s] 44)) := bR _ _
 have HSY : Hid (∀ v w, Calls Tryz.prog 190 #[.string d.s, v] w fun e w' => Ans w (.bool (syL d.s.data.toList)) e w') := fun v w => fits67 d.s v w hs
 have HIN : Hid (∀ w, Calls Tryz.prog 90 #[.agg #[.int .i64 d.k, .int .i64 d.n, .string d.s]] w fun e w' => Ans w (inV d) e w') := fun w => innerOf_any d w
 have HC5 : Hid (∀ (n : Int) w1, Below w.heap.size w w1 → Calls Tryz.prog 191 #[.int .i64 n, .slice a h.length ca] w1 fun e w' => Ans w1 (.bool (cellB h n 1)) e w') := fun n w1 hb => fits71 a h ca n w1 hl ((hr.below hb).mono hb.size)
 have HC6 : Hid (∀ (n : Int) w1, Below w.heap.size w w1 → Calls Tryz.prog 193 #[.int .i64 n, .slice a h.length ca] w1 fun e w' => Ans w1 (.bool (cellB h n 2)) e w') := fun n w1 hb => fits73 a h ca n w1 hl ((hr.below hb).mono hb.size)
 have HC7 : Hid (∀ (n : Int) w1, Below w.heap.size w w1 → Calls Tryz.prog 194 #[.int .i64 n, .slice a h.length ca] w1 fun e w' => Ans w1 (.bool (cellB h n 3)) e w') := fun n w1 hb => fits74 a h ca n w1 hl ((hr.below hb).mono hb.size)
 clear hr
 obtain ⟨k, n, s⟩ := d
 simp only at *
 by_cases h4 : k = 4
 ·subst h4
  by_cases h0 : n = 0
  ·subst h0
   rw [inV4] at HIN
   have HQ : Hid (Val.ok h ⟨4, 0, s⟩ = syL s.data.toList) := by show _ = _; rw [vok4 rfl]; simp
   rw [HQ.out]
   have hm : ∀ w : World, (method 368 166 (.string s) "loop.example/g00765/impl.fits").run Tryz.prog w = .ok (190, (.string s)) w := fun _ => by kernel_rfl
   go_enter Tryz.func85, Tryz.ntmps85
   go_wp2_with (first | (go_at_call 90; refine (HIN.out _).mono ?_; rintro e w1 ⟨rfl, hb1⟩; have hb2 := bT hbB hb1) | (go_at_call 190; refine (HSY.out _ _).mono ?_; rintro e w2 ⟨rfl, hb3⟩))
   go_ret
   exact ⟨rfl, bT hb2 hb3⟩
  ·rw [inV4n n s h0] at HIN
   have HQ : Hid (Val.ok h ⟨4, n, s⟩ = false) := by show _ = _; rw [vok4 rfl]; simp [h0]
   rw [HQ.out]
   go_enter Tryz.func85, Tryz.ntmps85
   go_wp2_with (go_at_call 90; refine (HIN.out _).mono ?_; rintro e w1 ⟨rfl, hb1⟩; have hb2 := bT hbB hb1)
   go_ret
   exact ⟨rfl, hb2⟩
 by_cases h0 : s.size = 0
 ·obtain rfl := size_zero h0
  clear h0
  by_cases h1 : k = 1
  ·subst h1
   rw [inV1] at HIN
   have HQ : Hid (Val.ok h ⟨1, n, ⟨#[]⟩⟩ = (decide (-1000000 ≤ n) && decide (n ≤ 1000000))) := vok1 rfl rfl
   rw [HQ.out]
   clear HQ h4
   have hm : ∀ w : World, (method 368 161 (.int .i64 n) "loop.example/g00765/impl.fits").run Tryz.prog w = .ok (187, (.int .i64 n)) w := fun _ => by kernel_rfl
   have HF : Hid (∀ v w, Calls Tryz.prog 187 #[.int .i64 n, v] w fun e w' => Ans w (.bool (decide (-1000000 ≤ n) && decide (n ≤ 1000000))) e w') := fun v w => fits69 n v w
   go_enter Tryz.func85, Tryz.ntmps85
   go_wp2_with (first | (go_at_call 90; refine (HIN.out _).mono ?_; rintro e w1 ⟨rfl, hb1⟩; have hb2 := bT hbB hb1) | (go_at_call 187; refine (HF.out _ _).mono ?_; rintro e w2 ⟨rfl, hb3⟩))
   go_ret
   exact ⟨rfl, bT hb2 hb3⟩
  by_cases h2 : k = 2
  ·subst h2
   rw [inV2] at HIN
   have HQ : Hid (Val.ok h ⟨2, n, ⟨#[]⟩⟩ = (decide (n = 0) || decide (n = 1))) := vok2 rfl rfl
   rw [HQ.out]
   clear HQ h4 h1
   have hm : ∀ w : World, (method 368 163 (.int .i64 n) "loop.example/g00765/impl.fits").run Tryz.prog w = .ok (188, (.int .i64 n)) w := fun _ => by kernel_rfl
   have HF : Hid (∀ v w, Calls Tryz.prog 188 #[.int .i64 n, v] w fun e w' => Ans w (.bool (decide (n = 0) || decide (n = 1))) e w') := fun v w => fits70 n v w
   go_enter Tryz.func85, Tryz.ntmps85
   go_wp2_with (first | (go_at_call 90; refine (HIN.out _).mono ?_; rintro e w1 ⟨rfl, hb1⟩; have hb2 := bT hbB hb1) | (go_at_call 188; refine (HF.out _ _).mono ?_; rintro e w2 ⟨rfl, hb3⟩))
   go_ret
   exact ⟨rfl, bT hb2 hb3⟩
  by_cases h3 : k = 3
  ·subst h3
   have HQ : Hid (Val.ok h ⟨3, n, ⟨#[]⟩⟩ = decide (n = 0)) := vok3 rfl rfl
   rw [HQ.out]
   clear HQ h4 h1 h2
   by_cases h0 : n = 0
   ·subst h0
    rw [inV3] at HIN
    have hm : ∀ w : World, (method 368 165 (.agg #[]) "loop.example/g00765/impl.fits").run Tryz.prog w = .ok (189, (.agg #[])) w := fun _ => by kernel_rfl
    go_enter Tryz.func85, Tryz.ntmps85
    go_wp2_with (first | (go_at_call 90; refine (HIN.out _).mono ?_; rintro e w1 ⟨rfl, hb1⟩; have hb2 := bT hbB hb1) | (go_at_call 189; refine (fits68 _ _).mono ?_; rintro e w2 ⟨rfl, hb3⟩))
    go_ret
    exact ⟨rfl, bT hb2 hb3⟩
   ·rw [decide_eq_false h0]
    rw [inV3n n h0] at HIN
    go_enter Tryz.func85, Tryz.ntmps85
    go_wp2_with (go_at_call 90; refine (HIN.out _).mono ?_; rintro e w1 ⟨rfl, hb1⟩; have hb2 := bT hbB hb1)
    go_ret
    exact ⟨rfl, hb2⟩
  by_cases h5 : k = 5
  ·subst h5
   rw [inV5] at HIN
   have HQ : Hid (Val.ok h ⟨5, n, ⟨#[]⟩⟩ = cellB h n 1) := vok5 rfl rfl
   rw [HQ.out]
   clear HQ h4 h1 h2 h3
   have hm : ∀ w : World, (method 368 167 (.int .i64 n) "loop.example/g00765/impl.fits").run Tryz.prog w = .ok (191, (.int .i64 n)) w := fun _ => by kernel_rfl
   go_enter Tryz.func85, Tryz.ntmps85
   go_wp2_with (first | (go_at_call 90; refine (HIN.out _).mono ?_; rintro e w1 ⟨rfl, hb1⟩; have hb2 := bT hbB hb1) | (go_at_call 191; refine (HC5.out _ _ hb2).mono ?_; rintro e w2 ⟨rfl, hb3⟩))
   go_ret
   exact ⟨rfl, bT hb2 hb3⟩
  by_cases h6 : k = 6
  ·subst h6
   rw [inV6] at HIN
   have HQ : Hid (Val.ok h ⟨6, n, ⟨#[]⟩⟩ = cellB h n 2) := vok6 rfl rfl
   rw [HQ.out]
   clear HQ h4 h1 h2 h3 h5
   have hm : ∀ w : World, (method 368 169 (.int .i64 n) "loop.example/g00765/impl.fits").run Tryz.prog w = .ok (193, (.int .i64 n)) w := fun _ => by kernel_rfl
   go_enter Tryz.func85, Tryz.ntmps85
   go_wp2_with (first | (go_at_call 90; refine (HIN.out _).mono ?_; rintro e w1 ⟨rfl, hb1⟩; have hb2 := bT hbB hb1) | (go_at_call 193; refine (HC6.out _ _ hb2).mono ?_; rintro e w2 ⟨rfl, hb3⟩))
   go_ret
   exact ⟨rfl, bT hb2 hb3⟩
  by_cases h7 : k = 7
  ·subst h7
   rw [inV7] at HIN
   have HQ : Hid (Val.ok h ⟨7, n, ⟨#[]⟩⟩ = cellB h n 3) := vok7 rfl rfl
   rw [HQ.out]
   clear HQ h4 h1 h2 h3 h5 h6
   have hm : ∀ w : World, (method 368 170 (.int .i64 n) "loop.example/g00765/impl.fits").run Tryz.prog w = .ok (194, (.int .i64 n)) w := fun _ => by kernel_rfl
   go_enter Tryz.func85, Tryz.ntmps85
   go_wp2_with (first | (go_at_call 90; refine (HIN.out _).mono ?_; rintro e w1 ⟨rfl, hb1⟩; have hb2 := bT hbB hb1) | (go_at_call 194; refine (HC7.out _ _ hb2).mono ?_; rintro e w2 ⟨rfl, hb3⟩))
   go_ret
   exact ⟨rfl, bT hb2 hb3⟩
  ·rw [inV0 k n _ h1 h2 h3 h4 h5 h6 h7] at HIN
   have HQ : Hid (Val.ok h ⟨k, n, ⟨#[]⟩⟩ = false) := vok0 h1 h2 h3 h4 h5 h6 h7
   rw [HQ.out]
   go_enter Tryz.func85, Tryz.ntmps85
   go_wp2_with (go_at_call 90; refine (HIN.out _).mono ?_; rintro e w1 ⟨rfl, hb1⟩; have hb2 := bT hbB hb1)
   go_ret
   exact ⟨rfl, hb2⟩
 ·rw [inVS k n s h4 h0] at HIN
  have HQ : Hid (Val.ok h ⟨k, n, s⟩ = false) := vokS h4 h0
  rw [HQ.out]
  clear HQ h0
  go_enter Tryz.func85, Tryz.ntmps85
  go_wp2_with (go_at_call 90; refine (HIN.out _).mono ?_; rintro e w1 ⟨rfl, hb1⟩; have hb2 := bT hbB hb1)
  go_ret
  exact ⟨rfl, hb2⟩
end Go.Proofs.YtlacidojljilaaaGreatDoor
