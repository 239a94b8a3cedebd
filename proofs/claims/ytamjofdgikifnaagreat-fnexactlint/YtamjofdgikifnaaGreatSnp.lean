/- The model's look at a node, whole. -/
import Derived.Test.YtamjofdgikifnaaGreatSno
namespace Go.Proofs.YtamjofdgikifnaaGreat
open Go.ChangeShapes Go.WideShapes Go.ChangeAt Go.RowKit
set_option linter.unusedVariables false
set_option maxRecDepth 100000 in
set_option maxHeartbeats 2000000 in
theorem node_1 (n : Int) (s : ByteArray) (an aa : Option Addr) (ts : List ByteArray) (la cn ca : Nat) (w : World) (hs : s.size ≤ 1048576) (hln : ts.length ≤ 1048576) (hla : la ≤ 1048576) (hcap : ts.length ≤ cn)
  (hr : RowS w w.heap.size an ts) (hsz : ∀ x ∈ ts, x.size ≤ 1048576) :
  Calls Tryz.prog 84 #[.agg #[.int .i64 1, .int .i64 n, .string s, .slice an ts.length cn, .slice aa la ca]] w fun e w' => Ans w (.bool (spB 1 n s ts.length la (nmA ts))) e w' := by
 have HE : Hid (s.data.toList = s.toList) := by show _ = _; rw [ByteArray.toList_eq]
 have HI : Hid (∀ w, Calls Tryz.prog 57 #[.int .i64 n, .int .i64 (-1000000), .int .i64 1000000] w fun e w' => e = .returned (.bool (decide ((-1000000) ≤ n) && decide (n ≤ 1000000))) ∧ w' = w) := fun w => l1In_any n (-1000000) 1000000 w
 have hbB : Below w.heap.size w (w.alloc (Obj.cells #[.int .i64 1, .int .i64 n, .string s, .slice an ts.length cn, .slice aa la ca] 96)) := (Below.refl _ _).alloc (Nat.le_refl _) _
 generalize hsp : spB 1 n s ts.length la (nmA ts) = sp
 clear hr hsz HE
 by_cases h1 : ts.length = 0
 ·obtain rfl : ts = [] := List.eq_nil_of_length_eq_zero h1
  simp only [List.length_nil] at *
  clear h1
  by_cases h2 : la = 0
  ·subst h2
   cases g3 : s.toList.isEmpty
   ·have HV : Hid (sp = false) := by show _ = _; rw [← hsp]; simp [spB, g3]
    clear hsp
    go_enter Tryz.func84, Tryz.ntmps84
    go_wp2_with (first | (go_at_call 57; refine (HI.out _).mono ?_; rintro e w1 ⟨rfl, rfl⟩))
    go_ret
    exact ⟨by rw [HV.out]; rfl, hbB⟩
   ·skip
    have HV : Hid (sp = (decide (-1000000 ≤ n) && decide (n ≤ 1000000))) := by show _ = _; rw [← hsp]; simp [spB, g3]
    clear hsp
    generalize (decide (-1000000 ≤ n) && decide (n ≤ 1000000)) = z at *
    go_enter Tryz.func84, Tryz.ntmps84
    go_wp2_with (first | (go_at_call 57; refine (HI.out _).mono ?_; rintro e w1 ⟨rfl, rfl⟩))
    go_ret
    exact ⟨by rw [HV.out]; rfl, hbB⟩
  ·have g2 : ((la : Int) == 0) = false := by simp; omega
   have HV : Hid (sp = false) := by show _ = _; rw [← hsp]; simp [spB, h2]
   clear hsp h2
   go_enter Tryz.func84, Tryz.ntmps84
   go_wp2_with (first | (go_at_call 57; refine (HI.out _).mono ?_; rintro e w1 ⟨rfl, rfl⟩))
   go_ret
   exact ⟨by rw [HV.out]; rfl, hbB⟩
 ·have g1 : ((ts.length : Int) == 0) = false := by simp; intro h; exact h1 (by simp [h])
  have HV : Hid (sp = false) := by show _ = _; rw [← hsp]; simp [spB, h1]
  clear hsp h1
  go_enter Tryz.func84, Tryz.ntmps84
  go_wp2_with (first | (go_at_call 57; refine (HI.out _).mono ?_; rintro e w1 ⟨rfl, rfl⟩))
  go_ret
  exact ⟨by rw [HV.out]; rfl, hbB⟩
set_option maxRecDepth 100000 in
set_option maxHeartbeats 2000000 in
theorem node_2 (n : Int) (s : ByteArray) (an aa : Option Addr) (ts : List ByteArray) (la cn ca : Nat) (w : World) (hs : s.size ≤ 1048576) (hln : ts.length ≤ 1048576) (hla : la ≤ 1048576) (hcap : ts.length ≤ cn)
  (hr : RowS w w.heap.size an ts) (hsz : ∀ x ∈ ts, x.size ≤ 1048576) :
  Calls Tryz.prog 84 #[.agg #[.int .i64 2, .int .i64 n, .string s, .slice an ts.length cn, .slice aa la ca]] w fun e w' => Ans w (.bool (spB 2 n s ts.length la (nmA ts))) e w' := by
 have HE : Hid (s.data.toList = s.toList) := by show _ = _; rw [ByteArray.toList_eq]
 have HI : Hid (∀ w, Calls Tryz.prog 57 #[.int .i64 n, .int .i64 0, .int .i64 1] w fun e w' => e = .returned (.bool (decide (0 ≤ n) && decide (n ≤ 1))) ∧ w' = w) := fun w => l1In_any n 0 1 w
 have hbB : Below w.heap.size w (w.alloc (Obj.cells #[.int .i64 2, .int .i64 n, .string s, .slice an ts.length cn, .slice aa la ca] 96)) := (Below.refl _ _).alloc (Nat.le_refl _) _
 generalize hsp : spB 2 n s ts.length la (nmA ts) = sp
 clear hr hsz HE
 by_cases h1 : ts.length = 0
 ·obtain rfl : ts = [] := List.eq_nil_of_length_eq_zero h1
  simp only [List.length_nil] at *
  clear h1
  by_cases h2 : la = 0
  ·subst h2
   cases g3 : s.toList.isEmpty
   ·have HV : Hid (sp = false) := by show _ = _; rw [← hsp]; simp [spB, g3]
    clear hsp
    go_enter Tryz.func84, Tryz.ntmps84
    go_wp2_with (first | (go_at_call 57; refine (HI.out _).mono ?_; rintro e w1 ⟨rfl, rfl⟩))
    go_ret
    exact ⟨by rw [HV.out]; rfl, hbB⟩
   ·skip
    have HV : Hid (sp = (decide (0 ≤ n) && decide (n ≤ 1))) := by show _ = _; rw [← hsp]; simp [spB, g3]
    clear hsp
    generalize (decide (0 ≤ n) && decide (n ≤ 1)) = z at *
    go_enter Tryz.func84, Tryz.ntmps84
    go_wp2_with (first | (go_at_call 57; refine (HI.out _).mono ?_; rintro e w1 ⟨rfl, rfl⟩))
    go_ret
    exact ⟨by rw [HV.out]; rfl, hbB⟩
  ·have g2 : ((la : Int) == 0) = false := by simp; omega
   have HV : Hid (sp = false) := by show _ = _; rw [← hsp]; simp [spB, h2]
   clear hsp h2
   go_enter Tryz.func84, Tryz.ntmps84
   go_wp2_with (first | (go_at_call 57; refine (HI.out _).mono ?_; rintro e w1 ⟨rfl, rfl⟩))
   go_ret
   exact ⟨by rw [HV.out]; rfl, hbB⟩
 ·have g1 : ((ts.length : Int) == 0) = false := by simp; intro h; exact h1 (by simp [h])
  have HV : Hid (sp = false) := by show _ = _; rw [← hsp]; simp [spB, h1]
  clear hsp h1
  go_enter Tryz.func84, Tryz.ntmps84
  go_wp2_with (first | (go_at_call 57; refine (HI.out _).mono ?_; rintro e w1 ⟨rfl, rfl⟩))
  go_ret
  exact ⟨by rw [HV.out]; rfl, hbB⟩
set_option maxRecDepth 100000 in
set_option maxHeartbeats 2000000 in
theorem node_3 (n : Int) (s : ByteArray) (an aa : Option Addr) (ts : List ByteArray) (la cn ca : Nat) (w : World) (hs : s.size ≤ 1048576) (hln : ts.length ≤ 1048576) (hla : la ≤ 1048576) (hcap : ts.length ≤ cn)
  (hr : RowS w w.heap.size an ts) (hsz : ∀ x ∈ ts, x.size ≤ 1048576) :
  Calls Tryz.prog 84 #[.agg #[.int .i64 3, .int .i64 n, .string s, .slice an ts.length cn, .slice aa la ca]] w fun e w' => Ans w (.bool (spB 3 n s ts.length la (nmA ts))) e w' := by
 have HE : Hid (s.data.toList = s.toList) := by show _ = _; rw [ByteArray.toList_eq]
 have hbB : Below w.heap.size w (w.alloc (Obj.cells #[.int .i64 3, .int .i64 n, .string s, .slice an ts.length cn, .slice aa la ca] 96)) := (Below.refl _ _).alloc (Nat.le_refl _) _
 generalize hsp : spB 3 n s ts.length la (nmA ts) = sp
 clear hr hsz HE
 by_cases h1 : ts.length = 0
 ·obtain rfl : ts = [] := List.eq_nil_of_length_eq_zero h1
  simp only [List.length_nil] at *
  clear h1
  by_cases h2 : la = 0
  ·subst h2
   cases g3 : s.toList.isEmpty
   ·have HV : Hid (sp = false) := by show _ = _; rw [← hsp]; simp [spB, g3]
    clear hsp
    go_enter Tryz.func84, Tryz.ntmps84
    go_wp2
    go_ret
    exact ⟨by rw [HV.out]; rfl, hbB⟩
   ·skip
    by_cases hn : n = 0
    ·have g4 : (n == 0) = true := by simp [hn]
     have HV : Hid (sp = true) := by show _ = _; rw [← hsp]; simp [spB, g3, hn]
     clear hsp hn
     go_enter Tryz.func84, Tryz.ntmps84
     go_wp2
     go_ret
     exact ⟨by rw [HV.out]; rfl, hbB⟩
    ·have g4 : (n == 0) = false := by simp [hn]
     have HV : Hid (sp = false) := by show _ = _; rw [← hsp]; simp [spB, hn]
     clear hsp hn
     go_enter Tryz.func84, Tryz.ntmps84
     go_wp2
     go_ret
     exact ⟨by rw [HV.out]; rfl, hbB⟩
  ·have g2 : ((la : Int) == 0) = false := by simp; omega
   have HV : Hid (sp = false) := by show _ = _; rw [← hsp]; simp [spB, h2]
   clear hsp h2
   go_enter Tryz.func84, Tryz.ntmps84
   go_wp2
   go_ret
   exact ⟨by rw [HV.out]; rfl, hbB⟩
 ·have g1 : ((ts.length : Int) == 0) = false := by simp; intro h; exact h1 (by simp [h])
  have HV : Hid (sp = false) := by show _ = _; rw [← hsp]; simp [spB, h1]
  clear hsp h1
  go_enter Tryz.func84, Tryz.ntmps84
  go_wp2
  go_ret
  exact ⟨by rw [HV.out]; rfl, hbB⟩
set_option maxRecDepth 100000 in
set_option maxHeartbeats 2000000 in
theorem node_4 (n : Int) (s : ByteArray) (an aa : Option Addr) (ts : List ByteArray) (la cn ca : Nat) (w : World) (hs : s.size ≤ 1048576) (hln : ts.length ≤ 1048576) (hla : la ≤ 1048576) (hcap : ts.length ≤ cn)
  (hr : RowS w w.heap.size an ts) (hsz : ∀ x ∈ ts, x.size ≤ 1048576) :
  Calls Tryz.prog 84 #[.agg #[.int .i64 4, .int .i64 n, .string s, .slice an ts.length cn, .slice aa la ca]] w fun e w' => Ans w (.bool (spB 4 n s ts.length la (nmA ts))) e w' := by
 have HE : Hid (s.data.toList = s.toList) := by show _ = _; rw [ByteArray.toList_eq]
 have HY : Hid (∀ w, Calls Tryz.prog 80 #[.string s] w fun e w' => Ans w (.bool (syL s.toList)) e w') := fun w => by rw [← HE.out]; exact l2Sym_any s w hs
 have hbB : Below w.heap.size w (w.alloc (Obj.cells #[.int .i64 4, .int .i64 n, .string s, .slice an ts.length cn, .slice aa la ca] 96)) := (Below.refl _ _).alloc (Nat.le_refl _) _
 generalize hsp : spB 4 n s ts.length la (nmA ts) = sp
 clear hr hsz HE
 by_cases h1 : ts.length = 0
 ·obtain rfl : ts = [] := List.eq_nil_of_length_eq_zero h1
  simp only [List.length_nil] at *
  clear h1
  by_cases h2 : la = 0
  ·subst h2
   cases g3 : syL s.toList
   ·rw [g3] at HY
    have HV : Hid (sp = false) := by show _ = _; rw [← hsp]; simp [spB, g3]
    clear hsp g3
    go_enter Tryz.func84, Tryz.ntmps84
    go_wp2_with (first | (go_at_call 80; refine (HY.out _).mono ?_; rintro e w1 ⟨rfl, hb1⟩; have d1 := cell_keepN (cell_blk (j := 1) (blk_alloc w (Obj.cells #[.int .i64 4, .int .i64 n, .string s, .slice an 0 cn, .slice aa 0 ca] 96)) rfl) hb1 (by simp)))
    go_ret
    exact ⟨by rw [HV.out]; rfl, hbB.trans (hb1.mono hbB.size)⟩
   ·rw [g3] at HY
    by_cases hn : n = 0
    ·have g4 : (n == 0) = true := by simp [hn]
     have HV : Hid (sp = true) := by show _ = _; rw [← hsp]; simp [spB, g3, hn]
     clear hsp hn g3
     go_enter Tryz.func84, Tryz.ntmps84
     go_wp2_with (first | (go_at_call 80; refine (HY.out _).mono ?_; rintro e w1 ⟨rfl, hb1⟩; have d1 := cell_keepN (cell_blk (j := 1) (blk_alloc w (Obj.cells #[.int .i64 4, .int .i64 n, .string s, .slice an 0 cn, .slice aa 0 ca] 96)) rfl) hb1 (by simp)))
     go_ret
     exact ⟨by rw [HV.out]; rfl, hbB.trans (hb1.mono hbB.size)⟩
    ·have g4 : (n == 0) = false := by simp [hn]
     have HV : Hid (sp = false) := by show _ = _; rw [← hsp]; simp [spB, hn]
     clear hsp hn g3
     go_enter Tryz.func84, Tryz.ntmps84
     go_wp2_with (first | (go_at_call 80; refine (HY.out _).mono ?_; rintro e w1 ⟨rfl, hb1⟩; have d1 := cell_keepN (cell_blk (j := 1) (blk_alloc w (Obj.cells #[.int .i64 4, .int .i64 n, .string s, .slice an 0 cn, .slice aa 0 ca] 96)) rfl) hb1 (by simp)))
     go_ret
     exact ⟨by rw [HV.out]; rfl, hbB.trans (hb1.mono hbB.size)⟩
  ·have g2 : ((la : Int) == 0) = false := by simp; omega
   have HV : Hid (sp = false) := by show _ = _; rw [← hsp]; simp [spB, h2]
   clear hsp h2
   go_enter Tryz.func84, Tryz.ntmps84
   go_wp2_with (first | (go_at_call 80; refine (HY.out _).mono ?_; rintro e w1 ⟨rfl, hb1⟩; have d1 := cell_keepN (cell_blk (j := 1) (blk_alloc w (Obj.cells #[.int .i64 4, .int .i64 n, .string s, .slice an 0 cn, .slice aa la ca] 96)) rfl) hb1 (by simp)))
   go_ret
   exact ⟨by rw [HV.out]; rfl, hbB⟩
 ·have g1 : ((ts.length : Int) == 0) = false := by simp; intro h; exact h1 (by simp [h])
  have HV : Hid (sp = false) := by show _ = _; rw [← hsp]; simp [spB, h1]
  clear hsp h1
  go_enter Tryz.func84, Tryz.ntmps84
  go_wp2_with (first | (go_at_call 80; refine (HY.out _).mono ?_; rintro e w1 ⟨rfl, hb1⟩; have d1 := cell_keepN (cell_blk (j := 1) (blk_alloc w (Obj.cells #[.int .i64 4, .int .i64 n, .string s, .slice an ts.length cn, .slice aa la ca] 96)) rfl) hb1 (by simp)))
  go_ret
  exact ⟨by rw [HV.out]; rfl, hbB⟩
set_option maxRecDepth 100000 in
set_option maxHeartbeats 2000000 in
theorem node_5 (n : Int) (s : ByteArray) (an aa : Option Addr) (ts : List ByteArray) (la cn ca : Nat) (w : World) (hs : s.size ≤ 1048576) (hln : ts.length ≤ 1048576) (hla : la ≤ 1048576) (hcap : ts.length ≤ cn)
  (hr : RowS w w.heap.size an ts) (hsz : ∀ x ∈ ts, x.size ≤ 1048576) :
  Calls Tryz.prog 84 #[.agg #[.int .i64 5, .int .i64 n, .string s, .slice an ts.length cn, .slice aa la ca]] w fun e w' => Ans w (.bool (spB 5 n s ts.length la (nmA ts))) e w' := by
 have HE : Hid (s.data.toList = s.toList) := by show _ = _; rw [ByteArray.toList_eq]
 have HN : Hid (∀ w, Calls Tryz.prog 51 #[.string s] w fun e w' => Ans w (.bool (naL s.toList)) e w') := fun w => specNa_any s w hs
 have hbB : Below w.heap.size w (w.alloc (Obj.cells #[.int .i64 5, .int .i64 n, .string s, .slice an ts.length cn, .slice aa la ca] 96)) := (Below.refl _ _).alloc (Nat.le_refl _) _
 generalize hsp : spB 5 n s ts.length la (nmA ts) = sp
 clear hr hsz HE
 by_cases h1 : ts.length = 0
 ·obtain rfl : ts = [] := List.eq_nil_of_length_eq_zero h1
  simp only [List.length_nil] at *
  clear h1
  by_cases h2 : la = 0
  ·subst h2
   cases g3 : naL s.toList
   ·rw [g3] at HN
    have HV : Hid (sp = false) := by show _ = _; rw [← hsp]; simp [spB, g3]
    clear hsp g3
    go_enter Tryz.func84, Tryz.ntmps84
    go_wp2_with (first | (go_at_call 51; refine (HN.out _).mono ?_; rintro e w1 ⟨rfl, hb1⟩; have d1 := cell_keepN (cell_blk (j := 1) (blk_alloc w (Obj.cells #[.int .i64 5, .int .i64 n, .string s, .slice an 0 cn, .slice aa 0 ca] 96)) rfl) hb1 (by simp)))
    go_ret
    exact ⟨by rw [HV.out]; rfl, hbB.trans (hb1.mono hbB.size)⟩
   ·rw [g3] at HN
    by_cases hn : n = 0
    ·have g4 : (n == 0) = true := by simp [hn]
     have HV : Hid (sp = true) := by show _ = _; rw [← hsp]; simp [spB, g3, hn]
     clear hsp hn g3
     go_enter Tryz.func84, Tryz.ntmps84
     go_wp2_with (first | (go_at_call 51; refine (HN.out _).mono ?_; rintro e w1 ⟨rfl, hb1⟩; have d1 := cell_keepN (cell_blk (j := 1) (blk_alloc w (Obj.cells #[.int .i64 5, .int .i64 n, .string s, .slice an 0 cn, .slice aa 0 ca] 96)) rfl) hb1 (by simp)))
     go_ret
     exact ⟨by rw [HV.out]; rfl, hbB.trans (hb1.mono hbB.size)⟩
    ·have g4 : (n == 0) = false := by simp [hn]
     have HV : Hid (sp = false) := by show _ = _; rw [← hsp]; simp [spB, hn]
     clear hsp hn g3
     go_enter Tryz.func84, Tryz.ntmps84
     go_wp2_with (first | (go_at_call 51; refine (HN.out _).mono ?_; rintro e w1 ⟨rfl, hb1⟩; have d1 := cell_keepN (cell_blk (j := 1) (blk_alloc w (Obj.cells #[.int .i64 5, .int .i64 n, .string s, .slice an 0 cn, .slice aa 0 ca] 96)) rfl) hb1 (by simp)))
     go_ret
     exact ⟨by rw [HV.out]; rfl, hbB.trans (hb1.mono hbB.size)⟩
  ·have g2 : ((la : Int) == 0) = false := by simp; omega
   have HV : Hid (sp = false) := by show _ = _; rw [← hsp]; simp [spB, h2]
   clear hsp h2
   go_enter Tryz.func84, Tryz.ntmps84
   go_wp2_with (first | (go_at_call 51; refine (HN.out _).mono ?_; rintro e w1 ⟨rfl, hb1⟩; have d1 := cell_keepN (cell_blk (j := 1) (blk_alloc w (Obj.cells #[.int .i64 5, .int .i64 n, .string s, .slice an 0 cn, .slice aa la ca] 96)) rfl) hb1 (by simp)))
   go_ret
   exact ⟨by rw [HV.out]; rfl, hbB⟩
 ·have g1 : ((ts.length : Int) == 0) = false := by simp; intro h; exact h1 (by simp [h])
  have HV : Hid (sp = false) := by show _ = _; rw [← hsp]; simp [spB, h1]
  clear hsp h1
  go_enter Tryz.func84, Tryz.ntmps84
  go_wp2_with (first | (go_at_call 51; refine (HN.out _).mono ?_; rintro e w1 ⟨rfl, hb1⟩; have d1 := cell_keepN (cell_blk (j := 1) (blk_alloc w (Obj.cells #[.int .i64 5, .int .i64 n, .string s, .slice an ts.length cn, .slice aa la ca] 96)) rfl) hb1 (by simp)))
  go_ret
  exact ⟨by rw [HV.out]; rfl, hbB⟩
set_option maxRecDepth 100000 in
set_option maxHeartbeats 2000000 in
theorem node_6 (n : Int) (s : ByteArray) (an aa : Option Addr) (ts : List ByteArray) (la cn ca : Nat) (w : World) (hs : s.size ≤ 1048576) (hln : ts.length ≤ 1048576) (hla : la ≤ 1048576) (hcap : ts.length ≤ cn)
  (hr : RowS w w.heap.size an ts) (hsz : ∀ x ∈ ts, x.size ≤ 1048576) :
  Calls Tryz.prog 84 #[.agg #[.int .i64 6, .int .i64 n, .string s, .slice an ts.length cn, .slice aa la ca]] w fun e w' => Ans w (.bool (spB 6 n s ts.length la (nmA ts))) e w' := by
 have HE : Hid (s.data.toList = s.toList) := by show _ = _; rw [ByteArray.toList_eq]
 have hbB : Below w.heap.size w (w.alloc (Obj.cells #[.int .i64 6, .int .i64 n, .string s, .slice an ts.length cn, .slice aa la ca] 96)) := (Below.refl _ _).alloc (Nat.le_refl _) _
 generalize hsp : spB 6 n s ts.length la (nmA ts) = sp
 clear hr hsz HE
 by_cases h1 : ts.length = 0
 ·obtain rfl : ts = [] := List.eq_nil_of_length_eq_zero h1
  simp only [List.length_nil] at *
  clear h1
  by_cases h2 : la = 3
  ·subst h2
   cases g3 : s.toList.isEmpty
   ·have HV : Hid (sp = false) := by show _ = _; rw [← hsp]; simp [spB, g3]
    clear hsp
    go_enter Tryz.func84, Tryz.ntmps84
    go_wp2
    go_ret
    exact ⟨by rw [HV.out]; rfl, hbB⟩
   ·skip
    by_cases hn : n = 0
    ·have g4 : (n == 0) = true := by simp [hn]
     have HV : Hid (sp = true) := by show _ = _; rw [← hsp]; simp [spB, g3, hn]
     clear hsp hn
     go_enter Tryz.func84, Tryz.ntmps84
     go_wp2
     go_ret
     exact ⟨by rw [HV.out]; rfl, hbB⟩
    ·have g4 : (n == 0) = false := by simp [hn]
     have HV : Hid (sp = false) := by show _ = _; rw [← hsp]; simp [spB, hn]
     clear hsp hn
     go_enter Tryz.func84, Tryz.ntmps84
     go_wp2
     go_ret
     exact ⟨by rw [HV.out]; rfl, hbB⟩
  ·have g2 : ((la : Int) == 3) = false := by simp; omega
   have HV : Hid (sp = false) := by show _ = _; rw [← hsp]; simp [spB, h2]
   clear hsp h2
   go_enter Tryz.func84, Tryz.ntmps84
   go_wp2
   go_ret
   exact ⟨by rw [HV.out]; rfl, hbB⟩
 ·have g1 : ((ts.length : Int) == 0) = false := by simp; intro h; exact h1 (by simp [h])
  have HV : Hid (sp = false) := by show _ = _; rw [← hsp]; simp [spB, h1]
  clear hsp h1
  go_enter Tryz.func84, Tryz.ntmps84
  go_wp2
  go_ret
  exact ⟨by rw [HV.out]; rfl, hbB⟩
set_option maxRecDepth 100000 in
set_option maxHeartbeats 2000000 in
theorem node_7 (n : Int) (s : ByteArray) (an aa : Option Addr) (ts : List ByteArray) (la cn ca : Nat) (w : World) (hs : s.size ≤ 1048576) (hln : ts.length ≤ 1048576) (hla : la ≤ 1048576) (hcap : ts.length ≤ cn)
  (hr : RowS w w.heap.size an ts) (hsz : ∀ x ∈ ts, x.size ≤ 1048576) :
  Calls Tryz.prog 84 #[.agg #[.int .i64 7, .int .i64 n, .string s, .slice an ts.length cn, .slice aa la ca]] w fun e w' => Ans w (.bool (spB 7 n s ts.length la (nmA ts))) e w' := by
 have HE : Hid (s.data.toList = s.toList) := by show _ = _; rw [ByteArray.toList_eq]
 have hbB : Below w.heap.size w (w.alloc (Obj.cells #[.int .i64 7, .int .i64 n, .string s, .slice an ts.length cn, .slice aa la ca] 96)) := (Below.refl _ _).alloc (Nat.le_refl _) _
 have HZ : Hid (∀ w2, Below w.heap.size w w2 → Calls Tryz.prog 103 #[.slice an ts.length cn, .int .i64 8] w2 fun e w' => Ans w2 (.bool (decide (ts.length ≤ 8) && nmA ts)) e w') := fun w2 h2 => l3Names_any an ts cn w2 hln hcap ((hr.below h2).mono h2.size) hsz
 generalize hsp : spB 7 n s ts.length la (nmA ts) = sp
 clear hr hsz HE
 cases g1 : (decide (ts.length ≤ 8) && nmA ts)
 ·rw [g1] at HZ
  have HV : Hid (sp = false) := by show _ = _; rw [← hsp]; unfold spB; rw [g1]; simp
  clear hsp g1
  go_enter Tryz.func84, Tryz.ntmps84
  go_wp2_with (first | (go_at_call 103; refine (HZ.out _ hbB).mono ?_; rintro e w1 ⟨rfl, hb1⟩; have d1 := cell_keepN (cell_blk (j := 1) (blk_alloc w (Obj.cells #[.int .i64 7, .int .i64 n, .string s, .slice an ts.length cn, .slice aa la ca] 96)) rfl) hb1 (by simp); have d2 := cell_keepN (cell_blk (j := 2) (blk_alloc w (Obj.cells #[.int .i64 7, .int .i64 n, .string s, .slice an ts.length cn, .slice aa la ca] 96)) rfl) hb1 (by simp)))
  go_ret
  exact ⟨by rw [HV.out]; rfl, hbB.trans (hb1.mono hbB.size)⟩
 ·rw [g1] at HZ
  have hsp : (decide (la = 1) && s.toList.isEmpty && decide (n = 0)) = sp := by rw [← hsp]; unfold spB; rw [g1]; simp
  clear g1
  by_cases h2 : la = 1
  ·subst h2
   cases g3 : s.toList.isEmpty
   ·have HV : Hid (sp = false) := by show _ = _; rw [← hsp]; simp [g3]
    clear hsp
    go_enter Tryz.func84, Tryz.ntmps84
    go_wp2_with (first | (go_at_call 103; refine (HZ.out _ hbB).mono ?_; rintro e w1 ⟨rfl, hb1⟩; have d1 := cell_keepN (cell_blk (j := 1) (blk_alloc w (Obj.cells #[.int .i64 7, .int .i64 n, .string s, .slice an ts.length cn, .slice aa 1 ca] 96)) rfl) hb1 (by simp); have d2 := cell_keepN (cell_blk (j := 2) (blk_alloc w (Obj.cells #[.int .i64 7, .int .i64 n, .string s, .slice an ts.length cn, .slice aa 1 ca] 96)) rfl) hb1 (by simp)))
    go_ret
    exact ⟨by rw [HV.out]; rfl, hbB.trans (hb1.mono hbB.size)⟩
   ·skip
    by_cases hn : n = 0
    ·have g4 : (n == 0) = true := by simp [hn]
     have HV : Hid (sp = true) := by show _ = _; rw [← hsp]; simp [g3, hn]
     clear hsp hn
     go_enter Tryz.func84, Tryz.ntmps84
     go_wp2_with (first | (go_at_call 103; refine (HZ.out _ hbB).mono ?_; rintro e w1 ⟨rfl, hb1⟩; have d1 := cell_keepN (cell_blk (j := 1) (blk_alloc w (Obj.cells #[.int .i64 7, .int .i64 n, .string s, .slice an ts.length cn, .slice aa 1 ca] 96)) rfl) hb1 (by simp); have d2 := cell_keepN (cell_blk (j := 2) (blk_alloc w (Obj.cells #[.int .i64 7, .int .i64 n, .string s, .slice an ts.length cn, .slice aa 1 ca] 96)) rfl) hb1 (by simp)))
     go_ret
     exact ⟨by rw [HV.out]; rfl, hbB.trans (hb1.mono hbB.size)⟩
    ·have g4 : (n == 0) = false := by simp [hn]
     have HV : Hid (sp = false) := by show _ = _; rw [← hsp]; simp [hn]
     clear hsp hn
     go_enter Tryz.func84, Tryz.ntmps84
     go_wp2_with (first | (go_at_call 103; refine (HZ.out _ hbB).mono ?_; rintro e w1 ⟨rfl, hb1⟩; have d1 := cell_keepN (cell_blk (j := 1) (blk_alloc w (Obj.cells #[.int .i64 7, .int .i64 n, .string s, .slice an ts.length cn, .slice aa 1 ca] 96)) rfl) hb1 (by simp); have d2 := cell_keepN (cell_blk (j := 2) (blk_alloc w (Obj.cells #[.int .i64 7, .int .i64 n, .string s, .slice an ts.length cn, .slice aa 1 ca] 96)) rfl) hb1 (by simp)))
     go_ret
     exact ⟨by rw [HV.out]; rfl, hbB.trans (hb1.mono hbB.size)⟩
  ·have g2 : ((la : Int) == 1) = false := by simp; omega
   have HV : Hid (sp = false) := by show _ = _; rw [← hsp]; simp [h2]
   clear hsp h2
   go_enter Tryz.func84, Tryz.ntmps84
   go_wp2_with (first | (go_at_call 103; refine (HZ.out _ hbB).mono ?_; rintro e w1 ⟨rfl, hb1⟩; have d1 := cell_keepN (cell_blk (j := 1) (blk_alloc w (Obj.cells #[.int .i64 7, .int .i64 n, .string s, .slice an ts.length cn, .slice aa la ca] 96)) rfl) hb1 (by simp); have d2 := cell_keepN (cell_blk (j := 2) (blk_alloc w (Obj.cells #[.int .i64 7, .int .i64 n, .string s, .slice an ts.length cn, .slice aa la ca] 96)) rfl) hb1 (by simp)))
   go_ret
   exact ⟨by rw [HV.out]; rfl, hbB.trans (hb1.mono hbB.size)⟩
set_option maxRecDepth 100000 in
set_option maxHeartbeats 2000000 in
theorem node_8 (n : Int) (s : ByteArray) (an aa : Option Addr) (ts : List ByteArray) (la cn ca : Nat) (w : World) (hs : s.size ≤ 1048576) (hln : ts.length ≤ 1048576) (hla : la ≤ 1048576) (hcap : ts.length ≤ cn)
  (hr : RowS w w.heap.size an ts) (hsz : ∀ x ∈ ts, x.size ≤ 1048576) :
  Calls Tryz.prog 84 #[.agg #[.int .i64 8, .int .i64 n, .string s, .slice an ts.length cn, .slice aa la ca]] w fun e w' => Ans w (.bool (spB 8 n s ts.length la (nmA ts))) e w' := by
 have HE : Hid (s.data.toList = s.toList) := by show _ = _; rw [ByteArray.toList_eq]
 have HR : Hid (∀ w, Calls Tryz.prog 57 #[.int .i64 la, .int .i64 1, .int .i64 9] w fun e w' => e = .returned (.bool (decide ((1 : Int) ≤ la) && decide ((la : Int) ≤ 9))) ∧ w' = w) := fun w => l1In_any la 1 9 w
 have hbB : Below w.heap.size w (w.alloc (Obj.cells #[.int .i64 8, .int .i64 n, .string s, .slice an ts.length cn, .slice aa la ca] 96)) := (Below.refl _ _).alloc (Nat.le_refl _) _
 generalize hsp : spB 8 n s ts.length la (nmA ts) = sp
 clear hr hsz HE
 by_cases h1 : ts.length = 0
 ·obtain rfl : ts = [] := List.eq_nil_of_length_eq_zero h1
  simp only [List.length_nil] at *
  clear h1
  by_cases h2 : 1 ≤ la ∧ la ≤ 9
  ·have g2 : (decide ((1 : Int) ≤ la) && decide ((la : Int) ≤ 9)) = true := by simp; omega
   rw [g2] at HR
   obtain ⟨h2, h2b⟩ := h2
   clear g2
   cases g3 : s.toList.isEmpty
   ·have HV : Hid (sp = false) := by show _ = _; rw [← hsp]; simp [spB, g3]
    clear hsp
    go_enter Tryz.func84, Tryz.ntmps84
    go_wp2_with (first | (go_at_call 57; refine (HR.out _).mono ?_; rintro e w1 ⟨rfl, rfl⟩))
    go_ret
    exact ⟨by rw [HV.out]; rfl, hbB⟩
   ·skip
    by_cases hn : n = 0
    ·have g4 : (n == 0) = true := by simp [hn]
     have HV : Hid (sp = true) := by show _ = _; rw [← hsp]; simp [spB, h2, h2b, g3, hn]
     clear hsp hn
     go_enter Tryz.func84, Tryz.ntmps84
     go_wp2_with (first | (go_at_call 57; refine (HR.out _).mono ?_; rintro e w1 ⟨rfl, rfl⟩))
     go_ret
     exact ⟨by rw [HV.out]; rfl, hbB⟩
    ·have g4 : (n == 0) = false := by simp [hn]
     have HV : Hid (sp = false) := by show _ = _; rw [← hsp]; simp [spB, hn]
     clear hsp hn
     go_enter Tryz.func84, Tryz.ntmps84
     go_wp2_with (first | (go_at_call 57; refine (HR.out _).mono ?_; rintro e w1 ⟨rfl, rfl⟩))
     go_ret
     exact ⟨by rw [HV.out]; rfl, hbB⟩
  ·have g2 : (decide ((1 : Int) ≤ la) && decide ((la : Int) ≤ 9)) = false := by simp; omega
   rw [g2] at HR
   have h2b : (decide (1 ≤ la) && decide (la ≤ 9)) = false := by simp; omega
   have HV : Hid (sp = false) := by show _ = _; rw [← hsp]; simp [spB, h2b]
   clear hsp h2 g2 h2b
   go_enter Tryz.func84, Tryz.ntmps84
   go_wp2_with (first | (go_at_call 57; refine (HR.out _).mono ?_; rintro e w1 ⟨rfl, rfl⟩))
   go_ret
   exact ⟨by rw [HV.out]; rfl, hbB⟩
 ·have g1 : ((ts.length : Int) == 0) = false := by simp; intro h; exact h1 (by simp [h])
  have HV : Hid (sp = false) := by show _ = _; rw [← hsp]; simp [spB, h1]
  clear hsp h1
  go_enter Tryz.func84, Tryz.ntmps84
  go_wp2_with (first | (go_at_call 57; refine (HR.out _).mono ?_; rintro e w1 ⟨rfl, rfl⟩))
  go_ret
  exact ⟨by rw [HV.out]; rfl, hbB⟩
set_option maxRecDepth 100000 in
set_option maxHeartbeats 2000000 in
theorem node_10 (n : Int) (s : ByteArray) (an aa : Option Addr) (ts : List ByteArray) (la cn ca : Nat) (w : World) (hs : s.size ≤ 1048576) (hln : ts.length ≤ 1048576) (hla : la ≤ 1048576) (hcap : ts.length ≤ cn)
  (hr : RowS w w.heap.size an ts) (hsz : ∀ x ∈ ts, x.size ≤ 1048576) :
  Calls Tryz.prog 84 #[.agg #[.int .i64 10, .int .i64 n, .string s, .slice an ts.length cn, .slice aa la ca]] w fun e w' => Ans w (.bool (spB 10 n s ts.length la (nmA ts))) e w' := by
 have HE : Hid (s.data.toList = s.toList) := by show _ = _; rw [ByteArray.toList_eq]
 have HN : Hid (∀ w, Calls Tryz.prog 51 #[.string s] w fun e w' => Ans w (.bool (naL s.toList)) e w') := fun w => specNa_any s w hs
 have hbB : Below w.heap.size w (w.alloc (Obj.cells #[.int .i64 10, .int .i64 n, .string s, .slice an ts.length cn, .slice aa la ca] 96)) := (Below.refl _ _).alloc (Nat.le_refl _) _
 generalize hsp : spB 10 n s ts.length la (nmA ts) = sp
 clear hr hsz HE
 by_cases h1 : ts.length = 0
 ·obtain rfl : ts = [] := List.eq_nil_of_length_eq_zero h1
  simp only [List.length_nil] at *
  clear h1
  by_cases h2 : la = 1
  ·subst h2
   cases g3 : naL s.toList
   ·rw [g3] at HN
    have HV : Hid (sp = false) := by show _ = _; rw [← hsp]; simp [spB, g3]
    clear hsp g3
    go_enter Tryz.func84, Tryz.ntmps84
    go_wp2_with (first | (go_at_call 51; refine (HN.out _).mono ?_; rintro e w1 ⟨rfl, hb1⟩; have d1 := cell_keepN (cell_blk (j := 1) (blk_alloc w (Obj.cells #[.int .i64 10, .int .i64 n, .string s, .slice an 0 cn, .slice aa 1 ca] 96)) rfl) hb1 (by simp)))
    go_ret
    exact ⟨by rw [HV.out]; rfl, hbB.trans (hb1.mono hbB.size)⟩
   ·rw [g3] at HN
    by_cases hn : n = 0
    ·have g4 : (n == 0) = true := by simp [hn]
     have HV : Hid (sp = true) := by show _ = _; rw [← hsp]; simp [spB, g3, hn]
     clear hsp hn g3
     go_enter Tryz.func84, Tryz.ntmps84
     go_wp2_with (first | (go_at_call 51; refine (HN.out _).mono ?_; rintro e w1 ⟨rfl, hb1⟩; have d1 := cell_keepN (cell_blk (j := 1) (blk_alloc w (Obj.cells #[.int .i64 10, .int .i64 n, .string s, .slice an 0 cn, .slice aa 1 ca] 96)) rfl) hb1 (by simp)))
     go_ret
     exact ⟨by rw [HV.out]; rfl, hbB.trans (hb1.mono hbB.size)⟩
    ·have g4 : (n == 0) = false := by simp [hn]
     have HV : Hid (sp = false) := by show _ = _; rw [← hsp]; simp [spB, hn]
     clear hsp hn g3
     go_enter Tryz.func84, Tryz.ntmps84
     go_wp2_with (first | (go_at_call 51; refine (HN.out _).mono ?_; rintro e w1 ⟨rfl, hb1⟩; have d1 := cell_keepN (cell_blk (j := 1) (blk_alloc w (Obj.cells #[.int .i64 10, .int .i64 n, .string s, .slice an 0 cn, .slice aa 1 ca] 96)) rfl) hb1 (by simp)))
     go_ret
     exact ⟨by rw [HV.out]; rfl, hbB.trans (hb1.mono hbB.size)⟩
  ·have g2 : ((la : Int) == 1) = false := by simp; omega
   have HV : Hid (sp = false) := by show _ = _; rw [← hsp]; simp [spB, h2]
   clear hsp h2
   go_enter Tryz.func84, Tryz.ntmps84
   go_wp2_with (first | (go_at_call 51; refine (HN.out _).mono ?_; rintro e w1 ⟨rfl, hb1⟩; have d1 := cell_keepN (cell_blk (j := 1) (blk_alloc w (Obj.cells #[.int .i64 10, .int .i64 n, .string s, .slice an 0 cn, .slice aa la ca] 96)) rfl) hb1 (by simp)))
   go_ret
   exact ⟨by rw [HV.out]; rfl, hbB⟩
 ·have g1 : ((ts.length : Int) == 0) = false := by simp; intro h; exact h1 (by simp [h])
  have HV : Hid (sp = false) := by show _ = _; rw [← hsp]; simp [spB, h1]
  clear hsp h1
  go_enter Tryz.func84, Tryz.ntmps84
  go_wp2_with (first | (go_at_call 51; refine (HN.out _).mono ?_; rintro e w1 ⟨rfl, hb1⟩; have d1 := cell_keepN (cell_blk (j := 1) (blk_alloc w (Obj.cells #[.int .i64 10, .int .i64 n, .string s, .slice an ts.length cn, .slice aa la ca] 96)) rfl) hb1 (by simp)))
  go_ret
  exact ⟨by rw [HV.out]; rfl, hbB⟩
set_option maxRecDepth 100000 in
set_option maxHeartbeats 2000000 in
theorem node_11 (n : Int) (s : ByteArray) (an aa : Option Addr) (ts : List ByteArray) (la cn ca : Nat) (w : World) (hs : s.size ≤ 1048576) (hln : ts.length ≤ 1048576) (hla : la ≤ 1048576) (hcap : ts.length ≤ cn)
  (hr : RowS w w.heap.size an ts) (hsz : ∀ x ∈ ts, x.size ≤ 1048576) :
  Calls Tryz.prog 84 #[.agg #[.int .i64 11, .int .i64 n, .string s, .slice an ts.length cn, .slice aa la ca]] w fun e w' => Ans w (.bool (spB 11 n s ts.length la (nmA ts))) e w' := by
 have HE : Hid (s.data.toList = s.toList) := by show _ = _; rw [ByteArray.toList_eq]
 have hbB : Below w.heap.size w (w.alloc (Obj.cells #[.int .i64 11, .int .i64 n, .string s, .slice an ts.length cn, .slice aa la ca] 96)) := (Below.refl _ _).alloc (Nat.le_refl _) _
 generalize hsp : spB 11 n s ts.length la (nmA ts) = sp
 clear hr hsz HE
 by_cases h1 : ts.length = 0
 ·obtain rfl : ts = [] := List.eq_nil_of_length_eq_zero h1
  simp only [List.length_nil] at *
  clear h1
  by_cases h2 : 2 ≤ la
  ·have g2 : decide ((2 : Int) ≤ la) = true := by simp; omega
   cases g3 : s.toList.isEmpty
   ·have HV : Hid (sp = false) := by show _ = _; rw [← hsp]; simp [spB, g3]
    clear hsp
    go_enter Tryz.func84, Tryz.ntmps84
    go_wp2
    go_ret
    exact ⟨by rw [HV.out]; rfl, hbB⟩
   ·skip
    by_cases hn : n = 0
    ·have g4 : (n == 0) = true := by simp [hn]
     have HV : Hid (sp = true) := by show _ = _; rw [← hsp]; simp [spB, h2, g3, hn]
     clear hsp hn
     go_enter Tryz.func84, Tryz.ntmps84
     go_wp2
     go_ret
     exact ⟨by rw [HV.out]; rfl, hbB⟩
    ·have g4 : (n == 0) = false := by simp [hn]
     have HV : Hid (sp = false) := by show _ = _; rw [← hsp]; simp [spB, hn]
     clear hsp hn
     go_enter Tryz.func84, Tryz.ntmps84
     go_wp2
     go_ret
     exact ⟨by rw [HV.out]; rfl, hbB⟩
  ·have g2 : decide ((2 : Int) ≤ la) = false := by simp; omega
   have HV : Hid (sp = false) := by show _ = _; rw [← hsp]; simp [spB, h2]
   clear hsp h2
   go_enter Tryz.func84, Tryz.ntmps84
   go_wp2
   go_ret
   exact ⟨by rw [HV.out]; rfl, hbB⟩
 ·have g1 : ((ts.length : Int) == 0) = false := by simp; intro h; exact h1 (by simp [h])
  have HV : Hid (sp = false) := by show _ = _; rw [← hsp]; simp [spB, h1]
  clear hsp h1
  go_enter Tryz.func84, Tryz.ntmps84
  go_wp2
  go_ret
  exact ⟨by rw [HV.out]; rfl, hbB⟩
set_option maxRecDepth 100000 in
set_option maxHeartbeats 2000000 in
theorem l3Node_any (k : Int) (n : Int) (s : ByteArray) (an aa : Option Addr) (ts : List ByteArray) (la cn ca : Nat) (w : World) (hs : s.size ≤ 1048576) (hln : ts.length ≤ 1048576) (hla : la ≤ 1048576) (hcap : ts.length ≤ cn)
  (hr : RowS w w.heap.size an ts) (hsz : ∀ x ∈ ts, x.size ≤ 1048576) :
  Calls Tryz.prog 84 #[.agg #[.int .i64 k, .int .i64 n, .string s, .slice an ts.length cn, .slice aa la ca]] w fun e w' => Ans w (.bool (spB k n s ts.length la (nmA ts))) e w' := by
 by_cases k1 : k = 1
 ·subst k1
  exact node_1 n s an aa ts la cn ca w hs hln hla hcap hr hsz
 by_cases k2 : k = 2
 ·subst k2
  exact node_2 n s an aa ts la cn ca w hs hln hla hcap hr hsz
 by_cases k3 : k = 3
 ·subst k3
  exact node_3 n s an aa ts la cn ca w hs hln hla hcap hr hsz
 by_cases k4 : k = 4
 ·subst k4
  exact node_4 n s an aa ts la cn ca w hs hln hla hcap hr hsz
 by_cases k5 : k = 5
 ·subst k5
  exact node_5 n s an aa ts la cn ca w hs hln hla hcap hr hsz
 by_cases k6 : k = 6
 ·subst k6
  exact node_6 n s an aa ts la cn ca w hs hln hla hcap hr hsz
 by_cases k7 : k = 7
 ·subst k7
  exact node_7 n s an aa ts la cn ca w hs hln hla hcap hr hsz
 by_cases k8 : k = 8
 ·subst k8
  exact node_8 n s an aa ts la cn ca w hs hln hla hcap hr hsz
 by_cases k10 : k = 10
 ·subst k10
  exact node_10 n s an aa ts la cn ca w hs hln hla hcap hr hsz
 by_cases k11 : k = 11
 ·subst k11
  exact node_11 n s an aa ts la cn ca w hs hln hla hcap hr hsz
 have hbB : Below w.heap.size w (w.alloc (Obj.cells #[.int .i64 k, .int .i64 n, .string s, .slice an ts.length cn, .slice aa la ca] 96)) := (Below.refl _ _).alloc (Nat.le_refl _) _
 by_cases k9 : k = 9
 ·subst k9
  have HP : Hid (∀ w2, Below w.heap.size w w2 → Calls Tryz.prog 104 #[.agg #[.int .i64 9, .int .i64 n, .string s, .slice an ts.length cn, .slice aa la ca]] w2 fun e w' => Ans w2 (.bool (prB n s ts.length la (nmA ts))) e w') := fun w2 h2 => l3Prim_any 9 n s an aa ts la cn ca w2 hln hla ((hr.below h2).mono h2.size) hsz
  have HV : Hid (spB 9 n s ts.length la (nmA ts) = prB n s ts.length la (nmA ts)) := by show _ = _; simp [spB]
  rw [HV.out]
  generalize prB n s ts.length la (nmA ts) = pr at *
  clear hr hsz HV k1 k2 k3 k4 k5 k6 k7 k8 k10 k11
  go_enter Tryz.func84, Tryz.ntmps84
  go_wp2_with (go_at_call 104; refine (HP.out _ hbB).mono ?_; rintro e w1 ⟨rfl, hb1⟩)
  go_ret
  exact ⟨rfl, hbB.trans (hb1.mono hbB.size)⟩
 ·have HV : Hid (spB k n s ts.length la (nmA ts) = false) := by show _ = _; simp [spB, k1, k2, k3, k4, k5, k6, k7, k8, k9, k10, k11]
  have f1 : (k == 1) = false := by simp [k1]
  have f2 : (k == 2) = false := by simp [k2]
  have f3 : (k == 3) = false := by simp [k3]
  have f4 : (k == 4) = false := by simp [k4]
  have f5 : (k == 5) = false := by simp [k5]
  have f6 : (k == 6) = false := by simp [k6]
  have f7 : (k == 7) = false := by simp [k7]
  have f8 : (k == 8) = false := by simp [k8]
  have f9 : (k == 9) = false := by simp [k9]
  have f10 : (k == 10) = false := by simp [k10]
  have f11 : (k == 11) = false := by simp [k11]
  clear hr hsz k1 k2 k3 k4 k5 k6 k7 k8 k9 k10 k11
  go_enter Tryz.func84, Tryz.ntmps84
  go_wp2
  go_ret
  exact ⟨by rw [HV.out]; rfl, hbB⟩
end Go.Proofs.YtamjofdgikifnaaGreat
