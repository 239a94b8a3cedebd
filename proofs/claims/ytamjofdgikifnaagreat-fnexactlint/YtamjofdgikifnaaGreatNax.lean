/- Which bytes stand in a symbol, and which texts are symbols and names: plain functions of the bytes. Which bytes stand in a symbol: the model's and the program's way. The program's way to tell the bytes of a symbol. Which texts are symbols: the model's and the program's way. Which texts are names: the model's and the program's way, and the law. -/
import Derived.Test.YtamjofdgikifnaaGreatAra
import Derived.Test.YtamjofdgikifnaaGreatRdx
import Derived.Test.YtamjofdgikifnaaGreatKmp
namespace Go.Proofs.YtamjofdgikifnaaGreat
def hasB (l : List UInt8) (c : UInt8) : Bool := l.contains c
def sgB (c : UInt8) : Bool := (decide (97 ≤ c.toNat) && decide (c.toNat ≤ 122)) || (isDigB c || hasB [33, 63, 42, 47, 60, 61, 62, 43, 45, 95] c)
def deB (l : List UInt8) : Bool := decide (decL (rdX l) = l) && decide ((fdL l).length ≤ 9)
theorem RdRes.deB {l : List UInt8} {n : Int} {b : Bool} (h : RdRes l n b) : b = deB l := by
 by_cases h9 : (fdL l).length ≤ 9
 ·by_cases he : decL (rdX l) = l
  ·have := (RdRes.unique h (rdB l h9 he)).2
   rw [this]; simp [YtamjofdgikifnaaGreat.deB, he, h9]
  ·have := (RdRes.unique h (rdC l he)).2
   rw [this]; simp [YtamjofdgikifnaaGreat.deB, he]
 ·have hf : RdRes l 0 false := by
   refine .inr ⟨rfl, rfl, fun m h1 h2 he => ?_⟩
   obtain ⟨_, b, _⟩ := of_dec m h1 h2
   rw [he] at b
   exact h9 b
  have := (RdRes.unique h hf).2
  rw [this]; simp [YtamjofdgikifnaaGreat.deB, h9]
def syL (l : List UInt8) : Bool := decide (1 ≤ l.length) && decide (l.length ≤ 16) && !(l.head?.any isDigB) && l.all sgB && !deB l
def naL (l : List UInt8) : Bool := l == [37, 116] || (syL l && !woL l && decide (arL l < 0))
end Go.Proofs.YtamjofdgikifnaaGreat
namespace Go.Proofs.YtamjofdgikifnaaGreat
open Go.ChangeShapes Go.WideShapes Go.ChangeAt Go.RowKit
set_option maxRecDepth 100000 in
theorem l2In_any (c : UInt8) (s : ByteArray) (w : World) (hs : s.size ≤ 1048576) :
  Calls Tryz.prog 114 #[.int .u8 c.toNat, .string s] w fun e w' => e = .returned (.bool (hasB s.data.toList c)) ∧ w' = w := by
 have HL : Hid (s.data.toList.length = s.size) := by show _ = _; simp
 have hc : (c.toNat : Int) < 256 := by have := c.toNat_lt; omega
 go_enter Tryz.func114, Tryz.ntmps114
 go_wp2
 go_loop [5] (fun i => ∃ k : Nat, k ≤ s.size ∧ i = .int .i64 k ∧ hasB (s.data.toList.take k) c = false) (fun i => s.size - (intOf i).toNat)
 case atStart => exact ⟨0, by omega, rfl, by simp [hasB]⟩
 case round =>
  obtain ⟨k, hk, rfl, hno⟩ := hrel
  by_cases hlt : k < s.size
  ·have hb : (s[k].toNat : Int) < 256 := by have := s[k].toNat_lt; omega
   have HT := take_snoc s k hlt
   by_cases he : s[k] = c
   ·have HQ : Hid (hasB s.data.toList c = true) := by
     show List.contains _ _ = _
     rw [List.contains_iff_mem, ← he]
     exact List.mem_of_mem_take (i := k + 1) (by rw [HT]; simp)
    have e1 : ((s[k].toNat : Int) == (c.toNat : Int)) = true := by rw [he]; simp
    clear hno HT he
    go_wp2
    go_ret
    exact ⟨by rw [HQ.out]; rfl, rfl⟩
   ·have HQ : Hid (hasB (s.data.toList.take (k + 1)) c = false) := by
     show _ = _
     have he' : ¬ c = s[k] := fun h => he h.symm
     unfold hasB at hno ⊢
     rw [HT, List.contains_append, hno]
     simp [he']
    have e1 : ((s[k].toNat : Int) == (c.toNat : Int)) = false := by
     rw [beq_eq_false_iff_ne]
     intro h
     exact he (UInt8.toNat_inj.1 (by omega))
    clear hno HT he
    go_wp2
    go_round
    case rel => exact ⟨k + 1, by omega, by go_num, HQ.out⟩
    case measure => simp [intOf]; omega
  ·obtain rfl : k = s.size := by omega
   rw [List.take_of_length_le (by rw [HL.out]; exact Nat.le_refl _)] at hno
   have HQ : Hid (hasB s.data.toList c = false) := hno
   clear hno
   go_wp2
   go_ret
   exact ⟨by rw [HQ.out]; rfl, rfl⟩
set_option maxRecDepth 100000 in
theorem l2Digit_any (c : UInt8) (w : World) :
  Calls Tryz.prog 100 #[.int .u8 c.toNat] w fun e w' => e = .returned (.bool (isDigB c)) ∧ w' = w := by
 have hc : (c.toNat : Int) < 256 := by have := c.toNat_lt; omega
 by_cases h1 : 48 ≤ c.toNat
 ·by_cases h2 : c.toNat ≤ 57
  ·go_enter Tryz.func100, Tryz.ntmps100
   go_wp2
   go_ret
   exact ⟨by simp [isDigB, h1, h2]; omega, rfl⟩
  ·have e2 : decide ((c.toNat : Int) ≤ 57) = false := by simp; omega
   go_enter Tryz.func100, Tryz.ntmps100
   go_wp2
   go_ret
   exact ⟨by simp [isDigB, h2], rfl⟩
 ·have e1 : decide ((48 : Int) ≤ (c.toNat : Int)) = false := by simp; omega
  go_enter Tryz.func100, Tryz.ntmps100
  go_wp2
  go_ret
  exact ⟨by simp [isDigB, h1], rfl⟩
set_option maxRecDepth 100000 in
theorem l2Sign_any (c : UInt8) (w : World) :
  Calls Tryz.prog 101 #[.int .u8 c.toNat] w fun e w' => e = .returned (.bool (sgB c)) ∧ w' = w := by
 have HD : Hid (∀ w, Calls Tryz.prog 100 #[.int .u8 c.toNat] w fun e w' => e = .returned (.bool (isDigB c)) ∧ w' = w) := fun w => l2Digit_any c w
 have HI : Hid (∀ w, Calls Tryz.prog 114 #[.int .u8 c.toNat, .string ⟨#[33, 63, 42, 47, 60, 61, 62, 43, 45, 95]⟩] w fun e w' => e = .returned (.bool (hasB [33, 63, 42, 47, 60, 61, 62, 43, 45, 95] c)) ∧ w' = w) := fun w => l2In_any c _ w (by decide)
 have hc : (c.toNat : Int) < 256 := by have := c.toNat_lt; omega
 have HS : Hid (sgB c = ((decide (97 ≤ c.toNat) && decide (c.toNat ≤ 122)) || (isDigB c || hasB [33, 63, 42, 47, 60, 61, 62, 43, 45, 95] c))) := rfl
 by_cases hz : 97 ≤ c.toNat ∧ c.toNat ≤ 122
 ·obtain ⟨h1, h2⟩ := hz
  have HQ : Hid (sgB c = true) := by show _ = _; rw [HS.out]; simp [h1, h2]
  clear HS
  go_enter Tryz.func101, Tryz.ntmps101
  go_wp2_with fail
  go_ret
  exact ⟨by rw [HQ.out]; rfl, rfl⟩
 ·have HZ : Hid (sgB c = (isDigB c || hasB [33, 63, 42, 47, 60, 61, 62, 43, 45, 95] c)) := by
   have h := HS.out
   have : (decide (97 ≤ c.toNat) && decide (c.toNat ≤ 122)) = false := by simp; omega
   rw [this] at h
   rw [Bool.false_or] at h
   exact h
  clear HS
  generalize hasB [33, 63, 42, 47, 60, 61, 62, 43, 45, 95] c = q at *
  cases hd : isDigB c
  ·rw [hd] at HD HZ
   have HQ : Hid (sgB c = q) := by show _ = _; rw [HZ.out]; simp
   clear HZ hd
   by_cases h1 : 97 ≤ c.toNat
   ·have e2 : decide ((c.toNat : Int) ≤ 122) = false := by simp; omega
    clear hz
    go_enter Tryz.func101, Tryz.ntmps101
    go_wp2_with (first | (go_at_call 100; refine (HD.out _).mono ?_; rintro e w' ⟨rfl, rfl⟩) | (go_at_call 114; refine (HI.out _).mono ?_; rintro e w' ⟨rfl, rfl⟩))
    go_ret
    exact ⟨by rw [HQ.out]; rfl, rfl⟩
   ·have e2 : decide ((97 : Int) ≤ (c.toNat : Int)) = false := by simp; omega
    clear hz
    go_enter Tryz.func101, Tryz.ntmps101
    go_wp2_with (first | (go_at_call 100; refine (HD.out _).mono ?_; rintro e w' ⟨rfl, rfl⟩) | (go_at_call 114; refine (HI.out _).mono ?_; rintro e w' ⟨rfl, rfl⟩))
    go_ret
    exact ⟨by rw [HQ.out]; rfl, rfl⟩
  ·rw [hd] at HD HZ
   have HQ : Hid (sgB c = true) := by show _ = _; rw [HZ.out]; simp
   clear HZ hd
   by_cases h1 : 97 ≤ c.toNat
   ·have e2 : decide ((c.toNat : Int) ≤ 122) = false := by simp; omega
    clear hz
    go_enter Tryz.func101, Tryz.ntmps101
    go_wp2_with (first | (go_at_call 100; refine (HD.out _).mono ?_; rintro e w' ⟨rfl, rfl⟩) | (go_at_call 114; refine (HI.out _).mono ?_; rintro e w' ⟨rfl, rfl⟩))
    go_ret
    exact ⟨by rw [HQ.out]; rfl, rfl⟩
   ·have e2 : decide ((97 : Int) ≤ (c.toNat : Int)) = false := by simp; omega
    clear hz
    go_enter Tryz.func101, Tryz.ntmps101
    go_wp2_with (first | (go_at_call 100; refine (HD.out _).mono ?_; rintro e w' ⟨rfl, rfl⟩) | (go_at_call 114; refine (HI.out _).mono ?_; rintro e w' ⟨rfl, rfl⟩))
    go_ret
    exact ⟨by rw [HQ.out]; rfl, rfl⟩
end Go.Proofs.YtamjofdgikifnaaGreat
namespace Go.Proofs.YtamjofdgikifnaaGreat
open Go.ChangeShapes Go.WideShapes Go.ChangeAt Go.RowKit
theorem sg_low : ∀ n : Nat, n < 64 → sgB (UInt8.ofNat n) = (bits .and .u64 (17581960594867617792 / 2 ^ n) 1 == 1) := by decide +kernel
theorem sg_high : ∀ n : Nat, n < 64 → sgB (UInt8.ofNat (n + 64)) = (bits .and .u64 (576460745860972544 / 2 ^ n) 1 == 1) := by decide +kernel
theorem sg_far : ∀ n : Nat, n < 128 → sgB (UInt8.ofNat (n + 128)) = false := by decide +kernel
theorem ofNat_of {c : UInt8} {n : Nat} (h : c.toNat = n) : c = UInt8.ofNat n := by rw [← h]; simp
theorem shift_far (y : Int) (h : 64 ≤ y) : Op.shift .shr .u64 576460745860972544 .u8 y = pure (.int .u64 0) := by
 have hm : min y.toNat 64 = 64 := by omega
 have hb : IntKind.u64.bits = 64 := rfl
 simp [Op.shift, hb, hm]
 omega
set_option maxRecDepth 100000 in
theorem inSymbol_any (c : UInt8) (w : World) :
  Calls Tryz.prog 106 #[.int .u8 c.toNat] w fun e w' => e = .returned (.bool (sgB c)) ∧ w' = w := by
 have hc : c.toNat < 256 := c.toNat_lt
 obtain ⟨n, hn⟩ : ∃ n, c.toNat = n := ⟨_, rfl⟩
 have HN : Hid (c = UInt8.ofNat n) := ofNat_of hn
 rw [hn]
 rw [hn] at hc
 clear hn
 by_cases h1 : n < 64
 ·have HQ : Hid (sgB c = (bits .and .u64 (17581960594867617792 / 2 ^ n) 1 == 1)) := by show _ = _; rw [HN.out]; exact sg_low n h1
  clear HN
  go_enter Tryz.func106, Tryz.ntmps106
  go_wp2
  go_ret
  exact ⟨by rw [HQ.out]; rfl, rfl⟩
 ·have e1 : decide ((n : Int) < 64) = false := by simp; omega
  by_cases h2 : n < 128
  ·obtain ⟨d, rfl⟩ : ∃ d, n = d + 64 := ⟨n - 64, by omega⟩
   have HQ : Hid (sgB c = (bits .and .u64 (576460745860972544 / 2 ^ d) 1 == 1)) := by show _ = _; rw [HN.out]; exact sg_high d (by omega)
   clear HN
   go_enter Tryz.func106, Tryz.ntmps106
   go_wp2
   go_ret
   refine ⟨?_, rfl⟩
   rw [HQ.out]
   simp
  ·have HQ : Hid (sgB c = false) := by
    show _ = _
    obtain ⟨d, rfl⟩ : ∃ d, n = d + 128 := ⟨n - 128, by omega⟩
    rw [HN.out]; exact sg_far d (by omega)
   clear HN
   have hsh := shift_far ((n : Int) - 64) (by omega)
   go_enter Tryz.func106, Tryz.ntmps106
   go_wp2
   go_ret
   exact ⟨by rw [HQ.out]; rfl, rfl⟩
end Go.Proofs.YtamjofdgikifnaaGreat
namespace Go.Proofs.YtamjofdgikifnaaGreat
open Go.ChangeShapes Go.WideShapes Go.ChangeAt Go.RowKit
theorem sy_len (s : ByteArray) (h : ¬ (1 ≤ s.size ∧ s.size ≤ 16)) : syL s.data.toList = false := by
 have hl : s.data.toList.length = s.size := by simp
 unfold syL
 rw [hl]
 by_cases h1 : 1 ≤ s.size
 ·have : ¬ s.size ≤ 16 := fun h2 => h ⟨h1, h2⟩
  simp [this]
 ·simp [h1]
theorem head_of (s : ByteArray) (h : 0 < s.size) : s.data.toList.head? = some s[0] := by
 have hl : 0 < s.data.toList.length := by simpa using h
 rw [List.head?_eq_getElem?, List.getElem?_eq_getElem hl]
 rfl
theorem sy_dig (s : ByteArray) (h : 0 < s.size) (hd : isDigB s[0] = true) : syL s.data.toList = false := by
 unfold syL
 rw [head_of s h]
 simp [hd]
theorem sy_bad (s : ByteArray) (k : Nat) (h : k < s.size) (hd : sgB s[k] = false) : syL s.data.toList = false := by
 have hm : s[k] ∈ s.data.toList := List.mem_of_mem_take (i := k + 1) (by rw [take_snoc s k h]; simp)
 have : s.data.toList.all sgB = false := by
  rw [Bool.eq_false_iff]
  intro ha
  have := List.all_eq_true.1 ha _ hm
  rw [hd] at this
  cases this
 unfold syL
 rw [this]
 simp
theorem sy_dec (s : ByteArray) (h1 : 1 ≤ s.size) (h2 : s.size ≤ 16) (hd : isDigB s[0] = false) (ha : s.data.toList.all sgB = true) : syL s.data.toList = !deB s.data.toList := by
 have hl : s.data.toList.length = s.size := by simp
 unfold syL
 rw [head_of s h1, hl, ha]
 simp [hd, h1, h2]
set_option maxRecDepth 100000 in
theorem l1In_any (x lo hi : Int) (w : World) :
  Calls Tryz.prog 57 #[.int .i64 x, .int .i64 lo, .int .i64 hi] w fun e w' => e = .returned (.bool (decide (lo ≤ x) && decide (x ≤ hi))) ∧ w' = w := by
 by_cases h1 : lo ≤ x
 ·by_cases h2 : x ≤ hi
  ·have e1 : decide (lo ≤ x) = true := by simp [h1]
   have e2 : decide (x ≤ hi) = true := by simp [h2]
   rw [e1, e2]
   go_enter Tryz.func57, Tryz.ntmps57
   go_wp2
   go_ret
   exact ⟨by simp, rfl⟩
  ·have e1 : decide (lo ≤ x) = true := by simp [h1]
   have e2 : decide (x ≤ hi) = false := by simp [h2]
   rw [e1, e2]
   go_enter Tryz.func57, Tryz.ntmps57
   go_wp2
   go_ret
   exact ⟨by simp, rfl⟩
 ·have e1 : decide (lo ≤ x) = false := by simp [h1]
  rw [e1]
  go_enter Tryz.func57, Tryz.ntmps57
  go_wp2
  go_ret
  exact ⟨rfl, rfl⟩
set_option maxRecDepth 100000 in
set_option maxHeartbeats 1000000 in
theorem l2Sym_any (s : ByteArray) (w : World) (hs : s.size ≤ 1048576) :
  Calls Tryz.prog 80 #[.string s] w fun e w' => Ans w (.bool (syL s.data.toList)) e w' := by
 have HL : Hid (s.data.toList.length = s.size) := by show _ = _; simp
 by_cases hz : 1 ≤ s.size ∧ s.size ≤ 16
 ·obtain ⟨hz1, hz2⟩ := hz
  have HI : Hid (∀ w, Calls Tryz.prog 57 #[.int .i64 s.size, .int .i64 1, .int .i64 16] w fun e w' => e = .returned (.bool true) ∧ w' = w) := fun w => by
   have := l1In_any s.size 1 16 w
   rwa [show (decide ((1 : Int) ≤ s.size) && decide ((s.size : Int) ≤ 16)) = true by simp; omega] at this
  have HD : Hid (∀ w, Calls Tryz.prog 100 #[.int .u8 s[0].toNat] w fun e w' => e = .returned (.bool (isDigB s[0])) ∧ w' = w) := fun w => l2Digit_any s[0] w
  cases hd : isDigB s[0]
  ·rw [hd] at HD
   have HDG : Hid (isDigB s[0] = false) := hd
   clear hd
   go_enter Tryz.func80, Tryz.ntmps80
   go_wp2_with (first | (go_at_call 57; refine (HI.out _).mono ?_; rintro e w' ⟨rfl, rfl⟩) | (go_at_call 100; refine (HD.out _).mono ?_; rintro e w' ⟨rfl, rfl⟩))
   go_loop [3] (fun i => ∃ k : Nat, k ≤ s.size ∧ i = .int .i64 k ∧ (s.data.toList.take k).all sgB = true) (fun i => s.size - (intOf i).toNat)
   case atStart => exact ⟨0, by omega, rfl, by simp⟩
   case round =>
    obtain ⟨k, hk, rfl, hall⟩ := hrel
    by_cases hlt : k < s.size
    ·have HT := take_snoc s k hlt
     have HG : Hid (∀ w, Calls Tryz.prog 101 #[.int .u8 s[k].toNat] w fun e w' => e = .returned (.bool (sgB s[k])) ∧ w' = w) := fun w => l2Sign_any s[k] w
     cases hg : sgB s[k]
     ·rw [hg] at HG
      have HQ : Hid (syL s.data.toList = false) := sy_bad s k hlt hg
      clear hall HT hg
      go_wp2_with (go_at_call 101; refine (HG.out _).mono ?_; rintro e w' ⟨rfl, rfl⟩)
      go_ret
      exact ⟨by rw [HQ.out]; rfl, Below.refl _ _⟩
     ·rw [hg] at HG
      have HQ : Hid ((s.data.toList.take (k + 1)).all sgB = true) := by show _ = _; rw [HT, List.all_append, hall]; simp [hg]
      clear hall HT hg
      go_wp2_with (go_at_call 101; refine (HG.out _).mono ?_; rintro e w' ⟨rfl, rfl⟩)
      go_round
      case rel => exact ⟨k + 1, by omega, by go_num, HQ.out⟩
      case measure => simp [intOf]; omega
    ·obtain rfl : k = s.size := by omega
     rw [List.take_of_length_le (by rw [HL.out]; exact Nat.le_refl _)] at hall
     have HQ : Hid (syL s.data.toList = !deB s.data.toList) := sy_dec s hz1 hz2 HDG.out hall
     have HR : Hid (∀ w, Calls Tryz.prog 102 #[.string s] w fun e w' => RdPost s w e w') := fun w => specRd_any s w hs
     clear hall HL
     go_wp2_with fail
     refine (HR.out _).mono ?_
     rintro e w1 ⟨n, k, rfl, hr1, hb1⟩
     obtain rfl := hr1.deB
     clear hr1
     go_wp2
     go_ret
     exact ⟨by rw [HQ.out]; rfl, hb1⟩
  ·rw [hd] at HD
   have HQ : Hid (syL s.data.toList = false) := sy_dig s hz1 hd
   clear hd
   go_enter Tryz.func80, Tryz.ntmps80
   go_wp2_with (first | (go_at_call 57; refine (HI.out _).mono ?_; rintro e w' ⟨rfl, rfl⟩) | (go_at_call 100; refine (HD.out _).mono ?_; rintro e w' ⟨rfl, rfl⟩))
   go_ret
   exact ⟨by rw [HQ.out]; rfl, Below.refl _ _⟩
 ·have HQ : Hid (syL s.data.toList = false) := sy_len s hz
  have HI : Hid (∀ w, Calls Tryz.prog 57 #[.int .i64 s.size, .int .i64 1, .int .i64 16] w fun e w' => e = .returned (.bool false) ∧ w' = w) := fun w => by
   have := l1In_any s.size 1 16 w
   rwa [show (decide ((1 : Int) ≤ s.size) && decide ((s.size : Int) ≤ 16)) = false by simp; omega] at this
  clear hz
  go_enter Tryz.func80, Tryz.ntmps80
  go_wp2_with (go_at_call 57; refine (HI.out _).mono ?_; rintro e w' ⟨rfl, rfl⟩)
  go_ret
  exact ⟨by rw [HQ.out]; rfl, Below.refl _ _⟩
set_option maxRecDepth 100000 in
set_option maxHeartbeats 1000000 in
theorem isSymbol_any (s : ByteArray) (w : World) (hs : s.size ≤ 1048576) :
  Calls Tryz.prog 86 #[.string s] w fun e w' => Ans w (.bool (syL s.data.toList)) e w' := by
 have HL : Hid (s.data.toList.length = s.size) := by show _ = _; simp
 by_cases h0 : s.size = 0
 ·have HQ : Hid (syL s.data.toList = false) := sy_len s (by omega)
  have he : (s.toList == []) = true := by
   rw [ByteArray.toList_eq, beq_iff_eq]
   exact List.eq_nil_of_length_eq_zero (by rw [HL.out]; exact h0)
  have he' : s.toList.isEmpty = true := by
   rw [ByteArray.toList_eq, List.isEmpty_iff]
   exact List.eq_nil_of_length_eq_zero (by rw [HL.out]; exact h0)
  go_enter Tryz.func86, Tryz.ntmps86
  go_wp2
  go_ret
  exact ⟨by rw [HQ.out]; rfl, Below.refl _ _⟩
 ·have hp : 0 < s.size := by omega
  have he : s.toList.isEmpty = false := by
   rw [ByteArray.toList_eq, List.isEmpty_eq_false_iff]
   intro h
   have := congrArg List.length h
   rw [HL.out, List.length_nil] at this
   omega
  by_cases hz2 : s.size ≤ 16
  ·have e16 : decide ((16 : Int) < (s.size : Int)) = false := by simp; omega
   have hb0 : (s[0].toNat : Int) < 256 := by have := s[0].toNat_lt; omega
   by_cases hd : 48 ≤ s[0].toNat ∧ s[0].toNat ≤ 57
   ·have HQ : Hid (syL s.data.toList = false) := sy_dig s (by omega) (by simp [isDigB]; omega)
    obtain ⟨hd1, hd2⟩ := hd
    go_enter Tryz.func86, Tryz.ntmps86
    go_wp2
    go_ret
    exact ⟨by rw [HQ.out]; rfl, Below.refl _ _⟩
   ·have HDG : Hid (isDigB s[0] = false) := by show _ = _; simp [isDigB]; omega
    have HW : Hid (∀ Q, (48 ≤ s[0].toNat → decide ((s[0].toNat : Int) ≤ 57) = false → Q) → (decide ((48 : Int) ≤ (s[0].toNat : Int)) = false → Q) → Q) := by
     intro Q q1 q2
     by_cases h : 48 ≤ s[0].toNat
     ·exact q1 h (by simp; omega)
     ·exact q2 (by simp; omega)
    clear hd
    refine HW.out _ ?_ ?_
    all_goals
     intros
     go_enter Tryz.func86, Tryz.ntmps86
     go_wp2
     go_loop [25] (fun i => ∃ k : Nat, k ≤ s.size ∧ i = .int .i64 k ∧ (s.data.toList.take k).all sgB = true) (fun i => s.size - (intOf i).toNat)
     case atStart => exact ⟨0, by omega, rfl, by simp⟩
     case round =>
      obtain ⟨k, hk, rfl, hall⟩ := hrel
      by_cases hlt : k < s.size
      ·have HT := take_snoc s k hlt
       have HG : Hid (∀ w, Calls Tryz.prog 106 #[.int .u8 s[k].toNat] w fun e w' => e = .returned (.bool (sgB s[k])) ∧ w' = w) := fun w => inSymbol_any s[k] w
       cases hg : sgB s[k]
       ·rw [hg] at HG
        have HQ : Hid (syL s.data.toList = false) := sy_bad s k hlt hg
        clear hall HT hg
        go_wp2_with (go_at_call 106; refine (HG.out _).mono ?_; rintro e w' ⟨rfl, rfl⟩)
        go_ret
        exact ⟨by rw [HQ.out]; rfl, Below.refl _ _⟩
       ·rw [hg] at HG
        have HQ : Hid ((s.data.toList.take (k + 1)).all sgB = true) := by show _ = _; rw [HT, List.all_append, hall]; simp [hg]
        clear hall HT hg
        go_wp2_with (go_at_call 106; refine (HG.out _).mono ?_; rintro e w' ⟨rfl, rfl⟩)
        go_round
        case rel => exact ⟨k + 1, by omega, by go_num, HQ.out⟩
        case measure => simp [intOf]; omega
      ·obtain rfl : k = s.size := by omega
       rw [List.take_of_length_le (by rw [HL.out]; exact Nat.le_refl _)] at hall
       have HQ : Hid (syL s.data.toList = !deB s.data.toList) := sy_dec s (by omega) hz2 HDG.out hall
       have HR : Hid (∀ w, Calls Tryz.prog 107 #[.string s] w fun e w' => RdPost s w e w') := fun w => implRd_any s w hs
       clear hall HL
       go_wp2_with fail
       refine (HR.out _).mono ?_
       rintro e w1 ⟨n, k, rfl, hr1, hb1⟩
       obtain rfl := hr1.deB
       clear hr1
       go_wp2
       go_ret
       exact ⟨by rw [HQ.out]; rfl, hb1⟩
  ·have HQ : Hid (syL s.data.toList = false) := sy_len s (by omega)
   have e16 : decide ((16 : Int) < (s.size : Int)) = true := by simp; omega
   go_enter Tryz.func86, Tryz.ntmps86
   go_wp2
   go_ret
   exact ⟨by rw [HQ.out]; rfl, Below.refl _ _⟩
end Go.Proofs.YtamjofdgikifnaaGreat
namespace Go.Proofs.YtamjofdgikifnaaGreat
open Go.ChangeShapes Go.WideShapes Go.ChangeAt Go.RowKit
def wordsL : List ByteArray := [⟨#[113, 117, 111, 116, 101]⟩, ⟨#[105, 102]⟩, ⟨#[108, 97, 109, 98, 100, 97]⟩, ⟨#[98, 101, 103, 105, 110]⟩, ⟨#[115, 101, 116, 33]⟩, ⟨#[108, 101, 116]⟩, ⟨#[108, 101, 116, 42]⟩, ⟨#[99, 111, 110, 100]⟩, ⟨#[101, 108, 115, 101]⟩, ⟨#[97, 110, 100]⟩, ⟨#[111, 114]⟩, ⟨#[119, 104, 101, 110]⟩, ⟨#[100, 101, 102, 105, 110, 101]⟩]
theorem toList_mk (l : List UInt8) : (⟨l.toArray⟩ : ByteArray).toList = l := by rw [ByteArray.toList_eq]
theorem has_words (s : ByteArray) : hasS wordsL s = woL s.toList := by
 have key : (fun l : List UInt8 => ((⟨l.toArray⟩ : ByteArray).toList == s.toList)) = fun l => s.toList == l := by
  funext l
  rw [toList_mk]
  exact BEq.comm
 have e : wordsL = [[113, 117, 111, 116, 101], [105, 102], [108, 97, 109, 98, 100, 97], [98, 101, 103, 105, 110], [115, 101, 116, 33], [108, 101, 116], [108, 101, 116, 42], [99, 111, 110, 100], [101, 108, 115, 101], [97, 110, 100], [111, 114], [119, 104, 101, 110], [100, 101, 102, 105, 110, 101]].map (fun l : List UInt8 => (⟨l.toArray⟩ : ByteArray)) := rfl
 unfold hasS
 rw [e, List.any_map]
 show List.any _ (fun l : List UInt8 => ((⟨l.toArray⟩ : ByteArray).toList == s.toList)) = _
 rw [key]
 simp only [woL, List.any_cons, List.any_nil, Bool.or_false, Bool.or_assoc]
set_option maxRecDepth 100000 in
set_option maxHeartbeats 1000000 in
theorem l3Word_any (s : ByteArray) (w : World) :
  Calls Tryz.prog 81 #[.string s] w fun e w' => Ans w (.bool (woL s.toList)) e w' := by
 have HQ : Hid (hasS wordsL s = woL s.toList) := has_words s
 go_enter Tryz.func81, Tryz.ntmps81
 go_wp2_with fail
 have hr : RowS (w.alloc (Obj.cells #[Value.string ⟨#[113, 117, 111, 116, 101]⟩, Value.string ⟨#[105, 102]⟩, Value.string ⟨#[108, 97, 109, 98, 100, 97]⟩, Value.string ⟨#[98, 101, 103, 105, 110]⟩, Value.string ⟨#[115, 101, 116, 33]⟩, Value.string ⟨#[108, 101, 116]⟩, Value.string ⟨#[108, 101, 116, 42]⟩, Value.string ⟨#[99, 111, 110, 100]⟩, Value.string ⟨#[101, 108, 115, 101]⟩, Value.string ⟨#[97, 110, 100]⟩, Value.string ⟨#[111, 114]⟩, Value.string ⟨#[119, 104, 101, 110]⟩, Value.string ⟨#[100, 101, 102, 105, 110, 101]⟩] 9)) (w.alloc (Obj.cells #[Value.string ⟨#[113, 117, 111, 116, 101]⟩, Value.string ⟨#[105, 102]⟩, Value.string ⟨#[108, 97, 109, 98, 100, 97]⟩, Value.string ⟨#[98, 101, 103, 105, 110]⟩, Value.string ⟨#[115, 101, 116, 33]⟩, Value.string ⟨#[108, 101, 116]⟩, Value.string ⟨#[108, 101, 116, 42]⟩, Value.string ⟨#[99, 111, 110, 100]⟩, Value.string ⟨#[101, 108, 115, 101]⟩, Value.string ⟨#[97, 110, 100]⟩, Value.string ⟨#[111, 114]⟩, Value.string ⟨#[119, 104, 101, 110]⟩, Value.string ⟨#[100, 101, 102, 105, 110, 101]⟩] 9)).heap.size (some ⟨w.heap.size, 0, none⟩) wordsL := by
  intro i x hx
  refine ⟨w.heap.size, 0, rfl, by simp, ?_⟩
  rw [Nat.zero_add]
  refine cell_blk (blk_alloc _ _) ?_
  have hl : i < 13 := (List.getElem?_eq_some_iff.1 hx).1
  match i, hl, hx with
  | 0, _, hx => exact congrArg (Option.map Value.string) hx
  | 1, _, hx => exact congrArg (Option.map Value.string) hx
  | 2, _, hx => exact congrArg (Option.map Value.string) hx
  | 3, _, hx => exact congrArg (Option.map Value.string) hx
  | 4, _, hx => exact congrArg (Option.map Value.string) hx
  | 5, _, hx => exact congrArg (Option.map Value.string) hx
  | 6, _, hx => exact congrArg (Option.map Value.string) hx
  | 7, _, hx => exact congrArg (Option.map Value.string) hx
  | 8, _, hx => exact congrArg (Option.map Value.string) hx
  | 9, _, hx => exact congrArg (Option.map Value.string) hx
  | 10, _, hx => exact congrArg (Option.map Value.string) hx
  | 11, _, hx => exact congrArg (Option.map Value.string) hx
  | 12, _, hx => exact congrArg (Option.map Value.string) hx
 refine (l3In_any (some ⟨w.heap.size, 0, none⟩) wordsL 13 s _ (by decide) hr).mono ?_
 rintro e w1 ⟨rfl, hb1⟩
 have hb0 : Below w.heap.size w (w.alloc (Obj.cells #[Value.string ⟨#[113, 117, 111, 116, 101]⟩, Value.string ⟨#[105, 102]⟩, Value.string ⟨#[108, 97, 109, 98, 100, 97]⟩, Value.string ⟨#[98, 101, 103, 105, 110]⟩, Value.string ⟨#[115, 101, 116, 33]⟩, Value.string ⟨#[108, 101, 116]⟩, Value.string ⟨#[108, 101, 116, 42]⟩, Value.string ⟨#[99, 111, 110, 100]⟩, Value.string ⟨#[101, 108, 115, 101]⟩, Value.string ⟨#[97, 110, 100]⟩, Value.string ⟨#[111, 114]⟩, Value.string ⟨#[119, 104, 101, 110]⟩, Value.string ⟨#[100, 101, 102, 105, 110, 101]⟩] 9)) := (Below.refl _ _).alloc (Nat.le_refl _) _
 have hb2 : Below w.heap.size w w1 := hb0.trans (hb1.mono hb0.size)
 rw [HQ.out]
 clear hr hb0 hb1
 go_wp2
 go_ret
 exact ⟨rfl, hb2⟩
set_option maxRecDepth 100000 in
set_option maxHeartbeats 1000000 in
theorem specNa_any (s : ByteArray) (w : World) (hs : s.size ≤ 1048576) :
  Calls Tryz.prog 51 #[.string s] w fun e w' => Ans w (.bool (naL s.toList)) e w' := by
 have HE : Hid (s.data.toList = s.toList) := by show _ = _; rw [ByteArray.toList_eq]
 have HY : Hid (∀ w, Calls Tryz.prog 80 #[.string s] w fun e w' => Ans w (.bool (syL s.toList)) e w') := fun w => by rw [← HE.out]; exact l2Sym_any s w hs
 have HW : Hid (∀ w, Calls Tryz.prog 81 #[.string s] w fun e w' => Ans w (.bool (woL s.toList)) e w') := fun w => l3Word_any s w
 have HA : Hid (∀ w, Calls Tryz.prog 82 #[.string s] w fun e w' => e = .returned (.int .i64 (arL s.toList)) ∧ w' = w) := fun w => specAr_any s w
 have HN : Hid (naL s.toList = (s.toList == [37, 116] || (syL s.toList && !woL s.toList && decide (arL s.toList < 0)))) := rfl
 generalize naL s.toList = na at *
 generalize syL s.toList = sy at *
 generalize woL s.toList = wo at *
 generalize arL s.toList = ar at *
 by_cases ht : (s.toList == [37, 116]) = true
 ·obtain rfl : na = true := by rw [HN.out, ht]; rfl
  clear HN
  go_enter Tryz.func51, Tryz.ntmps51
  go_wp2_with fail
  go_ret
  exact ⟨by simp, Below.refl _ _⟩
 ·have ht : (s.toList == [37, 116]) = false := by simpa using ht
  rw [ht] at HN
  cases sy
  ·obtain rfl : na = false := by rw [HN.out]; rfl
   clear HN
   go_enter Tryz.func51, Tryz.ntmps51
   go_wp2_with (go_at_call 80; refine (HY.out _).mono ?_; rintro e w1 ⟨rfl, hb1⟩)
   go_ret
   exact ⟨by simp, hb1⟩
  ·cases wo
   ·obtain rfl : na = decide (ar < 0) := by rw [HN.out]; rfl
    clear HN
    go_enter Tryz.func51, Tryz.ntmps51
    go_wp2_with (first | (go_at_call 80; refine (HY.out _).mono ?_; rintro e w1 ⟨rfl, hb1⟩) | (go_at_call 81; refine (HW.out _).mono ?_; rintro e w2 ⟨rfl, hb2⟩) | (go_at_call 82; refine (HA.out _).mono ?_; rintro e w3 ⟨rfl, rfl⟩))
    go_ret
    exact ⟨by simp, hb1.trans (hb2.mono hb1.size)⟩
   ·obtain rfl : na = false := by rw [HN.out]; rfl
    clear HN
    go_enter Tryz.func51, Tryz.ntmps51
    go_wp2_with (first | (go_at_call 80; refine (HY.out _).mono ?_; rintro e w1 ⟨rfl, hb1⟩) | (go_at_call 81; refine (HW.out _).mono ?_; rintro e w2 ⟨rfl, hb2⟩))
    go_ret
    exact ⟨by simp, hb1.trans (hb2.mono hb1.size)⟩
set_option maxRecDepth 100000 in
set_option maxHeartbeats 1000000 in
theorem implNa_any (s : ByteArray) (w : World) (hs : s.size ≤ 1048576) :
  Calls Tryz.prog 61 #[.string s] w fun e w' => Ans w (.bool (naL s.toList)) e w' := by
 have HE : Hid (s.data.toList = s.toList) := by show _ = _; rw [ByteArray.toList_eq]
 have HY : Hid (∀ w, Calls Tryz.prog 86 #[.string s] w fun e w' => Ans w (.bool (syL s.toList)) e w') := fun w => by rw [← HE.out]; exact isSymbol_any s w hs
 have HW : Hid (∀ w, Calls Tryz.prog 87 #[.string s] w fun e w' => e = .returned (.bool (woL s.toList)) ∧ w' = w) := fun w => implWo_any s w
 have HA : Hid (∀ w, Calls Tryz.prog 88 #[.string s] w fun e w' => e = .returned (.int .i64 (arL s.toList)) ∧ w' = w) := fun w => implAr_any s w
 have HN : Hid (naL s.toList = (s.toList == [37, 116] || (syL s.toList && !woL s.toList && decide (arL s.toList < 0)))) := rfl
 generalize naL s.toList = na at *
 generalize syL s.toList = sy at *
 generalize woL s.toList = wo at *
 generalize arL s.toList = ar at *
 by_cases ht : (s.toList == [37, 116]) = true
 ·obtain rfl : na = true := by rw [HN.out, ht]; rfl
  clear HN
  go_enter Tryz.func61, Tryz.ntmps61
  go_wp2_with fail
  go_ret
  exact ⟨by simp, Below.refl _ _⟩
 ·have ht : (s.toList == [37, 116]) = false := by simpa using ht
  rw [ht] at HN
  cases sy
  ·obtain rfl : na = false := by rw [HN.out]; rfl
   clear HN
   go_enter Tryz.func61, Tryz.ntmps61
   go_wp2_with (go_at_call 86; refine (HY.out _).mono ?_; rintro e w1 ⟨rfl, hb1⟩)
   go_ret
   exact ⟨by simp, hb1⟩
  ·cases wo
   ·obtain rfl : na = decide (ar < 0) := by rw [HN.out]; rfl
    clear HN
    go_enter Tryz.func61, Tryz.ntmps61
    go_wp2_with (first | (go_at_call 86; refine (HY.out _).mono ?_; rintro e w1 ⟨rfl, hb1⟩) | (go_at_call 87; refine (HW.out _).mono ?_; rintro e w2 ⟨rfl, rfl⟩) | (go_at_call 88; refine (HA.out _).mono ?_; rintro e w3 ⟨rfl, rfl⟩))
    go_ret
    exact ⟨by simp, hb1⟩
   ·obtain rfl : na = false := by rw [HN.out]; rfl
    clear HN
    go_enter Tryz.func61, Tryz.ntmps61
    go_wp2_with (first | (go_at_call 86; refine (HY.out _).mono ?_; rintro e w1 ⟨rfl, hb1⟩) | (go_at_call 87; refine (HW.out _).mono ?_; rintro e w2 ⟨rfl, rfl⟩))
    go_ret
    exact ⟨by simp, hb1⟩
end Go.Proofs.YtamjofdgikifnaaGreat
