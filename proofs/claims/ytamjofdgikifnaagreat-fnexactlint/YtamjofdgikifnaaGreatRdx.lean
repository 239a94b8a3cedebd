/- Plain facts on decimal digits: what Dec makes of a number, and which texts it makes. The contract of the model's Dec. Plain facts on what the model's ReadDec looks at: the digits of a text and its first byte. The contract of the model's ReadDec. The contract of CutPrefix at the sign, and plain facts on what is left. The contract of the program's ReadDec. -/
import Derived.Laws.BitsAllLaws
import Derived.Test.YtamjofdgikifnaaGreatKmp
import Derived.Lib.Strings
import Derived.WalkMore
namespace Go.Proofs.YtamjofdgikifnaaGreat
def digs : Nat → Nat → List UInt8
 | 0, _ => []
 | f + 1, m => if m = 0 then [] else digs f (m / 10) ++ [UInt8.ofNat (48 + m % 10)]
def decL (x : Int) : List UInt8 := if x = 0 then [48] else if 0 < x then digs 20 x.toNat else 45 :: digs 20 (-x).toNat
def isDig (c : UInt8) : Prop := 48 ≤ c.toNat ∧ c.toNat ≤ 57
def val (l : List UInt8) : Nat := l.foldl (fun n c => n * 10 + (c.toNat - 48)) 0
theorem val_snoc (l : List UInt8) (c : UInt8) : val (l ++ [c]) = val l * 10 + (c.toNat - 48) := by simp [val]
theorem digs_zero (f : Nat) : digs f 0 = [] := by cases f <;> simp [digs]
theorem digs_pos (f m : Nat) (h : m ≠ 0) : digs (f + 1) m = digs f (m / 10) ++ [UInt8.ofNat (48 + m % 10)] := by simp [digs, h]
theorem ofNat48 (d : Nat) (h : d < 10) : (UInt8.ofNat (48 + d)).toNat = 48 + d := by simp; omega
theorem head_app (l m : List UInt8) (h : l ≠ []) : (l ++ m).head? = l.head? := by cases l with | nil => exact absurd rfl h | cons a l => rfl
theorem snoc_ind {P : List UInt8 → Prop} (h0 : P []) (h1 : ∀ l c, P l → P (l ++ [c])) (l : List UInt8) : P l := by
 have : ∀ r : List UInt8, P r.reverse := by
  intro r
  induction r with
  | nil => exact h0
  | cons c r ih => rw [List.reverse_cons]; exact h1 _ _ ih
 have h := this l.reverse
 rwa [List.reverse_reverse] at h
theorem digs_dig : ∀ (f m : Nat), ∀ c ∈ digs f m, isDig c
 | 0, _, c, h => by simp [digs] at h
 | f + 1, m, c, h => by
  by_cases hm : m = 0
  ·subst hm; simp [digs] at h
  ·rw [digs_pos f m hm] at h
   rcases List.mem_append.1 h with h | h
   ·exact digs_dig f _ c h
   ·rw [List.mem_singleton.1 h]
    unfold isDig
    rw [ofNat48 _ (by omega)]
    omega
theorem digs_len : ∀ (f m k : Nat), m < 10 ^ k → (digs f m).length ≤ k
 | 0, _, _, _ => by simp [digs]
 | f + 1, m, k, h => by
  by_cases hm : m = 0
  ·subst hm; simp [digs]
  ·rw [digs_pos f m hm]
   match k, h with
   | 0, h => simp at h; omega
   | k + 1, h =>
    rw [Nat.pow_succ] at h
    have := digs_len f (m / 10) k (by omega)
    simp; omega
theorem digs_val : ∀ (f m : Nat), m < 10 ^ f → val (digs f m) = m
 | 0, m, h => by simp at h; subst h; rfl
 | f + 1, m, h => by
  by_cases hm : m = 0
  ·subst hm; simp [digs, val]
  ·rw [digs_pos f m hm, val_snoc, ofNat48 _ (by omega)]
   rw [Nat.pow_succ] at h
   rw [digs_val f (m / 10) (by omega)]
   omega
theorem digs_ne (f m : Nat) (h : m ≠ 0) : digs (f + 1) m ≠ [] := by rw [digs_pos f m h]; simp
theorem digs_head : ∀ (f m : Nat) (c : UInt8), m < 10 ^ f → (digs f m).head? = some c → c.toNat ≠ 48
 | 0, m, c, _, h => by simp [digs] at h
 | f + 1, m, c, hm, h => by
  by_cases h0 : m = 0
  ·subst h0; simp [digs] at h
  ·rw [digs_pos f m h0] at h
   rw [Nat.pow_succ] at hm
   by_cases h1 : m / 10 = 0
   ·rw [h1, digs_zero] at h
    simp only [List.nil_append, List.head?_cons, Option.some.injEq] at h
    rw [← h, ofNat48 _ (by omega)]
    omega
   ·match f, hm, h with
    | 0, hm, h => simp at hm; omega
    | g + 1, hm, h =>
     have hne := digs_ne g (m / 10) h1
     rw [head_app _ _ hne] at h
     exact digs_head (g + 1) (m / 10) c (by omega) h
theorem val_pos : ∀ (l : List UInt8), (∀ c ∈ l, isDig c) → (∀ c, l.head? = some c → c.toNat ≠ 48) → l ≠ [] → 0 < val l := by
 intro l
 induction l using snoc_ind with
 | h0 => intro _ _ h; exact absurd rfl h
 | h1 l c ih =>
  intro hd hh _
  rw [val_snoc]
  by_cases hl : l = []
  ·subst hl
   have h1 := hd c (by simp)
   have h2 := hh c (by simp)
   unfold isDig at h1
   omega
  ·have := ih (fun x hx => hd x (List.mem_append_left _ hx)) (fun x hx => hh x (by rw [head_app l _ hl]; exact hx)) hl
   omega
theorem digs_of_val : ∀ (l : List UInt8) (f : Nat), (∀ c ∈ l, isDig c) → (∀ c, l.head? = some c → c.toNat ≠ 48) → l.length ≤ f → digs f (val l) = l := by
 intro l
 induction l using snoc_ind with
 | h0 => intro f _ _ _; exact digs_zero f
 | h1 l c ih =>
  intro f hd hh hf
  have hp := val_pos (l ++ [c]) hd hh (by simp)
  match f, hf with
  | 0, hf => simp at hf
  | f + 1, hf =>
   rw [digs_pos f _ (by omega), val_snoc]
   have hc := hd c (by simp)
   unfold isDig at hc
   have e1 : (val l * 10 + (c.toNat - 48)) / 10 = val l := by omega
   have e2 : (val l * 10 + (c.toNat - 48)) % 10 = c.toNat - 48 := by omega
   rw [e1, e2, show 48 + (c.toNat - 48) = c.toNat by omega]
   have hih : digs f (val l) = l := by
    by_cases hl : l = []
    ·subst hl; exact digs_zero f
    ·exact ih f (fun x hx => hd x (List.mem_append_left _ hx)) (fun x hx => hh x (by rw [head_app l _ hl]; exact hx)) (by simpa using hf)
   rw [hih]
   simp
theorem val_lt (l : List UInt8) (h : ∀ c ∈ l, isDig c) : val l < 10 ^ l.length := by
 induction l using snoc_ind with
 | h0 => simp [val]
 | h1 l c ih =>
  have := ih (fun x hx => h x (List.mem_append_left _ hx))
  have hc := h c (by simp)
  unfold isDig at hc
  rw [val_snoc, List.length_append, List.length_singleton, Nat.pow_succ]
  omega
def RdRes (l : List UInt8) (n : Int) (b : Bool) : Prop :=
 (b = true ∧ decL n = l ∧ -1000000000 < n ∧ n < 1000000000) ∨ (b = false ∧ n = 0 ∧ ∀ m : Int, -1000000000 < m → m < 1000000000 → decL m ≠ l)
theorem decL_pos (x : Int) (h : 0 < x) : decL x = digs 20 x.toNat := by
 have h0 : ¬ x = 0 := by omega
 simp [decL, h, h0]
theorem decL_neg (x : Int) (h : x < 0) : decL x = 45 :: digs 20 (-x).toNat := by
 have h0 : ¬ x = 0 := by omega
 have h1 : ¬ 0 < x := by omega
 simp [decL, h0, h1]
theorem head_digs (m : Nat) (h : m ≠ 0) (hm : m < 10 ^ 20) : ∃ c l, digs 20 m = c :: l ∧ 49 ≤ c.toNat ∧ c.toNat ≤ 57 := by
 have hne := digs_ne 19 m h
 match e : digs 20 m with
 | [] => exact absurd e hne
 | c :: l =>
  have h1 := digs_head 20 m c hm (by rw [e]; rfl)
  have h2 := digs_dig 20 m c (by rw [e]; simp)
  unfold isDig at h2
  exact ⟨c, l, rfl, by omega, by omega⟩
theorem decL_inj (x y : Int) (hx : -100000000000000000000 < x ∧ x < 100000000000000000000) (hy : -100000000000000000000 < y ∧ y < 100000000000000000000) (h : decL x = decL y) : x = y := by
 have e0 : decL 0 = [48] := rfl
 rcases Int.lt_trichotomy x 0 with hx0 | rfl | hx0 <;> rcases Int.lt_trichotomy y 0 with hy0 | rfl | hy0
 ·rw [decL_neg x hx0, decL_neg y hy0] at h
  have h1 := congrArg val (List.cons.inj h).2
  rw [digs_val 20 _ (by omega), digs_val 20 _ (by omega)] at h1
  omega
 ·rw [decL_neg x hx0, e0] at h
  simp at h
 ·rw [decL_neg x hx0, decL_pos y hy0] at h
  obtain ⟨c, l, e, h1, h2⟩ := head_digs y.toNat (by omega) (by omega)
  rw [e] at h
  have := (List.cons.inj h).1
  rw [← this] at h1
  simp at h1
 ·rw [decL_neg y hy0, e0] at h
  simp at h
 ·rfl
 ·rw [decL_pos y hy0, e0] at h
  obtain ⟨c, l, e, h1, h2⟩ := head_digs y.toNat (by omega) (by omega)
  rw [e] at h
  have := (List.cons.inj h).1
  rw [← this] at h1
  simp at h1
 ·rw [decL_pos x hx0, decL_neg y hy0] at h
  obtain ⟨c, l, e, h1, h2⟩ := head_digs x.toNat (by omega) (by omega)
  rw [e] at h
  have := (List.cons.inj h).1
  rw [this] at h1
  simp at h1
 ·rw [decL_pos x hx0, e0] at h
  obtain ⟨c, l, e, h1, h2⟩ := head_digs x.toNat (by omega) (by omega)
  rw [e] at h
  have := (List.cons.inj h).1
  rw [this] at h1
  simp at h1
 ·rw [decL_pos x hx0, decL_pos y hy0] at h
  have h1 := congrArg val h
  rw [digs_val 20 _ (by omega), digs_val 20 _ (by omega)] at h1
  omega
theorem RdRes.unique {l : List UInt8} {n n' : Int} {b b' : Bool} (h : RdRes l n b) (h' : RdRes l n' b') : n = n' ∧ b = b' := by
 rcases h with ⟨rfl, a1, a2, a3⟩ | ⟨rfl, rfl, a⟩ <;> rcases h' with ⟨rfl, b1, b2, b3⟩ | ⟨rfl, rfl, b⟩
 ·exact ⟨decL_inj n n' ⟨by omega, by omega⟩ ⟨by omega, by omega⟩ (by rw [a1, b1]), rfl⟩
 ·exact absurd a1 (b n a2 a3)
 ·exact absurd b1 (a n' b2 b3)
 ·exact ⟨rfl, rfl⟩
end Go.Proofs.YtamjofdgikifnaaGreat
namespace Go.Proofs.YtamjofdgikifnaaGreat
open Go.ChangeShapes Go.WideShapes Go.ChangeAt Go.RowKit
theorem conv_one (w : World) (c : UInt8) : (convert 113 9 (.slice (some ⟨w.heap.size, 0, none⟩) 1 1)).run Tryz.prog (w.alloc (.cells #[.int .u8 (c.toNat : Int)] 5)) = .ok (.string ⟨#[c]⟩) (w.alloc (.cells #[.int .u8 (c.toNat : Int)] 5)) := by
 refine run_convert_bytes_back _ 113 9 5 ⟨w.heap.size, 0, none⟩ 1 [c] Tryz.underlying113 Tryz.underlying5 Tryz.underlying9 fun j hj => ?_
 match j, hj with
 | 0, _ => simp [Addr.add]
theorem specDec_zero (w : World) :
  Calls Tryz.prog 115 #[.int .i64 0] w fun e w' => e = .returned (.string ⟨(decL 0).toArray⟩) ∧ Below w.heap.size w w' := by
 go_enter Tryz.func115, Tryz.ntmps115
 go_wp2
 go_ret
 exact ⟨rfl, Below.refl _ _⟩
set_option maxRecDepth 100000 in
set_option maxHeartbeats 1000000 in
theorem specDec_pos (n : Nat) (w : World) (h0 : 0 < n) (hn : n ≤ 9223372036854775807) :
  Calls Tryz.prog 115 #[.int .i64 n] w fun e w' => e = .returned (.string ⟨(decL n).toArray⟩) ∧ Below w.heap.size w w' := by
 rw [decL_pos n (by omega), Int.toNat_natCast]
 have hz : ((n : Int) == 0) = false := by rw [beq_eq_false_iff_ne]; omega
 have hd : decide ((n : Int) < 0) = false := by simp
 go_enter Tryz.func115, Tryz.ntmps115
 go_wp2
 go_loopw [0, 3] (fun t o wr => ∃ (f m : Nat) (out : List UInt8), f + out.length = 20 ∧ m < 10 ^ f ∧ m ≤ 9223372036854775807 ∧ digs f m ++ out = digs 20 n ∧ t = .int .i64 m ∧ o = .string ⟨out.toArray⟩ ∧ Below w.heap.size w wr)
  (fun t _ _ => (intOf t).toNat)
 case atStart => exact ⟨20, n, [], rfl, by omega, hn, by simp, rfl, rfl, Below.refl _ _⟩
 case round =>
  obtain ⟨f, m, out, hf, hm, hmn, hpre, rfl, rfl, hnx⟩ := hrel
  have hsz := hnx.size
  by_cases hm0 : m = 0
  ·subst hm0
   rw [digs_zero, List.nil_append] at hpre
   have HP : Hid (out = digs 20 n) := hpre
   clear hpre hm
   go_wp2
   go_ret
   exact ⟨by rw [← HP.out]; rfl, hnx⟩
  ·match f, hf, hm, hpre with
   | 0, hf, hm, hpre => exact absurd hm (by simp; omega)
   | f + 1, hf, hm, hpre =>
    rw [digs_pos f m hm0] at hpre
    rw [Nat.pow_succ] at hm
    obtain ⟨c, hc⟩ : ∃ c, c = UInt8.ofNat (48 + m % 10) := ⟨_, rfl⟩
    have HP : Hid (digs f (m / 10) ++ (c :: out) = digs 20 n) := by
     show _ = _; rw [← hpre, hc]; simp
    have HM : Hid (m / 10 < 10 ^ f) := by show _ < _; omega
    have HC : Hid ((48 : Int) + (m : Int) % 10 = (c.toNat : Int)) := by
     have := ofNat48 (m % 10) (by omega)
     show _ = _; rw [hc, this]; omega
    have hll : out.length ≤ 20 := by omega
    have hz2 : ((m : Int) != 0) = true := by rw [bne_iff_ne]; omega
    have hd2 : decide ((m : Int) % 10 < 0) = false := by simp; omega
    have hcv := conv_one wr c
    rw [← HC.out] at hcv
    clear hpre hm hc
    go_wp2
    go_roundw
    case rel => exact ⟨f, m / 10, c :: out, by simp; omega, HM.out, by omega, HP.out, by go_num, congrArg Value.string (ByteArray.mk_append_mk [c] out), hnx.alloc hsz _⟩
    case measure => simp [intOf]; omega
set_option maxRecDepth 100000 in
set_option maxHeartbeats 1000000 in
theorem specDec_neg (n : Nat) (w : World) (h0 : 0 < n) (hn : n ≤ 9223372036854775808) :
  Calls Tryz.prog 115 #[.int .i64 (-(n : Int))] w fun e w' => e = .returned (.string ⟨(decL (-(n : Int))).toArray⟩) ∧ Below w.heap.size w w' := by
 rw [decL_neg (-(n : Int)) (by omega), Int.neg_neg, Int.toNat_natCast]
 have hz : (-(n : Int) == 0) = false := by rw [beq_eq_false_iff_ne]; omega
 have hd : decide (-(n : Int) < 0) = true := by simp; omega
 go_enter Tryz.func115, Tryz.ntmps115
 go_wp2
 go_loopw [0, 3] (fun t o wr => ∃ (f m : Nat) (out : List UInt8), f + out.length = 20 ∧ m < 10 ^ f ∧ m ≤ 9223372036854775808 ∧ digs f m ++ out = digs 20 n ∧ t = .int .i64 (-(m : Int)) ∧ o = .string ⟨out.toArray⟩ ∧ Below w.heap.size w wr)
  (fun t _ _ => (-intOf t).toNat)
 case atStart => exact ⟨20, n, [], rfl, by omega, hn, by simp, rfl, rfl, Below.refl _ _⟩
 case round =>
  obtain ⟨f, m, out, hf, hm, hmn, hpre, rfl, rfl, hnx⟩ := hrel
  have hsz := hnx.size
  by_cases hm0 : m = 0
  ·subst hm0
   rw [digs_zero, List.nil_append] at hpre
   have HP : Hid (out = digs 20 n) := hpre
   have hll : out.length ≤ 20 := by omega
   clear hpre hm
   rw [show (-((0 : Nat) : Int)) = 0 by omega]
   go_wp2
   go_ret
   exact ⟨by rw [← HP.out]; exact congrArg (fun b => Ending.returned (Value.string b)) (ByteArray.mk_append_mk [45] out), hnx⟩
  ·match f, hf, hm, hpre with
   | 0, hf, hm, hpre => exact absurd hm (by simp; omega)
   | f + 1, hf, hm, hpre =>
    rw [digs_pos f m hm0] at hpre
    rw [Nat.pow_succ] at hm
    obtain ⟨c, hc⟩ : ∃ c, c = UInt8.ofNat (48 + m % 10) := ⟨_, rfl⟩
    have HP : Hid (digs f (m / 10) ++ (c :: out) = digs 20 n) := by
     show _ = _; rw [← hpre, hc]; simp
    have HM : Hid (m / 10 < 10 ^ f) := by show _ < _; omega
    have HC : Hid ((48 : Int) + (m : Int) % 10 = (c.toNat : Int)) := by
     have := ofNat48 (m % 10) (by omega)
     show _ = _; rw [hc, this]; omega
    have hll : out.length ≤ 20 := by omega
    have hz2 : (-(m : Int) != 0) = true := by rw [bne_iff_ne]; omega
    have htm : (-(m : Int)).tmod 10 = -((m : Int) % 10) := by rw [Int.neg_tmod, Int.tmod_eq_emod_of_nonneg (by omega)]
    have htd : (-(m : Int)).tdiv 10 = -((m : Int) / 10) := by rw [Int.neg_tdiv, Int.tdiv_eq_ediv_of_nonneg (by omega)]
    have hcv := conv_one wr c
    rw [← HC.out] at hcv
    clear hpre hm hc
    by_cases hq : (m : Int) % 10 = 0
    ·have hd2 : decide (-((m : Int) % 10) < 0) = false := by simp; omega
     rw [hq, Int.add_zero] at hcv
     go_wp2
     go_roundw
     case rel => exact ⟨f, m / 10, c :: out, by simp; omega, HM.out, by omega, HP.out, by go_num, congrArg Value.string (ByteArray.mk_append_mk [c] out), hnx.alloc hsz _⟩
     case measure => simp [intOf]; omega
    ·have hd2 : decide (-((m : Int) % 10) < 0) = true := by simp; omega
     go_wp2
     go_roundw
     case rel => exact ⟨f, m / 10, c :: out, by simp; omega, HM.out, by omega, HP.out, by go_num, congrArg Value.string (ByteArray.mk_append_mk [c] out), hnx.alloc hsz _⟩
     case measure => simp [intOf]; omega
theorem specDec_any (x : Int) (w : World) (h1 : -9223372036854775808 ≤ x) (h2 : x ≤ 9223372036854775807) :
  Calls Tryz.prog 115 #[.int .i64 x] w fun e w' => e = .returned (.string ⟨(decL x).toArray⟩) ∧ Below w.heap.size w w' := by
 rcases Int.lt_trichotomy x 0 with h | rfl | h
 ·obtain ⟨n, hn⟩ := Int.eq_ofNat_of_zero_le (show 0 ≤ -x by omega)
  obtain rfl : x = -(n : Int) := by omega
  exact specDec_neg n w (by omega) (by omega)
 ·exact specDec_zero w
 ·obtain ⟨n, rfl⟩ := Int.eq_ofNat_of_zero_le (show 0 ≤ x by omega)
  exact specDec_pos n w (by omega) (by omega)
end Go.Proofs.YtamjofdgikifnaaGreat
namespace Go.Proofs.YtamjofdgikifnaaGreat
def isDigB (c : UInt8) : Bool := decide (48 ≤ c.toNat) && decide (c.toNat ≤ 57)
def fdL (l : List UInt8) : List UInt8 := l.filter isDigB
def rdX (l : List UInt8) : Int := if l.head? = some 45 then -((val (fdL l) : Nat) : Int) else ((val (fdL l) : Nat) : Int)
theorem isDigB_iff (c : UInt8) : isDigB c = true ↔ isDig c := by simp [isDigB, isDig]
theorem fdL_dig (l : List UInt8) : ∀ c ∈ fdL l, isDig c := by
 intro c hc
 exact (isDigB_iff c).1 (List.mem_filter.1 hc).2
theorem fdL_all (l : List UInt8) (h : ∀ c ∈ l, isDig c) : fdL l = l := by
 unfold fdL
 rw [List.filter_eq_self]
 intro c hc
 exact (isDigB_iff c).2 (h c hc)
theorem fdL_snoc (l : List UInt8) (c : UInt8) : fdL (l ++ [c]) = if isDigB c then fdL l ++ [c] else fdL l := by
 unfold fdL
 rw [List.filter_append]
 by_cases h : isDigB c = true <;> simp [h]
theorem fdL_len (l : List UInt8) : (fdL l).length ≤ l.length := List.length_filter_le _ _
theorem fdL_val (l : List UInt8) : val (fdL l) < 10 ^ (fdL l).length := val_lt _ (fdL_dig l)
theorem of_dec (m : Int) (h1 : -1000000000 < m) (h2 : m < 1000000000) : (decL m).length ≤ 10 ∧ (fdL (decL m)).length ≤ 9 ∧ rdX (decL m) = m := by
 rcases Int.lt_trichotomy m 0 with h | rfl | h
 ·have hl := digs_len 20 (-m).toNat 9 (by omega)
  have hd := digs_dig 20 (-m).toNat
  have hf : fdL (decL m) = digs 20 (-m).toNat := by
   rw [decL_neg m h]
   show List.filter isDigB (45 :: _) = _
   have : isDigB 45 = false := rfl
   rw [List.filter_cons, this]
   exact fdL_all _ hd
  refine ⟨by rw [decL_neg m h]; simp; omega, by rw [hf]; exact hl, ?_⟩
  have hh : (decL m).head? = some 45 := by rw [decL_neg m h]; rfl
  unfold rdX
  rw [if_pos hh, hf, digs_val 20 _ (by omega)]
  omega
 ·refine ⟨by decide, by decide, by decide⟩
 ·have hl := digs_len 20 m.toNat 9 (by omega)
  have hd := digs_dig 20 m.toNat
  have hf : fdL (decL m) = digs 20 m.toNat := by rw [decL_pos m h]; exact fdL_all _ hd
  refine ⟨by rw [decL_pos m h]; omega, by rw [hf]; exact hl, ?_⟩
  obtain ⟨c, l, e, hc1, hc2⟩ := head_digs m.toNat (by omega) (by omega)
  have hh : ¬ (decL m).head? = some 45 := by
   rw [decL_pos m h, e]
   intro h0
   have : c = 45 := by simpa using h0
   rw [this] at hc1
   simp at hc1
  unfold rdX
  rw [if_neg hh, hf, digs_val 20 _ (by omega)]
  omega
theorem rdA (l : List UInt8) (h : 9 < (fdL (l.take 11)).length ∨ 10 < l.length) : RdRes l 0 false := by
 refine .inr ⟨rfl, rfl, fun m h1 h2 he => ?_⟩
 obtain ⟨a, b, _⟩ := of_dec m h1 h2
 rw [he] at a b
 rcases h with h | h
 ·rw [List.take_of_length_le (by omega)] at h
  omega
 ·omega
theorem rdX_bd (l : List UInt8) (h : (fdL l).length ≤ 9) : -1000000000 < rdX l ∧ rdX l < 1000000000 := by
 have h1 := fdL_val l
 have h2 : 10 ^ (fdL l).length ≤ 10 ^ 9 := Nat.pow_le_pow_right (by omega) h
 unfold rdX
 split <;> omega
theorem rdB (l : List UInt8) (hk : (fdL l).length ≤ 9) (he : decL (rdX l) = l) : RdRes l (rdX l) true :=
 .inl ⟨rfl, he, (rdX_bd l hk).1, (rdX_bd l hk).2⟩
theorem rdC (l : List UInt8) (he : decL (rdX l) ≠ l) : RdRes l 0 false := by
 refine .inr ⟨rfl, rfl, fun m h1 h2 h => ?_⟩
 have := (of_dec m h1 h2).2.2
 rw [h] at this
 rw [this] at he
 exact he h
end Go.Proofs.YtamjofdgikifnaaGreat
namespace Go.Proofs.YtamjofdgikifnaaGreat
open Go.ChangeShapes Go.WideShapes Go.ChangeAt Go.RowKit
theorem take_snoc (s : ByteArray) (k : Nat) (h : k < s.size) : s.data.toList.take (k + 1) = s.data.toList.take k ++ [s[k]] := by
 rw [List.take_succ_eq_append_getElem (by simpa using h)]; rfl
theorem fd_bd (s : ByteArray) (k : Nat) (h : k ≤ 11) : (fdL (s.data.toList.take k)).length ≤ k ∧ val (fdL (s.data.toList.take k)) < 100000000000 := by
 have h1 := fdL_len (s.data.toList.take k)
 have h2 := fdL_val (s.data.toList.take k)
 have h3 : (s.data.toList.take k).length ≤ k := List.length_take_le _ _
 have h4 : 10 ^ (fdL (s.data.toList.take k)).length ≤ 10 ^ 11 := Nat.pow_le_pow_right (by omega) (by omega)
 omega
def RdPost (s : ByteArray) (w : World) (e : Ending) (w' : World) : Prop := ∃ (n : Int) (b : Bool), e = .returned (.tuple #[.int .i64 n, .bool b]) ∧ RdRes s.data.toList n b ∧ Below w.heap.size w w'
set_option maxRecDepth 100000 in
set_option maxHeartbeats 1000000 in
theorem specRd_any (s : ByteArray) (w : World) (hs : s.size ≤ 1048576) :
  Calls Tryz.prog 102 #[.string s] w fun e w' => RdPost s w e w' := by
 have HL : Hid (s.data.toList.length = s.size) := by show _ = _; simp
 go_enter Tryz.func102, Tryz.ntmps102
 go_wp2
 go_loop [4, 5, 6] (fun n k i => ∃ j : Nat, j ≤ 11 ∧ j ≤ s.size ∧ i = .int .i64 j ∧ k = .int .i64 ((fdL (s.data.toList.take j)).length : Nat) ∧ n = .int .i64 (val (fdL (s.data.toList.take j)) : Nat)) (fun _ _ i => 12 - (intOf i).toNat)
 case atStart => exact ⟨0, by omega, by omega, rfl, rfl, rfl⟩
 case round =>
  obtain ⟨j, hj, hjs, rfl, rfl, rfl⟩ := hrel
  obtain ⟨bd1, bd2⟩ := fd_bd s j hj
  by_cases hlt : j < s.size ∧ j < 11
  ·obtain ⟨hlt, hlt2⟩ := hlt
   have hb : (s[j].toNat : Int) < 256 := by have := s[j].toNat_lt; omega
   have HT : Hid (fdL (s.data.toList.take (j + 1)) = if isDigB s[j] then fdL (s.data.toList.take j) ++ [s[j]] else fdL (s.data.toList.take j)) := by
    show _ = _; rw [take_snoc s j hlt, fdL_snoc]
   have HV : Hid (val (fdL (s.data.toList.take j) ++ [s[j]]) = val (fdL (s.data.toList.take j)) * 10 + (s[j].toNat - 48)) := val_snoc _ _
   generalize fdL (s.data.toList.take j) = l at *
   by_cases hd : 48 ≤ s[j].toNat ∧ s[j].toNat ≤ 57
   ·obtain ⟨hd1, hd2⟩ := hd
    have HT2 : Hid (fdL (s.data.toList.take (j + 1)) = l ++ [s[j]]) := by
     have : isDigB s[j] = true := by simp [isDigB]; omega
     have h := HT.out
     rw [this] at h
     exact h
    clear HT
    generalize val l = v at *
    go_wp2
    go_round
    case rel => exact ⟨j + 1, by omega, by omega, by go_num, by rw [HT2.out]; simp, by rw [HT2.out, HV.out]; go_num⟩
    case measure => simp [intOf]; omega
   ·have HT2 : Hid (fdL (s.data.toList.take (j + 1)) = l) := by
     have : isDigB s[j] = false := by simp [isDigB]; omega
     have h := HT.out
     rw [this] at h
     exact h
    clear HT HV
    by_cases hd1 : 48 ≤ s[j].toNat
    ·have hd2 : decide ((s[j].toNat : Int) ≤ 57) = false := by simp; omega
     clear hd
     go_wp2
     go_round
     case rel => exact ⟨j + 1, by omega, by omega, by go_num, by rw [HT2.out], by rw [HT2.out]⟩
     case measure => simp [intOf]; omega
    ·clear hd
     go_wp2
     go_round
     case rel => exact ⟨j + 1, by omega, by omega, by go_num, by rw [HT2.out], by rw [HT2.out]⟩
     case measure => simp [intOf]; omega
  ·obtain ⟨l, hl⟩ : ∃ l, l = s.data.toList := ⟨_, rfl⟩
   have HLL : Hid (l = s.data.toList) := hl
   have hlen : l.length = s.size := by rw [hl]; exact HL.out
   rw [← hl] at bd1 bd2 ⊢
   clear hl
   by_cases h10 : s.size ≤ 10
   ·obtain rfl : j = s.size := by omega
    have htk : l.take s.size = l := List.take_of_length_le (by omega)
    rw [htk] at bd1 bd2 ⊢
    clear htk
    by_cases hk9 : (fdL l).length ≤ 9
    ·have hk9' : decide (9 < (fdL l).length) = false := by simp; omega
     have h10' : decide ((10 : Int) < (s.size : Int)) = false := by simp; omega
     have xbd := rdX_bd l hk9
     by_cases hp : 0 < s.size
     ·by_cases hm : s[0].toNat = 45
      ·have hx : rdX l = -((val (fdL l) : Nat) : Int) := if_pos (by
        rw [HLL.out, List.head?_eq_getElem?, List.getElem?_eq_getElem (by rw [HL.out]; exact hp)]
        have h45 : s[0] = 45 := UInt8.toNat_inj.1 hm
        exact congrArg some h45)
       have HI : Hid (∀ w, Calls Tryz.prog 115 #[.int .i64 (-((val (fdL l) : Nat) : Int))] w fun e w' => e = .returned (.string ⟨(decL (rdX l)).toArray⟩) ∧ Below w.heap.size w w') := fun w => by rw [← hx]; exact specDec_any _ w (by omega) (by omega)
       have hm' : ((s[0].toNat : Int) == 45) = true := by rw [beq_iff_eq]; omega
       have hB := rdB l hk9
       have hC := rdC l
       rw [hx] at hB hC xbd HI
       have HB : Hid _ := hB
       have HC : Hid _ := hC
       clear hx hm hB hC hlen
       generalize decL (-((val (fdL l) : Nat) : Int)) = d at *
       generalize val (fdL l) = v at *
       generalize (fdL l).length = kk at *
       have hts : s.toList = l := by rw [HLL.out, ByteArray.toList_eq]
       by_cases he : d = l
       ·have HR : Hid (RdRes s.data.toList (-(v : Int)) true) := by have := HB.out he; rwa [HLL.out] at this
        have hq : (d == s.toList) = true := by rw [hts, he]; simp
        clear HB HC HLL hts he
        go_wp2_with (go_at_call 115; refine (HI.out _).mono ?_; rintro e w' ⟨rfl, hb1⟩)
        go_ret2
        exact ⟨_, _, rfl, HR.out, hb1⟩
       ·have HR : Hid (RdRes s.data.toList 0 false) := by have := HC.out he; rwa [HLL.out] at this
        have hq : (d == s.toList) = false := by rw [hts]; simpa using he
        clear HB HC HLL hts he
        go_wp2_with (go_at_call 115; refine (HI.out _).mono ?_; rintro e w' ⟨rfl, hb1⟩)
        go_ret2
        exact ⟨_, _, rfl, HR.out, hb1⟩
      ·have hx : rdX l = ((val (fdL l) : Nat) : Int) := if_neg (by
        rw [HLL.out, List.head?_eq_getElem?, List.getElem?_eq_getElem (by rw [HL.out]; exact hp)]
        intro h45
        have h46 : s[0] = 45 := Option.some.inj h45
        exact hm (by rw [h46]; rfl))
       have HI : Hid (∀ w, Calls Tryz.prog 115 #[.int .i64 ((val (fdL l) : Nat) : Int)] w fun e w' => e = .returned (.string ⟨(decL (rdX l)).toArray⟩) ∧ Below w.heap.size w w') := fun w => by rw [← hx]; exact specDec_any _ w (by omega) (by omega)
       have hm' : ((s[0].toNat : Int) == 45) = false := by rw [beq_eq_false_iff_ne]; omega
       have hB := rdB l hk9
       have hC := rdC l
       rw [hx] at hB hC xbd HI
       have HB : Hid _ := hB
       have HC : Hid _ := hC
       clear hx hm hB hC hlen
       generalize decL (((val (fdL l) : Nat) : Int)) = d at *
       generalize val (fdL l) = v at *
       generalize (fdL l).length = kk at *
       have hts : s.toList = l := by rw [HLL.out, ByteArray.toList_eq]
       by_cases he : d = l
       ·have HR : Hid (RdRes s.data.toList ((v : Int)) true) := by have := HB.out he; rwa [HLL.out] at this
        have hq : (d == s.toList) = true := by rw [hts, he]; simp
        clear HB HC HLL hts he
        go_wp2_with (go_at_call 115; refine (HI.out _).mono ?_; rintro e w' ⟨rfl, hb1⟩)
        go_ret2
        exact ⟨_, _, rfl, HR.out, hb1⟩
       ·have HR : Hid (RdRes s.data.toList 0 false) := by have := HC.out he; rwa [HLL.out] at this
        have hq : (d == s.toList) = false := by rw [hts]; simpa using he
        clear HB HC HLL hts he
        go_wp2_with (go_at_call 115; refine (HI.out _).mono ?_; rintro e w' ⟨rfl, hb1⟩)
        go_ret2
        exact ⟨_, _, rfl, HR.out, hb1⟩
     ·have HI : Hid (∀ w, Calls Tryz.prog 115 #[.int .i64 0] w fun e w' => e = .returned (.string ⟨(decL 0).toArray⟩) ∧ Below w.heap.size w w') := fun w => specDec_zero w
      obtain rfl : l = [] := List.eq_nil_of_length_eq_zero (by omega)
      have HR : Hid (RdRes s.data.toList 0 false) := by have := rdC [] (by decide); rwa [HLL.out] at this
      have hts : s.toList = [] := by rw [ByteArray.toList_eq, ← HLL.out]
      have hv : val (fdL []) = 0 := rfl
      have hll : (fdL []).length = 0 := rfl
      have hq : (decL 0 == s.toList) = false := by rw [hts]; rfl
      have hps : s.size = 0 := by omega
      rw [hv, hll]
      clear HLL hts hk9 xbd hk9' bd1 bd2 hv hll
      generalize decL 0 = d at *
      go_wp2_with (go_at_call 115; refine (HI.out _).mono ?_; rintro e w' ⟨rfl, hb1⟩)
      go_ret2
      exact ⟨_, _, rfl, HR.out, hb1⟩
    ·have HR : Hid (RdRes s.data.toList 0 false) := by
      have := rdA l (.inl (by rw [List.take_of_length_le (by omega)]; omega))
      rwa [HLL.out] at this
     have hk9' : 9 < (fdL l).length := by omega
     clear hlen HLL
     generalize val (fdL l) = v at *
     generalize (fdL l).length = kk at *
     by_cases hp : 0 < s.size
     ·go_wp2
      all_goals
       go_ret2
       exact ⟨0, false, rfl, HR.out, Below.refl _ _⟩
     ·go_wp2
      all_goals
       go_ret2
       exact ⟨0, false, rfl, HR.out, Below.refl _ _⟩
   ·obtain rfl : j = 11 := by omega
    have HR : Hid (RdRes l 0 false) := rdA l (.inr (by omega))
    generalize fdL (l.take 11) = m at *
    generalize val m = v at *
    generalize m.length = kk at *
    have g1 : decide ((10 : Int) < (s.size : Int)) = true := by simp; omega
    clear hlen
    have HR2 : Hid (RdRes s.data.toList 0 false) := by have := HR.out; rwa [HLL.out] at this
    clear HR HLL
    by_cases hlt3 : (11 : Int) < s.size
    ·go_wp2
     all_goals
      go_ret2
      exact ⟨0, false, rfl, HR2.out, Below.refl _ _⟩
    ·go_wp2
     all_goals
      go_ret2
      exact ⟨0, false, rfl, HR2.out, Below.refl _ _⟩
end Go.Proofs.YtamjofdgikifnaaGreat
namespace Go.Proofs.YtamjofdgikifnaaGreat
open Go.ChangeShapes Go.WideShapes Go.ChangeAt Go.RowKit
theorem front_one (s : ByteArray) (h : 0 < s.size) : (s.extract 0 1).toList = [s[0]] := by
 rw [ByteArray.toList_eq]
 have e : (s.extract 0 1).data.toList = s.data.toList.take 1 := by simp
 rw [e, take_snoc s 0 h]
 rfl
theorem cut_empty (s : ByteArray) (w : World) (h : s.size = 0) :
  Calls Tryz.prog 117 #[.string s, .string ⟨#[45]⟩] w fun e w' => e = .returned (.tuple #[.string s, .bool false]) ∧ w' = w := by
 go_enter Tryz.func117, Tryz.ntmps117
 go_wp2
 go_ret2
 exact ⟨rfl, rfl⟩
theorem cut_yes (s : ByteArray) (w : World) (hs : s.size ≤ 1048576) (h : 0 < s.size) (h45 : s[0].toNat = 45) :
  Calls Tryz.prog 117 #[.string s, .string ⟨#[45]⟩] w fun e w' => e = .returned (.tuple #[.string (s.extract 1 s.size), .bool true]) ∧ w' = w := by
 have hq : ((s.extract 0 1).toList == [45]) = true := by
  rw [front_one s h, UInt8.toNat_inj.1 (show s[0].toNat = (45 : UInt8).toNat from h45)]; rfl
 have h1 : (1 : Int) ≤ (s.size : Int) := by omega
 clear h45
 go_enter Tryz.func117, Tryz.ntmps117
 go_wp2
 go_ret2
 exact ⟨rfl, rfl⟩
theorem cut_no (s : ByteArray) (w : World) (hs : s.size ≤ 1048576) (h : 0 < s.size) (h45 : s[0].toNat ≠ 45) :
  Calls Tryz.prog 117 #[.string s, .string ⟨#[45]⟩] w fun e w' => e = .returned (.tuple #[.string s, .bool false]) ∧ w' = w := by
 have hq : ((s.extract 0 1).toList == [45]) = false := by
  rw [front_one s h, beq_eq_false_iff_ne]
  intro he
  exact h45 (by rw [(List.cons.inj he).1]; rfl)
 have h1 : (1 : Int) ≤ (s.size : Int) := by omega
 clear h45
 go_enter Tryz.func117, Tryz.ntmps117
 go_wp2
 go_ret2
 exact ⟨rfl, rfl⟩
def Parted (l t : List UInt8) (neg : Bool) : Prop := (neg = true ∧ l = 45 :: t) ∨ (neg = false ∧ l = t ∧ l.head? ≠ some 45)
def OkT (l t : List UInt8) : Prop := t ≠ [] ∧ t.length ≤ 9 ∧ (∀ c ∈ t, isDig c) ∧ (t.head? = some 48 → l = [48])
def signed (neg : Bool) (v : Nat) : Int := if neg then -(v : Int) else (v : Int)
theorem accept (l t : List UInt8) (neg : Bool) (hp : Parted l t neg) (h : OkT l t) : RdRes l (signed neg (val t)) true := by
 obtain ⟨h1, h2, h3, h4⟩ := h
 have hv := val_lt t h3
 have hv9 : 10 ^ t.length ≤ 10 ^ 9 := Nat.pow_le_pow_right (by omega) h2
 refine .inl ⟨rfl, ?_, by unfold signed; split <;> omega, by unfold signed; split <;> omega⟩
 by_cases hh : t.head? = some 48
 ·have hl := h4 hh
  rcases hp with ⟨rfl, rfl⟩ | ⟨rfl, rfl, hp⟩
  ·have := (List.cons.inj hl).1
   exact absurd this (by decide)
  ·rw [hl]; rfl
 ·have hhc : ∀ c, t.head? = some c → c.toNat ≠ 48 := by
   intro c hc h48
   have : c = 48 := UInt8.toNat_inj.1 h48
   rw [this] at hc
   exact hh hc
  have hpos := val_pos t h3 hhc h1
  have hd := digs_of_val t 20 h3 hhc (by omega)
  rcases hp with ⟨rfl, rfl⟩ | ⟨rfl, rfl, hp⟩
  ·show decL (-((val t : Nat) : Int)) = _
   rw [decL_neg _ (by omega), Int.neg_neg, Int.toNat_natCast, hd]
  ·show decL ((val l : Nat) : Int) = _
   rw [decL_pos _ (by omega), Int.toNat_natCast, hd]
theorem reject (l t : List UInt8) (neg : Bool) (hp : Parted l t neg) (h : ¬ OkT l t) : RdRes l 0 false := by
 refine .inr ⟨rfl, rfl, fun m h1 h2 he => h ?_⟩
 rcases Int.lt_trichotomy m 0 with hm | rfl | hm
 ·rw [decL_neg m hm] at he
  obtain ⟨c, r, e, hc1, hc2⟩ := head_digs (-m).toNat (by omega) (by omega)
  rcases hp with ⟨rfl, rfl⟩ | ⟨rfl, rfl, hp⟩
  ·have ht := (List.cons.inj he).2
   refine ⟨?_, ?_, ?_, ?_⟩
   ·rw [← ht, e]; simp
   ·rw [← ht]; exact digs_len 20 _ 9 (by omega)
   ·rw [← ht]; exact digs_dig 20 _
   ·rw [← ht, e]
    intro h0
    have : c = 48 := by simpa using h0
    rw [this] at hc1
    simp at hc1
  ·rw [← he] at hp
   exact absurd rfl hp
 ·have he : [48] = l := he
  rcases hp with ⟨rfl, rfl⟩ | ⟨rfl, rfl, hp⟩
  ·have := (List.cons.inj he).1
   exact absurd this (by decide)
  ·refine ⟨by rw [← he]; simp, by rw [← he]; simp, ?_, fun _ => he.symm⟩
   rw [← he]
   intro c hc
   rw [List.mem_singleton.1 hc]
   exact ⟨by decide, by decide⟩
 ·rw [decL_pos m hm] at he
  obtain ⟨c, r, e, hc1, hc2⟩ := head_digs m.toNat (by omega) (by omega)
  rcases hp with ⟨rfl, rfl⟩ | ⟨rfl, rfl, hp⟩
  ·rw [e] at he
   have := (List.cons.inj he).1
   rw [this] at hc1
   simp at hc1
  ·refine ⟨?_, ?_, ?_, ?_⟩
   ·rw [← he, e]; simp
   ·rw [← he]; exact digs_len 20 _ 9 (by omega)
   ·rw [← he]; exact digs_dig 20 _
   ·rw [← he, e]
    intro h0
    have : c = 48 := by simpa using h0
    rw [this] at hc1
    simp at hc1
theorem cut_any (s : ByteArray) (hs : s.size ≤ 1048576) : ∃ (t : ByteArray) (neg : Bool), t.size ≤ s.size ∧ Parted s.data.toList t.data.toList neg ∧
  ∀ w, Calls Tryz.prog 117 #[.string s, .string ⟨#[45]⟩] w fun e w' => e = .returned (.tuple #[.string t, .bool neg]) ∧ w' = w := by
 by_cases h0 : 0 < s.size
 ·by_cases h45 : s[0].toNat = 45
  ·refine ⟨s.extract 1 s.size, true, by simp, .inl ⟨rfl, ?_⟩, fun w => cut_yes s w hs h0 h45⟩
   have e : (s.extract 1 s.size).data.toList = s.data.toList.drop 1 := by
    rw [Lib.extract_data]
    exact List.take_of_length_le (by simp)
   have hl : 0 < s.data.toList.length := by simpa using h0
   have e2 := List.drop_eq_getElem_cons hl
   rw [List.drop_zero] at e2
   rw [e]
   have e3 : s.data.toList[0] = 45 := UInt8.toNat_inj.1 h45
   rw [e3] at e2
   exact e2
  ·refine ⟨s, false, Nat.le_refl _, .inr ⟨rfl, rfl, ?_⟩, fun w => cut_no s w hs h0 h45⟩
   have hl : 0 < s.data.toList.length := by simpa using h0
   rw [List.head?_eq_getElem?, List.getElem?_eq_getElem hl]
   intro h
   exact h45 (by rw [show s[0] = 45 from Option.some.inj h]; rfl)
 ·refine ⟨s, false, Nat.le_refl _, .inr ⟨rfl, rfl, ?_⟩, fun w => cut_empty s w (by omega)⟩
  have : s.data.toList = [] := List.eq_nil_of_length_eq_zero (by simpa using h0)
  rw [this]
  simp
end Go.Proofs.YtamjofdgikifnaaGreat
namespace Go.Proofs.YtamjofdgikifnaaGreat
open Go.ChangeShapes Go.WideShapes Go.ChangeAt Go.RowKit
set_option maxRecDepth 100000 in
set_option maxHeartbeats 1000000 in
theorem implRd_any (s : ByteArray) (w : World) (hs : s.size ≤ 1048576) :
  Calls Tryz.prog 107 #[.string s] w fun e w' => RdPost s w e w' := by
 obtain ⟨t, neg, hts, hpart, hcut⟩ := cut_any s hs
 have HC : Hid _ := hcut
 have HP : Hid _ := hpart
 have HL : Hid (t.data.toList.length = t.size) := by show _ = _; simp
 have HSL : Hid (s.toList = s.data.toList) := by show _ = _; rw [ByteArray.toList_eq]
 clear hcut hpart
 by_cases hn9 : 0 < t.size ∧ t.size ≤ 9
 ·obtain ⟨hn0, hn9⟩ := hn9
  have he : (t.toList.isEmpty) = false := by
   rw [ByteArray.toList_eq, List.isEmpty_eq_false_iff]
   intro h
   have := congrArg List.length h
   rw [HL.out, List.length_nil] at this
   omega
  have hd : decide ((9 : Int) < (t.size : Int)) = false := by simp; omega
  go_enter Tryz.func107, Tryz.ntmps107
  go_wp2
  go_step3
  go_wp2_with (go_at_call 117; refine (HC.out _).mono ?_; rintro e w' ⟨rfl, rfl⟩)
  go_step3
  go_wp2
  go_loop [6, 7, 24] (fun n o i => ∃ k : Nat, k ≤ t.size ∧ i = .int .i64 k ∧ o = .bool true ∧ n = .int .i64 (val (t.data.toList.take k) : Nat) ∧ (∀ c ∈ t.data.toList.take k, isDig c) ∧ (0 < k → t.data.toList.head? = some 48 → s.data.toList = [48])) (fun _ _ i => t.size - (intOf i).toNat)
  case atStart => exact ⟨0, by omega, rfl, rfl, rfl, by simp, fun h => by omega⟩
  case round =>
   obtain ⟨k, hk, rfl, rfl, rfl, hdig, hhead⟩ := hrel
   have HD : Hid _ := hdig
   have HH : Hid _ := hhead
   have hv : val (t.data.toList.take k) < 10 ^ (t.data.toList.take k).length := val_lt _ hdig
   have hv2 : 10 ^ (t.data.toList.take k).length ≤ 10 ^ 9 := Nat.pow_le_pow_right (by omega) (by rw [List.length_take]; omega)
   have hv9 : val (t.data.toList.take k) < 1000000000 := by omega
   clear hdig hhead hv hv2
   by_cases hlt : k < t.size
   ·have hb : (t[k].toNat : Int) < 256 := by have := t[k].toNat_lt; omega
    have HT : Hid (t.data.toList.take (k + 1) = t.data.toList.take k ++ [t[k]]) := take_snoc t k hlt
    have HV : Hid (val (t.data.toList.take (k + 1)) = val (t.data.toList.take k) * 10 + (t[k].toNat - 48)) := by show _ = _; rw [HT.out, val_snoc]
    have HM : Hid (t[k] ∈ t.data.toList) := by
     show _ ∈ _
     have : t[k] ∈ t.data.toList.take (k + 1) := by rw [HT.out]; simp
     exact List.mem_of_mem_take this
    generalize val (t.data.toList.take k) = v at *
    by_cases hd1 : t[k].toNat < 48
    ·have HR : Hid (RdRes s.data.toList 0 false) := reject _ _ _ HP.out (fun h => by have := h.2.2.1 _ HM.out; unfold isDig at this; omega)
     clear HP HD HH HT HV HM
     go_wp2
     go_ret2
     exact ⟨0, false, rfl, HR.out, Below.refl _ _⟩
    ·have e1 : decide ((t[k].toNat : Int) < 48) = false := by simp; omega
     by_cases hd2 : 57 < t[k].toNat
     ·have HR : Hid (RdRes s.data.toList 0 false) := reject _ _ _ HP.out (fun h => by have := h.2.2.1 _ HM.out; unfold isDig at this; omega)
      clear HP HD HH HT HV HM
      go_wp2
      go_ret2
      exact ⟨0, false, rfl, HR.out, Below.refl _ _⟩
     ·have e2 : decide ((57 : Int) < (t[k].toNat : Int)) = false := by simp; omega
      have HD2 : Hid (∀ c ∈ t.data.toList.take (k + 1), isDig c) := by
       intro c hc
       rw [HT.out] at hc
       rcases List.mem_append.1 hc with h | h
       ·exact HD.out c h
       ·rw [List.mem_singleton.1 h]; exact ⟨by omega, by omega⟩
      by_cases h48 : t[k].toNat = 48
      ·have e3 : ((t[k].toNat : Int) == 48) = true := by rw [beq_iff_eq]; omega
       by_cases hk0 : k = 0
       ·subst hk0
        have hhd : t.data.toList.head? = some 48 := by
         have hl : 0 < t.data.toList.length := by rw [HL.out]; exact hlt
         rw [List.head?_eq_getElem?, List.getElem?_eq_getElem hl]
         exact congrArg some (UInt8.toNat_inj.1 h48)
        by_cases hone : s.data.toList = [48]
        ·have e4 : (s.toList == [48]) = true := by rw [HSL.out, hone]; rfl
         have HH2 : Hid (0 < 0 + 1 → t.data.toList.head? = some 48 → s.data.toList = [48]) := fun _ _ => hone
         clear HP HD HH HT HM hhd hone h48
         go_wp2
         go_round
         case rel => exact ⟨0 + 1, by omega, by go_num, rfl, by rw [HV.out]; go_num, HD2.out, HH2.out⟩
         case measure => simp [intOf]; omega
        ·have e4 : (s.toList == [48]) = false := by rw [HSL.out]; simpa using hone
         have HR : Hid (RdRes s.data.toList 0 false) := reject _ _ _ HP.out (fun h => hone (h.2.2.2 hhd))
         clear HP HD HH HT HV HM HD2 hhd hone h48
         go_wp2
         go_ret2
         exact ⟨0, false, rfl, HR.out, Below.refl _ _⟩
       ·have e4 : ((k : Int) == 0) = false := by rw [beq_eq_false_iff_ne]; omega
        have HH2 : Hid (0 < k + 1 → t.data.toList.head? = some 48 → s.data.toList = [48]) := fun _ => HH.out (by omega)
        clear HP HD HH HT HM h48 hk0
        go_wp2
        go_round
        case rel => exact ⟨k + 1, by omega, by go_num, rfl, by rw [HV.out]; go_num, HD2.out, HH2.out⟩
        case measure => simp [intOf]; omega
      ·have e3 : ((t[k].toNat : Int) == 48) = false := by rw [beq_eq_false_iff_ne]; omega
       have HH2 : Hid (0 < k + 1 → t.data.toList.head? = some 48 → s.data.toList = [48]) := by
        intro _ h
        by_cases hk0 : k = 0
        ·subst hk0
         have hl : 0 < t.data.toList.length := by rw [HL.out]; exact hlt
         rw [List.head?_eq_getElem?, List.getElem?_eq_getElem hl] at h
         exact absurd (show t[0].toNat = 48 by rw [show t[0] = 48 from Option.some.inj h]; rfl) h48
        ·exact HH.out (by omega) h
       clear HP HD HH HT HM h48
       go_wp2
       go_round
       case rel => exact ⟨k + 1, by omega, by go_num, rfl, by rw [HV.out]; go_num, HD2.out, HH2.out⟩
       case measure => simp [intOf]; omega
   ·obtain rfl : k = t.size := by omega
    have htk : t.data.toList.take t.size = t.data.toList := List.take_of_length_le (by rw [HL.out]; exact Nat.le_refl _)
    have HR : Hid (RdRes s.data.toList (signed neg (val t.data.toList)) true) := by
     refine accept _ _ _ HP.out ⟨?_, by rw [HL.out]; exact hn9, by have := HD.out; rwa [htk] at this, HH.out hn0⟩
     intro h
     have := congrArg List.length h
     rw [HL.out, List.length_nil] at this
     omega
    rw [htk] at hv9 ⊢
    clear HP HD HH htk
    generalize val t.data.toList = v at *
    cases neg with
    | true =>
     go_wp2
     go_ret2
     exact ⟨-(v : Int), true, rfl, HR.out, Below.refl _ _⟩
    | false =>
     go_wp2
     go_ret2
     exact ⟨(v : Int), true, rfl, HR.out, Below.refl _ _⟩
 ·have HR : Hid (RdRes s.data.toList 0 false) := reject _ _ _ HP.out (fun h => hn9 ⟨by
   have h1 := h.1
   have := HL.out
   rcases Nat.eq_zero_or_pos t.size with h0 | h0
   ·rw [h0] at this; exact absurd (List.eq_nil_of_length_eq_zero this) h1
   ·exact h0, by have := h.2.1; rw [HL.out] at this; exact this⟩)
  by_cases h0 : t.size = 0
  ·have he : (t.toList.isEmpty) = true := by
    rw [ByteArray.toList_eq, List.isEmpty_iff]
    exact List.eq_nil_of_length_eq_zero (by rw [HL.out]; exact h0)
   clear HP hn9
   go_enter Tryz.func107, Tryz.ntmps107
   go_wp2
   go_step3
   go_wp2_with (go_at_call 117; refine (HC.out _).mono ?_; rintro e w' ⟨rfl, rfl⟩)
   rw [Exit.noGoto_ret]
   go_ret2
   exact ⟨0, false, rfl, HR.out, Below.refl _ _⟩
  ·have he : (t.toList.isEmpty) = false := by
    rw [ByteArray.toList_eq, List.isEmpty_eq_false_iff]
    intro h
    have := congrArg List.length h
    rw [HL.out, List.length_nil] at this
    omega
   have hd : 9 < t.size := by omega
   clear HP hn9
   go_enter Tryz.func107, Tryz.ntmps107
   go_wp2
   go_step3
   go_wp2_with (go_at_call 117; refine (HC.out _).mono ?_; rintro e w' ⟨rfl, rfl⟩)
   rw [Exit.noGoto_ret]
   go_ret2
   exact ⟨0, false, rfl, HR.out, Below.refl _ _⟩
end Go.Proofs.YtamjofdgikifnaaGreat
