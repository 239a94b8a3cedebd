/- The contract of CutPrefix at the sign, and plain facts on what is left. -/
import Derived.Test.YtfjjnngaeccdjaaRda
import Derived.Lib.Strings
namespace Go.Proofs.Ytfjjnngaeccdjaa
open Go.ChangeShapes Go.WideShapes Go.ChangeAt Go.RowKit
theorem front_one (s : ByteArray) (h : 0 < s.size) : (s.extract 0 1).toList = [s[0]] := by
  rw [ByteArray.toList_eq]
  have e : (s.extract 0 1).data.toList = s.data.toList.take 1 := by simp
  rw [e, take_snoc s 0 h]
  rfl
theorem cut_empty (s : ByteArray) (w : World) (h : s.size = 0) :
    Calls Try.prog 52 #[.string s, .string ⟨#[45]⟩] w fun e w' => e = .returned (.tuple #[.string s, .bool false]) ∧ w' = w := by
  go_enter Try.func52, Try.ntmps52
  go_wp2
  go_ret2
  exact ⟨rfl, rfl⟩
theorem cut_yes (s : ByteArray) (w : World) (hs : s.size ≤ 1048576) (h : 0 < s.size) (h45 : s[0].toNat = 45) :
    Calls Try.prog 52 #[.string s, .string ⟨#[45]⟩] w fun e w' => e = .returned (.tuple #[.string (s.extract 1 s.size), .bool true]) ∧ w' = w := by
  have hq : ((s.extract 0 1).toList == [45]) = true := by
    rw [front_one s h, UInt8.toNat_inj.1 (show s[0].toNat = (45 : UInt8).toNat from h45)]; rfl
  have h1 : (1 : Int) ≤ (s.size : Int) := by omega
  clear h45
  go_enter Try.func52, Try.ntmps52
  go_wp2
  go_ret2
  exact ⟨rfl, rfl⟩
theorem cut_no (s : ByteArray) (w : World) (hs : s.size ≤ 1048576) (h : 0 < s.size) (h45 : s[0].toNat ≠ 45) :
    Calls Try.prog 52 #[.string s, .string ⟨#[45]⟩] w fun e w' => e = .returned (.tuple #[.string s, .bool false]) ∧ w' = w := by
  have hq : ((s.extract 0 1).toList == [45]) = false := by
    rw [front_one s h, beq_eq_false_iff_ne]
    intro he
    exact h45 (by rw [(List.cons.inj he).1]; rfl)
  have h1 : (1 : Int) ≤ (s.size : Int) := by omega
  clear h45
  go_enter Try.func52, Try.ntmps52
  go_wp2
  go_ret2
  exact ⟨rfl, rfl⟩
/-- How a text is parted: its sign and what stands behind. -/
def Parted (l t : List UInt8) (neg : Bool) : Prop := (neg = true ∧ l = 45 :: t) ∨ (neg = false ∧ l = t ∧ l.head? ≠ some 45)
/-- Are these the digits that Dec would have made? -/
def OkT (l t : List UInt8) : Prop := t ≠ [] ∧ t.length ≤ 9 ∧ (∀ c ∈ t, isDig c) ∧ (t.head? = some 48 → l = [48])
/-- The number with its sign. -/
def signed (neg : Bool) (v : Nat) : Int := if neg then -(v : Int) else (v : Int)
theorem accept (l t : List UInt8) (neg : Bool) (hp : Parted l t neg) (h : OkT l t) : RdRes l (signed neg (val t)) true := by
  obtain ⟨h1, h2, h3, h4⟩ := h
  have hv := val_lt t h3
  have hv9 : 10 ^ t.length ≤ 10 ^ 9 := Nat.pow_le_pow_right (by omega) h2
  refine .inl ⟨rfl, ?_, by unfold signed; split <;> omega, by unfold signed; split <;> omega⟩
  by_cases hh : t.head? = some 48
  · have hl := h4 hh
    rcases hp with ⟨rfl, rfl⟩ | ⟨rfl, rfl, hp⟩
    · have := (List.cons.inj hl).1
      exact absurd this (by decide)
    · rw [hl]; rfl
  · have hhc : ∀ c, t.head? = some c → c.toNat ≠ 48 := by
      intro c hc h48
      have : c = 48 := UInt8.toNat_inj.1 h48
      rw [this] at hc
      exact hh hc
    have hpos := val_pos t h3 hhc h1
    have hd := digs_of_val t 20 h3 hhc (by omega)
    rcases hp with ⟨rfl, rfl⟩ | ⟨rfl, rfl, hp⟩
    · show decL (-((val t : Nat) : Int)) = _
      rw [decL_neg _ (by omega), Int.neg_neg, Int.toNat_natCast, hd]
    · show decL ((val l : Nat) : Int) = _
      rw [decL_pos _ (by omega), Int.toNat_natCast, hd]
theorem reject (l t : List UInt8) (neg : Bool) (hp : Parted l t neg) (h : ¬ OkT l t) : RdRes l 0 false := by
  refine .inr ⟨rfl, rfl, fun m h1 h2 he => h ?_⟩
  rcases Int.lt_trichotomy m 0 with hm | rfl | hm
  · rw [decL_neg m hm] at he
    obtain ⟨c, r, e, hc1, hc2⟩ := head_digs (-m).toNat (by omega) (by omega)
    rcases hp with ⟨rfl, rfl⟩ | ⟨rfl, rfl, hp⟩
    · have ht := (List.cons.inj he).2
      refine ⟨?_, ?_, ?_, ?_⟩
      · rw [← ht, e]; simp
      · rw [← ht]; exact digs_len 20 _ 9 (by omega)
      · rw [← ht]; exact digs_dig 20 _
      · rw [← ht, e]
        intro h0
        have : c = 48 := by simpa using h0
        rw [this] at hc1
        simp at hc1
    · rw [← he] at hp
      exact absurd rfl hp
  · have he : [48] = l := he
    rcases hp with ⟨rfl, rfl⟩ | ⟨rfl, rfl, hp⟩
    · have := (List.cons.inj he).1
      exact absurd this (by decide)
    · refine ⟨by rw [← he]; simp, by rw [← he]; simp, ?_, fun _ => he.symm⟩
      rw [← he]
      intro c hc
      rw [List.mem_singleton.1 hc]
      exact ⟨by decide, by decide⟩
  · rw [decL_pos m hm] at he
    obtain ⟨c, r, e, hc1, hc2⟩ := head_digs m.toNat (by omega) (by omega)
    rcases hp with ⟨rfl, rfl⟩ | ⟨rfl, rfl, hp⟩
    · rw [e] at he
      have := (List.cons.inj he).1
      rw [this] at hc1
      simp at hc1
    · refine ⟨?_, ?_, ?_, ?_⟩
      · rw [← he, e]; simp
      · rw [← he]; exact digs_len 20 _ 9 (by omega)
      · rw [← he]; exact digs_dig 20 _
      · rw [← he, e]
        intro h0
        have : c = 48 := by simpa using h0
        rw [this] at hc1
        simp at hc1
theorem cut_any (s : ByteArray) (hs : s.size ≤ 1048576) : ∃ (t : ByteArray) (neg : Bool), t.size ≤ s.size ∧ Parted s.data.toList t.data.toList neg ∧
    ∀ w, Calls Try.prog 52 #[.string s, .string ⟨#[45]⟩] w fun e w' => e = .returned (.tuple #[.string t, .bool neg]) ∧ w' = w := by
  by_cases h0 : 0 < s.size
  · by_cases h45 : s[0].toNat = 45
    · refine ⟨s.extract 1 s.size, true, by simp, .inl ⟨rfl, ?_⟩, fun w => cut_yes s w hs h0 h45⟩
      have e : (s.extract 1 s.size).data.toList = s.data.toList.drop 1 := by
        rw [Lib.extract_data]
        exact List.take_of_length_le (by simp)
      have hl : 0 < s.data.toList.length := by simpa using h0
      have e2 := List.drop_eq_getElem_cons hl
      rw [List.drop_zero] at e2
      rw [e]
      have e3 : s.data.toList[0] = 45 := UInt8.toNat_inj.1 h45
      rw [e3] at e2
      exact e2
    · refine ⟨s, false, Nat.le_refl _, .inr ⟨rfl, rfl, ?_⟩, fun w => cut_no s w hs h0 h45⟩
      have hl : 0 < s.data.toList.length := by simpa using h0
      rw [List.head?_eq_getElem?, List.getElem?_eq_getElem hl]
      intro h
      exact h45 (by rw [show s[0] = 45 from Option.some.inj h]; rfl)
  · refine ⟨s, false, Nat.le_refl _, .inr ⟨rfl, rfl, ?_⟩, fun w => cut_empty s w (by omega)⟩
    have : s.data.toList = [] := List.eq_nil_of_length_eq_zero (by simpa using h0)
    rw [this]
    simp
end Go.Proofs.Ytfjjnngaeccdjaa
