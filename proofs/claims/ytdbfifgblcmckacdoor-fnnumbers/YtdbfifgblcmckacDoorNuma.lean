/- Plain facts for the law on numbers: what is made is read as it. -/
import Derived.Test.YtdbfifgblcmckacDoorCurh
import Derived.Test.YtdbfifgblcmckacDoorRvb
import Derived.Test.YtdbfifgblcmckacDoorRfb
import Derived.Test.YtdbfifgblcmckacDoorFixb
import Derived.Test.YtdbfifgblcmckacDoorHexb
import Derived.Test.YtdbfifgblcmckacDoorUhc
import Derived.Test.YtdbfifgblcmckacDoorRdc
import Derived.Test.YtdbfifgblcmckacDoorDeci
namespace Go.Proofs.YtdbfifgblcmckacDoor
open Go.ChangeShapes Go.WideShapes Go.ChangeAt Go.RowKit
theorem varL_back : ∀ (f n : Nat), n < 128 ^ (f + 1) → rvL (varL (f + 1) n) = n ∧ (varL (f + 1) n).length ≤ f + 1 ∧ varL (f + 1) n ≠ []
  | 0, n, h => by
    rw [varL_small 1 n (by simpa using h)]
    refine ⟨?_, by simp, by simp⟩
    have : (UInt8.ofNat n).toNat = n := by simp at h ⊢; omega
    simp [rvL, this]
    simp at h
    omega
  | f + 1, n, h => by
    by_cases h1 : n < 128
    · rw [varL_small _ n h1]
      refine ⟨?_, by simp, by simp⟩
      have : (UInt8.ofNat n).toNat = n := by simp; omega
      simp [rvL, this]
      omega
    · rw [varL_big (f + 1) n (by omega)]
      rw [Nat.pow_succ] at h
      obtain ⟨i1, i2, i3⟩ := varL_back f (n / 128) (by omega)
      have : (UInt8.ofNat (128 + n % 128)).toNat = 128 + n % 128 := by simp; omega
      refine ⟨?_, by simp; omega, by simp⟩
      simp only [rvL, i1, this]
      omega
theorem rv_of_var (n : Nat) (tl : List UInt8) (h : n ≤ 562949953421311) : RvRes (varL 7 n ++ tl) n (varL 7 n).length := by
  obtain ⟨h1, h2, h3⟩ := varL_back 6 n (by omega)
  have hp : 0 < (varL 7 n).length := List.length_pos_iff.2 h3
  have ht : (varL 7 n ++ tl).take (varL 7 n).length = varL 7 n := by simp
  refine .inl ⟨hp, h2, by simp, ?_, ?_⟩
  · rw [ht]
    exact (canon _ 7 h2 h3).1 (by rw [h1])
  · rw [ht, h1]
theorem rv_total (s : List UInt8) : ∃ n k, RvRes s n k := by
  by_cases h : ∃ k, 1 ≤ k ∧ k ≤ 7 ∧ k ≤ s.length ∧ can (s.take k) = true
  · obtain ⟨k, a, b, c, e⟩ := h
    exact ⟨_, k, .inl ⟨a, b, c, e, rfl⟩⟩
  · refine ⟨0, 0, .inr ⟨rfl, rfl, fun j a b c => ?_⟩⟩
    cases e : can (s.take j) with
    | false => rfl
    | true => exact absurd ⟨j, a, b, c, e⟩ h
theorem readVar_K (s : ByteArray) (n k : Nat) (hs : s.size ≤ 1048576) (h : RvRes s.data.toList n k) (w : World) :
    Calls Tryd.prog 8 #[.string s] w fun e w' => e = .returned (.tuple #[.int .i64 n, .int .i64 k]) ∧ w' = w :=
  (implRv_any s w hs).mono fun e w' ⟨n', k', he, hr, hw⟩ => by
    obtain ⟨rfl, rfl⟩ := hr.unique h
    exact ⟨he, hw⟩
theorem rf_of_fix (n : Nat) : ∀ (k : Nat) (tl : List UInt8), rfN ⟨(fixL n k ++ tl).toArray⟩ k = ((n % 256 ^ k : Nat) : Int) := by
  intro k tl
  have key : ∀ j, j ≤ k → rfN ⟨(fixL n k ++ tl).toArray⟩ j = ((n / 256 ^ (k - j) % 256 ^ j : Nat) : Int) := by
    have hat : ∀ m j, j < m → (fixL n m).getD j 0 = UInt8.ofNat (n / 256 ^ (m - 1 - j) % 256) := by
      intro m
      induction m with
      | zero => intro j hj; omega
      | succ m ih =>
        intro j hj
        match j with
        | 0 => simp [fixL]
        | j + 1 =>
          have := ih j (by omega)
          simp only [fixL, List.getD_cons_succ]
          rw [this]
          congr 3
          congr 1
          omega
    intro j
    induction j with
    | zero => intro _; simp [rfN, Nat.mod_one]
    | succ j ih =>
      intro hj
      have i1 := ih (by omega)
      have hg : (fixL n k ++ tl).getD j 0 = UInt8.ofNat (n / 256 ^ (k - 1 - j) % 256) := by
        have hl := fixL_length n k
        rw [List.getD_eq_getElem?_getD, List.getElem?_append_left (by omega), ← List.getD_eq_getElem?_getD]
        exact hat k j (by omega)
      have hd : (ByteArray.mk (fixL n k ++ tl).toArray).data.toList = fixL n k ++ tl := by simp
      show rfN _ j * 256 + (((ByteArray.mk (fixL n k ++ tl).toArray).data.toList.getD j 0).toNat : Int) = _
      rw [i1, hd, hg]
      have hb : (UInt8.ofNat (n / 256 ^ (k - 1 - j) % 256)).toNat = n / 256 ^ (k - 1 - j) % 256 := by simp
      rw [hb]
      have e1 : k - j = (k - 1 - j) + 1 := by omega
      have e2 : k - (j + 1) = k - 1 - j := by omega
      rw [e1, e2]
      generalize k - 1 - j = m
      rw [Nat.pow_succ, Nat.pow_succ, ← Nat.div_div_eq_div_mul]
      generalize n / 256 ^ m = q
      have := Nat.mod_mul (a := 256) (b := 256 ^ j) (x := q)
      rw [Nat.mul_comm (256 ^ j) 256, this]
      omega
  have := key k (Nat.le_refl _)
  simpa using this
end Go.Proofs.YtdbfifgblcmckacDoor
