/- The program's way to tell the bytes of a symbol. -/
import Derived.Test.YtfjjnngaeccdjaaNaa
namespace Go.Proofs.Ytfjjnngaeccdjaa
open Go.ChangeShapes Go.WideShapes Go.ChangeAt Go.RowKit
theorem sg_low : ∀ n : Nat, n < 64 → sgB (UInt8.ofNat n) = (bits .and .u64 (17581960594867617792 / 2 ^ n) 1 == 1) := by decide +kernel
theorem sg_high : ∀ n : Nat, n < 64 → sgB (UInt8.ofNat (n + 64)) = (bits .and .u64 (576460745860972544 / 2 ^ n) 1 == 1) := by decide +kernel
theorem sg_far : ∀ n : Nat, n < 128 → sgB (UInt8.ofNat (n + 128)) = false := by decide +kernel
theorem ofNat_of {c : UInt8} {n : Nat} (h : c.toNat = n) : c = UInt8.ofNat n := by rw [← h]; simp
theorem shift_far (y : Int) (h : 64 ≤ y) : Op.shift .shr .u64 576460745860972544 .u8 y = pure (.int .u64 0) := by
  have hm : min y.toNat 64 = 64 := by omega
  have hb : IntKind.u64.bits = 64 := rfl
  simp [Op.shift, hb, hm]
  omega
set_option maxRecDepth 100000 in
theorem inSymbol_any (c : UInt8) (w : World) :
    Calls Try.prog 38 #[.int .u8 c.toNat] w fun e w' => e = .returned (.bool (sgB c)) ∧ w' = w := by
  have hc : c.toNat < 256 := c.toNat_lt
  obtain ⟨n, hn⟩ : ∃ n, c.toNat = n := ⟨_, rfl⟩
  have HN : Hid (c = UInt8.ofNat n) := ofNat_of hn
  rw [hn]
  rw [hn] at hc
  clear hn
  by_cases h1 : n < 64
  · have HQ : Hid (sgB c = (bits .and .u64 (17581960594867617792 / 2 ^ n) 1 == 1)) := by show _ = _; rw [HN.out]; exact sg_low n h1
    clear HN
    go_enter Try.func38, Try.ntmps38
    go_wp2
    go_ret
    exact ⟨by rw [HQ.out]; rfl, rfl⟩
  · have e1 : decide ((n : Int) < 64) = false := by simp; omega
    by_cases h2 : n < 128
    · obtain ⟨d, rfl⟩ : ∃ d, n = d + 64 := ⟨n - 64, by omega⟩
      have HQ : Hid (sgB c = (bits .and .u64 (576460745860972544 / 2 ^ d) 1 == 1)) := by show _ = _; rw [HN.out]; exact sg_high d (by omega)
      clear HN
      go_enter Try.func38, Try.ntmps38
      go_wp2
      go_ret
      refine ⟨?_, rfl⟩
      rw [HQ.out]
      simp
    · have HQ : Hid (sgB c = false) := by
        show _ = _
        obtain ⟨d, rfl⟩ : ∃ d, n = d + 128 := ⟨n - 128, by omega⟩
        rw [HN.out]; exact sg_far d (by omega)
      clear HN
      have hsh := shift_far ((n : Int) - 64) (by omega)
      go_enter Try.func38, Try.ntmps38
      go_wp2
      go_ret
      exact ⟨by rw [HQ.out]; rfl, rfl⟩
end Go.Proofs.Ytfjjnngaeccdjaa
