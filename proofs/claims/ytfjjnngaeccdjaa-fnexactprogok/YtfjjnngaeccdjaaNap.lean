/- Which bytes stand in a symbol, and which texts are symbols and names: plain functions of the bytes. -/
import Derived.Test.YtfjjnngaeccdjaaAra
import Derived.Test.YtfjjnngaeccdjaaRdc
namespace Go.Proofs.Ytfjjnngaeccdjaa
/-- Stands the byte in the row? -/
def hasB (l : List UInt8) (c : UInt8) : Bool := l.contains c
/-- May the byte stand in a symbol? -/
def sgB (c : UInt8) : Bool := (decide (97 ≤ c.toNat) && decide (c.toNat ≤ 122)) || (isDigB c || hasB [33, 63, 42, 47, 60, 61, 62, 43, 45, 95] c)
/-- Is it what Dec makes of a number of at most nine digits? -/
def deB (l : List UInt8) : Bool := decide (decL (rdX l) = l) && decide ((fdL l).length ≤ 9)
theorem RdRes.deB {l : List UInt8} {n : Int} {b : Bool} (h : RdRes l n b) : b = deB l := by
  by_cases h9 : (fdL l).length ≤ 9
  · by_cases he : decL (rdX l) = l
    · have := (RdRes.unique h (rdB l h9 he)).2
      rw [this]; simp [Ytfjjnngaeccdjaa.deB, he, h9]
    · have := (RdRes.unique h (rdC l he)).2
      rw [this]; simp [Ytfjjnngaeccdjaa.deB, he]
  · have hf : RdRes l 0 false := by
      refine .inr ⟨rfl, rfl, fun m h1 h2 he => ?_⟩
      obtain ⟨_, b, _⟩ := of_dec m h1 h2
      rw [he] at b
      exact h9 b
    have := (RdRes.unique h hf).2
    rw [this]; simp [Ytfjjnngaeccdjaa.deB, h9]
/-- Is it a symbol? -/
def syL (l : List UInt8) : Bool := decide (1 ≤ l.length) && decide (l.length ≤ 16) && !(l.head?.any isDigB) && l.all sgB && !deB l
/-- Is it a name? -/
def naL (l : List UInt8) : Bool := l == [37, 116] || (syL l && !woL l && decide (arL l < 0))
theorem sgB_low : ∀ n : Nat, n < 64 → sgB (UInt8.ofNat n) = decide ((17581960594867617792 >>> n) % 2 = 1) := by decide +kernel
theorem sgB_high : ∀ n : Nat, n < 256 → 64 ≤ n → sgB (UInt8.ofNat n) = decide ((576460745860972544 >>> (n - 64)) % 2 = 1) := by decide +kernel
end Go.Proofs.Ytfjjnngaeccdjaa
