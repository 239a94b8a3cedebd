/- Is it a value in a heap? The program's way: a value as it is inside, behind an interface. -/
import Derived.Test.YtkbpnjigoipgeaaDoorVox
set_option linter.unusedVariables false
namespace Go.Proofs.YtkbpnjigoipgeaaDoor
open Go.ChangeShapes Go.WideShapes Go.ChangeAt Go.RowKit
/-- A value as it is inside. -/
def inV (v : Val) : Value :=
  if v.k = 4 ∧ v.n = 0 then .iface 67 (.string v.s)
  else if v.s.size ≠ 0 then .nilIface
  else if v.k = 3 ∧ v.n = 0 then .iface 69 (.agg #[])
  else if v.k = 1 then .iface 70 (.int .i64 v.n)
  else if v.k = 2 then .iface 71 (.int .i64 v.n)
  else if v.k = 5 then .iface 72 (.int .i64 v.n)
  else if v.k = 6 then .iface 73 (.int .i64 v.n)
  else if v.k = 7 then .iface 74 (.int .i64 v.n)
  else .nilIface
theorem inV4 (s : ByteArray) : inV ⟨4, 0, s⟩ = .iface 67 (.string s) := by simp [inV]
theorem inV4n (n : Int) (s : ByteArray) (h : n ≠ 0) : inV ⟨4, n, s⟩ = .nilIface := by simp [inV, h]
theorem inVS (k n : Int) (s : ByteArray) (hk : k ≠ 4) (h : s.size ≠ 0) : inV ⟨k, n, s⟩ = .nilIface := by simp [inV, h, hk]
theorem inV3 : inV ⟨3, 0, ⟨#[]⟩⟩ = .iface 69 (.agg #[]) := by simp [inV]; rfl
theorem inV3n (n : Int) (h : n ≠ 0) : inV ⟨3, n, ⟨#[]⟩⟩ = .nilIface := by simp [inV, h]
theorem inV1 (n : Int) : inV ⟨1, n, ⟨#[]⟩⟩ = .iface 70 (.int .i64 n) := by simp [inV]; rfl
theorem inV2 (n : Int) : inV ⟨2, n, ⟨#[]⟩⟩ = .iface 71 (.int .i64 n) := by simp [inV]; rfl
theorem inV5 (n : Int) : inV ⟨5, n, ⟨#[]⟩⟩ = .iface 72 (.int .i64 n) := by simp [inV]; rfl
theorem inV6 (n : Int) : inV ⟨6, n, ⟨#[]⟩⟩ = .iface 73 (.int .i64 n) := by simp [inV]; rfl
theorem inV7 (n : Int) : inV ⟨7, n, ⟨#[]⟩⟩ = .iface 74 (.int .i64 n) := by simp [inV]; rfl
theorem inV0 (k n : Int) (s : ByteArray) (h1 : k ≠ 1) (h2 : k ≠ 2) (h3 : k ≠ 3) (h4 : k ≠ 4) (h5 : k ≠ 5) (h6 : k ≠ 6) (h7 : k ≠ 7) : inV ⟨k, n, s⟩ = .nilIface := by simp [inV, h1, h2, h3, h4, h5, h6, h7]
set_option maxRecDepth 100000 in
set_option maxHeartbeats 2000000 in
theorem innerOf_any (d : Val) (w : World) :
    Calls Tryd.prog 32 #[.agg #[.int .i64 d.k, .int .i64 d.n, .string d.s]] w fun e w' => Ans w (inV d) e w' := by
  have hbB : Below w.heap.size w (w.alloc (Obj.cells #[.int .i64 d.k, .int .i64 d.n, .string d.s] 26)) := (Below.refl _ _).alloc (Nat.le_refl _) _
  obtain ⟨k, n, s⟩ := d
  simp only at *
  by_cases h4 : k = 4
  · subst h4
    by_cases h0 : n = 0
    · subst h0
      rw [inV4]
      go_enter Tryd.func32, Tryd.ntmps32
      go_wp2
      go_ret
      exact ⟨rfl, hbB⟩
    · rw [inV4n n s h0]
      by_cases hs : s.size = 0
      · obtain rfl := size_zero hs
        go_enter Tryd.func32, Tryd.ntmps32
        go_wp2
        go_ret
        exact ⟨rfl, hbB⟩
      · have g0 := str_ne hs
        clear hs
        go_enter Tryd.func32, Tryd.ntmps32
        go_wp2
        go_ret
        exact ⟨rfl, hbB⟩
  by_cases hs : s.size = 0
  · obtain rfl := size_zero hs
    clear hs
    by_cases h1 : k = 1
    · subst h1
      rw [inV1]
      clear h4
      go_enter Tryd.func32, Tryd.ntmps32
      go_wp2
      go_ret
      exact ⟨rfl, hbB⟩
    by_cases h2 : k = 2
    · subst h2
      rw [inV2]
      clear h4 h1
      go_enter Tryd.func32, Tryd.ntmps32
      go_wp2
      go_ret
      exact ⟨rfl, hbB⟩
    by_cases h5 : k = 5
    · subst h5
      rw [inV5]
      clear h4 h1 h2
      go_enter Tryd.func32, Tryd.ntmps32
      go_wp2
      go_ret
      exact ⟨rfl, hbB⟩
    by_cases h6 : k = 6
    · subst h6
      rw [inV6]
      clear h4 h1 h2 h5
      go_enter Tryd.func32, Tryd.ntmps32
      go_wp2
      go_ret
      exact ⟨rfl, hbB⟩
    by_cases h7 : k = 7
    · subst h7
      rw [inV7]
      clear h4 h1 h2 h5 h6
      go_enter Tryd.func32, Tryd.ntmps32
      go_wp2
      go_ret
      exact ⟨rfl, hbB⟩
    by_cases h3 : k = 3
    · subst h3
      clear h4 h1 h2 h5 h6 h7
      by_cases h0 : n = 0
      · subst h0
        rw [inV3]
        go_enter Tryd.func32, Tryd.ntmps32
        go_wp2
        go_ret
        exact ⟨rfl, hbB⟩
      · rw [inV3n n h0]
        go_enter Tryd.func32, Tryd.ntmps32
        go_wp2
        go_ret
        exact ⟨rfl, hbB⟩
    · rw [inV0 k n _ h1 h2 h3 h4 h5 h6 h7]
      go_enter Tryd.func32, Tryd.ntmps32
      go_wp2
      go_ret
      exact ⟨rfl, hbB⟩
  · rw [inVS k n s h4 hs]
    have g0 := str_ne hs
    clear hs
    go_enter Tryd.func32, Tryd.ntmps32
    go_wp2
    go_ret
    exact ⟨rfl, hbB⟩
end Go.Proofs.YtkbpnjigoipgeaaDoor
