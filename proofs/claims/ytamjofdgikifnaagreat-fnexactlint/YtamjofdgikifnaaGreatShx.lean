/- The literal map of shapes that the program makes, in whatever order its entries are laid. The map of shapes whole. -/
import Derived.Test.YtamjofdgikifnaaGreatKmp
namespace Go.Proofs.YtamjofdgikifnaaGreat
open Go.ChangeShapes Go.WideShapes Go.ChangeAt Go.RowKit
def opsIn (f : Func) : Array Oper := match f.body with
 | some (.seq _ (.seq (.region _ ops _) _)) => ops
 | _ => #[]
def shKey : Nat → Int × Int × Int × Int
 | 0 => (1, 0, 0, 0)
 | 1 => (2, 0, 0, 0)
 | 2 => (3, 0, 0, 0)
 | 3 => (4, 0, 0, 0)
 | 4 => (5, 0, 0, 0)
 | 5 => (6, 0, 0, 3)
 | 6 => (9, 1, 0, 1)
 | 7 => (9, 2, 0, 2)
 | 8 => (9, 4, 1, 1)
 | 9 => (9, 5, 1, 1)
 | 10 => (10, 0, 0, 1)
 | _ => (11, 0, 0, 2)
def shVal : Nat → Int × Int × Int
 | 0 => (-1000000, 1000000, 0)
 | 1 => (0, 1, 0)
 | 2 => (0, 0, 0)
 | 3 => (0, 0, 1)
 | 4 => (0, 0, 2)
 | 5 => (0, 0, 0)
 | 6 => (0, 0, 3)
 | 7 => (0, 0, 3)
 | 8 => (0, 7, 3)
 | 9 => (0, 0, 3)
 | 10 => (0, 0, 2)
 | _ => (0, 0, 0)
def shIdx (k : Int × Int × Int × Int) : Option Nat := (List.range 12).find? fun j => decide (shKey j = k)
def FS (S : Nat → Bool) : Says := fun a b c d => (shIdx (a, b, c, d)).bind fun j => if S j then some (shVal j) else none
def addS (S : Nat → Bool) (j : Nat) : Nat → Bool := fun i => i == j || S i
theorem shIdx_key : ∀ j, j < 12 → shIdx (shKey j) = some j := by decide +kernel
theorem shIdx_inv {k : Int × Int × Int × Int} {j : Nat} (h : shIdx k = some j) : shKey j = k := by
 have := List.find?_some h
 simpa using this
theorem FS_step (S : Nat → Bool) (j : Nat) (hj : j < 12) : FS (addS S j) = upd (FS S) (shKey j).1 (shKey j).2.1 (shKey j).2.2.1 (shKey j).2.2.2 (shVal j) := by
 funext a b c d
 unfold upd
 by_cases h : a = (shKey j).1 ∧ b = (shKey j).2.1 ∧ c = (shKey j).2.2.1 ∧ d = (shKey j).2.2.2
 ·rw [if_pos h]
  obtain ⟨rfl, rfl, rfl, rfl⟩ := h
  unfold FS
  rw [shIdx_key j hj]
  simp [addS]
 ·rw [if_neg h]
  unfold FS
  cases hi : shIdx (a, b, c, d) with
  | none => rfl
  | some i =>
   have hne : ¬ i = j := by
    intro e
    rw [e] at hi
    have := shIdx_inv hi
    exact h (by rw [this]; exact ⟨rfl, rfl, rfl, rfl⟩)
   simp [addS, hne]
def LS (S : Nat → Bool) : Array Bool := #[true, true, true, S 0, true, true, S 1, true, true, S 2, true, true, S 3, true, true, S 4, true, true, S 5, true, true, S 6, true, true, S 7, true, true, S 8, true, true, S 9, true, true, S 10, true, true, S 11, false, false]
def b2n : Bool → Nat
 | true => 0
 | false => 1
def cntS (S : Nat → Bool) : Nat := b2n (S 0) + b2n (S 1) + b2n (S 2) + b2n (S 3) + b2n (S 4) + b2n (S 5) + b2n (S 6) + b2n (S 7) + b2n (S 8) + b2n (S 9) + b2n (S 10) + b2n (S 11)
def insO (j : Nat) : Oper := { dst := none, op := .insert 122 (.tmp 4) (.tmp (5 + 2 * j)) (.tmp (6 + 2 * j)), type := 0, pos := "l03_core.go:107", after := #[⟨0, .data⟩, ⟨3 * j + 1, .data⟩, ⟨3 * j + 2, .data⟩], guard := none }
theorem sh_ins : ∀ j, j < 12 → (opsIn Tryz.f92)[3 * j + 3]? = some (insO j) := by
 intro j hj
 match j, hj with
 | 0, _ => show (opsIn Tryz.f92)[3]? = some (insO 0); kernel_rfl
 | 1, _ => show (opsIn Tryz.f92)[6]? = some (insO 1); kernel_rfl
 | 2, _ => show (opsIn Tryz.f92)[9]? = some (insO 2); kernel_rfl
 | 3, _ => show (opsIn Tryz.f92)[12]? = some (insO 3); kernel_rfl
 | 4, _ => show (opsIn Tryz.f92)[15]? = some (insO 4); kernel_rfl
 | 5, _ => show (opsIn Tryz.f92)[18]? = some (insO 5); kernel_rfl
 | 6, _ => show (opsIn Tryz.f92)[21]? = some (insO 6); kernel_rfl
 | 7, _ => show (opsIn Tryz.f92)[24]? = some (insO 7); kernel_rfl
 | 8, _ => show (opsIn Tryz.f92)[27]? = some (insO 8); kernel_rfl
 | 9, _ => show (opsIn Tryz.f92)[30]? = some (insO 9); kernel_rfl
 | 10, _ => show (opsIn Tryz.f92)[33]? = some (insO 10); kernel_rfl
 | 11, _ => show (opsIn Tryz.f92)[36]? = some (insO 11); kernel_rfl
theorem LS_set : ∀ j, j < 12 → ∀ S : Nat → Bool, (LS S).setIfInBounds (3 * j + 3) true = LS (addS S j) := by
 intro j hj
 match j, hj with
 | 0, _ => exact fun S => rfl
 | 1, _ => exact fun S => rfl
 | 2, _ => exact fun S => rfl
 | 3, _ => exact fun S => rfl
 | 4, _ => exact fun S => rfl
 | 5, _ => exact fun S => rfl
 | 6, _ => exact fun S => rfl
 | 7, _ => exact fun S => rfl
 | 8, _ => exact fun S => rfl
 | 9, _ => exact fun S => rfl
 | 10, _ => exact fun S => rfl
 | 11, _ => exact fun S => rfl
theorem LS_get : ∀ j, j < 12 → ∀ (S : Nat → Bool) (b : Bool), (LS S).getD (3 * j + 3) b = S j := by
 intro j hj
 match j, hj with
 | 0, _ => exact fun S b => rfl
 | 1, _ => exact fun S b => rfl
 | 2, _ => exact fun S b => rfl
 | 3, _ => exact fun S b => rfl
 | 4, _ => exact fun S b => rfl
 | 5, _ => exact fun S b => rfl
 | 6, _ => exact fun S b => rfl
 | 7, _ => exact fun S b => rfl
 | 8, _ => exact fun S b => rfl
 | 9, _ => exact fun S b => rfl
 | 10, _ => exact fun S b => rfl
 | 11, _ => exact fun S b => rfl
theorem LS_dep : ∀ j, j < 12 → ∀ (S : Nat → Bool), (LS S).getD (3 * j + 1) false = true ∧ (LS S).getD (3 * j + 2) false = true := by
 intro j hj
 match j, hj with
 | 0, _ => exact fun S => ⟨rfl, rfl⟩
 | 1, _ => exact fun S => ⟨rfl, rfl⟩
 | 2, _ => exact fun S => ⟨rfl, rfl⟩
 | 3, _ => exact fun S => ⟨rfl, rfl⟩
 | 4, _ => exact fun S => ⟨rfl, rfl⟩
 | 5, _ => exact fun S => ⟨rfl, rfl⟩
 | 6, _ => exact fun S => ⟨rfl, rfl⟩
 | 7, _ => exact fun S => ⟨rfl, rfl⟩
 | 8, _ => exact fun S => ⟨rfl, rfl⟩
 | 9, _ => exact fun S => ⟨rfl, rfl⟩
 | 10, _ => exact fun S => ⟨rfl, rfl⟩
 | 11, _ => exact fun S => ⟨rfl, rfl⟩
theorem cnt_step : ∀ j, j < 12 → ∀ S : Nat → Bool, S j = false → cntS (addS S j) + 1 = cntS S := by
 intro j hj
 match j, hj with
 | 0, _ => intro S h; simp [cntS, addS, b2n, h] <;> omega
 | 1, _ => intro S h; simp [cntS, addS, b2n, h] <;> omega
 | 2, _ => intro S h; simp [cntS, addS, b2n, h] <;> omega
 | 3, _ => intro S h; simp [cntS, addS, b2n, h] <;> omega
 | 4, _ => intro S h; simp [cntS, addS, b2n, h] <;> omega
 | 5, _ => intro S h; simp [cntS, addS, b2n, h] <;> omega
 | 6, _ => intro S h; simp [cntS, addS, b2n, h] <;> omega
 | 7, _ => intro S h; simp [cntS, addS, b2n, h] <;> omega
 | 8, _ => intro S h; simp [cntS, addS, b2n, h] <;> omega
 | 9, _ => intro S h; simp [cntS, addS, b2n, h] <;> omega
 | 10, _ => intro S h; simp [cntS, addS, b2n, h] <;> omega
 | 11, _ => intro S h; simp [cntS, addS, b2n, h] <;> omega
theorem sh_last : ∀ j, j < 12 → ((opsIn Tryz.f92)[37]?.map fun o => o.after[3 * j + 3]?) = some (some ⟨3 * j + 3, .data⟩) := by
 intro j hj
 match j, hj with
 | 0, _ => show ((opsIn Tryz.f92)[37]?.map fun o => o.after[3]?) = some (some ⟨3, .data⟩); kernel_rfl
 | 1, _ => show ((opsIn Tryz.f92)[37]?.map fun o => o.after[6]?) = some (some ⟨6, .data⟩); kernel_rfl
 | 2, _ => show ((opsIn Tryz.f92)[37]?.map fun o => o.after[9]?) = some (some ⟨9, .data⟩); kernel_rfl
 | 3, _ => show ((opsIn Tryz.f92)[37]?.map fun o => o.after[12]?) = some (some ⟨12, .data⟩); kernel_rfl
 | 4, _ => show ((opsIn Tryz.f92)[37]?.map fun o => o.after[15]?) = some (some ⟨15, .data⟩); kernel_rfl
 | 5, _ => show ((opsIn Tryz.f92)[37]?.map fun o => o.after[18]?) = some (some ⟨18, .data⟩); kernel_rfl
 | 6, _ => show ((opsIn Tryz.f92)[37]?.map fun o => o.after[21]?) = some (some ⟨21, .data⟩); kernel_rfl
 | 7, _ => show ((opsIn Tryz.f92)[37]?.map fun o => o.after[24]?) = some (some ⟨24, .data⟩); kernel_rfl
 | 8, _ => show ((opsIn Tryz.f92)[37]?.map fun o => o.after[27]?) = some (some ⟨27, .data⟩); kernel_rfl
 | 9, _ => show ((opsIn Tryz.f92)[37]?.map fun o => o.after[30]?) = some (some ⟨30, .data⟩); kernel_rfl
 | 10, _ => show ((opsIn Tryz.f92)[37]?.map fun o => o.after[33]?) = some (some ⟨33, .data⟩); kernel_rfl
 | 11, _ => show ((opsIn Tryz.f92)[37]?.map fun o => o.after[36]?) = some (some ⟨36, .data⟩); kernel_rfl
theorem sh_37 : ((opsIn Tryz.f92)[38]?.map fun o => o.after[0]?) = some (some ⟨37, .data⟩) := by kernel_rfl
theorem cnt_zero {S : Nat → Bool} (h : cntS S = 0) : LS S = LS (fun _ => true) ∧ FS S = FS (fun _ => true) := by
 have hS : ∀ j, j < 12 → S j = true := by
  intro j hj
  cases hs : S j
  ·have := cnt_step j hj S hs
   omega
  ·rfl
 refine ⟨?_, ?_⟩
 ·unfold LS
  rw [hS 0 (by omega), hS 1 (by omega), hS 2 (by omega), hS 3 (by omega), hS 4 (by omega), hS 5 (by omega), hS 6 (by omega), hS 7 (by omega), hS 8 (by omega), hS 9 (by omega), hS 10 (by omega), hS 11 (by omega)]
 ·funext a b c d
  unfold FS
  cases hi : shIdx (a, b, c, d) with
  | none => rfl
  | some i =>
   have hlt : i < 12 := List.mem_range.1 (List.mem_of_find?_eq_some hi)
   simp [hS i hlt]
theorem cnt_pos {S : Nat → Bool} (h : 0 < cntS S) : ∃ j, j < 12 ∧ S j = false := by
 refine Classical.byContradiction fun hn => ?_
 have hS : ∀ j, j < 12 → S j = true := by
  intro j hj
  cases hs : S j
  ·exact absurd ⟨j, hj, hs⟩ hn
  ·rfl
 unfold cntS at h
 rw [hS 0 (by omega), hS 1 (by omega), hS 2 (by omega), hS 3 (by omega), hS 4 (by omega), hS 5 (by omega), hS 6 (by omega), hS 7 (by omega), hS 8 (by omega), hS 9 (by omega), hS 10 (by omega), hS 11 (by omega)] at h
 simp [b2n] at h
theorem LS_open (S : Nat → Bool) : ∀ i, i < 39 → (LS S).getD i true = false → (∃ j, j < 12 ∧ i = 3 * j + 3 ∧ S j = false) ∨ i = 37 ∨ i = 38 := by
 intro i hi h
 match i, hi, h with
 | 0, _, h => cases h
 | 1, _, h => cases h
 | 2, _, h => cases h
 | 3, _, h => exact .inl ⟨0, by omega, rfl, h⟩
 | 4, _, h => cases h
 | 5, _, h => cases h
 | 6, _, h => exact .inl ⟨1, by omega, rfl, h⟩
 | 7, _, h => cases h
 | 8, _, h => cases h
 | 9, _, h => exact .inl ⟨2, by omega, rfl, h⟩
 | 10, _, h => cases h
 | 11, _, h => cases h
 | 12, _, h => exact .inl ⟨3, by omega, rfl, h⟩
 | 13, _, h => cases h
 | 14, _, h => cases h
 | 15, _, h => exact .inl ⟨4, by omega, rfl, h⟩
 | 16, _, h => cases h
 | 17, _, h => cases h
 | 18, _, h => exact .inl ⟨5, by omega, rfl, h⟩
 | 19, _, h => cases h
 | 20, _, h => cases h
 | 21, _, h => exact .inl ⟨6, by omega, rfl, h⟩
 | 22, _, h => cases h
 | 23, _, h => cases h
 | 24, _, h => exact .inl ⟨7, by omega, rfl, h⟩
 | 25, _, h => cases h
 | 26, _, h => cases h
 | 27, _, h => exact .inl ⟨8, by omega, rfl, h⟩
 | 28, _, h => cases h
 | 29, _, h => cases h
 | 30, _, h => exact .inl ⟨9, by omega, rfl, h⟩
 | 31, _, h => cases h
 | 32, _, h => cases h
 | 33, _, h => exact .inl ⟨10, by omega, rfl, h⟩
 | 34, _, h => cases h
 | 35, _, h => cases h
 | 36, _, h => exact .inl ⟨11, by omega, rfl, h⟩
 | 37, _, _ => exact .inr (.inl rfl)
 | 38, _, _ => exact .inr (.inr rfl)
def shA0 : Act := ⟨#[.map none, undef, undef, undef, undef, undef, undef, undef, undef, undef, undef, undef, undef, undef, undef, undef, undef, undef, undef, undef, undef, undef, undef, undef, undef, undef, undef, undef, undef, undef, undef, undef, undef, undef, undef, undef, undef, undef, undef, undef, undef, undef, undef, undef, undef, undef, undef, undef, undef, undef, undef, undef], []⟩
def shA1 : Act := ⟨#[.map none, undef, undef, undef, undef, (Kv 1 0 0 0), (Rv (-1000000) 1000000 0), (Kv 2 0 0 0), (Rv 0 1 0), (Kv 3 0 0 0), (Rv 0 0 0), (Kv 4 0 0 0), (Rv 0 0 1), (Kv 5 0 0 0), (Rv 0 0 2), (Kv 6 0 0 3), (Rv 0 0 0), (Kv 9 1 0 1), (Rv 0 0 3), (Kv 9 2 0 2), (Rv 0 0 3), (Kv 9 4 1 1), (Rv 0 7 3), (Kv 9 5 1 1), (Rv 0 0 3), (Kv 10 0 0 1), (Rv 0 0 2), (Kv 11 0 0 2), (Rv 0 0 0), undef, undef, undef, undef, undef, undef, undef, undef, undef, undef, undef, undef, undef, undef, undef, undef, undef, undef, undef, undef, undef, undef, undef], []⟩
def shA2 (m : Nat) : Act := ⟨#[.map none, undef, undef, undef, .map (some m), (Kv 1 0 0 0), (Rv (-1000000) 1000000 0), (Kv 2 0 0 0), (Rv 0 1 0), (Kv 3 0 0 0), (Rv 0 0 0), (Kv 4 0 0 0), (Rv 0 0 1), (Kv 5 0 0 0), (Rv 0 0 2), (Kv 6 0 0 3), (Rv 0 0 0), (Kv 9 1 0 1), (Rv 0 0 3), (Kv 9 2 0 2), (Rv 0 0 3), (Kv 9 4 1 1), (Rv 0 7 3), (Kv 9 5 1 1), (Rv 0 0 3), (Kv 10 0 0 1), (Rv 0 0 2), (Kv 11 0 0 2), (Rv 0 0 0), undef, undef, undef, undef, undef, undef, undef, undef, undef, undef, undef, undef, undef, undef, undef, undef, undef, undef, undef, undef, undef, undef, undef], []⟩
def shA3 (m : Nat) : Act := ⟨#[.map none, .map (some m), undef, undef, .map (some m), (Kv 1 0 0 0), (Rv (-1000000) 1000000 0), (Kv 2 0 0 0), (Rv 0 1 0), (Kv 3 0 0 0), (Rv 0 0 0), (Kv 4 0 0 0), (Rv 0 0 1), (Kv 5 0 0 0), (Rv 0 0 2), (Kv 6 0 0 3), (Rv 0 0 0), (Kv 9 1 0 1), (Rv 0 0 3), (Kv 9 2 0 2), (Rv 0 0 3), (Kv 9 4 1 1), (Rv 0 7 3), (Kv 9 5 1 1), (Rv 0 0 3), (Kv 10 0 0 1), (Rv 0 0 2), (Kv 11 0 0 2), (Rv 0 0 0), .map (some m), undef, undef, undef, undef, undef, undef, undef, undef, undef, undef, undef, undef, undef, undef, undef, undef, undef, undef, undef, undef, undef, undef], []⟩
theorem shA2_key : ∀ j, j < 12 → ∀ m, (shA2 m).eval (.tmp (5 + 2 * j)) = Kv (shKey j).1 (shKey j).2.1 (shKey j).2.2.1 (shKey j).2.2.2 := by
 intro j hj
 match j, hj with
 | 0, _ => exact fun m => rfl
 | 1, _ => exact fun m => rfl
 | 2, _ => exact fun m => rfl
 | 3, _ => exact fun m => rfl
 | 4, _ => exact fun m => rfl
 | 5, _ => exact fun m => rfl
 | 6, _ => exact fun m => rfl
 | 7, _ => exact fun m => rfl
 | 8, _ => exact fun m => rfl
 | 9, _ => exact fun m => rfl
 | 10, _ => exact fun m => rfl
 | 11, _ => exact fun m => rfl
theorem shA2_val : ∀ j, j < 12 → ∀ m, (shA2 m).eval (.tmp (6 + 2 * j)) = Rv (shVal j).1 (shVal j).2.1 (shVal j).2.2 := by
 intro j hj
 match j, hj with
 | 0, _ => exact fun m => rfl
 | 1, _ => exact fun m => rfl
 | 2, _ => exact fun m => rfl
 | 3, _ => exact fun m => rfl
 | 4, _ => exact fun m => rfl
 | 5, _ => exact fun m => rfl
 | 6, _ => exact fun m => rfl
 | 7, _ => exact fun m => rfl
 | 8, _ => exact fun m => rfl
 | 9, _ => exact fun m => rfl
 | 10, _ => exact fun m => rfl
 | 11, _ => exact fun m => rfl
theorem shKey_in : ∀ j, j < 12 → i64B (shKey j).1 ∧ i64B (shKey j).2.1 ∧ i64B (shKey j).2.2.1 ∧ i64B (shKey j).2.2.2 := by
 intro j hj
 match j, hj with
 | 0, _ => simp [shKey, i64B]
 | 1, _ => simp [shKey, i64B]
 | 2, _ => simp [shKey, i64B]
 | 3, _ => simp [shKey, i64B]
 | 4, _ => simp [shKey, i64B]
 | 5, _ => simp [shKey, i64B]
 | 6, _ => simp [shKey, i64B]
 | 7, _ => simp [shKey, i64B]
 | 8, _ => simp [shKey, i64B]
 | 9, _ => simp [shKey, i64B]
 | 10, _ => simp [shKey, i64B]
 | 11, _ => simp [shKey, i64B]
section
variable {Q : Exit → Act → World → Prop}
theorem op_value {ops : Array Oper} {i : Nat} {o : Oper} {a : Act} {w w' : World} {K : Act → World → Prop} {v : Value} (ho : ops[i]? = some o) (hg : o.guard = none)
  (hr : (execOp a.eval o).run Tryz.prog w = .ok (.value v) w') (h : K (a.put o.dst v) w') : wpOp Tryz.prog ops Q i K a w := by
 have hw : Region.wanted o (yielded ops a.tmps) = true := by simp [Region.wanted, hg]
 unfold wpOp
 simp only [ho, hw, if_true]
 refine .inl ?_
 unfold Oper.wp
 rw [hr]
 exact h
theorem op_skip {ops : Array Oper} {i : Nat} {o : Oper} {a : Act} {w w' : World} {K : Act → World → Prop} (ho : ops[i]? = some o) (hg : o.guard = none)
  (hr : (execOp a.eval o).run Tryz.prog w = .ok .skip w') (h : K (a.put o.dst undef) w') : wpOp Tryz.prog ops Q i K a w := by
 have hw : Region.wanted o (yielded ops a.tmps) = true := by simp [Region.wanted, hg]
 unfold wpOp
 simp only [ho, hw, if_true]
 refine .inl ?_
 unfold Oper.wp
 rw [hr]
 exact h
theorem wpAny_eq {ops : Array Oper} {fuel : Nat} {l l' : Array Bool} {a a' : Act} {w : World} (hl : l = l') (ha : a = a') (h : wpAny Tryz.prog .any ops Q fuel l' a' w) : wpAny Tryz.prog .any ops Q fuel l a w := by
 subst hl; subst ha; exact h
theorem sh_noSelect : Region.noSelect (opsIn Tryz.f92) = true := by kernel_rfl
theorem sh_entries (hQ : ∀ c d v a w, Q (.panic c) (Act.put a d v) w → Q (.panic c) a w) (B m : Nat) (w0 : World) (hm : B ≤ m)
  (hK : ∀ w', MapIs w' m 12 (FS fun _ => true) → Below B w0 w' → Q .normal (shA3 m) w') :
  ∀ (n : Nat) (S : Nat → Bool) (w : World), cntS S = n → MapIs w m (12 - n) (FS S) → n ≤ 12 → Below B w0 w → wpAny Tryz.prog .any (opsIn Tryz.f92) Q (n + 2) (LS S) (shA2 m) w := by
 intro n
 induction n with
 | zero =>
  intro S w hc hM _ hb
  obtain ⟨e1, e2⟩ := cnt_zero hc
  rw [e1]
  rw [e2] at hM
  refine wpAny_take (i := 37) (v := .map (some m)) rfl sh_noSelect (by kernel_rfl) (by kernel_rfl) (fun _ _ _ h => hQ _ _ _ _ _ h) (.inl ⟨rfl, fun w => by kernel_rfl⟩) ?_
  refine wpAny_take (i := 38) (v := .map (some m)) rfl sh_noSelect (by kernel_rfl) (by kernel_rfl) (fun _ _ _ h => hQ _ _ _ _ _ h) (.inl ⟨rfl, fun w => by kernel_rfl⟩) ?_
  refine wpAny_eq (l' := Array.replicate 39 true) (a' := shA3 m) (by kernel_rfl) (by kernel_rfl) ?_
  exact wpAny_done (by kernel_rfl) (hK w hM hb) _
 | succ n ih =>
  intro S w hc hM hn hb
  refine ⟨fun h0 => ?_, fun i hi => ?_⟩
  ·obtain ⟨j, hj, hS⟩ := cnt_pos (S := S) (by omega)
   have hin : 3 * j + 3 ∈ Region.ready .any (opsIn Tryz.f92) (LS S) := by
    refine mem_ready.2 ⟨by rw [LS_get j hj]; exact hS, insO j, sh_ins j hj, fun e he _ => ?_⟩
    have hd := LS_dep j hj S
    have he : e = ⟨0, .data⟩ ∨ e = ⟨3 * j + 1, .data⟩ ∨ e = ⟨3 * j + 2, .data⟩ := by simpa [insO] using he
    rcases he with rfl | rfl | rfl
    ·rfl
    ·exact hd.1
    ·exact hd.2
   rw [h0] at hin
   cases hin
  ·obtain ⟨h1, o, ho, hdep⟩ := mem_ready.1 hi
   have hlt : i < 39 := (Array.getElem?_eq_some_iff.1 ho).1
   rcases LS_open S i hlt h1 with ⟨j, hj, rfl, hS⟩ | rfl | rfl
   ·rw [sh_ins j hj] at ho
    obtain rfl := Option.some.inj ho
    obtain ⟨k1, k2, k3, k4⟩ := shKey_in j hj
    obtain ⟨w', hr, hM', hg⟩ := hM.store (by unfold maxLen; omega) k1 k2 k3 k4 (shVal j).1 (shVal j).2.1 (shVal j).2.2
    have hml := hM.lt
    refine op_skip (w' := w') (sh_ins j hj) rfl ?_ ?_
    ·have e4 : (shA2 m).eval (.tmp 4) = .map (some m) := rfl
     simp [execOp, insO, e4, shA2_key j hj m, shA2_val j hj m, hr, Result.andThen]
    ·refine wpAny_eq (l' := LS (addS S j)) (a' := shA2 m) (LS_set j hj S) rfl ?_
     refine ih (addS S j) w' (by have := cnt_step j hj S hS; omega) ?_ (by omega) (hb.grown hg (by omega) fun k hk => by cases hk; exact hm)
     have e : 12 - n = 12 - (n + 1) + 1 := by omega
     rw [e]
     exact hM'.congr (FS_step S j hj).symm
   ·obtain ⟨j, hj, hS⟩ := cnt_pos (S := S) (by omega)
    have hl := sh_last j hj
    rw [ho] at hl
    have := hdep _ (Array.mem_of_getElem? (Option.some.inj hl)) rfl
    rw [LS_get j hj, hS] at this
    cases this
   ·have hl := sh_37
    rw [ho] at hl
    have := hdep _ (Array.mem_of_getElem? (Option.some.inj hl)) rfl
    cases this
theorem sh_lit (hQ : ∀ c d v a w, Q (.panic c) (Act.put a d v) w → Q (.panic c) a w) (w0 w : World) (hw : Below w0.heap.size w0 w)
  (hK : ∀ m w', w0.heap.size ≤ m → MapIs w' m 12 (FS fun _ => true) → Below w0.heap.size w0 w' → Q .normal (shA3 m) w') :
  wpAny Tryz.prog .any (opsIn Tryz.f92) Q 39 (Array.replicate 39 false) shA0 w := by
 refine wpAny_take (i := 1) (v := (Kv 1 0 0 0)) rfl sh_noSelect (by kernel_rfl) (by kernel_rfl) (fun _ _ _ h => hQ _ _ _ _ _ h) (.inl ⟨rfl, fun w => by kernel_rfl⟩) ?_
 refine wpAny_take (i := 2) (v := (Rv (-1000000) 1000000 0)) rfl sh_noSelect (by kernel_rfl) (by kernel_rfl) (fun _ _ _ h => hQ _ _ _ _ _ h) (.inl ⟨rfl, fun w => by kernel_rfl⟩) ?_
 refine wpAny_take (i := 4) (v := (Kv 2 0 0 0)) rfl sh_noSelect (by kernel_rfl) (by kernel_rfl) (fun _ _ _ h => hQ _ _ _ _ _ h) (.inl ⟨rfl, fun w => by kernel_rfl⟩) ?_
 refine wpAny_take (i := 5) (v := (Rv 0 1 0)) rfl sh_noSelect (by kernel_rfl) (by kernel_rfl) (fun _ _ _ h => hQ _ _ _ _ _ h) (.inl ⟨rfl, fun w => by kernel_rfl⟩) ?_
 refine wpAny_take (i := 7) (v := (Kv 3 0 0 0)) rfl sh_noSelect (by kernel_rfl) (by kernel_rfl) (fun _ _ _ h => hQ _ _ _ _ _ h) (.inl ⟨rfl, fun w => by kernel_rfl⟩) ?_
 refine wpAny_take (i := 8) (v := (Rv 0 0 0)) rfl sh_noSelect (by kernel_rfl) (by kernel_rfl) (fun _ _ _ h => hQ _ _ _ _ _ h) (.inl ⟨rfl, fun w => by kernel_rfl⟩) ?_
 refine wpAny_take (i := 10) (v := (Kv 4 0 0 0)) rfl sh_noSelect (by kernel_rfl) (by kernel_rfl) (fun _ _ _ h => hQ _ _ _ _ _ h) (.inl ⟨rfl, fun w => by kernel_rfl⟩) ?_
 refine wpAny_take (i := 11) (v := (Rv 0 0 1)) rfl sh_noSelect (by kernel_rfl) (by kernel_rfl) (fun _ _ _ h => hQ _ _ _ _ _ h) (.inl ⟨rfl, fun w => by kernel_rfl⟩) ?_
 refine wpAny_take (i := 13) (v := (Kv 5 0 0 0)) rfl sh_noSelect (by kernel_rfl) (by kernel_rfl) (fun _ _ _ h => hQ _ _ _ _ _ h) (.inl ⟨rfl, fun w => by kernel_rfl⟩) ?_
 refine wpAny_take (i := 14) (v := (Rv 0 0 2)) rfl sh_noSelect (by kernel_rfl) (by kernel_rfl) (fun _ _ _ h => hQ _ _ _ _ _ h) (.inl ⟨rfl, fun w => by kernel_rfl⟩) ?_
 refine wpAny_take (i := 16) (v := (Kv 6 0 0 3)) rfl sh_noSelect (by kernel_rfl) (by kernel_rfl) (fun _ _ _ h => hQ _ _ _ _ _ h) (.inl ⟨rfl, fun w => by kernel_rfl⟩) ?_
 refine wpAny_take (i := 17) (v := (Rv 0 0 0)) rfl sh_noSelect (by kernel_rfl) (by kernel_rfl) (fun _ _ _ h => hQ _ _ _ _ _ h) (.inl ⟨rfl, fun w => by kernel_rfl⟩) ?_
 refine wpAny_take (i := 19) (v := (Kv 9 1 0 1)) rfl sh_noSelect (by kernel_rfl) (by kernel_rfl) (fun _ _ _ h => hQ _ _ _ _ _ h) (.inl ⟨rfl, fun w => by kernel_rfl⟩) ?_
 refine wpAny_take (i := 20) (v := (Rv 0 0 3)) rfl sh_noSelect (by kernel_rfl) (by kernel_rfl) (fun _ _ _ h => hQ _ _ _ _ _ h) (.inl ⟨rfl, fun w => by kernel_rfl⟩) ?_
 refine wpAny_take (i := 22) (v := (Kv 9 2 0 2)) rfl sh_noSelect (by kernel_rfl) (by kernel_rfl) (fun _ _ _ h => hQ _ _ _ _ _ h) (.inl ⟨rfl, fun w => by kernel_rfl⟩) ?_
 refine wpAny_take (i := 23) (v := (Rv 0 0 3)) rfl sh_noSelect (by kernel_rfl) (by kernel_rfl) (fun _ _ _ h => hQ _ _ _ _ _ h) (.inl ⟨rfl, fun w => by kernel_rfl⟩) ?_
 refine wpAny_take (i := 25) (v := (Kv 9 4 1 1)) rfl sh_noSelect (by kernel_rfl) (by kernel_rfl) (fun _ _ _ h => hQ _ _ _ _ _ h) (.inl ⟨rfl, fun w => by kernel_rfl⟩) ?_
 refine wpAny_take (i := 26) (v := (Rv 0 7 3)) rfl sh_noSelect (by kernel_rfl) (by kernel_rfl) (fun _ _ _ h => hQ _ _ _ _ _ h) (.inl ⟨rfl, fun w => by kernel_rfl⟩) ?_
 refine wpAny_take (i := 28) (v := (Kv 9 5 1 1)) rfl sh_noSelect (by kernel_rfl) (by kernel_rfl) (fun _ _ _ h => hQ _ _ _ _ _ h) (.inl ⟨rfl, fun w => by kernel_rfl⟩) ?_
 refine wpAny_take (i := 29) (v := (Rv 0 0 3)) rfl sh_noSelect (by kernel_rfl) (by kernel_rfl) (fun _ _ _ h => hQ _ _ _ _ _ h) (.inl ⟨rfl, fun w => by kernel_rfl⟩) ?_
 refine wpAny_take (i := 31) (v := (Kv 10 0 0 1)) rfl sh_noSelect (by kernel_rfl) (by kernel_rfl) (fun _ _ _ h => hQ _ _ _ _ _ h) (.inl ⟨rfl, fun w => by kernel_rfl⟩) ?_
 refine wpAny_take (i := 32) (v := (Rv 0 0 2)) rfl sh_noSelect (by kernel_rfl) (by kernel_rfl) (fun _ _ _ h => hQ _ _ _ _ _ h) (.inl ⟨rfl, fun w => by kernel_rfl⟩) ?_
 refine wpAny_take (i := 34) (v := (Kv 11 0 0 2)) rfl sh_noSelect (by kernel_rfl) (by kernel_rfl) (fun _ _ _ h => hQ _ _ _ _ _ h) (.inl ⟨rfl, fun w => by kernel_rfl⟩) ?_
 refine wpAny_take (i := 35) (v := (Rv 0 0 0)) rfl sh_noSelect (by kernel_rfl) (by kernel_rfl) (fun _ _ _ h => hQ _ _ _ _ _ h) (.inl ⟨rfl, fun w => by kernel_rfl⟩) ?_
 refine wpAny_eq (l' := #[false, true, true, false, true, true, false, true, true, false, true, true, false, true, true, false, true, true, false, true, true, false, true, true, false, true, true, false, true, true, false, true, true, false, true, true, false, false, false]) (a' := shA1) (by kernel_rfl) (by kernel_rfl) ?_
 refine wpAny_all (rs := [0]) (by kernel_rfl) (by simp) fun i hi => ?_
 obtain rfl : i = 0 := by simpa using hi
 refine op_value (w' := w.alloc (.map #[] 0)) (v := .map (some w.heap.size)) (o := { dst := some 4, op := .makeMap 122 none, type := 122, pos := "l03_core.go:107", after := #[], guard := none }) (by kernel_rfl) rfl ?_ ?_
 ·simp [execOp, run_makeMap, Result.andThen]
 ·refine wpAny_eq (l' := LS fun _ => false) (a' := shA2 w.heap.size) (by kernel_rfl) (by kernel_rfl) ?_
  refine sh_entries hQ w0.heap.size w.heap.size w0 hw.size (fun w' h1 h2 => hK _ _ hw.size h1 h2) 12 _ _ rfl ((MapIs.made w).congr ?_) (Nat.le_refl _) (hw.alloc hw.size _)
  funext a b c d
  unfold FS
  cases shIdx (a, b, c, d) <;> rfl
end
end Go.Proofs.YtamjofdgikifnaaGreat
namespace Go.Proofs.YtamjofdgikifnaaGreat
open Go.ChangeShapes Go.WideShapes Go.ChangeAt Go.RowKit
def F1 (k : Int) : Says := fun a b c d => if a = 7 ∧ b = 0 ∧ d = 1 ∧ 0 ≤ c ∧ c < k then some (0, 0, 0) else FS (fun _ => true) a b c d
def F2 (k : Int) : Says := fun a b c d =>
 if a = 8 ∧ b = 0 ∧ c = 0 ∧ 1 ≤ d ∧ d < 1 + k then some (0, 0, 0)
 else if a = 9 ∧ b = 3 ∧ c = 1 ∧ 0 ≤ d ∧ d < k then some (0, 0, 3) else F1 9 a b c d
theorem F1_step (k : Int) (h : 0 ≤ k) : upd (F1 k) 7 0 k 1 (0, 0, 0) = F1 (k + 1) := by
 funext a b c d
 unfold upd F1
 by_cases h1 : a = 7 ∧ b = 0 ∧ c = k ∧ d = 1
 ·rw [if_pos h1, if_pos (by omega)]
 ·rw [if_neg h1]
  by_cases h2 : a = 7 ∧ b = 0 ∧ d = 1 ∧ 0 ≤ c ∧ c < k
  ·rw [if_pos h2, if_pos (by omega)]
  ·rw [if_neg h2, if_neg (by omega)]
theorem F2_step (k : Int) (h : 0 ≤ k) : upd (upd (F2 k) 8 0 0 (1 + k) (0, 0, 0)) 9 3 1 k (0, 0, 3) = F2 (k + 1) := by
 funext a b c d
 unfold upd F2
 by_cases h1 : a = 9 ∧ b = 3 ∧ c = 1 ∧ d = k
 ·rw [if_pos h1, if_neg (by omega), if_pos (by omega)]
 ·rw [if_neg h1]
  by_cases h2 : a = 8 ∧ b = 0 ∧ c = 0 ∧ d = 1 + k
  ·rw [if_pos h2, if_pos (by omega)]
  ·rw [if_neg h2]
   by_cases h3 : a = 8 ∧ b = 0 ∧ c = 0 ∧ 1 ≤ d ∧ d < 1 + k
   ·rw [if_pos h3, if_pos (by omega)]
   ·rw [if_neg h3]
    by_cases h4 : a = 9 ∧ b = 3 ∧ c = 1 ∧ 0 ≤ d ∧ d < k
    ·rw [if_pos h4, if_neg (by omega), if_pos (by omega)]
    ·rw [if_neg h4, if_neg (by omega), if_neg (by omega)]
theorem F1_zero : FS (fun _ => true) = F1 0 := by
 funext a b c d
 unfold F1
 rw [if_neg (by omega)]
theorem F2_zero : F1 9 = F2 0 := by
 funext a b c d
 unfold F2
 rw [if_neg (by omega), if_neg (by omega)]
theorem wpList_store_m {w : World} {ops : Array Oper} {rest : List Oper} {o : Oper} {a : Act} {Q : Exit → Act → World → Prop}
  (hg : o.guard = none) (mo x v : Operand) (hop : o.op = Op.mapUpdate 122 mo x v) {m n : Nat} {F : Says}
  (hm : a.eval mo = .map (some m)) (hown : MapIs w m n F) (hn : n < maxLen) (a0 b0 c0 d0 l h t : Int) (hx : a.eval x = Kv a0 b0 c0 d0) (hv : a.eval v = Rv l h t)
  (ha : i64B a0) (hb : i64B b0) (hc : i64B c0) (hd : i64B d0)
  (hK : ∀ w', MapIs w' m (n + 1) (upd F a0 b0 c0 d0 (l, h, t)) → w.grownBy w' (some m) → wpList Tryz.prog ops Q rest (a.put o.dst undef) w') :
  wpList Tryz.prog ops Q (o :: rest) a w := by
 refine wpList_plain hg fun K' hK' => ?_
 obtain ⟨w', hrun, r1, r2⟩ := hown.store hn ha hb hc hd l h t
 unfold Oper.wp
 simp [execOp, hop, hm, hx, hv, hrun, Result.andThen]
 exact hK' _ _ (hK w' r1 r2)
def ShPost (w : World) (e : Ending) (w' : World) : Prop := ∃ m, e = .returned (.map (some m)) ∧ MapIs w' m 39 (F2 9) ∧ w.heap.size ≤ m ∧ Below w.heap.size w w'
theorem MapIs.more {w : World} {m n n' : Nat} {F : Says} (h : MapIs w m n F) (hn : n ≤ n') : MapIs w m n' F := by
 obtain ⟨D, ho, hD⟩ := h
 exact ⟨D, ho.mono hn, hD⟩
set_option maxRecDepth 100000 in
set_option maxHeartbeats 1000000 in
theorem shapes_any (w : World) : Calls Tryz.prog 92 #[] w fun e w' => ShPost w e w' := by
 go_enter Tryz.func92, Tryz.ntmps92
 go_wp2
 refine wp_region_any (by kernel_rfl) ?_
 refine sh_lit (fun _ d _ _ _ h => by cases d <;> exact h) w _ (below_drewN (Below.refl _ _) 1) ?_
 intro m w1 hm hM hb
 unfold shA3
 dsimp only
 have hM1 : MapIs w1 m 12 (F1 0) := hM.congr F1_zero
 clear hM
 go_wp2
 go_loopw [30] (fun o wr => ∃ (i : Nat), i ≤ 9 ∧ o = .int .i64 i ∧ MapIs wr m (12 + i) (F1 i) ∧ Below w.heap.size w wr) (fun o _ => 9 - (intOf o).toNat)
 case atStart => exact ⟨0, by omega, rfl, hM1, hb⟩
 case round =>
  clear hM1 hb
  obtain ⟨i, hi, rfl, hM, hb⟩ := hrel
  by_cases hlt : i < 9
  ·have hl := hM.lt
   go_wp2_with (at_mapUpdate; refine wpList_store_m rfl _ _ _ rfl rfl hM (by unfold maxLen; omega) 7 0 i 1 0 0 0 rfl rfl (by unfold i64B; omega) (by unfold i64B; omega) (by unfold i64B; omega) (by unfold i64B; omega) ?_; intro w2 hM2 hg2)
   go_roundw
   case rel => exact ⟨i + 1, by omega, by go_num, hM2.congr (F1_step i (by omega)), hb.grown hg2 (by omega) fun k hk => by cases hk; exact hm⟩
   case measure => simp [intOf]; omega
  ·have hM1 : MapIs wr m 21 (F2 0) := by obtain rfl : i = 9 := (by omega); exact hM.congr F2_zero
   have e9 : (i : Int) = 9 := by omega
   rw [e9]
   clear hM hlt hi e9
   go_wp2
   go_loopw [38] (fun o wr => ∃ (i : Nat), i ≤ 9 ∧ o = .int .i64 i ∧ MapIs wr m (21 + 2 * i) (F2 i) ∧ Below w.heap.size w wr) (fun o _ => 9 - (intOf o).toNat)
   case atStart => exact ⟨0, by omega, rfl, hM1, hb⟩
   case round =>
    clear hM1 hb
    obtain ⟨i, hi, rfl, hM, hb⟩ := hrel
    by_cases hlt : i < 9
    ·have hl := hM.lt
     go_wp2_with (first | (at_mapUpdate; refine wpList_store_m rfl _ _ _ rfl rfl hM (by unfold maxLen; omega) 8 0 0 (1 + i) 0 0 0 rfl rfl (by unfold i64B; omega) (by unfold i64B; omega) (by unfold i64B; omega) (by unfold i64B; omega) ?_; intro w2 hM2 hg2) | (at_mapUpdate; refine wpList_store_m rfl _ _ _ rfl rfl hM2 (by unfold maxLen; omega) 9 3 1 i 0 0 3 rfl rfl (by unfold i64B; omega) (by unfold i64B; omega) (by unfold i64B; omega) (by unfold i64B; omega) ?_; intro w3 hM3 hg3))
     have hl2 := hM2.lt
     go_roundw
     case rel => exact ⟨i + 1, by omega, by go_num, hM3.congr (F2_step i (by omega)), (hb.grown hg2 (by omega) fun k hk => by cases hk; exact hm).grown hg3 (by omega) fun k hk => by cases hk; exact hm⟩
     case measure => simp [intOf]; omega
    ·have hlt' : decide ((i : Int) < 9) = false := by simp; omega
     obtain rfl : i = 9 := by omega
     go_wp2
     go_ret
     exact ⟨m, rfl, hM, hm, hb⟩
end Go.Proofs.YtamjofdgikifnaaGreat
