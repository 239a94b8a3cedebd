/- The model's look at a node. -/
import Derived.Test.YtamjofdgikifnaaGreatNms
namespace Go.Proofs.YtamjofdgikifnaaGreat
open Go.ChangeShapes Go.WideShapes Go.ChangeAt Go.RowKit
theorem so_lit (s : ByteArray) : (soL s.toList = 3 ∧ (s.toList == [109, 97, 107, 101]) = true) ∨ (soL s.toList = 4 ∧ (s.toList == [109, 97, 107, 101]) = false ∧ (s.toList == [102, 105, 101, 108, 100]) = true) ∨ (soL s.toList = 5 ∧ (s.toList == [109, 97, 107, 101]) = false ∧ (s.toList == [102, 105, 101, 108, 100]) = false ∧ (s.toList == [105, 115]) = true) ∨ (¬ soL s.toList = 3 ∧ ¬ soL s.toList = 4 ∧ ¬ soL s.toList = 5 ∧ (s.toList == [109, 97, 107, 101]) = false ∧ (s.toList == [102, 105, 101, 108, 100]) = false ∧ (s.toList == [105, 115]) = false) := by
 by_cases h0 : s.toList = [43]
 ·have e0 : (s.toList == [43]) = true := by rw [h0]; rfl
  have e1 : (s.toList == [45]) = false := by rw [h0]; rfl
  have e2 : (s.toList == [42]) = false := by rw [h0]; rfl
  have e3 : (s.toList == [60]) = false := by rw [h0]; rfl
  have e4 : (s.toList == [61]) = false := by rw [h0]; rfl
  have e5 : (s.toList == [101, 113, 63]) = false := by rw [h0]; rfl
  have e6 : (s.toList == [99, 111, 110, 115]) = false := by rw [h0]; rfl
  have e7 : (s.toList == [99, 97, 114]) = false := by rw [h0]; rfl
  have e8 : (s.toList == [99, 100, 114]) = false := by rw [h0]; rfl
  have e9 : (s.toList == [110, 117, 108, 108, 63]) = false := by rw [h0]; rfl
  have e10 : (s.toList == [112, 97, 105, 114, 63]) = false := by rw [h0]; rfl
  have e11 : (s.toList == [110, 111, 116]) = false := by rw [h0]; rfl
  have e12 : (s.toList == [112, 114, 105, 110, 116]) = false := by rw [h0]; rfl
  have e13 : (s.toList == [101, 114, 114, 111, 114]) = false := by rw [h0]; rfl
  have e14 : (s.toList == [102, 105, 101, 108, 100]) = false := by rw [h0]; rfl
  have e15 : (s.toList == [105, 115]) = false := by rw [h0]; rfl
  have e16 : (s.toList == [109, 97, 107, 101]) = false := by rw [h0]; rfl
  clear h0
  simp [soL, *]
 by_cases h1 : s.toList = [45]
 ·have e0 : (s.toList == [43]) = false := by rw [h1]; rfl
  have e1 : (s.toList == [45]) = true := by rw [h1]; rfl
  have e2 : (s.toList == [42]) = false := by rw [h1]; rfl
  have e3 : (s.toList == [60]) = false := by rw [h1]; rfl
  have e4 : (s.toList == [61]) = false := by rw [h1]; rfl
  have e5 : (s.toList == [101, 113, 63]) = false := by rw [h1]; rfl
  have e6 : (s.toList == [99, 111, 110, 115]) = false := by rw [h1]; rfl
  have e7 : (s.toList == [99, 97, 114]) = false := by rw [h1]; rfl
  have e8 : (s.toList == [99, 100, 114]) = false := by rw [h1]; rfl
  have e9 : (s.toList == [110, 117, 108, 108, 63]) = false := by rw [h1]; rfl
  have e10 : (s.toList == [112, 97, 105, 114, 63]) = false := by rw [h1]; rfl
  have e11 : (s.toList == [110, 111, 116]) = false := by rw [h1]; rfl
  have e12 : (s.toList == [112, 114, 105, 110, 116]) = false := by rw [h1]; rfl
  have e13 : (s.toList == [101, 114, 114, 111, 114]) = false := by rw [h1]; rfl
  have e14 : (s.toList == [102, 105, 101, 108, 100]) = false := by rw [h1]; rfl
  have e15 : (s.toList == [105, 115]) = false := by rw [h1]; rfl
  have e16 : (s.toList == [109, 97, 107, 101]) = false := by rw [h1]; rfl
  clear h0 h1
  simp [soL, *]
 by_cases h2 : s.toList = [42]
 ·have e0 : (s.toList == [43]) = false := by rw [h2]; rfl
  have e1 : (s.toList == [45]) = false := by rw [h2]; rfl
  have e2 : (s.toList == [42]) = true := by rw [h2]; rfl
  have e3 : (s.toList == [60]) = false := by rw [h2]; rfl
  have e4 : (s.toList == [61]) = false := by rw [h2]; rfl
  have e5 : (s.toList == [101, 113, 63]) = false := by rw [h2]; rfl
  have e6 : (s.toList == [99, 111, 110, 115]) = false := by rw [h2]; rfl
  have e7 : (s.toList == [99, 97, 114]) = false := by rw [h2]; rfl
  have e8 : (s.toList == [99, 100, 114]) = false := by rw [h2]; rfl
  have e9 : (s.toList == [110, 117, 108, 108, 63]) = false := by rw [h2]; rfl
  have e10 : (s.toList == [112, 97, 105, 114, 63]) = false := by rw [h2]; rfl
  have e11 : (s.toList == [110, 111, 116]) = false := by rw [h2]; rfl
  have e12 : (s.toList == [112, 114, 105, 110, 116]) = false := by rw [h2]; rfl
  have e13 : (s.toList == [101, 114, 114, 111, 114]) = false := by rw [h2]; rfl
  have e14 : (s.toList == [102, 105, 101, 108, 100]) = false := by rw [h2]; rfl
  have e15 : (s.toList == [105, 115]) = false := by rw [h2]; rfl
  have e16 : (s.toList == [109, 97, 107, 101]) = false := by rw [h2]; rfl
  clear h0 h1 h2
  simp [soL, *]
 by_cases h3 : s.toList = [60]
 ·have e0 : (s.toList == [43]) = false := by rw [h3]; rfl
  have e1 : (s.toList == [45]) = false := by rw [h3]; rfl
  have e2 : (s.toList == [42]) = false := by rw [h3]; rfl
  have e3 : (s.toList == [60]) = true := by rw [h3]; rfl
  have e4 : (s.toList == [61]) = false := by rw [h3]; rfl
  have e5 : (s.toList == [101, 113, 63]) = false := by rw [h3]; rfl
  have e6 : (s.toList == [99, 111, 110, 115]) = false := by rw [h3]; rfl
  have e7 : (s.toList == [99, 97, 114]) = false := by rw [h3]; rfl
  have e8 : (s.toList == [99, 100, 114]) = false := by rw [h3]; rfl
  have e9 : (s.toList == [110, 117, 108, 108, 63]) = false := by rw [h3]; rfl
  have e10 : (s.toList == [112, 97, 105, 114, 63]) = false := by rw [h3]; rfl
  have e11 : (s.toList == [110, 111, 116]) = false := by rw [h3]; rfl
  have e12 : (s.toList == [112, 114, 105, 110, 116]) = false := by rw [h3]; rfl
  have e13 : (s.toList == [101, 114, 114, 111, 114]) = false := by rw [h3]; rfl
  have e14 : (s.toList == [102, 105, 101, 108, 100]) = false := by rw [h3]; rfl
  have e15 : (s.toList == [105, 115]) = false := by rw [h3]; rfl
  have e16 : (s.toList == [109, 97, 107, 101]) = false := by rw [h3]; rfl
  clear h0 h1 h2 h3
  simp [soL, *]
 by_cases h4 : s.toList = [61]
 ·have e0 : (s.toList == [43]) = false := by rw [h4]; rfl
  have e1 : (s.toList == [45]) = false := by rw [h4]; rfl
  have e2 : (s.toList == [42]) = false := by rw [h4]; rfl
  have e3 : (s.toList == [60]) = false := by rw [h4]; rfl
  have e4 : (s.toList == [61]) = true := by rw [h4]; rfl
  have e5 : (s.toList == [101, 113, 63]) = false := by rw [h4]; rfl
  have e6 : (s.toList == [99, 111, 110, 115]) = false := by rw [h4]; rfl
  have e7 : (s.toList == [99, 97, 114]) = false := by rw [h4]; rfl
  have e8 : (s.toList == [99, 100, 114]) = false := by rw [h4]; rfl
  have e9 : (s.toList == [110, 117, 108, 108, 63]) = false := by rw [h4]; rfl
  have e10 : (s.toList == [112, 97, 105, 114, 63]) = false := by rw [h4]; rfl
  have e11 : (s.toList == [110, 111, 116]) = false := by rw [h4]; rfl
  have e12 : (s.toList == [112, 114, 105, 110, 116]) = false := by rw [h4]; rfl
  have e13 : (s.toList == [101, 114, 114, 111, 114]) = false := by rw [h4]; rfl
  have e14 : (s.toList == [102, 105, 101, 108, 100]) = false := by rw [h4]; rfl
  have e15 : (s.toList == [105, 115]) = false := by rw [h4]; rfl
  have e16 : (s.toList == [109, 97, 107, 101]) = false := by rw [h4]; rfl
  clear h0 h1 h2 h3 h4
  simp [soL, *]
 by_cases h5 : s.toList = [101, 113, 63]
 ·have e0 : (s.toList == [43]) = false := by rw [h5]; rfl
  have e1 : (s.toList == [45]) = false := by rw [h5]; rfl
  have e2 : (s.toList == [42]) = false := by rw [h5]; rfl
  have e3 : (s.toList == [60]) = false := by rw [h5]; rfl
  have e4 : (s.toList == [61]) = false := by rw [h5]; rfl
  have e5 : (s.toList == [101, 113, 63]) = true := by rw [h5]; rfl
  have e6 : (s.toList == [99, 111, 110, 115]) = false := by rw [h5]; rfl
  have e7 : (s.toList == [99, 97, 114]) = false := by rw [h5]; rfl
  have e8 : (s.toList == [99, 100, 114]) = false := by rw [h5]; rfl
  have e9 : (s.toList == [110, 117, 108, 108, 63]) = false := by rw [h5]; rfl
  have e10 : (s.toList == [112, 97, 105, 114, 63]) = false := by rw [h5]; rfl
  have e11 : (s.toList == [110, 111, 116]) = false := by rw [h5]; rfl
  have e12 : (s.toList == [112, 114, 105, 110, 116]) = false := by rw [h5]; rfl
  have e13 : (s.toList == [101, 114, 114, 111, 114]) = false := by rw [h5]; rfl
  have e14 : (s.toList == [102, 105, 101, 108, 100]) = false := by rw [h5]; rfl
  have e15 : (s.toList == [105, 115]) = false := by rw [h5]; rfl
  have e16 : (s.toList == [109, 97, 107, 101]) = false := by rw [h5]; rfl
  clear h0 h1 h2 h3 h4 h5
  simp [soL, *]
 by_cases h6 : s.toList = [99, 111, 110, 115]
 ·have e0 : (s.toList == [43]) = false := by rw [h6]; rfl
  have e1 : (s.toList == [45]) = false := by rw [h6]; rfl
  have e2 : (s.toList == [42]) = false := by rw [h6]; rfl
  have e3 : (s.toList == [60]) = false := by rw [h6]; rfl
  have e4 : (s.toList == [61]) = false := by rw [h6]; rfl
  have e5 : (s.toList == [101, 113, 63]) = false := by rw [h6]; rfl
  have e6 : (s.toList == [99, 111, 110, 115]) = true := by rw [h6]; rfl
  have e7 : (s.toList == [99, 97, 114]) = false := by rw [h6]; rfl
  have e8 : (s.toList == [99, 100, 114]) = false := by rw [h6]; rfl
  have e9 : (s.toList == [110, 117, 108, 108, 63]) = false := by rw [h6]; rfl
  have e10 : (s.toList == [112, 97, 105, 114, 63]) = false := by rw [h6]; rfl
  have e11 : (s.toList == [110, 111, 116]) = false := by rw [h6]; rfl
  have e12 : (s.toList == [112, 114, 105, 110, 116]) = false := by rw [h6]; rfl
  have e13 : (s.toList == [101, 114, 114, 111, 114]) = false := by rw [h6]; rfl
  have e14 : (s.toList == [102, 105, 101, 108, 100]) = false := by rw [h6]; rfl
  have e15 : (s.toList == [105, 115]) = false := by rw [h6]; rfl
  have e16 : (s.toList == [109, 97, 107, 101]) = false := by rw [h6]; rfl
  clear h0 h1 h2 h3 h4 h5 h6
  simp [soL, *]
 by_cases h7 : s.toList = [99, 97, 114]
 ·have e0 : (s.toList == [43]) = false := by rw [h7]; rfl
  have e1 : (s.toList == [45]) = false := by rw [h7]; rfl
  have e2 : (s.toList == [42]) = false := by rw [h7]; rfl
  have e3 : (s.toList == [60]) = false := by rw [h7]; rfl
  have e4 : (s.toList == [61]) = false := by rw [h7]; rfl
  have e5 : (s.toList == [101, 113, 63]) = false := by rw [h7]; rfl
  have e6 : (s.toList == [99, 111, 110, 115]) = false := by rw [h7]; rfl
  have e7 : (s.toList == [99, 97, 114]) = true := by rw [h7]; rfl
  have e8 : (s.toList == [99, 100, 114]) = false := by rw [h7]; rfl
  have e9 : (s.toList == [110, 117, 108, 108, 63]) = false := by rw [h7]; rfl
  have e10 : (s.toList == [112, 97, 105, 114, 63]) = false := by rw [h7]; rfl
  have e11 : (s.toList == [110, 111, 116]) = false := by rw [h7]; rfl
  have e12 : (s.toList == [112, 114, 105, 110, 116]) = false := by rw [h7]; rfl
  have e13 : (s.toList == [101, 114, 114, 111, 114]) = false := by rw [h7]; rfl
  have e14 : (s.toList == [102, 105, 101, 108, 100]) = false := by rw [h7]; rfl
  have e15 : (s.toList == [105, 115]) = false := by rw [h7]; rfl
  have e16 : (s.toList == [109, 97, 107, 101]) = false := by rw [h7]; rfl
  clear h0 h1 h2 h3 h4 h5 h6 h7
  simp [soL, *]
 by_cases h8 : s.toList = [99, 100, 114]
 ·have e0 : (s.toList == [43]) = false := by rw [h8]; rfl
  have e1 : (s.toList == [45]) = false := by rw [h8]; rfl
  have e2 : (s.toList == [42]) = false := by rw [h8]; rfl
  have e3 : (s.toList == [60]) = false := by rw [h8]; rfl
  have e4 : (s.toList == [61]) = false := by rw [h8]; rfl
  have e5 : (s.toList == [101, 113, 63]) = false := by rw [h8]; rfl
  have e6 : (s.toList == [99, 111, 110, 115]) = false := by rw [h8]; rfl
  have e7 : (s.toList == [99, 97, 114]) = false := by rw [h8]; rfl
  have e8 : (s.toList == [99, 100, 114]) = true := by rw [h8]; rfl
  have e9 : (s.toList == [110, 117, 108, 108, 63]) = false := by rw [h8]; rfl
  have e10 : (s.toList == [112, 97, 105, 114, 63]) = false := by rw [h8]; rfl
  have e11 : (s.toList == [110, 111, 116]) = false := by rw [h8]; rfl
  have e12 : (s.toList == [112, 114, 105, 110, 116]) = false := by rw [h8]; rfl
  have e13 : (s.toList == [101, 114, 114, 111, 114]) = false := by rw [h8]; rfl
  have e14 : (s.toList == [102, 105, 101, 108, 100]) = false := by rw [h8]; rfl
  have e15 : (s.toList == [105, 115]) = false := by rw [h8]; rfl
  have e16 : (s.toList == [109, 97, 107, 101]) = false := by rw [h8]; rfl
  clear h0 h1 h2 h3 h4 h5 h6 h7 h8
  simp [soL, *]
 by_cases h9 : s.toList = [110, 117, 108, 108, 63]
 ·have e0 : (s.toList == [43]) = false := by rw [h9]; rfl
  have e1 : (s.toList == [45]) = false := by rw [h9]; rfl
  have e2 : (s.toList == [42]) = false := by rw [h9]; rfl
  have e3 : (s.toList == [60]) = false := by rw [h9]; rfl
  have e4 : (s.toList == [61]) = false := by rw [h9]; rfl
  have e5 : (s.toList == [101, 113, 63]) = false := by rw [h9]; rfl
  have e6 : (s.toList == [99, 111, 110, 115]) = false := by rw [h9]; rfl
  have e7 : (s.toList == [99, 97, 114]) = false := by rw [h9]; rfl
  have e8 : (s.toList == [99, 100, 114]) = false := by rw [h9]; rfl
  have e9 : (s.toList == [110, 117, 108, 108, 63]) = true := by rw [h9]; rfl
  have e10 : (s.toList == [112, 97, 105, 114, 63]) = false := by rw [h9]; rfl
  have e11 : (s.toList == [110, 111, 116]) = false := by rw [h9]; rfl
  have e12 : (s.toList == [112, 114, 105, 110, 116]) = false := by rw [h9]; rfl
  have e13 : (s.toList == [101, 114, 114, 111, 114]) = false := by rw [h9]; rfl
  have e14 : (s.toList == [102, 105, 101, 108, 100]) = false := by rw [h9]; rfl
  have e15 : (s.toList == [105, 115]) = false := by rw [h9]; rfl
  have e16 : (s.toList == [109, 97, 107, 101]) = false := by rw [h9]; rfl
  clear h0 h1 h2 h3 h4 h5 h6 h7 h8 h9
  simp [soL, *]
 by_cases h10 : s.toList = [112, 97, 105, 114, 63]
 ·have e0 : (s.toList == [43]) = false := by rw [h10]; rfl
  have e1 : (s.toList == [45]) = false := by rw [h10]; rfl
  have e2 : (s.toList == [42]) = false := by rw [h10]; rfl
  have e3 : (s.toList == [60]) = false := by rw [h10]; rfl
  have e4 : (s.toList == [61]) = false := by rw [h10]; rfl
  have e5 : (s.toList == [101, 113, 63]) = false := by rw [h10]; rfl
  have e6 : (s.toList == [99, 111, 110, 115]) = false := by rw [h10]; rfl
  have e7 : (s.toList == [99, 97, 114]) = false := by rw [h10]; rfl
  have e8 : (s.toList == [99, 100, 114]) = false := by rw [h10]; rfl
  have e9 : (s.toList == [110, 117, 108, 108, 63]) = false := by rw [h10]; rfl
  have e10 : (s.toList == [112, 97, 105, 114, 63]) = true := by rw [h10]; rfl
  have e11 : (s.toList == [110, 111, 116]) = false := by rw [h10]; rfl
  have e12 : (s.toList == [112, 114, 105, 110, 116]) = false := by rw [h10]; rfl
  have e13 : (s.toList == [101, 114, 114, 111, 114]) = false := by rw [h10]; rfl
  have e14 : (s.toList == [102, 105, 101, 108, 100]) = false := by rw [h10]; rfl
  have e15 : (s.toList == [105, 115]) = false := by rw [h10]; rfl
  have e16 : (s.toList == [109, 97, 107, 101]) = false := by rw [h10]; rfl
  clear h0 h1 h2 h3 h4 h5 h6 h7 h8 h9 h10
  simp [soL, *]
 by_cases h11 : s.toList = [110, 111, 116]
 ·have e0 : (s.toList == [43]) = false := by rw [h11]; rfl
  have e1 : (s.toList == [45]) = false := by rw [h11]; rfl
  have e2 : (s.toList == [42]) = false := by rw [h11]; rfl
  have e3 : (s.toList == [60]) = false := by rw [h11]; rfl
  have e4 : (s.toList == [61]) = false := by rw [h11]; rfl
  have e5 : (s.toList == [101, 113, 63]) = false := by rw [h11]; rfl
  have e6 : (s.toList == [99, 111, 110, 115]) = false := by rw [h11]; rfl
  have e7 : (s.toList == [99, 97, 114]) = false := by rw [h11]; rfl
  have e8 : (s.toList == [99, 100, 114]) = false := by rw [h11]; rfl
  have e9 : (s.toList == [110, 117, 108, 108, 63]) = false := by rw [h11]; rfl
  have e10 : (s.toList == [112, 97, 105, 114, 63]) = false := by rw [h11]; rfl
  have e11 : (s.toList == [110, 111, 116]) = true := by rw [h11]; rfl
  have e12 : (s.toList == [112, 114, 105, 110, 116]) = false := by rw [h11]; rfl
  have e13 : (s.toList == [101, 114, 114, 111, 114]) = false := by rw [h11]; rfl
  have e14 : (s.toList == [102, 105, 101, 108, 100]) = false := by rw [h11]; rfl
  have e15 : (s.toList == [105, 115]) = false := by rw [h11]; rfl
  have e16 : (s.toList == [109, 97, 107, 101]) = false := by rw [h11]; rfl
  clear h0 h1 h2 h3 h4 h5 h6 h7 h8 h9 h10 h11
  simp [soL, *]
 by_cases h12 : s.toList = [112, 114, 105, 110, 116]
 ·have e0 : (s.toList == [43]) = false := by rw [h12]; rfl
  have e1 : (s.toList == [45]) = false := by rw [h12]; rfl
  have e2 : (s.toList == [42]) = false := by rw [h12]; rfl
  have e3 : (s.toList == [60]) = false := by rw [h12]; rfl
  have e4 : (s.toList == [61]) = false := by rw [h12]; rfl
  have e5 : (s.toList == [101, 113, 63]) = false := by rw [h12]; rfl
  have e6 : (s.toList == [99, 111, 110, 115]) = false := by rw [h12]; rfl
  have e7 : (s.toList == [99, 97, 114]) = false := by rw [h12]; rfl
  have e8 : (s.toList == [99, 100, 114]) = false := by rw [h12]; rfl
  have e9 : (s.toList == [110, 117, 108, 108, 63]) = false := by rw [h12]; rfl
  have e10 : (s.toList == [112, 97, 105, 114, 63]) = false := by rw [h12]; rfl
  have e11 : (s.toList == [110, 111, 116]) = false := by rw [h12]; rfl
  have e12 : (s.toList == [112, 114, 105, 110, 116]) = true := by rw [h12]; rfl
  have e13 : (s.toList == [101, 114, 114, 111, 114]) = false := by rw [h12]; rfl
  have e14 : (s.toList == [102, 105, 101, 108, 100]) = false := by rw [h12]; rfl
  have e15 : (s.toList == [105, 115]) = false := by rw [h12]; rfl
  have e16 : (s.toList == [109, 97, 107, 101]) = false := by rw [h12]; rfl
  clear h0 h1 h2 h3 h4 h5 h6 h7 h8 h9 h10 h11 h12
  simp [soL, *]
 by_cases h13 : s.toList = [101, 114, 114, 111, 114]
 ·have e0 : (s.toList == [43]) = false := by rw [h13]; rfl
  have e1 : (s.toList == [45]) = false := by rw [h13]; rfl
  have e2 : (s.toList == [42]) = false := by rw [h13]; rfl
  have e3 : (s.toList == [60]) = false := by rw [h13]; rfl
  have e4 : (s.toList == [61]) = false := by rw [h13]; rfl
  have e5 : (s.toList == [101, 113, 63]) = false := by rw [h13]; rfl
  have e6 : (s.toList == [99, 111, 110, 115]) = false := by rw [h13]; rfl
  have e7 : (s.toList == [99, 97, 114]) = false := by rw [h13]; rfl
  have e8 : (s.toList == [99, 100, 114]) = false := by rw [h13]; rfl
  have e9 : (s.toList == [110, 117, 108, 108, 63]) = false := by rw [h13]; rfl
  have e10 : (s.toList == [112, 97, 105, 114, 63]) = false := by rw [h13]; rfl
  have e11 : (s.toList == [110, 111, 116]) = false := by rw [h13]; rfl
  have e12 : (s.toList == [112, 114, 105, 110, 116]) = false := by rw [h13]; rfl
  have e13 : (s.toList == [101, 114, 114, 111, 114]) = true := by rw [h13]; rfl
  have e14 : (s.toList == [102, 105, 101, 108, 100]) = false := by rw [h13]; rfl
  have e15 : (s.toList == [105, 115]) = false := by rw [h13]; rfl
  have e16 : (s.toList == [109, 97, 107, 101]) = false := by rw [h13]; rfl
  clear h0 h1 h2 h3 h4 h5 h6 h7 h8 h9 h10 h11 h12 h13
  simp [soL, *]
 by_cases h14 : s.toList = [102, 105, 101, 108, 100]
 ·have e0 : (s.toList == [43]) = false := by rw [h14]; rfl
  have e1 : (s.toList == [45]) = false := by rw [h14]; rfl
  have e2 : (s.toList == [42]) = false := by rw [h14]; rfl
  have e3 : (s.toList == [60]) = false := by rw [h14]; rfl
  have e4 : (s.toList == [61]) = false := by rw [h14]; rfl
  have e5 : (s.toList == [101, 113, 63]) = false := by rw [h14]; rfl
  have e6 : (s.toList == [99, 111, 110, 115]) = false := by rw [h14]; rfl
  have e7 : (s.toList == [99, 97, 114]) = false := by rw [h14]; rfl
  have e8 : (s.toList == [99, 100, 114]) = false := by rw [h14]; rfl
  have e9 : (s.toList == [110, 117, 108, 108, 63]) = false := by rw [h14]; rfl
  have e10 : (s.toList == [112, 97, 105, 114, 63]) = false := by rw [h14]; rfl
  have e11 : (s.toList == [110, 111, 116]) = false := by rw [h14]; rfl
  have e12 : (s.toList == [112, 114, 105, 110, 116]) = false := by rw [h14]; rfl
  have e13 : (s.toList == [101, 114, 114, 111, 114]) = false := by rw [h14]; rfl
  have e14 : (s.toList == [102, 105, 101, 108, 100]) = true := by rw [h14]; rfl
  have e15 : (s.toList == [105, 115]) = false := by rw [h14]; rfl
  have e16 : (s.toList == [109, 97, 107, 101]) = false := by rw [h14]; rfl
  clear h0 h1 h2 h3 h4 h5 h6 h7 h8 h9 h10 h11 h12 h13 h14
  simp [soL, *]
 by_cases h15 : s.toList = [105, 115]
 ·have e0 : (s.toList == [43]) = false := by rw [h15]; rfl
  have e1 : (s.toList == [45]) = false := by rw [h15]; rfl
  have e2 : (s.toList == [42]) = false := by rw [h15]; rfl
  have e3 : (s.toList == [60]) = false := by rw [h15]; rfl
  have e4 : (s.toList == [61]) = false := by rw [h15]; rfl
  have e5 : (s.toList == [101, 113, 63]) = false := by rw [h15]; rfl
  have e6 : (s.toList == [99, 111, 110, 115]) = false := by rw [h15]; rfl
  have e7 : (s.toList == [99, 97, 114]) = false := by rw [h15]; rfl
  have e8 : (s.toList == [99, 100, 114]) = false := by rw [h15]; rfl
  have e9 : (s.toList == [110, 117, 108, 108, 63]) = false := by rw [h15]; rfl
  have e10 : (s.toList == [112, 97, 105, 114, 63]) = false := by rw [h15]; rfl
  have e11 : (s.toList == [110, 111, 116]) = false := by rw [h15]; rfl
  have e12 : (s.toList == [112, 114, 105, 110, 116]) = false := by rw [h15]; rfl
  have e13 : (s.toList == [101, 114, 114, 111, 114]) = false := by rw [h15]; rfl
  have e14 : (s.toList == [102, 105, 101, 108, 100]) = false := by rw [h15]; rfl
  have e15 : (s.toList == [105, 115]) = true := by rw [h15]; rfl
  have e16 : (s.toList == [109, 97, 107, 101]) = false := by rw [h15]; rfl
  clear h0 h1 h2 h3 h4 h5 h6 h7 h8 h9 h10 h11 h12 h13 h14 h15
  simp [soL, *]
 by_cases h16 : s.toList = [109, 97, 107, 101]
 ·have e0 : (s.toList == [43]) = false := by rw [h16]; rfl
  have e1 : (s.toList == [45]) = false := by rw [h16]; rfl
  have e2 : (s.toList == [42]) = false := by rw [h16]; rfl
  have e3 : (s.toList == [60]) = false := by rw [h16]; rfl
  have e4 : (s.toList == [61]) = false := by rw [h16]; rfl
  have e5 : (s.toList == [101, 113, 63]) = false := by rw [h16]; rfl
  have e6 : (s.toList == [99, 111, 110, 115]) = false := by rw [h16]; rfl
  have e7 : (s.toList == [99, 97, 114]) = false := by rw [h16]; rfl
  have e8 : (s.toList == [99, 100, 114]) = false := by rw [h16]; rfl
  have e9 : (s.toList == [110, 117, 108, 108, 63]) = false := by rw [h16]; rfl
  have e10 : (s.toList == [112, 97, 105, 114, 63]) = false := by rw [h16]; rfl
  have e11 : (s.toList == [110, 111, 116]) = false := by rw [h16]; rfl
  have e12 : (s.toList == [112, 114, 105, 110, 116]) = false := by rw [h16]; rfl
  have e13 : (s.toList == [101, 114, 114, 111, 114]) = false := by rw [h16]; rfl
  have e14 : (s.toList == [102, 105, 101, 108, 100]) = false := by rw [h16]; rfl
  have e15 : (s.toList == [105, 115]) = false := by rw [h16]; rfl
  have e16 : (s.toList == [109, 97, 107, 101]) = true := by rw [h16]; rfl
  clear h0 h1 h2 h3 h4 h5 h6 h7 h8 h9 h10 h11 h12 h13 h14 h15 h16
  simp [soL, *]
 have e0 : (s.toList == [43]) = false := beq_eq_false_iff_ne.2 h0
 have e1 : (s.toList == [45]) = false := beq_eq_false_iff_ne.2 h1
 have e2 : (s.toList == [42]) = false := beq_eq_false_iff_ne.2 h2
 have e3 : (s.toList == [60]) = false := beq_eq_false_iff_ne.2 h3
 have e4 : (s.toList == [61]) = false := beq_eq_false_iff_ne.2 h4
 have e5 : (s.toList == [101, 113, 63]) = false := beq_eq_false_iff_ne.2 h5
 have e6 : (s.toList == [99, 111, 110, 115]) = false := beq_eq_false_iff_ne.2 h6
 have e7 : (s.toList == [99, 97, 114]) = false := beq_eq_false_iff_ne.2 h7
 have e8 : (s.toList == [99, 100, 114]) = false := beq_eq_false_iff_ne.2 h8
 have e9 : (s.toList == [110, 117, 108, 108, 63]) = false := beq_eq_false_iff_ne.2 h9
 have e10 : (s.toList == [112, 97, 105, 114, 63]) = false := beq_eq_false_iff_ne.2 h10
 have e11 : (s.toList == [110, 111, 116]) = false := beq_eq_false_iff_ne.2 h11
 have e12 : (s.toList == [112, 114, 105, 110, 116]) = false := beq_eq_false_iff_ne.2 h12
 have e13 : (s.toList == [101, 114, 114, 111, 114]) = false := beq_eq_false_iff_ne.2 h13
 have e14 : (s.toList == [102, 105, 101, 108, 100]) = false := beq_eq_false_iff_ne.2 h14
 have e15 : (s.toList == [105, 115]) = false := beq_eq_false_iff_ne.2 h15
 have e16 : (s.toList == [109, 97, 107, 101]) = false := beq_eq_false_iff_ne.2 h16
 clear h0 h1 h2 h3 h4 h5 h6 h7 h8 h9 h10 h11 h12 h13 h14 h15 h16
 simp [soL, *]
theorem nmA_one (x : ByteArray) : nmA [x] = naL x.toList := by
 simp [nmA, nmB, hasS]
theorem one_of {ts : List ByteArray} (h : ts.length = 1) : ∃ x, ts = [x] := by
 match ts, h with
 | [x], _ => exact ⟨x, rfl⟩
set_option maxRecDepth 100000 in
set_option maxHeartbeats 2000000 in
theorem l3Prim_any (k n : Int) (s : ByteArray) (an aa : Option Addr) (ts : List ByteArray) (la cn ca : Nat) (w : World) (hln : ts.length ≤ 1048576) (hla : la ≤ 1048576)
  (hr : RowS w w.heap.size an ts) (hsz : ∀ x ∈ ts, x.size ≤ 1048576) :
  Calls Tryz.prog 104 #[.agg #[.int .i64 k, .int .i64 n, .string s, .slice an ts.length cn, .slice aa la ca]] w fun e w' => Ans w (.bool (prB n s ts.length la (nmA ts))) e w' := by
 have HA : Hid (∀ w, Calls Tryz.prog 82 #[.string s] w fun e w' => e = .returned (.int .i64 (arL s.toList)) ∧ w' = w) := fun w => specAr_any s w
 have HI : Hid (∀ w, Calls Tryz.prog 57 #[.int .i64 n, .int .i64 0, .int .i64 7] w fun e w' => e = .returned (.bool (decide (0 ≤ n) && decide (n ≤ 7))) ∧ w' = w) := fun w => l1In_any n 0 7 w
 have hbB : Below w.heap.size w (w.alloc (Obj.cells #[.int .i64 k, .int .i64 n, .string s, .slice an ts.length cn, .slice aa la ca] 96)) := (Below.refl _ _).alloc (Nat.le_refl _) _
 generalize hpr : prB n s ts.length la (nmA ts) = pr
 rcases so_lit s with ⟨q, f1⟩ | ⟨q, f1, f2⟩ | ⟨q, f1, f2, f3⟩ | ⟨q3, q4, q5, f1, f2, f3⟩
 ·by_cases h1 : ts.length = 1
  ·obtain ⟨x, rfl⟩ := one_of h1
   obtain ⟨b1, o1, rfl, hbb, c0⟩ := hr 0 x rfl
   have HN : Hid (∀ w, Calls Tryz.prog 51 #[.string x] w fun e w' => Ans w (.bool (naL x.toList)) e w') := fun w => specNa_any x w (hsz x (by simp))
   rw [nmA_one] at hpr
   simp only [List.length_singleton] at *
   clear hr hsz
   have c1 := cell_keepN c0 hbB hbb
   rw [Nat.add_zero] at c1
   cases hna : naL x.toList
   ·rw [hna] at HN hpr
    obtain rfl : false = pr := by rw [← hpr]; simp [prB, q]
    clear hpr hna q HA HI
    go_enter Tryz.func104, Tryz.ntmps104
    go_wp2_with (first | (go_at_call 51; refine (HN.out _).mono ?_; rintro e w1 ⟨rfl, hb1⟩; have d1 := cell_keepN (cell_blk (j := 1) (blk_alloc w (Obj.cells #[.int .i64 k, .int .i64 n, .string s, .slice (some ⟨b1, o1, none⟩) 1 cn, .slice aa la ca] 96)) rfl) hb1 (by simp)))
    go_ret
    exact ⟨rfl, hbB.trans (hb1.mono hbB.size)⟩
   ·rw [hna] at HN hpr
    by_cases h2 : la ≤ 8
    ·have g2 : decide ((la : Int) ≤ 8) = true := by simp; omega
     obtain rfl : decide (n = 0) = pr := by rw [← hpr]; simp [prB, q, h2]
     clear hpr hna q HA HI
     by_cases hn : n = 0
     ·have g3 : (n == 0) = true := by simp [hn]
      have HV : Hid (decide (n = 0) = true) := by show _ = _; simp [hn]
      clear hn
      go_enter Tryz.func104, Tryz.ntmps104
      go_wp2_with (first | (go_at_call 51; refine (HN.out _).mono ?_; rintro e w1 ⟨rfl, hb1⟩; have d1 := cell_keepN (cell_blk (j := 1) (blk_alloc w (Obj.cells #[.int .i64 k, .int .i64 n, .string s, .slice (some ⟨b1, o1, none⟩) 1 cn, .slice aa la ca] 96)) rfl) hb1 (by simp)))
      go_ret
      exact ⟨by rw [HV.out]; rfl, hbB.trans (hb1.mono hbB.size)⟩
     ·have g3 : (n == 0) = false := by simp [hn]
      have HV : Hid (decide (n = 0) = false) := by show _ = _; simp [hn]
      clear hn
      go_enter Tryz.func104, Tryz.ntmps104
      go_wp2_with (first | (go_at_call 51; refine (HN.out _).mono ?_; rintro e w1 ⟨rfl, hb1⟩; have d1 := cell_keepN (cell_blk (j := 1) (blk_alloc w (Obj.cells #[.int .i64 k, .int .i64 n, .string s, .slice (some ⟨b1, o1, none⟩) 1 cn, .slice aa la ca] 96)) rfl) hb1 (by simp)))
      go_ret
      exact ⟨by rw [HV.out]; rfl, hbB.trans (hb1.mono hbB.size)⟩
    ·have g2 : decide ((la : Int) ≤ 8) = false := by simp; omega
     obtain rfl : false = pr := by rw [← hpr]; simp [prB, q, h2]
     clear hpr hna q HA HI
     go_enter Tryz.func104, Tryz.ntmps104
     go_wp2_with (first | (go_at_call 51; refine (HN.out _).mono ?_; rintro e w1 ⟨rfl, hb1⟩; have d1 := cell_keepN (cell_blk (j := 1) (blk_alloc w (Obj.cells #[.int .i64 k, .int .i64 n, .string s, .slice (some ⟨b1, o1, none⟩) 1 cn, .slice aa la ca] 96)) rfl) hb1 (by simp)))
     go_ret
     exact ⟨rfl, hbB.trans (hb1.mono hbB.size)⟩
  ·have g1 : ((ts.length : Int) == 1) = false := by simp; omega
   obtain rfl : false = pr := by rw [← hpr]; simp [prB, q, h1]
   clear hpr q HA HI hr hsz
   go_enter Tryz.func104, Tryz.ntmps104
   go_wp2_with fail
   go_ret
   exact ⟨rfl, hbB⟩
 ·by_cases h1 : ts.length = 1
  ·obtain ⟨x, rfl⟩ := one_of h1
   obtain ⟨b1, o1, rfl, hbb, c0⟩ := hr 0 x rfl
   have HN : Hid (∀ w, Calls Tryz.prog 51 #[.string x] w fun e w' => Ans w (.bool (naL x.toList)) e w') := fun w => specNa_any x w (hsz x (by simp))
   rw [nmA_one] at hpr
   simp only [List.length_singleton] at *
   clear hr hsz
   have c1 := cell_keepN c0 hbB hbb
   rw [Nat.add_zero] at c1
   cases hna : naL x.toList
   ·rw [hna] at HN hpr
    obtain rfl : false = pr := by rw [← hpr]; simp [prB, q]
    clear hpr hna q HA HI
    go_enter Tryz.func104, Tryz.ntmps104
    go_wp2_with (first | (go_at_call 51; refine (HN.out _).mono ?_; rintro e w1 ⟨rfl, hb1⟩; have d1 := cell_keepN (cell_blk (j := 1) (blk_alloc w (Obj.cells #[.int .i64 k, .int .i64 n, .string s, .slice (some ⟨b1, o1, none⟩) 1 cn, .slice aa la ca] 96)) rfl) hb1 (by simp)))
    go_ret
    exact ⟨rfl, hbB.trans (hb1.mono hbB.size)⟩
   ·rw [hna] at HN hpr
    by_cases h2 : la = 1
    ·subst h2
     obtain rfl : (decide (0 ≤ n) && decide (n ≤ 7)) = pr := by rw [← hpr]; simp [prB, q]
     clear hpr hna q HA
     generalize (decide (0 ≤ n) && decide (n ≤ 7)) = z at *
     go_enter Tryz.func104, Tryz.ntmps104
     go_wp2_with (first | (go_at_call 51; refine (HN.out _).mono ?_; rintro e w1 ⟨rfl, hb1⟩; have d1 := cell_keepN (cell_blk (j := 1) (blk_alloc w (Obj.cells #[.int .i64 k, .int .i64 n, .string s, .slice (some ⟨b1, o1, none⟩) 1 cn, .slice aa 1 ca] 96)) rfl) hb1 (by simp)) | (go_at_call 57; refine (HI.out _).mono ?_; rintro e w2 ⟨rfl, rfl⟩))
     go_ret
     exact ⟨rfl, hbB.trans (hb1.mono hbB.size)⟩
    ·have g2 : ((la : Int) == 1) = false := by simp; omega
     obtain rfl : false = pr := by rw [← hpr]; simp [prB, q, h2]
     clear hpr hna q HA HI
     go_enter Tryz.func104, Tryz.ntmps104
     go_wp2_with (first | (go_at_call 51; refine (HN.out _).mono ?_; rintro e w1 ⟨rfl, hb1⟩; have d1 := cell_keepN (cell_blk (j := 1) (blk_alloc w (Obj.cells #[.int .i64 k, .int .i64 n, .string s, .slice (some ⟨b1, o1, none⟩) 1 cn, .slice aa la ca] 96)) rfl) hb1 (by simp)))
     go_ret
     exact ⟨rfl, hbB.trans (hb1.mono hbB.size)⟩
  ·have g1 : ((ts.length : Int) == 1) = false := by simp; omega
   obtain rfl : false = pr := by rw [← hpr]; simp [prB, q, h1]
   clear hpr q HA HI hr hsz
   go_enter Tryz.func104, Tryz.ntmps104
   go_wp2_with fail
   go_ret
   exact ⟨rfl, hbB⟩
 ·by_cases h1 : ts.length = 1
  ·obtain ⟨x, rfl⟩ := one_of h1
   obtain ⟨b1, o1, rfl, hbb, c0⟩ := hr 0 x rfl
   have HN : Hid (∀ w, Calls Tryz.prog 51 #[.string x] w fun e w' => Ans w (.bool (naL x.toList)) e w') := fun w => specNa_any x w (hsz x (by simp))
   rw [nmA_one] at hpr
   simp only [List.length_singleton] at *
   clear hr hsz
   have c1 := cell_keepN c0 hbB hbb
   rw [Nat.add_zero] at c1
   cases hna : naL x.toList
   ·rw [hna] at HN hpr
    obtain rfl : false = pr := by rw [← hpr]; simp [prB, q]
    clear hpr hna q HA HI
    go_enter Tryz.func104, Tryz.ntmps104
    go_wp2_with (first | (go_at_call 51; refine (HN.out _).mono ?_; rintro e w1 ⟨rfl, hb1⟩; have d1 := cell_keepN (cell_blk (j := 1) (blk_alloc w (Obj.cells #[.int .i64 k, .int .i64 n, .string s, .slice (some ⟨b1, o1, none⟩) 1 cn, .slice aa la ca] 96)) rfl) hb1 (by simp)))
    go_ret
    exact ⟨rfl, hbB.trans (hb1.mono hbB.size)⟩
   ·rw [hna] at HN hpr
    by_cases h2 : la = 1
    ·subst h2
     obtain rfl : decide (n = 0) = pr := by rw [← hpr]; simp [prB, q]
     clear hpr hna q HA HI
     by_cases hn : n = 0
     ·have g3 : (n == 0) = true := by simp [hn]
      have HV : Hid (decide (n = 0) = true) := by show _ = _; simp [hn]
      clear hn
      go_enter Tryz.func104, Tryz.ntmps104
      go_wp2_with (first | (go_at_call 51; refine (HN.out _).mono ?_; rintro e w1 ⟨rfl, hb1⟩; have d1 := cell_keepN (cell_blk (j := 1) (blk_alloc w (Obj.cells #[.int .i64 k, .int .i64 n, .string s, .slice (some ⟨b1, o1, none⟩) 1 cn, .slice aa 1 ca] 96)) rfl) hb1 (by simp)))
      go_ret
      exact ⟨by rw [HV.out]; rfl, hbB.trans (hb1.mono hbB.size)⟩
     ·have g3 : (n == 0) = false := by simp [hn]
      have HV : Hid (decide (n = 0) = false) := by show _ = _; simp [hn]
      clear hn
      go_enter Tryz.func104, Tryz.ntmps104
      go_wp2_with (first | (go_at_call 51; refine (HN.out _).mono ?_; rintro e w1 ⟨rfl, hb1⟩; have d1 := cell_keepN (cell_blk (j := 1) (blk_alloc w (Obj.cells #[.int .i64 k, .int .i64 n, .string s, .slice (some ⟨b1, o1, none⟩) 1 cn, .slice aa 1 ca] 96)) rfl) hb1 (by simp)))
      go_ret
      exact ⟨by rw [HV.out]; rfl, hbB.trans (hb1.mono hbB.size)⟩
    ·have g2 : ((la : Int) == 1) = false := by simp; omega
     obtain rfl : false = pr := by rw [← hpr]; simp [prB, q, h2]
     clear hpr hna q HA HI
     go_enter Tryz.func104, Tryz.ntmps104
     go_wp2_with (first | (go_at_call 51; refine (HN.out _).mono ?_; rintro e w1 ⟨rfl, hb1⟩; have d1 := cell_keepN (cell_blk (j := 1) (blk_alloc w (Obj.cells #[.int .i64 k, .int .i64 n, .string s, .slice (some ⟨b1, o1, none⟩) 1 cn, .slice aa la ca] 96)) rfl) hb1 (by simp)))
     go_ret
     exact ⟨rfl, hbB.trans (hb1.mono hbB.size)⟩
  ·have g1 : ((ts.length : Int) == 1) = false := by simp; omega
   obtain rfl : false = pr := by rw [← hpr]; simp [prB, q, h1]
   clear hpr q HA HI hr hsz
   go_enter Tryz.func104, Tryz.ntmps104
   go_wp2_with fail
   go_ret
   exact ⟨rfl, hbB⟩
 ·have hp2 : pr = (decide (ts.length = 0) && decide (arL s.toList = (la : Int)) && decide (n = 0)) := by rw [← hpr]; simp [prB, q3, q4, q5]
  clear hpr q3 q4 q5 hr hsz HI
  by_cases h1 : ts.length = 0
  ·obtain rfl : ts = [] := List.eq_nil_of_length_eq_zero h1
   simp only [List.length_nil] at *
   by_cases h2 : arL s.toList = (la : Int)
   ·rw [h2] at HA
    by_cases hn : n = 0
    ·have g3 : (n == 0) = true := by simp [hn]
     obtain rfl : pr = true := by rw [hp2]; simp [h2, hn]
     clear hp2 hn h2
     go_enter Tryz.func104, Tryz.ntmps104
     go_wp2_with (first | (go_at_call 82; refine (HA.out _).mono ?_; rintro e w1 ⟨rfl, rfl⟩))
     go_ret
     exact ⟨rfl, hbB⟩
    ·have g3 : (n == 0) = false := by simp [hn]
     obtain rfl : pr = false := by rw [hp2]; simp [hn]
     clear hp2 hn h2
     go_enter Tryz.func104, Tryz.ntmps104
     go_wp2_with (first | (go_at_call 82; refine (HA.out _).mono ?_; rintro e w1 ⟨rfl, rfl⟩))
     go_ret
     exact ⟨rfl, hbB⟩
   ·have g2 : (arL s.toList == (la : Int)) = false := by simp [h2]
    obtain rfl : pr = false := by rw [hp2]; simp [h2]
    clear hp2 h2
    generalize arL s.toList = ar at *
    go_enter Tryz.func104, Tryz.ntmps104
    go_wp2_with (first | (go_at_call 82; refine (HA.out _).mono ?_; rintro e w1 ⟨rfl, rfl⟩))
    go_ret
    exact ⟨rfl, hbB⟩
  ·have g1 : ((ts.length : Int) == 0) = false := by simp; intro h; exact h1 (by simp [h])
   obtain rfl : pr = false := by rw [hp2]; simp [h1]
   clear hp2
   go_enter Tryz.func104, Tryz.ntmps104
   go_wp2_with fail
   go_ret
   exact ⟨rfl, hbB⟩
end Go.Proofs.YtamjofdgikifnaaGreat
