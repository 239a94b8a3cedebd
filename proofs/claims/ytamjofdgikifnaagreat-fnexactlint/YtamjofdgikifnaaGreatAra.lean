/- What the model and the program say of a primitive and of a word. -/
import Derived.Test.YtamjofdgikifnaaGreatKmp
namespace Go.Proofs.YtamjofdgikifnaaGreat
open Go.ChangeShapes Go.WideShapes Go.ChangeAt Go.RowKit
theorem wd0 {l : List UInt8} (h : l = [43]) : (l == [43]) = true ∧ (l == [45]) = false ∧ (l == [42]) = false ∧ (l == [60]) = false ∧ (l == [61]) = false ∧ (l == [101, 113, 63]) = false ∧ (l == [99, 111, 110, 115]) = false ∧ (l == [99, 97, 114]) = false ∧ (l == [99, 100, 114]) = false ∧ (l == [110, 117, 108, 108, 63]) = false ∧ (l == [112, 97, 105, 114, 63]) = false ∧ (l == [110, 111, 116]) = false ∧ (l == [112, 114, 105, 110, 116]) = false ∧ (l == [101, 114, 114, 111, 114]) = false ∧ (l == [102, 105, 101, 108, 100]) = false ∧ (l == [105, 115]) = false ∧ (l == [109, 97, 107, 101]) = false := by subst h; exact ⟨rfl, rfl, rfl, rfl, rfl, rfl, rfl, rfl, rfl, rfl, rfl, rfl, rfl, rfl, rfl, rfl, rfl⟩
theorem wd1 {l : List UInt8} (h : l = [45]) : (l == [43]) = false ∧ (l == [45]) = true ∧ (l == [42]) = false ∧ (l == [60]) = false ∧ (l == [61]) = false ∧ (l == [101, 113, 63]) = false ∧ (l == [99, 111, 110, 115]) = false ∧ (l == [99, 97, 114]) = false ∧ (l == [99, 100, 114]) = false ∧ (l == [110, 117, 108, 108, 63]) = false ∧ (l == [112, 97, 105, 114, 63]) = false ∧ (l == [110, 111, 116]) = false ∧ (l == [112, 114, 105, 110, 116]) = false ∧ (l == [101, 114, 114, 111, 114]) = false ∧ (l == [102, 105, 101, 108, 100]) = false ∧ (l == [105, 115]) = false ∧ (l == [109, 97, 107, 101]) = false := by subst h; exact ⟨rfl, rfl, rfl, rfl, rfl, rfl, rfl, rfl, rfl, rfl, rfl, rfl, rfl, rfl, rfl, rfl, rfl⟩
theorem wd2 {l : List UInt8} (h : l = [42]) : (l == [43]) = false ∧ (l == [45]) = false ∧ (l == [42]) = true ∧ (l == [60]) = false ∧ (l == [61]) = false ∧ (l == [101, 113, 63]) = false ∧ (l == [99, 111, 110, 115]) = false ∧ (l == [99, 97, 114]) = false ∧ (l == [99, 100, 114]) = false ∧ (l == [110, 117, 108, 108, 63]) = false ∧ (l == [112, 97, 105, 114, 63]) = false ∧ (l == [110, 111, 116]) = false ∧ (l == [112, 114, 105, 110, 116]) = false ∧ (l == [101, 114, 114, 111, 114]) = false ∧ (l == [102, 105, 101, 108, 100]) = false ∧ (l == [105, 115]) = false ∧ (l == [109, 97, 107, 101]) = false := by subst h; exact ⟨rfl, rfl, rfl, rfl, rfl, rfl, rfl, rfl, rfl, rfl, rfl, rfl, rfl, rfl, rfl, rfl, rfl⟩
theorem wd3 {l : List UInt8} (h : l = [60]) : (l == [43]) = false ∧ (l == [45]) = false ∧ (l == [42]) = false ∧ (l == [60]) = true ∧ (l == [61]) = false ∧ (l == [101, 113, 63]) = false ∧ (l == [99, 111, 110, 115]) = false ∧ (l == [99, 97, 114]) = false ∧ (l == [99, 100, 114]) = false ∧ (l == [110, 117, 108, 108, 63]) = false ∧ (l == [112, 97, 105, 114, 63]) = false ∧ (l == [110, 111, 116]) = false ∧ (l == [112, 114, 105, 110, 116]) = false ∧ (l == [101, 114, 114, 111, 114]) = false ∧ (l == [102, 105, 101, 108, 100]) = false ∧ (l == [105, 115]) = false ∧ (l == [109, 97, 107, 101]) = false := by subst h; exact ⟨rfl, rfl, rfl, rfl, rfl, rfl, rfl, rfl, rfl, rfl, rfl, rfl, rfl, rfl, rfl, rfl, rfl⟩
theorem wd4 {l : List UInt8} (h : l = [61]) : (l == [43]) = false ∧ (l == [45]) = false ∧ (l == [42]) = false ∧ (l == [60]) = false ∧ (l == [61]) = true ∧ (l == [101, 113, 63]) = false ∧ (l == [99, 111, 110, 115]) = false ∧ (l == [99, 97, 114]) = false ∧ (l == [99, 100, 114]) = false ∧ (l == [110, 117, 108, 108, 63]) = false ∧ (l == [112, 97, 105, 114, 63]) = false ∧ (l == [110, 111, 116]) = false ∧ (l == [112, 114, 105, 110, 116]) = false ∧ (l == [101, 114, 114, 111, 114]) = false ∧ (l == [102, 105, 101, 108, 100]) = false ∧ (l == [105, 115]) = false ∧ (l == [109, 97, 107, 101]) = false := by subst h; exact ⟨rfl, rfl, rfl, rfl, rfl, rfl, rfl, rfl, rfl, rfl, rfl, rfl, rfl, rfl, rfl, rfl, rfl⟩
theorem wd5 {l : List UInt8} (h : l = [101, 113, 63]) : (l == [43]) = false ∧ (l == [45]) = false ∧ (l == [42]) = false ∧ (l == [60]) = false ∧ (l == [61]) = false ∧ (l == [101, 113, 63]) = true ∧ (l == [99, 111, 110, 115]) = false ∧ (l == [99, 97, 114]) = false ∧ (l == [99, 100, 114]) = false ∧ (l == [110, 117, 108, 108, 63]) = false ∧ (l == [112, 97, 105, 114, 63]) = false ∧ (l == [110, 111, 116]) = false ∧ (l == [112, 114, 105, 110, 116]) = false ∧ (l == [101, 114, 114, 111, 114]) = false ∧ (l == [102, 105, 101, 108, 100]) = false ∧ (l == [105, 115]) = false ∧ (l == [109, 97, 107, 101]) = false := by subst h; exact ⟨rfl, rfl, rfl, rfl, rfl, rfl, rfl, rfl, rfl, rfl, rfl, rfl, rfl, rfl, rfl, rfl, rfl⟩
theorem wd6 {l : List UInt8} (h : l = [99, 111, 110, 115]) : (l == [43]) = false ∧ (l == [45]) = false ∧ (l == [42]) = false ∧ (l == [60]) = false ∧ (l == [61]) = false ∧ (l == [101, 113, 63]) = false ∧ (l == [99, 111, 110, 115]) = true ∧ (l == [99, 97, 114]) = false ∧ (l == [99, 100, 114]) = false ∧ (l == [110, 117, 108, 108, 63]) = false ∧ (l == [112, 97, 105, 114, 63]) = false ∧ (l == [110, 111, 116]) = false ∧ (l == [112, 114, 105, 110, 116]) = false ∧ (l == [101, 114, 114, 111, 114]) = false ∧ (l == [102, 105, 101, 108, 100]) = false ∧ (l == [105, 115]) = false ∧ (l == [109, 97, 107, 101]) = false := by subst h; exact ⟨rfl, rfl, rfl, rfl, rfl, rfl, rfl, rfl, rfl, rfl, rfl, rfl, rfl, rfl, rfl, rfl, rfl⟩
theorem wd7 {l : List UInt8} (h : l = [99, 97, 114]) : (l == [43]) = false ∧ (l == [45]) = false ∧ (l == [42]) = false ∧ (l == [60]) = false ∧ (l == [61]) = false ∧ (l == [101, 113, 63]) = false ∧ (l == [99, 111, 110, 115]) = false ∧ (l == [99, 97, 114]) = true ∧ (l == [99, 100, 114]) = false ∧ (l == [110, 117, 108, 108, 63]) = false ∧ (l == [112, 97, 105, 114, 63]) = false ∧ (l == [110, 111, 116]) = false ∧ (l == [112, 114, 105, 110, 116]) = false ∧ (l == [101, 114, 114, 111, 114]) = false ∧ (l == [102, 105, 101, 108, 100]) = false ∧ (l == [105, 115]) = false ∧ (l == [109, 97, 107, 101]) = false := by subst h; exact ⟨rfl, rfl, rfl, rfl, rfl, rfl, rfl, rfl, rfl, rfl, rfl, rfl, rfl, rfl, rfl, rfl, rfl⟩
theorem wd8 {l : List UInt8} (h : l = [99, 100, 114]) : (l == [43]) = false ∧ (l == [45]) = false ∧ (l == [42]) = false ∧ (l == [60]) = false ∧ (l == [61]) = false ∧ (l == [101, 113, 63]) = false ∧ (l == [99, 111, 110, 115]) = false ∧ (l == [99, 97, 114]) = false ∧ (l == [99, 100, 114]) = true ∧ (l == [110, 117, 108, 108, 63]) = false ∧ (l == [112, 97, 105, 114, 63]) = false ∧ (l == [110, 111, 116]) = false ∧ (l == [112, 114, 105, 110, 116]) = false ∧ (l == [101, 114, 114, 111, 114]) = false ∧ (l == [102, 105, 101, 108, 100]) = false ∧ (l == [105, 115]) = false ∧ (l == [109, 97, 107, 101]) = false := by subst h; exact ⟨rfl, rfl, rfl, rfl, rfl, rfl, rfl, rfl, rfl, rfl, rfl, rfl, rfl, rfl, rfl, rfl, rfl⟩
theorem wd9 {l : List UInt8} (h : l = [110, 117, 108, 108, 63]) : (l == [43]) = false ∧ (l == [45]) = false ∧ (l == [42]) = false ∧ (l == [60]) = false ∧ (l == [61]) = false ∧ (l == [101, 113, 63]) = false ∧ (l == [99, 111, 110, 115]) = false ∧ (l == [99, 97, 114]) = false ∧ (l == [99, 100, 114]) = false ∧ (l == [110, 117, 108, 108, 63]) = true ∧ (l == [112, 97, 105, 114, 63]) = false ∧ (l == [110, 111, 116]) = false ∧ (l == [112, 114, 105, 110, 116]) = false ∧ (l == [101, 114, 114, 111, 114]) = false ∧ (l == [102, 105, 101, 108, 100]) = false ∧ (l == [105, 115]) = false ∧ (l == [109, 97, 107, 101]) = false := by subst h; exact ⟨rfl, rfl, rfl, rfl, rfl, rfl, rfl, rfl, rfl, rfl, rfl, rfl, rfl, rfl, rfl, rfl, rfl⟩
theorem wd10 {l : List UInt8} (h : l = [112, 97, 105, 114, 63]) : (l == [43]) = false ∧ (l == [45]) = false ∧ (l == [42]) = false ∧ (l == [60]) = false ∧ (l == [61]) = false ∧ (l == [101, 113, 63]) = false ∧ (l == [99, 111, 110, 115]) = false ∧ (l == [99, 97, 114]) = false ∧ (l == [99, 100, 114]) = false ∧ (l == [110, 117, 108, 108, 63]) = false ∧ (l == [112, 97, 105, 114, 63]) = true ∧ (l == [110, 111, 116]) = false ∧ (l == [112, 114, 105, 110, 116]) = false ∧ (l == [101, 114, 114, 111, 114]) = false ∧ (l == [102, 105, 101, 108, 100]) = false ∧ (l == [105, 115]) = false ∧ (l == [109, 97, 107, 101]) = false := by subst h; exact ⟨rfl, rfl, rfl, rfl, rfl, rfl, rfl, rfl, rfl, rfl, rfl, rfl, rfl, rfl, rfl, rfl, rfl⟩
theorem wd11 {l : List UInt8} (h : l = [110, 111, 116]) : (l == [43]) = false ∧ (l == [45]) = false ∧ (l == [42]) = false ∧ (l == [60]) = false ∧ (l == [61]) = false ∧ (l == [101, 113, 63]) = false ∧ (l == [99, 111, 110, 115]) = false ∧ (l == [99, 97, 114]) = false ∧ (l == [99, 100, 114]) = false ∧ (l == [110, 117, 108, 108, 63]) = false ∧ (l == [112, 97, 105, 114, 63]) = false ∧ (l == [110, 111, 116]) = true ∧ (l == [112, 114, 105, 110, 116]) = false ∧ (l == [101, 114, 114, 111, 114]) = false ∧ (l == [102, 105, 101, 108, 100]) = false ∧ (l == [105, 115]) = false ∧ (l == [109, 97, 107, 101]) = false := by subst h; exact ⟨rfl, rfl, rfl, rfl, rfl, rfl, rfl, rfl, rfl, rfl, rfl, rfl, rfl, rfl, rfl, rfl, rfl⟩
theorem wd12 {l : List UInt8} (h : l = [112, 114, 105, 110, 116]) : (l == [43]) = false ∧ (l == [45]) = false ∧ (l == [42]) = false ∧ (l == [60]) = false ∧ (l == [61]) = false ∧ (l == [101, 113, 63]) = false ∧ (l == [99, 111, 110, 115]) = false ∧ (l == [99, 97, 114]) = false ∧ (l == [99, 100, 114]) = false ∧ (l == [110, 117, 108, 108, 63]) = false ∧ (l == [112, 97, 105, 114, 63]) = false ∧ (l == [110, 111, 116]) = false ∧ (l == [112, 114, 105, 110, 116]) = true ∧ (l == [101, 114, 114, 111, 114]) = false ∧ (l == [102, 105, 101, 108, 100]) = false ∧ (l == [105, 115]) = false ∧ (l == [109, 97, 107, 101]) = false := by subst h; exact ⟨rfl, rfl, rfl, rfl, rfl, rfl, rfl, rfl, rfl, rfl, rfl, rfl, rfl, rfl, rfl, rfl, rfl⟩
theorem wd13 {l : List UInt8} (h : l = [101, 114, 114, 111, 114]) : (l == [43]) = false ∧ (l == [45]) = false ∧ (l == [42]) = false ∧ (l == [60]) = false ∧ (l == [61]) = false ∧ (l == [101, 113, 63]) = false ∧ (l == [99, 111, 110, 115]) = false ∧ (l == [99, 97, 114]) = false ∧ (l == [99, 100, 114]) = false ∧ (l == [110, 117, 108, 108, 63]) = false ∧ (l == [112, 97, 105, 114, 63]) = false ∧ (l == [110, 111, 116]) = false ∧ (l == [112, 114, 105, 110, 116]) = false ∧ (l == [101, 114, 114, 111, 114]) = true ∧ (l == [102, 105, 101, 108, 100]) = false ∧ (l == [105, 115]) = false ∧ (l == [109, 97, 107, 101]) = false := by subst h; exact ⟨rfl, rfl, rfl, rfl, rfl, rfl, rfl, rfl, rfl, rfl, rfl, rfl, rfl, rfl, rfl, rfl, rfl⟩
theorem wd14 {l : List UInt8} (h : l = [102, 105, 101, 108, 100]) : (l == [43]) = false ∧ (l == [45]) = false ∧ (l == [42]) = false ∧ (l == [60]) = false ∧ (l == [61]) = false ∧ (l == [101, 113, 63]) = false ∧ (l == [99, 111, 110, 115]) = false ∧ (l == [99, 97, 114]) = false ∧ (l == [99, 100, 114]) = false ∧ (l == [110, 117, 108, 108, 63]) = false ∧ (l == [112, 97, 105, 114, 63]) = false ∧ (l == [110, 111, 116]) = false ∧ (l == [112, 114, 105, 110, 116]) = false ∧ (l == [101, 114, 114, 111, 114]) = false ∧ (l == [102, 105, 101, 108, 100]) = true ∧ (l == [105, 115]) = false ∧ (l == [109, 97, 107, 101]) = false := by subst h; exact ⟨rfl, rfl, rfl, rfl, rfl, rfl, rfl, rfl, rfl, rfl, rfl, rfl, rfl, rfl, rfl, rfl, rfl⟩
theorem wd15 {l : List UInt8} (h : l = [105, 115]) : (l == [43]) = false ∧ (l == [45]) = false ∧ (l == [42]) = false ∧ (l == [60]) = false ∧ (l == [61]) = false ∧ (l == [101, 113, 63]) = false ∧ (l == [99, 111, 110, 115]) = false ∧ (l == [99, 97, 114]) = false ∧ (l == [99, 100, 114]) = false ∧ (l == [110, 117, 108, 108, 63]) = false ∧ (l == [112, 97, 105, 114, 63]) = false ∧ (l == [110, 111, 116]) = false ∧ (l == [112, 114, 105, 110, 116]) = false ∧ (l == [101, 114, 114, 111, 114]) = false ∧ (l == [102, 105, 101, 108, 100]) = false ∧ (l == [105, 115]) = true ∧ (l == [109, 97, 107, 101]) = false := by subst h; exact ⟨rfl, rfl, rfl, rfl, rfl, rfl, rfl, rfl, rfl, rfl, rfl, rfl, rfl, rfl, rfl, rfl, rfl⟩
theorem wd16 {l : List UInt8} (h : l = [109, 97, 107, 101]) : (l == [43]) = false ∧ (l == [45]) = false ∧ (l == [42]) = false ∧ (l == [60]) = false ∧ (l == [61]) = false ∧ (l == [101, 113, 63]) = false ∧ (l == [99, 111, 110, 115]) = false ∧ (l == [99, 97, 114]) = false ∧ (l == [99, 100, 114]) = false ∧ (l == [110, 117, 108, 108, 63]) = false ∧ (l == [112, 97, 105, 114, 63]) = false ∧ (l == [110, 111, 116]) = false ∧ (l == [112, 114, 105, 110, 116]) = false ∧ (l == [101, 114, 114, 111, 114]) = false ∧ (l == [102, 105, 101, 108, 100]) = false ∧ (l == [105, 115]) = false ∧ (l == [109, 97, 107, 101]) = true := by subst h; exact ⟨rfl, rfl, rfl, rfl, rfl, rfl, rfl, rfl, rfl, rfl, rfl, rfl, rfl, rfl, rfl, rfl, rfl⟩
theorem wd17 {l : List UInt8} (h : l = [113, 117, 111, 116, 101]) : (l == [113, 117, 111, 116, 101]) = true ∧ (l == [105, 102]) = false ∧ (l == [108, 97, 109, 98, 100, 97]) = false ∧ (l == [98, 101, 103, 105, 110]) = false ∧ (l == [115, 101, 116, 33]) = false ∧ (l == [108, 101, 116]) = false ∧ (l == [108, 101, 116, 42]) = false ∧ (l == [99, 111, 110, 100]) = false ∧ (l == [101, 108, 115, 101]) = false ∧ (l == [97, 110, 100]) = false ∧ (l == [111, 114]) = false ∧ (l == [119, 104, 101, 110]) = false ∧ (l == [100, 101, 102, 105, 110, 101]) = false := by subst h; exact ⟨rfl, rfl, rfl, rfl, rfl, rfl, rfl, rfl, rfl, rfl, rfl, rfl, rfl⟩
theorem wd18 {l : List UInt8} (h : l = [105, 102]) : (l == [113, 117, 111, 116, 101]) = false ∧ (l == [105, 102]) = true ∧ (l == [108, 97, 109, 98, 100, 97]) = false ∧ (l == [98, 101, 103, 105, 110]) = false ∧ (l == [115, 101, 116, 33]) = false ∧ (l == [108, 101, 116]) = false ∧ (l == [108, 101, 116, 42]) = false ∧ (l == [99, 111, 110, 100]) = false ∧ (l == [101, 108, 115, 101]) = false ∧ (l == [97, 110, 100]) = false ∧ (l == [111, 114]) = false ∧ (l == [119, 104, 101, 110]) = false ∧ (l == [100, 101, 102, 105, 110, 101]) = false := by subst h; exact ⟨rfl, rfl, rfl, rfl, rfl, rfl, rfl, rfl, rfl, rfl, rfl, rfl, rfl⟩
theorem wd19 {l : List UInt8} (h : l = [108, 97, 109, 98, 100, 97]) : (l == [113, 117, 111, 116, 101]) = false ∧ (l == [105, 102]) = false ∧ (l == [108, 97, 109, 98, 100, 97]) = true ∧ (l == [98, 101, 103, 105, 110]) = false ∧ (l == [115, 101, 116, 33]) = false ∧ (l == [108, 101, 116]) = false ∧ (l == [108, 101, 116, 42]) = false ∧ (l == [99, 111, 110, 100]) = false ∧ (l == [101, 108, 115, 101]) = false ∧ (l == [97, 110, 100]) = false ∧ (l == [111, 114]) = false ∧ (l == [119, 104, 101, 110]) = false ∧ (l == [100, 101, 102, 105, 110, 101]) = false := by subst h; exact ⟨rfl, rfl, rfl, rfl, rfl, rfl, rfl, rfl, rfl, rfl, rfl, rfl, rfl⟩
theorem wd20 {l : List UInt8} (h : l = [98, 101, 103, 105, 110]) : (l == [113, 117, 111, 116, 101]) = false ∧ (l == [105, 102]) = false ∧ (l == [108, 97, 109, 98, 100, 97]) = false ∧ (l == [98, 101, 103, 105, 110]) = true ∧ (l == [115, 101, 116, 33]) = false ∧ (l == [108, 101, 116]) = false ∧ (l == [108, 101, 116, 42]) = false ∧ (l == [99, 111, 110, 100]) = false ∧ (l == [101, 108, 115, 101]) = false ∧ (l == [97, 110, 100]) = false ∧ (l == [111, 114]) = false ∧ (l == [119, 104, 101, 110]) = false ∧ (l == [100, 101, 102, 105, 110, 101]) = false := by subst h; exact ⟨rfl, rfl, rfl, rfl, rfl, rfl, rfl, rfl, rfl, rfl, rfl, rfl, rfl⟩
theorem wd21 {l : List UInt8} (h : l = [115, 101, 116, 33]) : (l == [113, 117, 111, 116, 101]) = false ∧ (l == [105, 102]) = false ∧ (l == [108, 97, 109, 98, 100, 97]) = false ∧ (l == [98, 101, 103, 105, 110]) = false ∧ (l == [115, 101, 116, 33]) = true ∧ (l == [108, 101, 116]) = false ∧ (l == [108, 101, 116, 42]) = false ∧ (l == [99, 111, 110, 100]) = false ∧ (l == [101, 108, 115, 101]) = false ∧ (l == [97, 110, 100]) = false ∧ (l == [111, 114]) = false ∧ (l == [119, 104, 101, 110]) = false ∧ (l == [100, 101, 102, 105, 110, 101]) = false := by subst h; exact ⟨rfl, rfl, rfl, rfl, rfl, rfl, rfl, rfl, rfl, rfl, rfl, rfl, rfl⟩
theorem wd22 {l : List UInt8} (h : l = [108, 101, 116]) : (l == [113, 117, 111, 116, 101]) = false ∧ (l == [105, 102]) = false ∧ (l == [108, 97, 109, 98, 100, 97]) = false ∧ (l == [98, 101, 103, 105, 110]) = false ∧ (l == [115, 101, 116, 33]) = false ∧ (l == [108, 101, 116]) = true ∧ (l == [108, 101, 116, 42]) = false ∧ (l == [99, 111, 110, 100]) = false ∧ (l == [101, 108, 115, 101]) = false ∧ (l == [97, 110, 100]) = false ∧ (l == [111, 114]) = false ∧ (l == [119, 104, 101, 110]) = false ∧ (l == [100, 101, 102, 105, 110, 101]) = false := by subst h; exact ⟨rfl, rfl, rfl, rfl, rfl, rfl, rfl, rfl, rfl, rfl, rfl, rfl, rfl⟩
theorem wd23 {l : List UInt8} (h : l = [108, 101, 116, 42]) : (l == [113, 117, 111, 116, 101]) = false ∧ (l == [105, 102]) = false ∧ (l == [108, 97, 109, 98, 100, 97]) = false ∧ (l == [98, 101, 103, 105, 110]) = false ∧ (l == [115, 101, 116, 33]) = false ∧ (l == [108, 101, 116]) = false ∧ (l == [108, 101, 116, 42]) = true ∧ (l == [99, 111, 110, 100]) = false ∧ (l == [101, 108, 115, 101]) = false ∧ (l == [97, 110, 100]) = false ∧ (l == [111, 114]) = false ∧ (l == [119, 104, 101, 110]) = false ∧ (l == [100, 101, 102, 105, 110, 101]) = false := by subst h; exact ⟨rfl, rfl, rfl, rfl, rfl, rfl, rfl, rfl, rfl, rfl, rfl, rfl, rfl⟩
theorem wd24 {l : List UInt8} (h : l = [99, 111, 110, 100]) : (l == [113, 117, 111, 116, 101]) = false ∧ (l == [105, 102]) = false ∧ (l == [108, 97, 109, 98, 100, 97]) = false ∧ (l == [98, 101, 103, 105, 110]) = false ∧ (l == [115, 101, 116, 33]) = false ∧ (l == [108, 101, 116]) = false ∧ (l == [108, 101, 116, 42]) = false ∧ (l == [99, 111, 110, 100]) = true ∧ (l == [101, 108, 115, 101]) = false ∧ (l == [97, 110, 100]) = false ∧ (l == [111, 114]) = false ∧ (l == [119, 104, 101, 110]) = false ∧ (l == [100, 101, 102, 105, 110, 101]) = false := by subst h; exact ⟨rfl, rfl, rfl, rfl, rfl, rfl, rfl, rfl, rfl, rfl, rfl, rfl, rfl⟩
theorem wd25 {l : List UInt8} (h : l = [101, 108, 115, 101]) : (l == [113, 117, 111, 116, 101]) = false ∧ (l == [105, 102]) = false ∧ (l == [108, 97, 109, 98, 100, 97]) = false ∧ (l == [98, 101, 103, 105, 110]) = false ∧ (l == [115, 101, 116, 33]) = false ∧ (l == [108, 101, 116]) = false ∧ (l == [108, 101, 116, 42]) = false ∧ (l == [99, 111, 110, 100]) = false ∧ (l == [101, 108, 115, 101]) = true ∧ (l == [97, 110, 100]) = false ∧ (l == [111, 114]) = false ∧ (l == [119, 104, 101, 110]) = false ∧ (l == [100, 101, 102, 105, 110, 101]) = false := by subst h; exact ⟨rfl, rfl, rfl, rfl, rfl, rfl, rfl, rfl, rfl, rfl, rfl, rfl, rfl⟩
theorem wd26 {l : List UInt8} (h : l = [97, 110, 100]) : (l == [113, 117, 111, 116, 101]) = false ∧ (l == [105, 102]) = false ∧ (l == [108, 97, 109, 98, 100, 97]) = false ∧ (l == [98, 101, 103, 105, 110]) = false ∧ (l == [115, 101, 116, 33]) = false ∧ (l == [108, 101, 116]) = false ∧ (l == [108, 101, 116, 42]) = false ∧ (l == [99, 111, 110, 100]) = false ∧ (l == [101, 108, 115, 101]) = false ∧ (l == [97, 110, 100]) = true ∧ (l == [111, 114]) = false ∧ (l == [119, 104, 101, 110]) = false ∧ (l == [100, 101, 102, 105, 110, 101]) = false := by subst h; exact ⟨rfl, rfl, rfl, rfl, rfl, rfl, rfl, rfl, rfl, rfl, rfl, rfl, rfl⟩
theorem wd27 {l : List UInt8} (h : l = [111, 114]) : (l == [113, 117, 111, 116, 101]) = false ∧ (l == [105, 102]) = false ∧ (l == [108, 97, 109, 98, 100, 97]) = false ∧ (l == [98, 101, 103, 105, 110]) = false ∧ (l == [115, 101, 116, 33]) = false ∧ (l == [108, 101, 116]) = false ∧ (l == [108, 101, 116, 42]) = false ∧ (l == [99, 111, 110, 100]) = false ∧ (l == [101, 108, 115, 101]) = false ∧ (l == [97, 110, 100]) = false ∧ (l == [111, 114]) = true ∧ (l == [119, 104, 101, 110]) = false ∧ (l == [100, 101, 102, 105, 110, 101]) = false := by subst h; exact ⟨rfl, rfl, rfl, rfl, rfl, rfl, rfl, rfl, rfl, rfl, rfl, rfl, rfl⟩
theorem wd28 {l : List UInt8} (h : l = [119, 104, 101, 110]) : (l == [113, 117, 111, 116, 101]) = false ∧ (l == [105, 102]) = false ∧ (l == [108, 97, 109, 98, 100, 97]) = false ∧ (l == [98, 101, 103, 105, 110]) = false ∧ (l == [115, 101, 116, 33]) = false ∧ (l == [108, 101, 116]) = false ∧ (l == [108, 101, 116, 42]) = false ∧ (l == [99, 111, 110, 100]) = false ∧ (l == [101, 108, 115, 101]) = false ∧ (l == [97, 110, 100]) = false ∧ (l == [111, 114]) = false ∧ (l == [119, 104, 101, 110]) = true ∧ (l == [100, 101, 102, 105, 110, 101]) = false := by subst h; exact ⟨rfl, rfl, rfl, rfl, rfl, rfl, rfl, rfl, rfl, rfl, rfl, rfl, rfl⟩
theorem wd29 {l : List UInt8} (h : l = [100, 101, 102, 105, 110, 101]) : (l == [113, 117, 111, 116, 101]) = false ∧ (l == [105, 102]) = false ∧ (l == [108, 97, 109, 98, 100, 97]) = false ∧ (l == [98, 101, 103, 105, 110]) = false ∧ (l == [115, 101, 116, 33]) = false ∧ (l == [108, 101, 116]) = false ∧ (l == [108, 101, 116, 42]) = false ∧ (l == [99, 111, 110, 100]) = false ∧ (l == [101, 108, 115, 101]) = false ∧ (l == [97, 110, 100]) = false ∧ (l == [111, 114]) = false ∧ (l == [119, 104, 101, 110]) = false ∧ (l == [100, 101, 102, 105, 110, 101]) = true := by subst h; exact ⟨rfl, rfl, rfl, rfl, rfl, rfl, rfl, rfl, rfl, rfl, rfl, rfl, rfl⟩
def arL (l : List UInt8) : Int :=
 if (l == [43] || l == [45] || l == [42] || l == [60] || l == [61] || l == [101, 113, 63] || l == [99, 111, 110, 115]) then 2
 else if (l == [99, 97, 114] || l == [99, 100, 114] || l == [110, 117, 108, 108, 63] || l == [112, 97, 105, 114, 63] || l == [110, 111, 116] || l == [112, 114, 105, 110, 116] || l == [101, 114, 114, 111, 114] || l == [102, 105, 101, 108, 100] || l == [105, 115]) then 1
 else if (l == [109, 97, 107, 101]) then 0 else -1
def soL (l : List UInt8) : Int :=
 if (l == [99, 97, 114] || l == [99, 100, 114] || l == [110, 117, 108, 108, 63] || l == [112, 97, 105, 114, 63] || l == [110, 111, 116] || l == [112, 114, 105, 110, 116] || l == [101, 114, 114, 111, 114]) then 1
 else if (l == [43] || l == [45] || l == [42] || l == [60] || l == [61] || l == [101, 113, 63] || l == [99, 111, 110, 115]) then 2
 else if (l == [109, 97, 107, 101]) then 3
 else if (l == [102, 105, 101, 108, 100]) then 4
 else if (l == [105, 115]) then 5 else 0
def woL (l : List UInt8) : Bool := (l == [113, 117, 111, 116, 101] || l == [105, 102] || l == [108, 97, 109, 98, 100, 97] || l == [98, 101, 103, 105, 110] || l == [115, 101, 116, 33] || l == [108, 101, 116] || l == [108, 101, 116, 42] || l == [99, 111, 110, 100] || l == [101, 108, 115, 101] || l == [97, 110, 100] || l == [111, 114] || l == [119, 104, 101, 110] || l == [100, 101, 102, 105, 110, 101])
set_option maxRecDepth 100000 in
set_option maxHeartbeats 1000000 in
theorem specAr_any (s : ByteArray) (w : World) :
  Calls Tryz.prog 82 #[.string s] w fun e w' => e = .returned (.int .i64 (arL s.toList)) ∧ w' = w := by
 by_cases h0 : s.toList = [43]
 ·obtain ⟨e0, e1, e2, e3, e4, e5, e6, e7, e8, e9, e10, e11, e12, e13, e14, e15, e16⟩ := wd0 h0
  clear h0
  go_enter Tryz.func82, Tryz.ntmps82
  go_wp2
  go_ret
  exact ⟨by simp [arL, *], rfl⟩
 by_cases h1 : s.toList = [45]
 ·obtain ⟨e0, e1, e2, e3, e4, e5, e6, e7, e8, e9, e10, e11, e12, e13, e14, e15, e16⟩ := wd1 h1
  clear h0 h1
  go_enter Tryz.func82, Tryz.ntmps82
  go_wp2
  go_ret
  exact ⟨by simp [arL, *], rfl⟩
 by_cases h2 : s.toList = [42]
 ·obtain ⟨e0, e1, e2, e3, e4, e5, e6, e7, e8, e9, e10, e11, e12, e13, e14, e15, e16⟩ := wd2 h2
  clear h0 h1 h2
  go_enter Tryz.func82, Tryz.ntmps82
  go_wp2
  go_ret
  exact ⟨by simp [arL, *], rfl⟩
 by_cases h3 : s.toList = [60]
 ·obtain ⟨e0, e1, e2, e3, e4, e5, e6, e7, e8, e9, e10, e11, e12, e13, e14, e15, e16⟩ := wd3 h3
  clear h0 h1 h2 h3
  go_enter Tryz.func82, Tryz.ntmps82
  go_wp2
  go_ret
  exact ⟨by simp [arL, *], rfl⟩
 by_cases h4 : s.toList = [61]
 ·obtain ⟨e0, e1, e2, e3, e4, e5, e6, e7, e8, e9, e10, e11, e12, e13, e14, e15, e16⟩ := wd4 h4
  clear h0 h1 h2 h3 h4
  go_enter Tryz.func82, Tryz.ntmps82
  go_wp2
  go_ret
  exact ⟨by simp [arL, *], rfl⟩
 by_cases h5 : s.toList = [101, 113, 63]
 ·obtain ⟨e0, e1, e2, e3, e4, e5, e6, e7, e8, e9, e10, e11, e12, e13, e14, e15, e16⟩ := wd5 h5
  clear h0 h1 h2 h3 h4 h5
  go_enter Tryz.func82, Tryz.ntmps82
  go_wp2
  go_ret
  exact ⟨by simp [arL, *], rfl⟩
 by_cases h6 : s.toList = [99, 111, 110, 115]
 ·obtain ⟨e0, e1, e2, e3, e4, e5, e6, e7, e8, e9, e10, e11, e12, e13, e14, e15, e16⟩ := wd6 h6
  clear h0 h1 h2 h3 h4 h5 h6
  go_enter Tryz.func82, Tryz.ntmps82
  go_wp2
  go_ret
  exact ⟨by simp [arL, *], rfl⟩
 by_cases h7 : s.toList = [99, 97, 114]
 ·obtain ⟨e0, e1, e2, e3, e4, e5, e6, e7, e8, e9, e10, e11, e12, e13, e14, e15, e16⟩ := wd7 h7
  clear h0 h1 h2 h3 h4 h5 h6 h7
  go_enter Tryz.func82, Tryz.ntmps82
  go_wp2
  go_ret
  exact ⟨by simp [arL, *], rfl⟩
 by_cases h8 : s.toList = [99, 100, 114]
 ·obtain ⟨e0, e1, e2, e3, e4, e5, e6, e7, e8, e9, e10, e11, e12, e13, e14, e15, e16⟩ := wd8 h8
  clear h0 h1 h2 h3 h4 h5 h6 h7 h8
  go_enter Tryz.func82, Tryz.ntmps82
  go_wp2
  go_ret
  exact ⟨by simp [arL, *], rfl⟩
 by_cases h9 : s.toList = [110, 117, 108, 108, 63]
 ·obtain ⟨e0, e1, e2, e3, e4, e5, e6, e7, e8, e9, e10, e11, e12, e13, e14, e15, e16⟩ := wd9 h9
  clear h0 h1 h2 h3 h4 h5 h6 h7 h8 h9
  go_enter Tryz.func82, Tryz.ntmps82
  go_wp2
  go_ret
  exact ⟨by simp [arL, *], rfl⟩
 by_cases h10 : s.toList = [112, 97, 105, 114, 63]
 ·obtain ⟨e0, e1, e2, e3, e4, e5, e6, e7, e8, e9, e10, e11, e12, e13, e14, e15, e16⟩ := wd10 h10
  clear h0 h1 h2 h3 h4 h5 h6 h7 h8 h9 h10
  go_enter Tryz.func82, Tryz.ntmps82
  go_wp2
  go_ret
  exact ⟨by simp [arL, *], rfl⟩
 by_cases h11 : s.toList = [110, 111, 116]
 ·obtain ⟨e0, e1, e2, e3, e4, e5, e6, e7, e8, e9, e10, e11, e12, e13, e14, e15, e16⟩ := wd11 h11
  clear h0 h1 h2 h3 h4 h5 h6 h7 h8 h9 h10 h11
  go_enter Tryz.func82, Tryz.ntmps82
  go_wp2
  go_ret
  exact ⟨by simp [arL, *], rfl⟩
 by_cases h12 : s.toList = [112, 114, 105, 110, 116]
 ·obtain ⟨e0, e1, e2, e3, e4, e5, e6, e7, e8, e9, e10, e11, e12, e13, e14, e15, e16⟩ := wd12 h12
  clear h0 h1 h2 h3 h4 h5 h6 h7 h8 h9 h10 h11 h12
  go_enter Tryz.func82, Tryz.ntmps82
  go_wp2
  go_ret
  exact ⟨by simp [arL, *], rfl⟩
 by_cases h13 : s.toList = [101, 114, 114, 111, 114]
 ·obtain ⟨e0, e1, e2, e3, e4, e5, e6, e7, e8, e9, e10, e11, e12, e13, e14, e15, e16⟩ := wd13 h13
  clear h0 h1 h2 h3 h4 h5 h6 h7 h8 h9 h10 h11 h12 h13
  go_enter Tryz.func82, Tryz.ntmps82
  go_wp2
  go_ret
  exact ⟨by simp [arL, *], rfl⟩
 by_cases h14 : s.toList = [102, 105, 101, 108, 100]
 ·obtain ⟨e0, e1, e2, e3, e4, e5, e6, e7, e8, e9, e10, e11, e12, e13, e14, e15, e16⟩ := wd14 h14
  clear h0 h1 h2 h3 h4 h5 h6 h7 h8 h9 h10 h11 h12 h13 h14
  go_enter Tryz.func82, Tryz.ntmps82
  go_wp2
  go_ret
  exact ⟨by simp [arL, *], rfl⟩
 by_cases h15 : s.toList = [105, 115]
 ·obtain ⟨e0, e1, e2, e3, e4, e5, e6, e7, e8, e9, e10, e11, e12, e13, e14, e15, e16⟩ := wd15 h15
  clear h0 h1 h2 h3 h4 h5 h6 h7 h8 h9 h10 h11 h12 h13 h14 h15
  go_enter Tryz.func82, Tryz.ntmps82
  go_wp2
  go_ret
  exact ⟨by simp [arL, *], rfl⟩
 by_cases h16 : s.toList = [109, 97, 107, 101]
 ·obtain ⟨e0, e1, e2, e3, e4, e5, e6, e7, e8, e9, e10, e11, e12, e13, e14, e15, e16⟩ := wd16 h16
  clear h0 h1 h2 h3 h4 h5 h6 h7 h8 h9 h10 h11 h12 h13 h14 h15 h16
  go_enter Tryz.func82, Tryz.ntmps82
  go_wp2
  go_ret
  exact ⟨by simp [arL, *], rfl⟩
 have e0 : (s.toList == [43]) = false := beq_eq_false_iff_ne.2 h0
 have e1 : (s.toList == [45]) = false := beq_eq_false_iff_ne.2 h1
 have e2 : (s.toList == [42]) = false := beq_eq_false_iff_ne.2 h2
 have e3 : (s.toList == [60]) = false := beq_eq_false_iff_ne.2 h3
 have e4 : (s.toList == [61]) = false := beq_eq_false_iff_ne.2 h4
 have e5 : (s.toList == [101, 113, 63]) = false := beq_eq_false_iff_ne.2 h5
 have e6 : (s.toList == [99, 111, 110, 115]) = false := beq_eq_false_iff_ne.2 h6
 have e7 : (s.toList == [99, 97, 114]) = false := beq_eq_false_iff_ne.2 h7
 have e8 : (s.toList == [99, 100, 114]) = false := beq_eq_false_iff_ne.2 h8
 have e9 : (s.toList == [110, 117, 108, 108, 63]) = false := beq_eq_false_iff_ne.2 h9
 have e10 : (s.toList == [112, 97, 105, 114, 63]) = false := beq_eq_false_iff_ne.2 h10
 have e11 : (s.toList == [110, 111, 116]) = false := beq_eq_false_iff_ne.2 h11
 have e12 : (s.toList == [112, 114, 105, 110, 116]) = false := beq_eq_false_iff_ne.2 h12
 have e13 : (s.toList == [101, 114, 114, 111, 114]) = false := beq_eq_false_iff_ne.2 h13
 have e14 : (s.toList == [102, 105, 101, 108, 100]) = false := beq_eq_false_iff_ne.2 h14
 have e15 : (s.toList == [105, 115]) = false := beq_eq_false_iff_ne.2 h15
 have e16 : (s.toList == [109, 97, 107, 101]) = false := beq_eq_false_iff_ne.2 h16
 clear h0 h1 h2 h3 h4 h5 h6 h7 h8 h9 h10 h11 h12 h13 h14 h15 h16
 go_enter Tryz.func82, Tryz.ntmps82
 go_wp2
 go_ret
 exact ⟨by simp [arL, *], rfl⟩
set_option maxRecDepth 100000 in
set_option maxHeartbeats 1000000 in
theorem implSo_any (s : ByteArray) (w : World) :
  Calls Tryz.prog 108 #[.string s] w fun e w' => e = .returned (.int .i64 (soL s.toList)) ∧ w' = w := by
 by_cases h0 : s.toList = [43]
 ·obtain ⟨e0, e1, e2, e3, e4, e5, e6, e7, e8, e9, e10, e11, e12, e13, e14, e15, e16⟩ := wd0 h0
  clear h0
  go_enter Tryz.func108, Tryz.ntmps108
  go_wp2
  go_ret
  exact ⟨by simp [soL, *], rfl⟩
 by_cases h1 : s.toList = [45]
 ·obtain ⟨e0, e1, e2, e3, e4, e5, e6, e7, e8, e9, e10, e11, e12, e13, e14, e15, e16⟩ := wd1 h1
  clear h0 h1
  go_enter Tryz.func108, Tryz.ntmps108
  go_wp2
  go_ret
  exact ⟨by simp [soL, *], rfl⟩
 by_cases h2 : s.toList = [42]
 ·obtain ⟨e0, e1, e2, e3, e4, e5, e6, e7, e8, e9, e10, e11, e12, e13, e14, e15, e16⟩ := wd2 h2
  clear h0 h1 h2
  go_enter Tryz.func108, Tryz.ntmps108
  go_wp2
  go_ret
  exact ⟨by simp [soL, *], rfl⟩
 by_cases h3 : s.toList = [60]
 ·obtain ⟨e0, e1, e2, e3, e4, e5, e6, e7, e8, e9, e10, e11, e12, e13, e14, e15, e16⟩ := wd3 h3
  clear h0 h1 h2 h3
  go_enter Tryz.func108, Tryz.ntmps108
  go_wp2
  go_ret
  exact ⟨by simp [soL, *], rfl⟩
 by_cases h4 : s.toList = [61]
 ·obtain ⟨e0, e1, e2, e3, e4, e5, e6, e7, e8, e9, e10, e11, e12, e13, e14, e15, e16⟩ := wd4 h4
  clear h0 h1 h2 h3 h4
  go_enter Tryz.func108, Tryz.ntmps108
  go_wp2
  go_ret
  exact ⟨by simp [soL, *], rfl⟩
 by_cases h5 : s.toList = [101, 113, 63]
 ·obtain ⟨e0, e1, e2, e3, e4, e5, e6, e7, e8, e9, e10, e11, e12, e13, e14, e15, e16⟩ := wd5 h5
  clear h0 h1 h2 h3 h4 h5
  go_enter Tryz.func108, Tryz.ntmps108
  go_wp2
  go_ret
  exact ⟨by simp [soL, *], rfl⟩
 by_cases h6 : s.toList = [99, 111, 110, 115]
 ·obtain ⟨e0, e1, e2, e3, e4, e5, e6, e7, e8, e9, e10, e11, e12, e13, e14, e15, e16⟩ := wd6 h6
  clear h0 h1 h2 h3 h4 h5 h6
  go_enter Tryz.func108, Tryz.ntmps108
  go_wp2
  go_ret
  exact ⟨by simp [soL, *], rfl⟩
 by_cases h7 : s.toList = [99, 97, 114]
 ·obtain ⟨e0, e1, e2, e3, e4, e5, e6, e7, e8, e9, e10, e11, e12, e13, e14, e15, e16⟩ := wd7 h7
  clear h0 h1 h2 h3 h4 h5 h6 h7
  go_enter Tryz.func108, Tryz.ntmps108
  go_wp2
  go_ret
  exact ⟨by simp [soL, *], rfl⟩
 by_cases h8 : s.toList = [99, 100, 114]
 ·obtain ⟨e0, e1, e2, e3, e4, e5, e6, e7, e8, e9, e10, e11, e12, e13, e14, e15, e16⟩ := wd8 h8
  clear h0 h1 h2 h3 h4 h5 h6 h7 h8
  go_enter Tryz.func108, Tryz.ntmps108
  go_wp2
  go_ret
  exact ⟨by simp [soL, *], rfl⟩
 by_cases h9 : s.toList = [110, 117, 108, 108, 63]
 ·obtain ⟨e0, e1, e2, e3, e4, e5, e6, e7, e8, e9, e10, e11, e12, e13, e14, e15, e16⟩ := wd9 h9
  clear h0 h1 h2 h3 h4 h5 h6 h7 h8 h9
  go_enter Tryz.func108, Tryz.ntmps108
  go_wp2
  go_ret
  exact ⟨by simp [soL, *], rfl⟩
 by_cases h10 : s.toList = [112, 97, 105, 114, 63]
 ·obtain ⟨e0, e1, e2, e3, e4, e5, e6, e7, e8, e9, e10, e11, e12, e13, e14, e15, e16⟩ := wd10 h10
  clear h0 h1 h2 h3 h4 h5 h6 h7 h8 h9 h10
  go_enter Tryz.func108, Tryz.ntmps108
  go_wp2
  go_ret
  exact ⟨by simp [soL, *], rfl⟩
 by_cases h11 : s.toList = [110, 111, 116]
 ·obtain ⟨e0, e1, e2, e3, e4, e5, e6, e7, e8, e9, e10, e11, e12, e13, e14, e15, e16⟩ := wd11 h11
  clear h0 h1 h2 h3 h4 h5 h6 h7 h8 h9 h10 h11
  go_enter Tryz.func108, Tryz.ntmps108
  go_wp2
  go_ret
  exact ⟨by simp [soL, *], rfl⟩
 by_cases h12 : s.toList = [112, 114, 105, 110, 116]
 ·obtain ⟨e0, e1, e2, e3, e4, e5, e6, e7, e8, e9, e10, e11, e12, e13, e14, e15, e16⟩ := wd12 h12
  clear h0 h1 h2 h3 h4 h5 h6 h7 h8 h9 h10 h11 h12
  go_enter Tryz.func108, Tryz.ntmps108
  go_wp2
  go_ret
  exact ⟨by simp [soL, *], rfl⟩
 by_cases h13 : s.toList = [101, 114, 114, 111, 114]
 ·obtain ⟨e0, e1, e2, e3, e4, e5, e6, e7, e8, e9, e10, e11, e12, e13, e14, e15, e16⟩ := wd13 h13
  clear h0 h1 h2 h3 h4 h5 h6 h7 h8 h9 h10 h11 h12 h13
  go_enter Tryz.func108, Tryz.ntmps108
  go_wp2
  go_ret
  exact ⟨by simp [soL, *], rfl⟩
 by_cases h14 : s.toList = [102, 105, 101, 108, 100]
 ·obtain ⟨e0, e1, e2, e3, e4, e5, e6, e7, e8, e9, e10, e11, e12, e13, e14, e15, e16⟩ := wd14 h14
  clear h0 h1 h2 h3 h4 h5 h6 h7 h8 h9 h10 h11 h12 h13 h14
  go_enter Tryz.func108, Tryz.ntmps108
  go_wp2
  go_ret
  exact ⟨by simp [soL, *], rfl⟩
 by_cases h15 : s.toList = [105, 115]
 ·obtain ⟨e0, e1, e2, e3, e4, e5, e6, e7, e8, e9, e10, e11, e12, e13, e14, e15, e16⟩ := wd15 h15
  clear h0 h1 h2 h3 h4 h5 h6 h7 h8 h9 h10 h11 h12 h13 h14 h15
  go_enter Tryz.func108, Tryz.ntmps108
  go_wp2
  go_ret
  exact ⟨by simp [soL, *], rfl⟩
 by_cases h16 : s.toList = [109, 97, 107, 101]
 ·obtain ⟨e0, e1, e2, e3, e4, e5, e6, e7, e8, e9, e10, e11, e12, e13, e14, e15, e16⟩ := wd16 h16
  clear h0 h1 h2 h3 h4 h5 h6 h7 h8 h9 h10 h11 h12 h13 h14 h15 h16
  go_enter Tryz.func108, Tryz.ntmps108
  go_wp2
  go_ret
  exact ⟨by simp [soL, *], rfl⟩
 have e0 : (s.toList == [43]) = false := beq_eq_false_iff_ne.2 h0
 have e1 : (s.toList == [45]) = false := beq_eq_false_iff_ne.2 h1
 have e2 : (s.toList == [42]) = false := beq_eq_false_iff_ne.2 h2
 have e3 : (s.toList == [60]) = false := beq_eq_false_iff_ne.2 h3
 have e4 : (s.toList == [61]) = false := beq_eq_false_iff_ne.2 h4
 have e5 : (s.toList == [101, 113, 63]) = false := beq_eq_false_iff_ne.2 h5
 have e6 : (s.toList == [99, 111, 110, 115]) = false := beq_eq_false_iff_ne.2 h6
 have e7 : (s.toList == [99, 97, 114]) = false := beq_eq_false_iff_ne.2 h7
 have e8 : (s.toList == [99, 100, 114]) = false := beq_eq_false_iff_ne.2 h8
 have e9 : (s.toList == [110, 117, 108, 108, 63]) = false := beq_eq_false_iff_ne.2 h9
 have e10 : (s.toList == [112, 97, 105, 114, 63]) = false := beq_eq_false_iff_ne.2 h10
 have e11 : (s.toList == [110, 111, 116]) = false := beq_eq_false_iff_ne.2 h11
 have e12 : (s.toList == [112, 114, 105, 110, 116]) = false := beq_eq_false_iff_ne.2 h12
 have e13 : (s.toList == [101, 114, 114, 111, 114]) = false := beq_eq_false_iff_ne.2 h13
 have e14 : (s.toList == [102, 105, 101, 108, 100]) = false := beq_eq_false_iff_ne.2 h14
 have e15 : (s.toList == [105, 115]) = false := beq_eq_false_iff_ne.2 h15
 have e16 : (s.toList == [109, 97, 107, 101]) = false := beq_eq_false_iff_ne.2 h16
 clear h0 h1 h2 h3 h4 h5 h6 h7 h8 h9 h10 h11 h12 h13 h14 h15 h16
 go_enter Tryz.func108, Tryz.ntmps108
 go_wp2
 go_ret
 exact ⟨by simp [soL, *], rfl⟩
set_option maxRecDepth 100000 in
set_option maxHeartbeats 1000000 in
theorem implWo_any (s : ByteArray) (w : World) :
  Calls Tryz.prog 87 #[.string s] w fun e w' => e = .returned (.bool (woL s.toList)) ∧ w' = w := by
 by_cases h0 : s.toList = [113, 117, 111, 116, 101]
 ·obtain ⟨e0, e1, e2, e3, e4, e5, e6, e7, e8, e9, e10, e11, e12⟩ := wd17 h0
  clear h0
  go_enter Tryz.func87, Tryz.ntmps87
  go_wp2
  go_ret
  exact ⟨by simp [woL, *], rfl⟩
 by_cases h1 : s.toList = [105, 102]
 ·obtain ⟨e0, e1, e2, e3, e4, e5, e6, e7, e8, e9, e10, e11, e12⟩ := wd18 h1
  clear h0 h1
  go_enter Tryz.func87, Tryz.ntmps87
  go_wp2
  go_ret
  exact ⟨by simp [woL, *], rfl⟩
 by_cases h2 : s.toList = [108, 97, 109, 98, 100, 97]
 ·obtain ⟨e0, e1, e2, e3, e4, e5, e6, e7, e8, e9, e10, e11, e12⟩ := wd19 h2
  clear h0 h1 h2
  go_enter Tryz.func87, Tryz.ntmps87
  go_wp2
  go_ret
  exact ⟨by simp [woL, *], rfl⟩
 by_cases h3 : s.toList = [98, 101, 103, 105, 110]
 ·obtain ⟨e0, e1, e2, e3, e4, e5, e6, e7, e8, e9, e10, e11, e12⟩ := wd20 h3
  clear h0 h1 h2 h3
  go_enter Tryz.func87, Tryz.ntmps87
  go_wp2
  go_ret
  exact ⟨by simp [woL, *], rfl⟩
 by_cases h4 : s.toList = [115, 101, 116, 33]
 ·obtain ⟨e0, e1, e2, e3, e4, e5, e6, e7, e8, e9, e10, e11, e12⟩ := wd21 h4
  clear h0 h1 h2 h3 h4
  go_enter Tryz.func87, Tryz.ntmps87
  go_wp2
  go_ret
  exact ⟨by simp [woL, *], rfl⟩
 by_cases h5 : s.toList = [108, 101, 116]
 ·obtain ⟨e0, e1, e2, e3, e4, e5, e6, e7, e8, e9, e10, e11, e12⟩ := wd22 h5
  clear h0 h1 h2 h3 h4 h5
  go_enter Tryz.func87, Tryz.ntmps87
  go_wp2
  go_ret
  exact ⟨by simp [woL, *], rfl⟩
 by_cases h6 : s.toList = [108, 101, 116, 42]
 ·obtain ⟨e0, e1, e2, e3, e4, e5, e6, e7, e8, e9, e10, e11, e12⟩ := wd23 h6
  clear h0 h1 h2 h3 h4 h5 h6
  go_enter Tryz.func87, Tryz.ntmps87
  go_wp2
  go_ret
  exact ⟨by simp [woL, *], rfl⟩
 by_cases h7 : s.toList = [99, 111, 110, 100]
 ·obtain ⟨e0, e1, e2, e3, e4, e5, e6, e7, e8, e9, e10, e11, e12⟩ := wd24 h7
  clear h0 h1 h2 h3 h4 h5 h6 h7
  go_enter Tryz.func87, Tryz.ntmps87
  go_wp2
  go_ret
  exact ⟨by simp [woL, *], rfl⟩
 by_cases h8 : s.toList = [101, 108, 115, 101]
 ·obtain ⟨e0, e1, e2, e3, e4, e5, e6, e7, e8, e9, e10, e11, e12⟩ := wd25 h8
  clear h0 h1 h2 h3 h4 h5 h6 h7 h8
  go_enter Tryz.func87, Tryz.ntmps87
  go_wp2
  go_ret
  exact ⟨by simp [woL, *], rfl⟩
 by_cases h9 : s.toList = [97, 110, 100]
 ·obtain ⟨e0, e1, e2, e3, e4, e5, e6, e7, e8, e9, e10, e11, e12⟩ := wd26 h9
  clear h0 h1 h2 h3 h4 h5 h6 h7 h8 h9
  go_enter Tryz.func87, Tryz.ntmps87
  go_wp2
  go_ret
  exact ⟨by simp [woL, *], rfl⟩
 by_cases h10 : s.toList = [111, 114]
 ·obtain ⟨e0, e1, e2, e3, e4, e5, e6, e7, e8, e9, e10, e11, e12⟩ := wd27 h10
  clear h0 h1 h2 h3 h4 h5 h6 h7 h8 h9 h10
  go_enter Tryz.func87, Tryz.ntmps87
  go_wp2
  go_ret
  exact ⟨by simp [woL, *], rfl⟩
 by_cases h11 : s.toList = [119, 104, 101, 110]
 ·obtain ⟨e0, e1, e2, e3, e4, e5, e6, e7, e8, e9, e10, e11, e12⟩ := wd28 h11
  clear h0 h1 h2 h3 h4 h5 h6 h7 h8 h9 h10 h11
  go_enter Tryz.func87, Tryz.ntmps87
  go_wp2
  go_ret
  exact ⟨by simp [woL, *], rfl⟩
 by_cases h12 : s.toList = [100, 101, 102, 105, 110, 101]
 ·obtain ⟨e0, e1, e2, e3, e4, e5, e6, e7, e8, e9, e10, e11, e12⟩ := wd29 h12
  clear h0 h1 h2 h3 h4 h5 h6 h7 h8 h9 h10 h11 h12
  go_enter Tryz.func87, Tryz.ntmps87
  go_wp2
  go_ret
  exact ⟨by simp [woL, *], rfl⟩
 have e0 : (s.toList == [113, 117, 111, 116, 101]) = false := beq_eq_false_iff_ne.2 h0
 have e1 : (s.toList == [105, 102]) = false := beq_eq_false_iff_ne.2 h1
 have e2 : (s.toList == [108, 97, 109, 98, 100, 97]) = false := beq_eq_false_iff_ne.2 h2
 have e3 : (s.toList == [98, 101, 103, 105, 110]) = false := beq_eq_false_iff_ne.2 h3
 have e4 : (s.toList == [115, 101, 116, 33]) = false := beq_eq_false_iff_ne.2 h4
 have e5 : (s.toList == [108, 101, 116]) = false := beq_eq_false_iff_ne.2 h5
 have e6 : (s.toList == [108, 101, 116, 42]) = false := beq_eq_false_iff_ne.2 h6
 have e7 : (s.toList == [99, 111, 110, 100]) = false := beq_eq_false_iff_ne.2 h7
 have e8 : (s.toList == [101, 108, 115, 101]) = false := beq_eq_false_iff_ne.2 h8
 have e9 : (s.toList == [97, 110, 100]) = false := beq_eq_false_iff_ne.2 h9
 have e10 : (s.toList == [111, 114]) = false := beq_eq_false_iff_ne.2 h10
 have e11 : (s.toList == [119, 104, 101, 110]) = false := beq_eq_false_iff_ne.2 h11
 have e12 : (s.toList == [100, 101, 102, 105, 110, 101]) = false := beq_eq_false_iff_ne.2 h12
 clear h0 h1 h2 h3 h4 h5 h6 h7 h8 h9 h10 h11 h12
 go_enter Tryz.func87, Tryz.ntmps87
 go_wp2
 go_ret
 exact ⟨by simp [woL, *], rfl⟩
theorem so_ar (s : ByteArray) : (soL s.toList = 1 ∧ arL s.toList = 1) ∨ (soL s.toList = 2 ∧ arL s.toList = 2) ∨ (soL s.toList = 3 ∧ arL s.toList = 0) ∨ (soL s.toList = 4 ∧ arL s.toList = 1) ∨ (soL s.toList = 5 ∧ arL s.toList = 1) ∨ (soL s.toList = 0 ∧ arL s.toList = -1) := by
 by_cases h0 : s.toList = [43]
 ·obtain ⟨e0, e1, e2, e3, e4, e5, e6, e7, e8, e9, e10, e11, e12, e13, e14, e15, e16⟩ := wd0 h0
  clear h0
  simp [soL, arL, *]
 by_cases h1 : s.toList = [45]
 ·obtain ⟨e0, e1, e2, e3, e4, e5, e6, e7, e8, e9, e10, e11, e12, e13, e14, e15, e16⟩ := wd1 h1
  clear h0 h1
  simp [soL, arL, *]
 by_cases h2 : s.toList = [42]
 ·obtain ⟨e0, e1, e2, e3, e4, e5, e6, e7, e8, e9, e10, e11, e12, e13, e14, e15, e16⟩ := wd2 h2
  clear h0 h1 h2
  simp [soL, arL, *]
 by_cases h3 : s.toList = [60]
 ·obtain ⟨e0, e1, e2, e3, e4, e5, e6, e7, e8, e9, e10, e11, e12, e13, e14, e15, e16⟩ := wd3 h3
  clear h0 h1 h2 h3
  simp [soL, arL, *]
 by_cases h4 : s.toList = [61]
 ·obtain ⟨e0, e1, e2, e3, e4, e5, e6, e7, e8, e9, e10, e11, e12, e13, e14, e15, e16⟩ := wd4 h4
  clear h0 h1 h2 h3 h4
  simp [soL, arL, *]
 by_cases h5 : s.toList = [101, 113, 63]
 ·obtain ⟨e0, e1, e2, e3, e4, e5, e6, e7, e8, e9, e10, e11, e12, e13, e14, e15, e16⟩ := wd5 h5
  clear h0 h1 h2 h3 h4 h5
  simp [soL, arL, *]
 by_cases h6 : s.toList = [99, 111, 110, 115]
 ·obtain ⟨e0, e1, e2, e3, e4, e5, e6, e7, e8, e9, e10, e11, e12, e13, e14, e15, e16⟩ := wd6 h6
  clear h0 h1 h2 h3 h4 h5 h6
  simp [soL, arL, *]
 by_cases h7 : s.toList = [99, 97, 114]
 ·obtain ⟨e0, e1, e2, e3, e4, e5, e6, e7, e8, e9, e10, e11, e12, e13, e14, e15, e16⟩ := wd7 h7
  clear h0 h1 h2 h3 h4 h5 h6 h7
  simp [soL, arL, *]
 by_cases h8 : s.toList = [99, 100, 114]
 ·obtain ⟨e0, e1, e2, e3, e4, e5, e6, e7, e8, e9, e10, e11, e12, e13, e14, e15, e16⟩ := wd8 h8
  clear h0 h1 h2 h3 h4 h5 h6 h7 h8
  simp [soL, arL, *]
 by_cases h9 : s.toList = [110, 117, 108, 108, 63]
 ·obtain ⟨e0, e1, e2, e3, e4, e5, e6, e7, e8, e9, e10, e11, e12, e13, e14, e15, e16⟩ := wd9 h9
  clear h0 h1 h2 h3 h4 h5 h6 h7 h8 h9
  simp [soL, arL, *]
 by_cases h10 : s.toList = [112, 97, 105, 114, 63]
 ·obtain ⟨e0, e1, e2, e3, e4, e5, e6, e7, e8, e9, e10, e11, e12, e13, e14, e15, e16⟩ := wd10 h10
  clear h0 h1 h2 h3 h4 h5 h6 h7 h8 h9 h10
  simp [soL, arL, *]
 by_cases h11 : s.toList = [110, 111, 116]
 ·obtain ⟨e0, e1, e2, e3, e4, e5, e6, e7, e8, e9, e10, e11, e12, e13, e14, e15, e16⟩ := wd11 h11
  clear h0 h1 h2 h3 h4 h5 h6 h7 h8 h9 h10 h11
  simp [soL, arL, *]
 by_cases h12 : s.toList = [112, 114, 105, 110, 116]
 ·obtain ⟨e0, e1, e2, e3, e4, e5, e6, e7, e8, e9, e10, e11, e12, e13, e14, e15, e16⟩ := wd12 h12
  clear h0 h1 h2 h3 h4 h5 h6 h7 h8 h9 h10 h11 h12
  simp [soL, arL, *]
 by_cases h13 : s.toList = [101, 114, 114, 111, 114]
 ·obtain ⟨e0, e1, e2, e3, e4, e5, e6, e7, e8, e9, e10, e11, e12, e13, e14, e15, e16⟩ := wd13 h13
  clear h0 h1 h2 h3 h4 h5 h6 h7 h8 h9 h10 h11 h12 h13
  simp [soL, arL, *]
 by_cases h14 : s.toList = [102, 105, 101, 108, 100]
 ·obtain ⟨e0, e1, e2, e3, e4, e5, e6, e7, e8, e9, e10, e11, e12, e13, e14, e15, e16⟩ := wd14 h14
  clear h0 h1 h2 h3 h4 h5 h6 h7 h8 h9 h10 h11 h12 h13 h14
  simp [soL, arL, *]
 by_cases h15 : s.toList = [105, 115]
 ·obtain ⟨e0, e1, e2, e3, e4, e5, e6, e7, e8, e9, e10, e11, e12, e13, e14, e15, e16⟩ := wd15 h15
  clear h0 h1 h2 h3 h4 h5 h6 h7 h8 h9 h10 h11 h12 h13 h14 h15
  simp [soL, arL, *]
 by_cases h16 : s.toList = [109, 97, 107, 101]
 ·obtain ⟨e0, e1, e2, e3, e4, e5, e6, e7, e8, e9, e10, e11, e12, e13, e14, e15, e16⟩ := wd16 h16
  clear h0 h1 h2 h3 h4 h5 h6 h7 h8 h9 h10 h11 h12 h13 h14 h15 h16
  simp [soL, arL, *]
 have e0 : (s.toList == [43]) = false := beq_eq_false_iff_ne.2 h0
 have e1 : (s.toList == [45]) = false := beq_eq_false_iff_ne.2 h1
 have e2 : (s.toList == [42]) = false := beq_eq_false_iff_ne.2 h2
 have e3 : (s.toList == [60]) = false := beq_eq_false_iff_ne.2 h3
 have e4 : (s.toList == [61]) = false := beq_eq_false_iff_ne.2 h4
 have e5 : (s.toList == [101, 113, 63]) = false := beq_eq_false_iff_ne.2 h5
 have e6 : (s.toList == [99, 111, 110, 115]) = false := beq_eq_false_iff_ne.2 h6
 have e7 : (s.toList == [99, 97, 114]) = false := beq_eq_false_iff_ne.2 h7
 have e8 : (s.toList == [99, 100, 114]) = false := beq_eq_false_iff_ne.2 h8
 have e9 : (s.toList == [110, 117, 108, 108, 63]) = false := beq_eq_false_iff_ne.2 h9
 have e10 : (s.toList == [112, 97, 105, 114, 63]) = false := beq_eq_false_iff_ne.2 h10
 have e11 : (s.toList == [110, 111, 116]) = false := beq_eq_false_iff_ne.2 h11
 have e12 : (s.toList == [112, 114, 105, 110, 116]) = false := beq_eq_false_iff_ne.2 h12
 have e13 : (s.toList == [101, 114, 114, 111, 114]) = false := beq_eq_false_iff_ne.2 h13
 have e14 : (s.toList == [102, 105, 101, 108, 100]) = false := beq_eq_false_iff_ne.2 h14
 have e15 : (s.toList == [105, 115]) = false := beq_eq_false_iff_ne.2 h15
 have e16 : (s.toList == [109, 97, 107, 101]) = false := beq_eq_false_iff_ne.2 h16
 clear h0 h1 h2 h3 h4 h5 h6 h7 h8 h9 h10 h11 h12 h13 h14 h15 h16
 simp [soL, arL, *]
set_option maxRecDepth 100000 in
set_option maxHeartbeats 1000000 in
theorem implAr_any (s : ByteArray) (w : World) :
  Calls Tryz.prog 88 #[.string s] w fun e w' => e = .returned (.int .i64 (arL s.toList)) ∧ w' = w := by
 have HS : Hid (∀ w, Calls Tryz.prog 108 #[.string s] w fun e w' => e = .returned (.int .i64 (soL s.toList)) ∧ w' = w) := fun w => implSo_any s w
 rcases so_ar s with ⟨a, b⟩ | ⟨a, b⟩ | ⟨a, b⟩ | ⟨a, b⟩ | ⟨a, b⟩ | ⟨a, b⟩
 all_goals
  rw [a] at HS
  rw [b]
  clear a b
  go_enter Tryz.func88, Tryz.ntmps88
  go_wp2_with (go_at_call 108; refine (HS.out _).mono ?_; rintro e w' ⟨rfl, rfl⟩)
  go_ret
  exact ⟨rfl, rfl⟩
end Go.Proofs.YtamjofdgikifnaaGreat
