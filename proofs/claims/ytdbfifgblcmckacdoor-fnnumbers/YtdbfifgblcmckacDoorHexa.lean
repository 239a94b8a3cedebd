/- The contract of the model's Hex: two digits a byte, the higher one first. -/
import Derived.Test.YtdbfifgblcmckacDoorRfa
import Derived.Test.YtdbfifgblcmckacDoorOwn
import Derived.Test.YtdbfifgblcmckacDoorBits
import Derived.Deep.RegionHeld3
import Derived.Deep.AppendLies
namespace Go.Proofs.YtdbfifgblcmckacDoor
open Go.ChangeShapes Go.WideShapes Go.ChangeAt Go.RowKit
/-- The digit of a number below sixteen. -/
def hexD (k : Nat) : UInt8 := [48, 49, 50, 51, 52, 53, 54, 55, 56, 57, 97, 98, 99, 100, 101, 102].getD k 0
/-- The digits of a text. -/
def hexL : List UInt8 → List UInt8
  | [] => []
  | b :: l => hexD (b.toNat / 16) :: hexD (b.toNat % 16) :: hexL l
theorem hexL_length : ∀ l, (hexL l).length = 2 * l.length
  | [] => rfl
  | b :: l => by simp [hexL, hexL_length l]; omega
theorem hexL_snoc : ∀ (l : List UInt8) (b : UInt8), hexL (l ++ [b]) = hexL l ++ [hexD (b.toNat / 16), hexD (b.toNat % 16)]
  | [], b => rfl
  | c :: l, b => by simp [hexL, hexL_snoc l b]
theorem take_snocH (s : ByteArray) (k : Nat) (h : k < s.size) : s.data.toList.take (k + 1) = s.data.toList.take k ++ [s[k]] := by
  rw [List.take_succ_eq_append_getElem (by simpa using h)]; rfl
theorem div16 (b : UInt8) : IntKind.i64.wrap ((IntKind.i64.wrap (b.toNat : Int)).tdiv 16) = ((b.toNat / 16 : Nat) : Int) := by
  have h := b.toNat_lt
  rw [i64_small b.toNat (by omega), Int.tdiv_eq_ediv_of_nonneg (by omega)]
  exact i64_small (b.toNat / 16) (by omega)
theorem mod16 (b : UInt8) : (IntKind.i64.wrap (b.toNat : Int)).tmod 16 = ((b.toNat % 16 : Nat) : Int) := by
  have h := b.toNat_lt
  rw [i64_small b.toNat (by omega), Int.tmod_eq_emod_of_nonneg (by omega)]
  omega
theorem two_new (w : World) (x y x' y' : Int) (hx : x' = x) (hy : y' = y) : ∀ (j : Nat) (u : Value), [Value.int .u8 x, Value.int .u8 y][j]? = some u → (w.alloc (.cells #[.int .u8 x', .int .u8 y'] 5)).drew.cell? ((⟨w.heap.size, 0, none⟩ : Addr).add j) = some u := by
  intro j u hj
  subst hx hy
  match j, hj with
  | 0, hj => simp at hj; subst hj; show (w.alloc _).cell? _ = _; simp [Addr.add]
  | 1, hj => simp at hj; subst hj; show (w.alloc _).cell? _ = _; simp [Addr.add]
theorem two_cells (x y : Int) : ∀ u ∈ [Value.int .u8 x, Value.int .u8 y], u.oneCell' = true := by
  intro u hu; simp at hu; rcases hu with rfl | rfl <;> rfl
theorem below_app_drew {B : Nat} {w wr w1 : World} {v : Value} {n : Nat} {xs : List Value} {o : Obj} (hB : B ≤ wr.heap.size) (hown : wr.ownsRow B 5 1 v n xs) (hnx : Below B w wr) (hg : (wr.alloc o).drew.grownBy w1 v.ownBlock) : Below B w w1 :=
  (hnx.alloc hB o).drew.grown hg (by simp [World.drew]; omega) fun k hk => (hown.lt k hk).1
end Go.Proofs.YtdbfifgblcmckacDoor
