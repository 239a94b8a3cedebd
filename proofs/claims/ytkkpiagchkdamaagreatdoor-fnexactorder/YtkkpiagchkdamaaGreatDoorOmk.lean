/- The contracts of the library that Order uses, laid at this program's own numbers. Marks: a bit for each number, in words of 64. -/
import Derived.Shelf.Sort.Plain
import Derived.Shelf.Slices.In.SortNone
import Derived.Shelf.Slices.CompactS
import Derived.Shelf.Spec.SearchS
import Derived.Shelf.Spec.TrailingZeros
import Derived.Test.YtkkpiagchkdamaaGreatDoorProg
import Derived.Test.YtkkpiagchkdamaaGreatDoorApw
import Derived.Laws.Bits64b
import Derived.RegionTactic
import Derived.Lib.SliceRun
namespace Go.Proofs
open Go.Shelf
def Tryz.lays190_ren : Go.Shelf.Ren := ⟨fun | 125 => 95 | 128 => 121 | 129 => 122 | 190 => 66 | 258 => 94 | 302 => 113 | 303 => 114 | 304 => 115 | 305 => 116 | 306 => 117 | 307 => 118 | 308 => 96 | 309 => 119 | 310 => 120 | 329 => 134 | 330 => 135 | 333 => 133 | 334 => 136 | 335 => 137 | 336 => 123 | 344 => 143 | n => n, fun | 0 => 0 | 3 => 3 | 4 => 4 | 5 => 5 | 9 => 9 | 31 => 24 | 46 => 120 | 51 => 147 | 53 => 102 | 131 => 100 | 182 => 140 | 183 => 141 | 218 => 160 | 222 => 164 | 228 => 169 | 229 => 170 | n => n, fun | n => n⟩
theorem Tryz.lays190 : Go.Proofs.Lays.n190 Tryz.prog Tryz.lays190_ren := {
  mixed := by kernel_rfl
  f125 := Tryz.func95.trans (congrArg some (by kernel_rfl))
  f128 := Tryz.func121.trans (congrArg some (by kernel_rfl))
  f129 := Tryz.func122.trans (congrArg some (by kernel_rfl))
  f190 := Tryz.func66.trans (congrArg some (by kernel_rfl))
  f258 := Tryz.func94.trans (congrArg some (by kernel_rfl))
  f302 := Tryz.func113.trans (congrArg some (by kernel_rfl))
  f303 := Tryz.func114.trans (congrArg some (by kernel_rfl))
  f304 := Tryz.func115.trans (congrArg some (by kernel_rfl))
  f305 := Tryz.func116.trans (congrArg some (by kernel_rfl))
  f306 := Tryz.func117.trans (congrArg some (by kernel_rfl))
  f307 := Tryz.func118.trans (congrArg some (by kernel_rfl))
  f308 := Tryz.func96.trans (congrArg some (by kernel_rfl))
  f309 := Tryz.func119.trans (congrArg some (by kernel_rfl))
  f310 := Tryz.func120.trans (congrArg some (by kernel_rfl))
  f329 := Tryz.func134.trans (congrArg some (by kernel_rfl))
  f330 := Tryz.func135.trans (congrArg some (by kernel_rfl))
  f333 := Tryz.func133.trans (congrArg some (by kernel_rfl))
  f334 := Tryz.func136.trans (congrArg some (by kernel_rfl))
  f335 := Tryz.func137.trans (congrArg some (by kernel_rfl))
  f336 := Tryz.func123.trans (congrArg some (by kernel_rfl))
  f344 := Tryz.func143.trans (congrArg some (by kernel_rfl))
  t0 := Tryz.underlying0
  a0 := Tryz.isAgg0
  z0 := Tryz.sizeOf0
  v0 := Tryz.zeroValue0
  t3 := Tryz.underlying3
  a3 := Tryz.isAgg3
  z3 := Tryz.sizeOf3
  v3 := Tryz.zeroValue3
  t4 := Tryz.underlying4
  a4 := Tryz.isAgg4
  z4 := Tryz.sizeOf4
  v4 := Tryz.zeroValue4
  t5 := Tryz.underlying5
  a5 := Tryz.isAgg5
  z5 := Tryz.sizeOf5
  v5 := Tryz.zeroValue5
  t9 := Tryz.underlying9
  a9 := Tryz.isAgg9
  z9 := Tryz.sizeOf9
  v9 := Tryz.zeroValue9
  t31 := Tryz.underlying24
  a31 := Tryz.isAgg24
  z31 := Tryz.sizeOf24
  v31 := Tryz.zeroValue24
  t46 := Tryz.underlying120
  a46 := Tryz.isAgg120
  z46 := Tryz.sizeOf120
  v46 := Tryz.zeroValue120
  t51 := Tryz.underlying147
  a51 := Tryz.isAgg147
  z51 := Tryz.sizeOf147
  v51 := Tryz.zeroValue147
  t53 := Tryz.underlying102
  a53 := Tryz.isAgg102
  z53 := Tryz.sizeOf102
  v53 := Tryz.zeroValue102
  t131 := Tryz.underlying100
  a131 := Tryz.isAgg100
  z131 := Tryz.sizeOf100
  v131 := Tryz.zeroValue100
  t182 := Tryz.underlying140
  a182 := Tryz.isAgg140
  z182 := Tryz.sizeOf140
  v182 := Tryz.zeroValue140
  t183 := Tryz.underlying141
  a183 := Tryz.isAgg141
  z183 := Tryz.sizeOf141
  v183 := Tryz.zeroValue141
  t218 := Tryz.underlying160
  a218 := Tryz.isAgg160
  z218 := Tryz.sizeOf160
  v218 := Tryz.zeroValue160
  t222 := Tryz.underlying164
  a222 := Tryz.isAgg164
  z222 := Tryz.sizeOf164
  v222 := Tryz.zeroValue164
  t228 := Tryz.underlying169
  a228 := Tryz.isAgg169
  z228 := Tryz.sizeOf169
  v228 := Tryz.zeroValue169
  t229 := Tryz.underlying170
  a229 := Tryz.isAgg170
  z229 := Tryz.sizeOf170
  v229 := Tryz.zeroValue170 }
open Go.Sort Go.RowKit in
theorem Tryz.slices_Sort_string (blk off cap : Nat) (ss : List (List UInt8)) (w : World) (hH : Holds encStr w blk off ss.toArray) (hblk : blk < w.heap.size) (hsz : ss.length < 4611686018427387904) :
    Calls Tryz.prog 66 #[.slice (some ⟨blk, off, none⟩) ss.length cap] w fun e w' =>
      e = .returned (.tuple #[]) ∧ ∃ n os, w' = grow (putRow encStr (Sort.ahead w n) blk off (ss.mergeSort fun x y => decide (x ≤ y)).toArray) os := Any.slices_Sort_string Tryz.lays190 blk off cap ss w hH hblk hsz
theorem Tryz.slices_Sort_none (p : Option Addr) (cap : Nat) (w : World) :
    Calls Tryz.prog 66 #[.slice p 0 cap] w fun e w' => e = .returned (.tuple #[]) ∧ w' = w := Any.slices_Sort_string_none Tryz.lays190 p cap w
def Tryz.lays194_ren : Go.Shelf.Ren := ⟨fun | 194 => 67 | n => n, fun | 0 => 0 | 3 => 3 | 4 => 4 | 9 => 9 | 31 => 24 | n => n, fun | n => n⟩
theorem Tryz.lays194 : Go.Proofs.Lays.n194 Tryz.prog Tryz.lays194_ren := {
  mixed := by kernel_rfl
  f194 := Tryz.func67.trans (congrArg some (by kernel_rfl))
  t0 := Tryz.underlying0
  a0 := Tryz.isAgg0
  z0 := Tryz.sizeOf0
  v0 := Tryz.zeroValue0
  t3 := Tryz.underlying3
  a3 := Tryz.isAgg3
  z3 := Tryz.sizeOf3
  v3 := Tryz.zeroValue3
  t4 := Tryz.underlying4
  a4 := Tryz.isAgg4
  z4 := Tryz.sizeOf4
  v4 := Tryz.zeroValue4
  t9 := Tryz.underlying9
  a9 := Tryz.isAgg9
  z9 := Tryz.sizeOf9
  v9 := Tryz.zeroValue9
  t31 := Tryz.underlying24
  a31 := Tryz.isAgg24
  z31 := Tryz.sizeOf24
  v31 := Tryz.zeroValue24 }
open Go.RowKit Go.Lib Go.Sort in
theorem Tryz.slices_Compact_string (blk off cap : Nat) (zs : List (List UInt8)) (w : World) (hH : Holds encStr w blk off zs.toArray) (hsz : zs.length ≤ 9223372036854775807) (hcap : zs.length ≤ cap) :
    Calls Tryz.prog 67 #[.slice (some ⟨blk, off, none⟩) zs.length cap] w fun e w' => e = .returned (.slice (some ⟨blk, off, none⟩) (Lib.compact zs).length cap) ∧ ∃ q, w' = putRow encStr (Sort.ahead w q) blk off (Lib.compact zs ++ List.replicate (zs.length - (Lib.compact zs).length) []).toArray := Any.slices_Compact_string Tryz.lays194 blk off cap zs w hH hsz hcap
theorem Tryz.slices_Compact_none (a : Option Addr) (cap : Nat) (w : World) :
    Calls Tryz.prog 67 #[.slice a 0 cap] w fun e w' => e = .returned (.slice a 0 cap) ∧ w' = w := Any.slices_Compact_string_empty Tryz.lays194 a cap w
def Tryz.lays26_ren : Go.Shelf.Ren := ⟨fun | 26 => 68 | 33 => 96 | 34 => 97 | 38 => 123 | n => n, fun | 0 => 0 | 3 => 3 | 4 => 4 | 9 => 9 | 24 => 24 | 40 => 120 | n => n, fun | n => n⟩
theorem Tryz.lays26 : Go.Proofs.Lays2.n26 Tryz.prog Tryz.lays26_ren := {
  mixed := by kernel_rfl
  f26 := Tryz.func68.trans (congrArg some (by kernel_rfl))
  f33 := Tryz.func96.trans (congrArg some (by kernel_rfl))
  f34 := Tryz.func97.trans (congrArg some (by kernel_rfl))
  f38 := Tryz.func123.trans (congrArg some (by kernel_rfl))
  t0 := Tryz.underlying0
  a0 := Tryz.isAgg0
  z0 := Tryz.sizeOf0
  v0 := Tryz.zeroValue0
  t3 := Tryz.underlying3
  a3 := Tryz.isAgg3
  z3 := Tryz.sizeOf3
  v3 := Tryz.zeroValue3
  t4 := Tryz.underlying4
  a4 := Tryz.isAgg4
  z4 := Tryz.sizeOf4
  v4 := Tryz.zeroValue4
  t9 := Tryz.underlying9
  a9 := Tryz.isAgg9
  z9 := Tryz.sizeOf9
  v9 := Tryz.zeroValue9
  t24 := Tryz.underlying24
  a24 := Tryz.isAgg24
  z24 := Tryz.sizeOf24
  v24 := Tryz.zeroValue24
  t40 := Tryz.underlying120
  a40 := Tryz.isAgg120
  z40 := Tryz.sizeOf120
  v40 := Tryz.zeroValue120 }
theorem Tryz.slices_Search_string (b off n c : Nat) (Sx : Nat → ByteArray) (x : ByteArray) (w : World) (hbig : n < 4611686018427387904) (hc : ∀ j, j < n → w.cell? ⟨b, off + j, none⟩ = some (.string (Sx j))) :
    Calls Tryz.prog 68 #[.slice (some ⟨b, off, none⟩) n c, .string x] w fun e w' =>
      e = .returned (.tuple #[.int .i64 (Lib.bsGo (fun t => Op.bytesLess (Sx t).toList x.toList) n 0 n : Nat), .bool (decide (Lib.bsGo (fun t => Op.bytesLess (Sx t).toList x.toList) n 0 n < n ∧ Sx (Lib.bsGo (fun t => Op.bytesLess (Sx t).toList x.toList) n 0 n) = x))]) ∧ ∃ q, w' = w.drewN q := Any2.slices_BinarySearch_string Tryz.lays26 b off n c Sx x w hbig hc
def Tryz.lays29_ren : Go.Shelf.Ren := ⟨fun | 29 => 69 | n => n, fun | 0 => 0 | 3 => 3 | 4 => 4 | 5 => 5 | 22 => 102 | 25 => 120 | 54 => 122 | n => n, fun | 1 => 0 | n => n⟩
theorem Tryz.lays29 : Go.Proofs.Lays7.n29 Tryz.prog Tryz.lays29_ren := {
  mixed := by kernel_rfl
  f29 := Tryz.func69.trans (congrArg some (by kernel_rfl))
  t0 := Tryz.underlying0
  a0 := Tryz.isAgg0
  z0 := Tryz.sizeOf0
  v0 := Tryz.zeroValue0
  i0 := by kernel_rfl
  t3 := Tryz.underlying3
  a3 := Tryz.isAgg3
  z3 := Tryz.sizeOf3
  v3 := Tryz.zeroValue3
  i3 := by kernel_rfl
  t4 := Tryz.underlying4
  a4 := Tryz.isAgg4
  z4 := Tryz.sizeOf4
  v4 := Tryz.zeroValue4
  i4 := by kernel_rfl
  t5 := Tryz.underlying5
  a5 := Tryz.isAgg5
  z5 := Tryz.sizeOf5
  v5 := Tryz.zeroValue5
  i5 := by kernel_rfl
  t22 := Tryz.underlying102
  a22 := Tryz.isAgg102
  z22 := Tryz.sizeOf102
  v22 := Tryz.zeroValue102
  i22 := by kernel_rfl
  t25 := Tryz.underlying120
  a25 := Tryz.isAgg120
  z25 := Tryz.sizeOf120
  v25 := Tryz.zeroValue120
  i25 := by kernel_rfl
  t54 := Tryz.underlying122
  a54 := Tryz.isAgg122
  z54 := Tryz.sizeOf122
  g1 := by kernel_rfl }
theorem Tryz.bits_TrailingZeros64 (x : Nat) (hx : x < 18446744073709551616) (w : World) (hT : x ≠ 0 → TabAt 0 Lib.deBruijn64tab w) :
    Calls Tryz.prog 69 #[.int .u64 x] w fun e w' => e = .returned (.int .i64 (Lib.ctz 64 x)) ∧ w' = w := Any7.bits_TrailingZeros64 Tryz.lays29 x hx w hT
end Go.Proofs
set_option linter.unusedVariables false
namespace Go.Proofs.YtkkpiagchkdamaaGreatDoor
open Go.ChangeShapes Go.WideShapes Go.ChangeAt Go.RowKit
/-- The lowest bit, taken off. -/
theorem and_pred_odd (m j : Nat) : ((2 * m + 1) &&& (2 * m)).testBit j = ((2 * m + 1).testBit j && decide (j ≠ 0)) := by
  rw [Nat.testBit_and]
  cases j with
  | zero => simp
  | succ j =>
    rw [Nat.testBit_succ, Nat.testBit_succ]
    have h1 : (2 * m + 1) / 2 = m := by omega
    have h2 : (2 * m) / 2 = m := by omega
    rw [h1, h2]
    simp
theorem and_pred : ∀ (f x : Nat), x ≠ 0 → x < 2 ^ f → (x.testBit (Lib.ctzFrom f x) = true ∧ (∀ j, j < Lib.ctzFrom f x → x.testBit j = false) ∧ ∀ j, (x &&& (x - 1)).testBit j = (x.testBit j && decide (j ≠ Lib.ctzFrom f x)))
  | 0, x, h0, h => by simp at h; omega
  | f + 1, x, h0, h => by
    unfold Lib.ctzFrom
    split
    · rename_i h1
      obtain ⟨m, rfl⟩ : ∃ m, x = 2 * m + 1 := ⟨x / 2, by omega⟩
      refine ⟨by simp, fun j hj => by omega, fun j => ?_⟩
      have e : 2 * m + 1 - 1 = 2 * m := by omega
      rw [e]
      exact and_pred_odd m j
    · rename_i h1
      obtain ⟨y, rfl⟩ : ∃ y, x = 2 * y := ⟨x / 2, by omega⟩
      have hy : 2 * y / 2 = y := by omega
      rw [hy]
      obtain ⟨g1, g2, g3⟩ := and_pred f y (by omega) (by rw [Nat.pow_succ] at h; omega)
      refine ⟨?_, fun j hj => ?_, fun j => ?_⟩
      · rw [Nat.add_comm, Nat.testBit_succ, hy]
        exact g1
      · cases j with
        | zero => simp
        | succ j => rw [Nat.testBit_succ, hy]; exact g2 j (by omega)
      · cases j with
        | zero => rw [Nat.testBit_and]; simp
        | succ j =>
          have e2 : (2 * y - 1) / 2 = y - 1 := by omega
          have e3 := g3 j
          rw [Nat.testBit_and] at e3 ⊢
          rw [Nat.testBit_succ, Nat.testBit_succ, hy, e2, e3]
          congr 1
          simp only [decide_eq_decide]
          omega
theorem ctz_pos (x : Nat) (h0 : x ≠ 0) (h : x < 18446744073709551616) : Lib.ctz 64 x < 64 ∧ x.testBit (Lib.ctz 64 x) = true ∧ (∀ j, j < Lib.ctz 64 x → x.testBit j = false) ∧ ∀ j, (x &&& (x - 1)).testBit j = (x.testBit j && decide (j ≠ Lib.ctz 64 x)) := by
  unfold Lib.ctz
  rw [if_neg h0]
  obtain ⟨_, _, hk⟩ := Lib.ctzFrom_spec 64 x (by omega) (by simpa using h)
  exact ⟨hk, and_pred 64 x h0 (by simpa using h)⟩
/-- A row of words whose bits are f. -/
def MkRow (w : World) (g m : Nat) (f : Nat → Bool) : Prop := ∃ cur : Array Value, w.heap[g]? = some (.cells cur 102) ∧ cur.size = m ∧ ∀ i, i < m → ∃ x : Nat, x < 18446744073709551616 ∧ cur[i]? = some (.int .u64 x) ∧ ∀ j, j < 64 → x.testBit j = f (64 * i + j)
theorem MkRow.keep {w w' : World} {g m : Nat} {f : Nat → Bool} (h : MkRow w g m f) (hk : w'.heap[g]? = w.heap[g]?) : MkRow w' g m f := by
  obtain ⟨cur, h1, h2⟩ := h
  exact ⟨cur, hk.trans h1, h2⟩
theorem MkRow.lt {w : World} {g m : Nat} {f : Nat → Bool} (h : MkRow w g m f) : g < w.heap.size := by
  obtain ⟨cur, h1, _⟩ := h
  exact (Array.getElem?_eq_some_iff.1 h1).1
theorem MkRow.congr {w : World} {g m : Nat} {f f' : Nat → Bool} (h : MkRow w g m f) (he : ∀ n, n < 64 * m → f n = f' n) : MkRow w g m f' := by
  obtain ⟨cur, h1, h2, h3⟩ := h
  refine ⟨cur, h1, h2, fun i hi => ?_⟩
  obtain ⟨x, hx, hc, hb⟩ := h3 i hi
  exact ⟨x, hx, hc, fun j hj => (hb j hj).trans (he _ (by omega))⟩
/-- A word of them set. -/
theorem MkRow.put {w : World} {g m i y : Nat} {f f' : Nat → Bool} (h : MkRow w g m f) (hi : i < m) (hy : y < 18446744073709551616) (h1 : ∀ j, j < 64 → y.testBit j = f' (64 * i + j)) (h2 : ∀ n, n / 64 ≠ i → f n = f' n) : MkRow (w.setCell ⟨g, i, none⟩ (.int .u64 y)) g m f' := by
  obtain ⟨cur, hb, hs, hc⟩ := h
  refine ⟨_, heap_setCell_same _ _ _ _ _ _ hb, by simp; omega, fun k hk => ?_⟩
  by_cases he : i = k
  · subst he
    exact ⟨y, hy, by rw [Array.getElem?_setIfInBounds, if_pos rfl, if_pos (by omega)], h1⟩
  · obtain ⟨x, hx, hcx, hbx⟩ := hc k hk
    exact ⟨x, hx, by rw [Array.getElem?_setIfInBounds, if_neg he]; exact hcx, fun j hj => (hbx j hj).trans (h2 _ (by omega))⟩
theorem Tryz.inf102 : (Tryz.prog.info? 102).map (fun i => (i.zero, i.size, i.bytes)) = some (some (.int .u64 0), 1, 8) := by kernel_rfl
set_option maxRecDepth 100000 in
set_option maxHeartbeats 1000000 in
theorem newMarks_any (n : Nat) (w : World) (hn : n ≤ 4194304) :
    Calls Tryz.prog 38 #[.int .i64 n] w fun e w' => e = .returned (.slice (some ⟨w.heap.size, 0, none⟩) ((n + 63) / 64) ((n + 63) / 64)) ∧ MkRow w' w.heap.size ((n + 63) / 64) (fun _ => false) ∧ Below w.heap.size w w' := by
  obtain ⟨i0, hi, hz0, hz1, hz2⟩ := info_parts Tryz.inf102
  go_enter Tryz.func38, Tryz.ntmps38
  go_wp2_with (at_make; go_loud (refine wpList_make_full _ rfl _ _ 65 rfl w.heap.size 102 i0 _ 1 Tryz.underlying65 hi hz0 hz1 .i64 .i64 _ _ ((n + 63) / 64) rfl rfl ?c0 ?c0' ?c1 ?c2 ?c3 ?_))
  case c0 => simp; omega
  case c0' => simp; omega
  case c1 => rw [hz2]; omega
  case c2 => simp [maxLen]; omega
  case c3 => exact Nat.le_refl _
  intro w1 hown1 hgr1
  have hb1 : Below w.heap.size w w1 := (Below.refl _ _).grown hgr1 (Nat.le_refl _) (fun _ h => by cases h)
  obtain ⟨cur, hblk, hcs, hz⟩ := made_row hown1
  have HM : Hid (MkRow w1 w.heap.size ((n + 63) / 64) (fun _ => false)) := ⟨cur, hblk, hcs, fun i hi => ⟨0, by omega, hz i hi, fun j hj => by simp⟩⟩
  clear hown1 hgr1 hblk hcs hz
  go_wp2
  go_ret
  exact ⟨rfl, HM.out, hb1⟩
theorem shl_one (j : Nat) (h : j < 64) : IntKind.u64.wrap (2 ^ j) = ((2 ^ j : Nat) : Int) := by
  rw [IntKind.wrap_u64]
  have h1 : (2 : Nat) ^ j < 2 ^ 64 := Nat.pow_lt_pow_right (by omega) h
  have h2 : (2 : Int) ^ j = ((2 ^ j : Nat) : Int) := by rw [Int.natCast_pow]; rfl
  rw [h2]
  generalize 2 ^ j = y at *
  omega
theorem or_word (x n : Nat) (hx : x < 18446744073709551616) : ∃ y : Nat, y < 18446744073709551616 ∧ bits BinOp.or IntKind.u64 (x : Int) (IntKind.u64.wrap (2 ^ (n % 64))) = (y : Int) ∧ ∀ j, j < 64 → y.testBit j = (x.testBit j || decide (j = n % 64)) := by
  have h1 : (2 : Nat) ^ (n % 64) < 2 ^ 64 := Nat.pow_lt_pow_right (by omega) (by omega)
  rw [shl_one _ (by omega), bits_or_u64_nat x _ hx (by simpa using h1)]
  refine ⟨_, ?_, rfl, fun j hj => ?_⟩
  · exact Nat.or_lt_two_pow (n := 64) (by simpa using hx) h1
  · rw [Nat.testBit_or, Nat.testBit_two_pow]
    congr 1
    simp only [decide_eq_decide]
    omega
set_option maxRecDepth 100000 in
set_option maxHeartbeats 1000000 in
theorem set_any (g m n : Nat) (f : Nat → Bool) (w : World) (hm : m ≤ 4194304) (hn : n < 64 * m) (hr : MkRow w g m f) :
    Calls Tryz.prog 39 #[.slice (some ⟨g, 0, none⟩) m m, .int .i64 n] w fun e w' => e = .returned (.tuple #[]) ∧ MkRow w' g m (fun k => f k || decide (k = n)) ∧ w.grownBy w' (some g) := by
  have HR : Hid (MkRow w g m f) := hr
  obtain ⟨cur, hblk, hcs, hc⟩ := hr
  have hn64 : n / 64 < m := by omega
  obtain ⟨x, hx, hcx, hbx⟩ := hc (n / 64) hn64
  have c0 : w.cell? ⟨g, n / 64, none⟩ = some (.int .u64 x) := cell_blk hblk hcx
  have f0 := frozen_blk hblk (n / 64)
  obtain ⟨y, hy, hor, hby⟩ := or_word x n hx
  clear hc hblk hcx hcs
  go_enter Tryz.func39, Tryz.ntmps39
  go_wp2
  go_region
  go_wp2
  go_end0
  refine ⟨rfl, ?_, ?_⟩
  · exact (MkRow.put (f := f) (f' := fun k => f k || decide (k = n)) HR.out hn64 hy (fun j hj => by rw [hby j hj, hbx j hj, show decide (j = n % 64) = decide (64 * (n / 64) + j = n) from decide_eq_decide.2 (by omega)]) (fun k hk => by
      have : k ≠ n := by omega
      simp [this])).keep rfl
  · exact ⟨rfl, rfl, rfl, by simp, fun i hi hne => heap_setCell_other _ _ _ _ (by rintro rfl; exact hne rfl)⟩
theorem shr_word (x n : Nat) (hx : x < 18446744073709551616) : ((bits BinOp.and IntKind.u64 ((x : Int) / 2 ^ (n % 64)) 1) == 1) = x.testBit (n % 64) := by
  have h2 : (2 : Int) ^ (n % 64) = ((2 ^ (n % 64) : Nat) : Int) := by rw [Int.natCast_pow]; rfl
  have h3 : (x : Int) / 2 ^ (n % 64) = ((x / 2 ^ (n % 64) : Nat) : Int) := by rw [h2]; exact (Int.natCast_ediv _ _).symm
  have h4 : bits BinOp.and IntKind.u64 ((x : Int) / 2 ^ (n % 64)) 1 = ((x / 2 ^ (n % 64) &&& 1 : Nat) : Int) := by
    rw [h3]
    exact bits_and_u64_nat _ 1 (Nat.lt_of_le_of_lt (Nat.div_le_self _ _) hx) (by omega)
  rw [h4, Nat.and_one_is_mod]
  have h5 : x.testBit (n % 64) = decide (x / 2 ^ (n % 64) % 2 = 1) := Nat.testBit_eq_decide_div_mod_eq
  rw [h5]
  generalize x / 2 ^ (n % 64) = z
  have : z % 2 = 0 ∨ z % 2 = 1 := by omega
  rcases this with h | h <;> simp [h]
set_option maxRecDepth 100000 in
set_option maxHeartbeats 1000000 in
theorem has_any (g m n : Nat) (f : Nat → Bool) (w : World) (hm : m ≤ 4194304) (hn : n < 64 * m) (hr : MkRow w g m f) :
    Calls Tryz.prog 70 #[.slice (some ⟨g, 0, none⟩) m m, .int .i64 n] w fun e w' => e = .returned (.bool (f n)) ∧ w' = w := by
  obtain ⟨cur, hblk, hcs, hc⟩ := hr
  have hn64 : n / 64 < m := by omega
  obtain ⟨x, hx, hcx, hbx⟩ := hc (n / 64) hn64
  have c0 : w.cell? ⟨g, n / 64, none⟩ = some (.int .u64 x) := cell_blk hblk hcx
  have hfn := hbx (n % 64) (by omega)
  have hnn : 64 * (n / 64) + n % 64 = n := by omega
  rw [hnn] at hfn
  have hw := (shr_word x n hx).trans hfn
  clear hc hblk hcx hcs hbx hfn
  go_enter Tryz.func70, Tryz.ntmps70
  go_wp2
  go_ret
  exact ⟨rfl, rfl⟩
/-- All of them marked? -/
def allM (f : Nat → Bool) (l : List Nat) : Bool := l.all f
theorem allM_take {f : Nat → Bool} {l : List Nat} {k x : Nat} (h : l[k]? = some x) : allM f (l.take (k + 1)) = (allM f (l.take k) && f x) := by
  rw [List.take_add_one, h]
  simp [allM]
set_option maxRecDepth 100000 in
set_option maxHeartbeats 1000000 in
theorem hasAll_any (g m : Nat) (f : Nat → Bool) (a : Option Addr) (l : List Nat) (cap : Nat) (w : World) (hm : m ≤ 4194304) (hl : l.length ≤ 4194304) (hn : ∀ n ∈ l, n < 64 * m) (hr : MkRow w g m f) (hi : RowI w w.heap.size a (l.map Int.ofNat)) :
    Calls Tryz.prog 42 #[.slice (some ⟨g, 0, none⟩) m m, .slice a l.length cap] w fun e w' => e = .returned (.bool (allM f l)) ∧ w' = w := by
  have HR : Hid (MkRow w g m f) := hr
  have HI : Hid (RowI w w.heap.size a (l.map Int.ofNat)) := hi
  clear hr hi
  go_enter Tryz.func42, Tryz.ntmps42
  go_wp2
  go_loopw [9] (fun o wr => ∃ i : Nat, i ≤ l.length ∧ o = .int .i64 i ∧ allM f (l.take i) = true ∧ wr = w) (fun o _ => l.length - (intOf o).toNat)
  case atStart => exact ⟨0, by omega, rfl, rfl, rfl⟩
  case round =>
    obtain ⟨i, hil, rfl, ht, rfl⟩ := hrel
    by_cases hlt : i < l.length
    · obtain ⟨x, hx⟩ : ∃ x, l[i]? = some x := ⟨_, List.getElem?_eq_getElem hlt⟩
      obtain ⟨b, o, rfl, hbb, hcell⟩ := HI.out i (Int.ofNat x) (by rw [List.getElem?_map, hx]; rfl)
      have c0 : wr.cell? ⟨b, o + i, none⟩ = some (.int .i64 (x : Int)) := hcell
      have hxm := hn x (List.mem_of_getElem? hx)
      have HT := allM_take (f := f) hx
      rw [ht, Bool.true_and] at HT
      clear hcell hx
      cases hfx : f x
      · go_wp2_with (go_at_call 70; refine (has_any g m x f _ hm hxm HR.out).mono ?_; rintro e w2 ⟨rfl, rfl⟩; rw [hfx])
        go_ret
        refine ⟨?_, rfl⟩
        have : allM f l = false := by
          apply Bool.eq_false_iff.2
          intro h
          have h2 : allM f (l.take (i + 1)) = true := List.all_eq_true.2 fun y hy => List.all_eq_true.1 h y (List.mem_of_mem_take hy)
          rw [HT, hfx] at h2
          cases h2
        rw [this]
        rfl
      · go_wp2_with (go_at_call 70; refine (has_any g m x f _ hm hxm HR.out).mono ?_; rintro e w2 ⟨rfl, rfl⟩; rw [hfx])
        go_roundw
        case rel => exact ⟨i + 1, by omega, by go_num, by rw [HT]; exact hfx, trivial⟩
        case measure => simp [intOf]; omega
    · obtain rfl : i = l.length := by omega
      rw [List.take_length] at ht
      have hlt' : decide ((l.length : Int) < (l.length : Int)) = false := by simp
      go_wp2
      go_ret
      exact ⟨by rw [ht]; rfl, rfl⟩
theorem tab_keep {t : List Nat} {w w' : World} (h : TabAt 0 t w) (hk : w'.heap[0]? = w.heap[0]?) : TabAt 0 t w' := fun j hj => by
  rw [← h j hj]
  unfold World.cell?
  rw [hk]
def FirstP (w : World) (g m : Nat) (f : Nat → Bool) (e : Ending) (w' : World) : Prop :=
  w.grownBy w' (some g) ∧ ((e = .returned (.int .i64 (-1)) ∧ (∀ n, n < 64 * m → f n = false) ∧ MkRow w' g m f) ∨ ∃ n : Nat, e = .returned (.int .i64 n) ∧ n < 64 * m ∧ f n = true ∧ (∀ k, k < n → f k = false) ∧ MkRow w' g m (fun k => f k && decide (k ≠ n)))
set_option maxRecDepth 100000 in
set_option maxHeartbeats 1000000 in
theorem takeFirst_any (g m : Nat) (f : Nat → Bool) (w : World) (hm : m ≤ 4194304) (hr : MkRow w g m f) (hT : TabAt 0 Lib.deBruijn64tab w) (hg : 0 < g) :
    Calls Tryz.prog 41 #[.slice (some ⟨g, 0, none⟩) m m] w fun e w' => FirstP w g m f e w' := by
  have HR : Hid (MkRow w g m f) := hr
  have HT : Hid (TabAt 0 Lib.deBruijn64tab w) := hT
  clear hr hT
  go_enter Tryz.func41, Tryz.ntmps41
  go_wp2
  go_loopw [7] (fun o wr => ∃ i : Nat, i ≤ m ∧ o = .int .i64 i ∧ (∀ n, n < 64 * i → f n = false) ∧ wr = w) (fun o _ => m - (intOf o).toNat)
  case atStart => exact ⟨0, by omega, rfl, fun n hn => by omega, rfl⟩
  case round =>
    obtain ⟨i, hil, rfl, hno, rfl⟩ := hrel
    have HNO : Hid (∀ n, n < 64 * i → f n = false) := hno
    clear hno
    by_cases hlt : i < m
    · obtain ⟨cur, hblk, hcs, hc⟩ := HR.out
      obtain ⟨x, hx, hcx, hbx⟩ := hc i hlt
      have c0 : wr.cell? ⟨g, i, none⟩ = some (.int .u64 x) := cell_blk hblk hcx
      have f0 := frozen_blk hblk i
      clear hc hblk hcx hcs
      have HB : Hid (∀ j, j < 64 → x.testBit j = f (64 * i + j)) := hbx
      clear hbx
      by_cases h0 : x = 0
      · subst h0
        go_wp2
        go_roundw
        case rel =>
          refine ⟨i + 1, by omega, by go_num, fun n hn => ?_, trivial⟩
          by_cases hn' : n < 64 * i
          · exact HNO.out n hn'
          · have := HB.out (n - 64 * i) (by omega)
            have e : 64 * i + (n - 64 * i) = n := by omega
            rw [e] at this
            rw [← this]
            simp
        case measure => simp [intOf]; omega
      · obtain ⟨hk, hk1, hk2, hk3⟩ := ctz_pos x h0 hx
        have hx1 : bits BinOp.and IntKind.u64 (x : Int) ((x : Int) - 1) = ((x &&& (x - 1) : Nat) : Int) := by
          have e1 : ((x : Int) - 1) = ((x - 1 : Nat) : Int) := by omega
          rw [e1]
          exact bits_and_u64_nat x _ hx (by omega)
        have hne : ((x : Int) != 0) = true := by simp [h0]
        have HK : Hid (x &&& (x - 1) < 18446744073709551616 ∧ ∀ j, j < 64 → (x &&& (x - 1)).testBit j = (f (64 * i + j) && decide (64 * i + j ≠ 64 * i + Lib.ctz 64 x))) := by
          refine ⟨Nat.lt_of_le_of_lt Nat.and_le_left hx, fun j hj => ?_⟩
          rw [hk3 j, HB.out j hj]
          congr 1
          simp only [decide_eq_decide]
          omega
        have HN : Hid (64 * i + Lib.ctz 64 x < 64 * m ∧ f (64 * i + Lib.ctz 64 x) = true ∧ ∀ k, k < 64 * i + Lib.ctz 64 x → f k = false) := by
          refine ⟨by omega, by rw [← HB.out _ hk]; exact hk1, fun k hkl => ?_⟩
          by_cases hn' : k < 64 * i
          · exact HNO.out k hn'
          · have := HB.out (k - 64 * i) (by omega)
            have e : 64 * i + (k - 64 * i) = k := by omega
            rw [e] at this
            rw [← this]
            exact hk2 _ (by omega)
        clear hk1 hk2 hk3
        generalize hyy : x &&& (x - 1) = y at *
        generalize hcc : Lib.ctz 64 x = c at *
        have HTS : Hid (TabAt 0 Lib.deBruijn64tab (wr.setCell ⟨g, i, none⟩ (.int .u64 y))) := tab_keep HT.out (heap_setCell_other _ _ _ _ (by show (0 : Nat) ≠ g; omega))
        go_wp2_with (go_at_call 69; refine (Tryz.bits_TrailingZeros64 x hx _ (fun _ => HTS.out)).mono ?_; rintro e w2 ⟨rfl, rfl⟩; rw [hcc])
        go_ret
        refine ⟨gb_set _ _ _ _, .inr ⟨64 * i + c, ?_, HN.out.1, HN.out.2.1, HN.out.2.2, ?_⟩⟩
        · show Ending.returned (Value.int IntKind.i64 ((i : Int) * 64 + (c : Int))) = _
          congr 2
          push_cast
          omega
        · exact MkRow.put (f := f) HR.out hlt HK.out.1 HK.out.2 (fun k hk => by
            have : k ≠ 64 * i + c := by omega
            simp [this])
    · obtain rfl : i = m := by omega
      have hlt' : decide ((i : Int) < (i : Int)) = false := by simp
      go_wp2
      go_ret
      exact ⟨gb_refl _ _, .inl ⟨rfl, HNO.out, HR.out⟩⟩
end Go.Proofs.YtkkpiagchkdamaaGreatDoor
