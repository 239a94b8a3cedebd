/- The contract of the model's Hex: two digits a byte, the higher one first. -/
import Derived.Test.YtdbfifgblcmckajRfa
import Derived.Test.YtdbfifgblcmckajOwn
import Derived.Test.YtdbfifgblcmckajBits
import Derived.Deep.RegionHeld3
import Derived.Deep.AppendLies
namespace Go.Proofs.Ytdbfifgblcmckaj
open Go.ChangeShapes Go.WideShapes Go.ChangeAt Go.RowKit
/-- The digit of a number below sixteen. -/
def hexD (k : Nat) : UInt8 := [48, 49, 50, 51, 52, 53, 54, 55, 56, 57, 97, 98, 99, 100, 101, 102].getD k 0
theorem digit_any (k : Nat) (w : World) (h : k < 16) :
    Calls Try.prog 19 #[.int .i64 k] w fun e w' => e = .returned (.int .u8 ((hexD k).toNat : Int)) ∧ w' = w := by
  rcases (by omega : k = 0 ∨ k = 1 ∨ k = 2 ∨ k = 3 ∨ k = 4 ∨ k = 5 ∨ k = 6 ∨ k = 7 ∨ k = 8 ∨ k = 9 ∨ k = 10 ∨ k = 11 ∨ k = 12 ∨ k = 13 ∨ k = 14 ∨ k = 15) with rfl | rfl | rfl | rfl | rfl | rfl | rfl | rfl | rfl | rfl | rfl | rfl | rfl | rfl | rfl | rfl
  all_goals
    go_enter Try.func19, Try.ntmps19
    go_wp2
    go_ret
    exact ⟨rfl, rfl⟩
theorem digit_int (x : Int) (w : World) (h0 : 0 ≤ x) (h : x < 16) :
    Calls Try.prog 19 #[.int .i64 x] w fun e w' => e = .returned (.int .u8 ((hexD x.toNat).toNat : Int)) ∧ w' = w := by
  obtain ⟨k, rfl⟩ := Int.eq_ofNat_of_zero_le h0
  exact digit_any k w (by omega)
/-- The digits of a text. -/
def hexL : List UInt8 → List UInt8
  | [] => []
  | b :: l => hexD (b.toNat / 16) :: hexD (b.toNat % 16) :: hexL l
theorem hexL_length : ∀ l, (hexL l).length = 2 * l.length
  | [] => rfl
  | b :: l => by simp [hexL, hexL_length l]; omega
theorem hexL_snoc : ∀ (l : List UInt8) (b : UInt8), hexL (l ++ [b]) = hexL l ++ [hexD (b.toNat / 16), hexD (b.toNat % 16)]
  | [], b => rfl
  | c :: l, b => by simp [hexL, hexL_snoc l b]
theorem take_snoc (s : ByteArray) (k : Nat) (h : k < s.size) : s.data.toList.take (k + 1) = s.data.toList.take k ++ [s[k]] := by
  rw [List.take_succ_eq_append_getElem (by simpa using h)]; rfl
theorem div16 (b : UInt8) : IntKind.i64.wrap ((IntKind.i64.wrap (b.toNat : Int)).tdiv 16) = ((b.toNat / 16 : Nat) : Int) := by
  have h := b.toNat_lt
  rw [i64_small b.toNat (by omega), Int.tdiv_eq_ediv_of_nonneg (by omega)]
  exact i64_small (b.toNat / 16) (by omega)
theorem mod16 (b : UInt8) : (IntKind.i64.wrap (b.toNat : Int)).tmod 16 = ((b.toNat % 16 : Nat) : Int) := by
  have h := b.toNat_lt
  rw [i64_small b.toNat (by omega), Int.tmod_eq_emod_of_nonneg (by omega)]
  omega
theorem two_new (w : World) (x y x' y' : Int) (hx : x' = x) (hy : y' = y) : ∀ (j : Nat) (u : Value), [Value.int .u8 x, Value.int .u8 y][j]? = some u → (w.alloc (.cells #[.int .u8 x', .int .u8 y'] 5)).drew.cell? ((⟨w.heap.size, 0, none⟩ : Addr).add j) = some u := by
  intro j u hj
  subst hx hy
  match j, hj with
  | 0, hj => simp at hj; subst hj; show (w.alloc _).cell? _ = _; simp [Addr.add]
  | 1, hj => simp at hj; subst hj; show (w.alloc _).cell? _ = _; simp [Addr.add]
theorem two_cells (x y : Int) : ∀ u ∈ [Value.int .u8 x, Value.int .u8 y], u.oneCell' = true := by
  intro u hu; simp at hu; rcases hu with rfl | rfl <;> rfl
theorem below_app_drew {B : Nat} {w wr w1 : World} {v : Value} {n : Nat} {xs : List Value} {o : Obj} (hB : B ≤ wr.heap.size) (hown : wr.ownsRow B 5 1 v n xs) (hnx : Below B w wr) (hg : (wr.alloc o).drew.grownBy w1 v.ownBlock) : Below B w w1 :=
  (hnx.alloc hB o).drew.grown hg (by simp [World.drew]; omega) fun k hk => (hown.lt k hk).1
set_option maxRecDepth 100000 in
set_option maxHeartbeats 1000000 in
theorem specHex_any (s : ByteArray) (w : World) (hs : s.size ≤ 1048576) :
    Calls Try.prog 16 #[.string s] w fun e w' => e = .returned (.string ⟨(hexL s.data.toList).toArray⟩) ∧ Below w.heap.size w w' := by
  obtain ⟨i0, hi, hz0, hz1, hz2⟩ := info_parts Try.info5
  go_enter Try.func16, Try.ntmps16
  go_wp2
  go_loopw [3, 4] (fun v i wr => ∃ k : Nat, k ≤ s.size ∧ i = .int .i64 k ∧ wr.ownsRow w.heap.size 5 1 v (hexL (s.data.toList.take k)).length (bcs (hexL (s.data.toList.take k))) ∧ Below w.heap.size w wr)
    (fun _ i _ => s.size - (intOf i).toNat)
  case atStart => exact ⟨0, Nat.zero_le _, rfl, World.ownsRow_lit _ _ _ (Nat.le_refl _) (by decide) rfl, (Below.refl _ _).alloc (Nat.le_refl _) _⟩
  case round =>
    obtain ⟨k, hk, rfl, hown, hnx⟩ := hrel
    have hsz := hnx.size
    have hlen : (hexL (s.data.toList.take k)).length = 2 * k := by
      rw [hexL_length, List.length_take]
      have : s.data.toList.length = s.size := by simp
      omega
    by_cases hlt : k < s.size
    · have HS : Hid (hexL (s.data.toList.take (k + 1)) = hexL (s.data.toList.take k) ++ [hexD (s[k].toNat / 16), hexD (s[k].toNat % 16)]) := by
        show _ = _; rw [take_snoc s k hlt, hexL_snoc]
      rw [hlen] at hown
      clear hlen
      generalize hexL (s.data.toList.take k) = l at *
      have hb : (s[k].toNat : Int) < 256 := by have := s[k].toNat_lt; omega
      have hk0 : (0 : Int) ≤ (k : Int) := Int.natCast_nonneg _
      have hk1 : (k : Int) < (s.size : Int) := by omega
      go_wp2_with fail
      go_region_held3 (fun _ => True) (trivial)
        (first
          | (go_at_call 19; refine (digit_int _ _ ?_ ?_).mono ?_; (first | (rw [div16]; omega) | (rw [mod16]; omega)); (first | (rw [div16]; omega) | (rw [mod16]; omega)); rintro e w' ⟨rfl, rfl⟩)
          | (refine step_append_lies _ ?_ (.tmp 12) (.tmp 25) 34 ?_ w.heap.size 5 i0 _ 1 1 Try.underlying34 hi hz0 hz1 hz2 rfl Nat.one_pos u3 (2 * k) (bcs l) ?_ ((hown.alloc _).drew) ⟨wr.heap.size, 0, none⟩ 2 2 [.int .u8 ((hexD (s[k].toNat / 16)).toNat : Int), .int .u8 ((hexD (s[k].toNat % 16)).toNat : Int)] ?_ ?_ ?_ ?_ Nat.two_pos ?_ ?_ ?_ (wr.heap.size + 1) ?_ ?_; exact rfl; exact rfl; exact rfl; exact rfl; exact rfl; exact two_new wr _ _ _ _ (by rw [div16, Int.toNat_natCast]) (by rw [mod16, Int.toNat_natCast]); exact two_cells _ _; (unfold maxLen; omega); omega; (simp [World.drew]; omega); (simp [World.drew]); intro gg cap w1 hown1 hgrow hat hlt1))
      all_goals
        have hb1 := below_app_drew hsz hown hnx hgrow
        have HO : Hid (w1.ownsRow w.heap.size 5 1 (.slice (some ⟨gg, 0, none⟩) (2 * k + 2) cap) (hexL (s.data.toList.take (k + 1))).length (bcs (hexL (s.data.toList.take (k + 1))))) := by
          have e : (hexL (s.data.toList.take (k + 1))).length = 2 * k + 2 := by
            rw [hexL_length, List.length_take]
            have : s.data.toList.length = s.size := by simp
            omega
          show World.ownsRow _ _ _ _ _ _ _
          rw [e, HS.out]
          simpa [bcs] using hown1
        clear hown hown1 hgrow hat hlt1
        go_wp2
        go_roundw
        case rel => exact ⟨k + 1, by omega, by go_num, HO.out, hb1⟩
        case measure => simp [intOf]; omega
    · obtain rfl : k = s.size := by omega
      have e : s.data.toList.take s.size = s.data.toList := List.take_of_length_le (by simp)
      rw [e] at hown
      have hcv := conv_own hown
      clear hown e hlen
      go_wp2
      go_ret
      exact ⟨rfl, hnx⟩
end Go.Proofs.Ytdbfifgblcmckaj
