/- A text spoilt at one place. -/
import Derived.Test.YtdbfifgblcmckacDoorCurd
import Derived.Test.YtdbfifgblcmckacDoorFixa
import Derived.Deep.RegionHeld3
import Derived.Deep.RegionWith
namespace Go.Proofs.YtdbfifgblcmckacDoor
open Go.ChangeShapes Go.WideShapes Go.ChangeAt Go.RowKit
theorem conv_one_drew (w : World) (c : UInt8) : (convert 22 9 (.slice (some ⟨w.heap.size, 0, none⟩) 1 1)).run Tryd.prog (w.alloc (.cells #[.int .u8 (c.toNat : Int)] 5)).drew = .ok (.string ⟨#[c]⟩) (w.alloc (.cells #[.int .u8 (c.toNat : Int)] 5)).drew := by
  refine run_convert_bytes_back _ 22 9 5 ⟨w.heap.size, 0, none⟩ 1 [c] Tryd.underlying22 Tryd.underlying5 Tryd.underlying9 fun j hj => ?_
  match j, hj with
  | 0, _ => show (w.alloc _).cell? _ = _; simp [Addr.add]
/-- One byte as a text. -/
def oneB (x : Int) : ByteArray := ⟨#[UInt8.ofNat x.toNat]⟩
/-- A byte turned by a number. -/
def xorB (b : UInt8) (y : Int) : Int := IntKind.u8.wrap (bits .xor .i64 (IntKind.i64.wrap (b.toNat : Int)) (IntKind.i64.wrap (1 + y)))
theorem u8_bd (x : Int) : 0 ≤ IntKind.u8.wrap x ∧ IntKind.u8.wrap x ≤ 255 := by
  simp [IntKind.wrap, IntKind.bits, IntKind.signed]
  omega
theorem xorB_bd (b : UInt8) (y : Int) : 0 ≤ xorB b y ∧ xorB b y ≤ 255 := u8_bd _
theorem grownBy_of_drew {a b : World} {r : Option Nat} (h : a.drew.grownBy b r) : a.grownBy b r := ⟨h.os, h.tape, h.output, h.size, h.block⟩
def spX (d : Code1) (t : ByteArray) (s : St) : ByteArray :=
  let k := (belX d t.size s).toNat
  let s1 := belS d t.size s
  let s2 := belS d 4 s1
  if belX d 4 s1 = 0 then t.extract 0 k ++ t.extract (k + 1) t.size
  else if belX d 4 s1 = 1 then t.extract 0 k ++ oneB (bX d s2) ++ t.extract k t.size
  else if belX d 4 s1 = 2 then t.extract 0 k
  else t.extract 0 k ++ oneB (xorB (t.data.toList.getD k 0) (belX d 255 s2)) ++ t.extract (k + 1) t.size
def spS (d : Code1) (t : ByteArray) (s : St) : St :=
  let s1 := belS d t.size s
  let s2 := belS d 4 s1
  if belX d 4 s1 = 0 then s2 else if belX d 4 s1 = 1 then bS d s2 else if belX d 4 s1 = 2 then s2 else belS d 255 s2
set_option maxRecDepth 100000 in
set_option maxHeartbeats 1000000 in
theorem spoil_st (c : Nat) (d : Code1) (t : ByteArray) (s : St) (ht0 : 0 < t.size) (ht : t.size ≤ 100) : DrC 24 #[.pointer (some ⟨c, 0, none⟩), .string t] c d s (.string (spX d t s)) (spS d t s) := by
  intro w hc
  have K1 := below_st c d t.size s (by omega) (by omega)
  obtain ⟨x1, x2⟩ := belX_bd d t.size s (by omega)
  have K2 := below_st c d 4 (belS d t.size s) (by omega) (by omega)
  obtain ⟨k, hk⟩ := Int.eq_ofNat_of_zero_le x1
  have HK : Hid ((belX d t.size s).toNat = k) := by show _ = _; rw [hk, Int.toNat_natCast]
  rw [hk] at K1 x2
  have hk0 : (0 : Int) ≤ (k : Int) := Int.natCast_nonneg _
  have hks : k < t.size := by omega
  have HC : Hid (CurS w c d s) := hc
  have hz : ((t.size : Int) == 0) = false := by rw [beq_eq_false_iff_ne]; omega
  clear hc x1 hk
  by_cases h0 : belX d 4 (belS d t.size s) = 0
  · have HX : Hid (spX d t s = t.extract 0 k ++ t.extract (k + 1) t.size) := by show _ = _; unfold spX; simp only; rw [if_pos h0, HK.out]
    have HS : Hid (spS d t s = belS d 4 (belS d t.size s)) := if_pos h0
    rw [h0] at K2
    have hk1 : (k : Int) ≤ (t.size : Int) := by omega
    have hk2 : (k : Int) + 1 ≤ (t.size : Int) := by omega
    clear h0
    go_enter Tryd.func24, Tryd.ntmps24
    go_wp2_with fail
    refine (K1 _ HC.out).mono ?_
    rintro e w1 ⟨rfl, hc1, hg1⟩
    go_wp2_with fail
    refine (K2 _ hc1).mono ?_
    rintro e w2 ⟨rfl, hc2, hg2⟩
    go_wp2
    go_quiet (fail)
    go_wp2
    go_ret
    exact ⟨by rw [HX.out]; rfl, by rw [HS.out]; exact cur_drewN hc2 _, grownBy_drewN (grownBy_trans hg1 hg2) _⟩
  · by_cases h1 : belX d 4 (belS d t.size s) = 1
    · have HX : Hid (spX d t s = t.extract 0 k ++ oneB (bX d (belS d 4 (belS d t.size s))) ++ t.extract k t.size) := by show _ = _; unfold spX; simp only; rw [if_neg h0, if_pos h1, HK.out]
      have HS : Hid (spS d t s = bS d (belS d 4 (belS d t.size s))) := by show _ = _; unfold spS; simp only; rw [if_neg h0, if_pos h1]
      rw [h1] at K2
      have K3 := byte_st c d (belS d 4 (belS d t.size s))
      obtain ⟨z1, z2⟩ := bX_bd d (belS d 4 (belS d t.size s))
      have hk1 : (k : Int) ≤ (t.size : Int) := by omega
      clear h0 h1
      generalize bX d (belS d 4 (belS d t.size s)) = x at *
      have HO : Hid (oneB x = ⟨#[UInt8.ofNat x.toNat]⟩) := rfl
      obtain ⟨cc, hcc⟩ : ∃ cc, cc = UInt8.ofNat x.toNat := ⟨_, rfl⟩
      have hwx : IntKind.u8.wrap x = (cc.toNat : Int) := by
        have e1 : (UInt8.ofNat x.toNat).toNat = x.toNat := by simp; omega
        rw [hcc, e1]
        simp [IntKind.wrap, IntKind.bits, IntKind.signed]
        omega
      rw [← hcc] at HO
      clear hcc
      have hcv := fun W => conv_one W cc
      go_enter Tryd.func24, Tryd.ntmps24
      go_wp2_with fail
      refine (K1 _ HC.out).mono ?_
      rintro e w1 ⟨rfl, hc1, hg1⟩
      go_wp2_with fail
      refine (K2 _ hc1).mono ?_
      rintro e w2 ⟨rfl, hc2, hg2⟩
      go_wp2
      go_region_with (go_at_call 27; refine (K3 _ ?_).mono ?_; exact hc2; rintro e w3 ⟨rfl, hc3, hg3⟩)
      all_goals
        go_wp2
        go_ret
        exact ⟨by rw [HX.out, HO.out]; rfl, by rw [HS.out]; exact cur_alloc hc3 _, grownBy_trans (grownBy_trans hg1 hg2) (grownBy_trans (grownBy_of_drew hg3) (World.grownBy_alloc _ _ _))⟩
    · by_cases h2 : belX d 4 (belS d t.size s) = 2
      · have HX : Hid (spX d t s = t.extract 0 k) := by show _ = _; unfold spX; simp only; rw [if_neg h0, if_neg h1, if_pos h2, HK.out]
        have HS : Hid (spS d t s = belS d 4 (belS d t.size s)) := by show _ = _; unfold spS; simp only; rw [if_neg h0, if_neg h1, if_pos h2]
        rw [h2] at K2
        have hk1 : (k : Int) ≤ (t.size : Int) := by omega
        clear h0 h1 h2
        go_enter Tryd.func24, Tryd.ntmps24
        go_wp2_with fail
        refine (K1 _ HC.out).mono ?_
        rintro e w1 ⟨rfl, hc1, hg1⟩
        go_wp2_with fail
        refine (K2 _ hc1).mono ?_
        rintro e w2 ⟨rfl, hc2, hg2⟩
        go_wp2
        go_ret
        exact ⟨by rw [HX.out]; rfl, by rw [HS.out]; exact hc2, grownBy_trans hg1 hg2⟩
      · have HX : Hid (spX d t s = t.extract 0 k ++ oneB (xorB (t.data.toList.getD k 0) (belX d 255 (belS d 4 (belS d t.size s)))) ++ t.extract (k + 1) t.size) := by show _ = _; unfold spX; simp only; rw [if_neg h0, if_neg h1, if_neg h2, HK.out]
        have HS : Hid (spS d t s = belS d 255 (belS d 4 (belS d t.size s))) := by show _ = _; unfold spS; simp only; rw [if_neg h0, if_neg h1, if_neg h2]
        have K3 := below_st c d 255 (belS d 4 (belS d t.size s)) (by omega) (by omega)
        have e0 : (belX d 4 (belS d t.size s) == 0) = false := by rw [beq_eq_false_iff_ne]; exact h0
        have e1 : (belX d 4 (belS d t.size s) == 1) = false := by rw [beq_eq_false_iff_ne]; exact h1
        have e2 : (belX d 4 (belS d t.size s) == 2) = false := by rw [beq_eq_false_iff_ne]; exact h2
        obtain ⟨z1, z2⟩ := belX_bd d 255 (belS d 4 (belS d t.size s)) (by omega)
        have hk1 : (k : Int) ≤ (t.size : Int) := by omega
        have hk2 : (k : Int) + 1 ≤ (t.size : Int) := by omega
        clear h0 h1 h2
        have hbk : t.data.toList.getD k 0 = t[k] := by
          rw [List.getD_eq_getElem?_getD, List.getElem?_eq_getElem (by simpa using hks)]; rfl
        rw [hbk] at HX
        clear hbk
        generalize belX d 4 (belS d t.size s) = a4 at *
        generalize belX d 255 (belS d 4 (belS d t.size s)) = y at *
        obtain ⟨cc, hcc⟩ : ∃ cc, cc = UInt8.ofNat (xorB t[k] y).toNat := ⟨_, rfl⟩
        have HO : Hid (oneB (xorB t[k] y) = ⟨#[cc]⟩) := by show _ = _; rw [hcc]; rfl
        have hwx : IntKind.u8.wrap (bits .xor .i64 (IntKind.i64.wrap (t[k].toNat : Int)) (IntKind.i64.wrap (1 + y))) = (cc.toNat : Int) := by
          have hx := xorB_bd t[k] y
          have e1 : (UInt8.ofNat (xorB t[k] y).toNat).toNat = (xorB t[k] y).toNat := by simp; omega
          rw [hcc, e1]
          show xorB t[k] y = _
          omega
        clear hcc
        have hw1 : IntKind.i64.wrap ((k : Int) + 1) = (k : Int) + 1 := by
          have := i64_small (k + 1) (by omega)
          rw [show ((k + 1 : Nat) : Int) = (k : Int) + 1 by omega] at this
          exact this
        have hk3 : (0 : Int) ≤ (k : Int) + 1 := by omega
        have hcv := fun W => conv_one W cc
        go_enter Tryd.func24, Tryd.ntmps24
        go_wp2_with fail
        refine (K1 _ HC.out).mono ?_
        rintro e w1 ⟨rfl, hc1, hg1⟩
        go_wp2_with fail
        refine (K2 _ hc1).mono ?_
        rintro e w2 ⟨rfl, hc2, hg2⟩
        go_wp2
        go_region_with (go_at_call 25; refine (K3 _ ?_).mono ?_; exact hc2; rintro e w3 ⟨rfl, hc3, hg3⟩)
        all_goals
          go_wp2
          go_ret
          exact ⟨by rw [HX.out, HO.out]; rfl, by rw [HS.out]; exact cur_alloc hc3 _, grownBy_trans (grownBy_trans hg1 hg2) (grownBy_trans (grownBy_of_drew hg3) (World.grownBy_alloc _ _ _))⟩
end Go.Proofs.YtdbfifgblcmckacDoor
