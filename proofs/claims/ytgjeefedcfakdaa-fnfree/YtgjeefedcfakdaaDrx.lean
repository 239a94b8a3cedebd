/- The cursor of the draws: what one byte of it is, and how it goes on. Numbers below a bound, out of the cursor. The cursor of the draws, where it does not matter which byte it tells. The cursor of the draws: small steps. A text of a form, drawn. -/
import Derived.Test.YtgjeefedcfakdaaRows
import Derived.WalkKit
import Derived.ProofKit
import Derived.Below
import Derived.Outline
import Derived.WalkSpells
import Derived.WalkLawsBesides
import Derived.OpenShut
import Derived.Deep.QuietTactic
import Derived.BigQuiet
import Derived.Laws.BitsAllLaws
import Derived.Laws.IdiomStrings
import Derived.Test.YtgjeefedcfakdaaKmp
namespace Go.Proofs.Ytgjeefedcfakdaa.Cu
open Go.ChangeShapes Go.WideShapes Go.ChangeAt Go.RowKit
structure Code1 where
 a : Option Addr
 len : Nat
 cap : Nat
 z : Nat → Int
def CodeAt (w : World) (B : Nat) (d : Code1) : Prop :=
 d.len ≤ 1048576 ∧ (∀ j, j < d.len → 0 ≤ d.z j ∧ d.z j < 256) ∧ (∀ j, j < d.len → ∃ b o, d.a = some ⟨b, o, none⟩ ∧ b < B ∧ w.cell? ⟨b, o + j, none⟩ = some (.int .u8 (d.z j)))
def CurAt (w : World) (c : Nat) (d : Code1) (i : Nat) (h : Int) : Prop :=
 w.cell? ⟨c, 0, none⟩ = some (.slice d.a d.len d.cap) ∧ w.cell? ⟨c, 1, none⟩ = some (.int .i64 i) ∧ w.cell? ⟨c, 2, none⟩ = some (.int .i64 h) ∧ w.frozen? ⟨c, 1, none⟩ = false ∧ w.frozen? ⟨c, 2, none⟩ = false ∧ i ≤ d.len ∧ CodeAt w c d
theorem and255 (x : Int) : 0 ≤ bits .and .i64 x 255 ∧ bits .and .i64 x 255 ≤ 255 := by
 have e : bits .and .i64 x 255 = IntKind.i64.wrap ((BitVec.ofInt 64 x &&& BitVec.ofInt 64 255).toNat : Int) := rfl
 have h1 : (BitVec.ofInt 64 x &&& BitVec.ofInt 64 255).toNat ≤ 255 := by
  rw [BitVec.toNat_and]
  exact Nat.and_le_right
 rw [e]
 generalize (BitVec.ofInt 64 x &&& BitVec.ofInt 64 255).toNat = y at *
 simp [IntKind.wrap, IntKind.bits, IntKind.signed]
 omega
def nextH (h : Int) : Int := wrap64 (wrap64 (h * 6364136223846793005) + 1442695040888963407)
def ownX (h : Int) : Int := bits .and .i64 (bits .xor .i64 (h / 8589934592) (h / 35184372088832)) 255
theorem ownX_bd (h : Int) : 0 ≤ ownX h ∧ ownX h ≤ 255 := and255 _
def byX (d : Code1) (i : Nat) (h : Int) : Int := if i < d.len then bits .and .i64 (ownX (nextH h) + d.z i) 255 else ownX (nextH h)
def byI (d : Code1) (i : Nat) : Nat := if i < d.len then i + 1 else i
theorem byX_bd (d : Code1) (i : Nat) (h : Int) : 0 ≤ byX d i h ∧ byX d i h ≤ 255 := by
 unfold byX
 split
 ·exact and255 _
 ·exact ownX_bd _
theorem grownBy_trans {a b c : World} {k : Nat} (h1 : a.grownBy b (some k)) (h2 : b.grownBy c (some k)) : a.grownBy c (some k) :=
 ⟨h2.os.trans h1.os, h2.tape.trans h1.tape, h2.output.trans h1.output, Nat.le_trans h1.size h2.size, fun j hj hn => (h2.block j (Nat.lt_of_lt_of_le hj h1.size) hn).trans (h1.block j hj hn)⟩
theorem grownBy_setCell (a : World) (k j : Nat) (v : Value) : a.grownBy (a.setCell ⟨k, j, none⟩ v) (some k) :=
 ⟨rfl, rfl, rfl, by simp, fun i _ hn => heap_setCell_other a ⟨k, j, none⟩ i v (fun e => hn (by simp [e]))⟩
theorem grownBy_setDrew (a : World) (k j : Nat) (v : Value) (q : Nat) : a.grownBy ((a.setCell ⟨k, j, none⟩ v).drewN q) (some k) :=
 ⟨rfl, rfl, rfl, (grownBy_setCell a k j v).size, (grownBy_setCell a k j v).block⟩
theorem code_of_block {w w' : World} {B : Nat} {d : Code1} (h : CodeAt w B d) (hk : ∀ b, b < B → w'.heap[b]? = w.heap[b]?) : CodeAt w' B d := by
 obtain ⟨h1, h2, h3⟩ := h
 refine ⟨h1, h2, fun j hj => ?_⟩
 obtain ⟨b, o, ha, hb, hc⟩ := h3 j hj
 exact ⟨b, o, ha, hb, (World.cell?_of_block (w := w) (a := ⟨b, o + j, none⟩) (hk b hb)).trans hc⟩
theorem cell_lt {w : World} {a : Addr} {v : Value} (h : w.cell? a = some v) : a.block < w.heap.size := World.block_lt_of_cell? w _ h
theorem sc_other (w : World) (c j k : Nat) (v : Value) (_h : j ≠ k) : (w.setCell ⟨c, j, none⟩ v).cell? ⟨c, k, none⟩ = w.cell? ⟨c, k, none⟩ := by
 apply World.cell?_setCell_other
 simp
theorem sc_same {w : World} {a : Addr} {u v : Value} (h : w.cell? a = some u) : (w.setCell a v).cell? a = some v := by
 apply World.cell?_setCell_same
 exact h
theorem cur_setH {w : World} {c : Nat} {d : Code1} {i : Nat} {h : Int} (hc : CurAt w c d i h) (n : Int) (q : Nat) : CurAt ((w.setCell ⟨c, 2, none⟩ (.int .i64 n)).drewN q) c d i n := by
 obtain ⟨c0, c1, c2, f1, f2, hi, hcode⟩ := hc
 refine ⟨?_, ?_, ?_, ?_, ?_, hi, code_of_block hcode fun b hb => heap_setCell_other w _ b _ (by show b ≠ c; omega)⟩
 ·show (w.setCell _ _).cell? _ = _; rw [sc_other _ _ _ _ _ (by decide), c0]
 ·show (w.setCell _ _).cell? _ = _; rw [sc_other _ _ _ _ _ (by decide), c1]
 ·exact sc_same c2
 ·show (w.setCell _ _).frozen? _ = _; rw [World.frozen?_setCell, f1]
 ·show (w.setCell _ _).frozen? _ = _; rw [World.frozen?_setCell, f2]
theorem cur_setI {w : World} {c : Nat} {d : Code1} {i : Nat} {h : Int} (hc : CurAt w c d i h) (hlt : i < d.len) : CurAt (w.setCell ⟨c, 1, none⟩ (.int .i64 ((i : Int) + 1))) c d (i + 1) h := by
 obtain ⟨c0, c1, c2, f1, f2, hi, hcode⟩ := hc
 refine ⟨?_, ?_, ?_, ?_, ?_, hlt, code_of_block hcode fun b hb => heap_setCell_other w _ b _ (by show b ≠ c; omega)⟩
 ·rw [sc_other _ _ _ _ _ (by decide), c0]
 ·exact sc_same c1
 ·rw [sc_other _ _ _ _ _ (by decide), c2]
 ·rw [World.frozen?_setCell, f1]
 ·rw [World.frozen?_setCell, f2]
theorem cur_drewN {w : World} {c : Nat} {d : Code1} {i : Nat} {h : Int} (hc : CurAt w c d i h) (q : Nat) : CurAt (w.drewN q) c d i h := hc
theorem grownBy_drewN {a b : World} {r : Option Nat} (h : a.grownBy b r) (q : Nat) : a.grownBy (b.drewN q) r := ⟨h.os, h.tape, h.output, h.size, h.block⟩
def Drew (w : World) (c : Nat) (d : Code1) (v : Value) (i' : Nat) (h' : Int) (e : Ending) (w' : World) : Prop :=
 e = .returned v ∧ CurAt w' c d i' h' ∧ w.grownBy w' (some c)
set_option maxRecDepth 100000 in
set_option maxHeartbeats 1000000 in
theorem byte_any (c : Nat) (d : Code1) (i : Nat) (h : Int) (w : World) (hc : CurAt w c d i h) :
  Calls Try.prog 30 #[.pointer (some ⟨c, 0, none⟩)] w fun e w' => Drew w c d (.int .i64 (byX d i h)) (byI d i) (nextH h) e w' := by
 obtain ⟨a, len, cap, z⟩ := d
 have HC : Hid (CurAt w c ⟨a, len, cap, z⟩ i h) := hc
 obtain ⟨c0, c1, c2, f1, f2, hi, hl, hz, hcode⟩ := hc
 simp only at c0 c1 c2 hi hl hz hcode
 have HX : Hid (wrap64 (wrap64 (h * 6364136223846793005) + 1442695040888963407) = nextH h) := rfl
 by_cases hlt : i < len
 ·have HB : Hid (byX ⟨a, len, cap, z⟩ i h = bits .and .i64 (ownX (nextH h) + z i) 255) := if_pos hlt
  have HI : Hid (byI ⟨a, len, cap, z⟩ i = i + 1) := if_pos hlt
  obtain ⟨b, o, rfl, hb, hcell⟩ := hcode i hlt
  have hne : ¬ b = c := by omega
  have hi0 : (0 : Int) ≤ (i : Int) := Int.natCast_nonneg _
  have hi1 : (i : Int) < (len : Int) := by omega
  have hz1 := hz i hlt
  clear hcode hz
  go_enter Try.func30, Try.ntmps30
  go_wp2
  rw [HX.out]
  generalize hn : nextH h = n at *
  have HN : Hid (nextH h = n) := hn
  clear HX hn
  go_quiet (fail)
  go_wp2
  go_quiet (fail)
  go_wp2
  obtain ⟨x1, x2⟩ := ownX_bd n
  rw [show bits .and .i64 (bits .xor .i64 (n / 8589934592) (n / 35184372088832)) 255 = ownX n from rfl]
  generalize ownX n = x at *
  go_quiet (fail)
  go_wp2
  go_ret
  refine ⟨by rw [HB.out]; rfl, ?_, ?_⟩
  ·rw [HI.out]
   rw [HN.out]
   exact cur_setI (cur_setH HC.out n _) hlt
  ·exact grownBy_trans (grownBy_setDrew w c 2 (.int .i64 n) _) (grownBy_setCell _ c 1 _)
 ·have HB : Hid (byX ⟨a, len, cap, z⟩ i h = ownX (nextH h)) := if_neg hlt
  have HI : Hid (byI ⟨a, len, cap, z⟩ i = i) := if_neg hlt
  have hi1 : decide ((i : Int) < (len : Int)) = false := by simp; omega
  clear hcode hz
  go_enter Try.func30, Try.ntmps30
  go_wp2
  rw [HX.out]
  generalize hn : nextH h = n at *
  have HN : Hid (nextH h = n) := hn
  clear HX hn
  go_quiet (fail)
  go_wp2
  go_quiet (fail)
  go_wp2
  go_ret
  refine ⟨by rw [HB.out]; rfl, ?_, ?_⟩
  ·rw [HI.out]
   rw [HN.out]
   exact cur_drewN (cur_setH HC.out n _) _
  ·exact grownBy_drewN (grownBy_setDrew w c 2 (.int .i64 n) _) _
end Go.Proofs.Ytgjeefedcfakdaa.Cu
namespace Go.Proofs.Ytgjeefedcfakdaa.Cu
open Go.ChangeShapes Go.WideShapes Go.ChangeAt Go.RowKit
abbrev St := Nat × Int
def bS (d : Code1) (s : St) : St := (byI d s.1, nextH s.2)
def bX (d : Code1) (s : St) : Int := byX d s.1 s.2
theorem bX_bd (d : Code1) (s : St) : 0 ≤ bX d s ∧ bX d s ≤ 255 := byX_bd d s.1 s.2
def belX (d : Code1) (n : Int) (s : St) : Int :=
 if n ≤ 256 then bX d s % n else (bX d s * 16777216 + bX d (bS d s) * 65536 + bX d (bS d (bS d s)) * 256 + bX d (bS d (bS d (bS d s)))) % n
def belS (d : Code1) (n : Int) (s : St) : St := if n ≤ 256 then bS d s else bS d (bS d (bS d (bS d s)))
theorem belX_bd (d : Code1) (n : Int) (s : St) (h : 0 < n) : 0 ≤ belX d n s ∧ belX d n s < n := by
 unfold belX
 split
 ·exact ⟨Int.emod_nonneg _ (by omega), Int.emod_lt_of_pos _ h⟩
 ·exact ⟨Int.emod_nonneg _ (by omega), Int.emod_lt_of_pos _ h⟩
def CurS (w : World) (c : Nat) (d : Code1) (s : St) : Prop := CurAt w c d s.1 s.2
def DrewS (w : World) (c : Nat) (d : Code1) (v : Value) (s' : St) (e : Ending) (w' : World) : Prop :=
 e = .returned v ∧ CurS w' c d s' ∧ w.grownBy w' (some c)
def DrC (f : Nat) (args : Array Value) (c : Nat) (d : Code1) (s : St) (v : Value) (s' : St) : Prop :=
 ∀ w, CurS w c d s → Calls Try.prog f args w fun e w' => DrewS w c d v s' e w'
theorem byte_st (c : Nat) (d : Code1) (s : St) : DrC 30 #[.pointer (some ⟨c, 0, none⟩)] c d s (.int .i64 (bX d s)) (bS d s) :=
 fun w hc => byte_any c d s.1 s.2 w hc
theorem below_small (c : Nat) (d : Code1) (n : Int) (s : St) (h0 : 0 < n) (h1 : n ≤ 256) :
  DrC 17 #[.pointer (some ⟨c, 0, none⟩), .int .i64 n] c d s (.int .i64 (belX d n s)) (belS d n s) := by
 intro w hc
 have HX : Hid (belX d n s = bX d s % n) := if_pos h1
 have HS : Hid (belS d n s = bS d s) := if_pos h1
 have K1 := byte_st c d s
 have HC : Hid _ := hc
 obtain ⟨x1, x2⟩ := bX_bd d s
 clear hc
 generalize bX d s = x at *
 have hd : decide (n ≤ 0) = false := by simp; omega
 have hz : (n == 0) = false := by rw [beq_eq_false_iff_ne]; omega
 go_enter Try.func17, Try.ntmps17
 go_wp2_with fail
 refine (K1 _ HC.out).mono ?_
 rintro e w1 ⟨rfl, hc1, hg1⟩
 go_wp2
 go_ret
 exact ⟨by rw [HX.out]; rfl, by rw [HS.out]; exact hc1, hg1⟩
set_option maxHeartbeats 400000 in
theorem below_big (c : Nat) (d : Code1) (n : Int) (s : St) (h1 : 256 < n) (h2 : n ≤ 1000000000) :
  DrC 17 #[.pointer (some ⟨c, 0, none⟩), .int .i64 n] c d s (.int .i64 (belX d n s)) (belS d n s) := by
 intro w hc
 have hn : ¬ n ≤ 256 := by omega
 have HX : Hid (belX d n s = (bX d s * 16777216 + bX d (bS d s) * 65536 + bX d (bS d (bS d s)) * 256 + bX d (bS d (bS d (bS d s)))) % n) := if_neg hn
 have HS : Hid (belS d n s = bS d (bS d (bS d (bS d s)))) := if_neg hn
 obtain ⟨x1, x2⟩ := bX_bd d s
 obtain ⟨y1, y2⟩ := bX_bd d (bS d s)
 obtain ⟨z1, z2⟩ := bX_bd d (bS d (bS d s))
 obtain ⟨u1, u2⟩ := bX_bd d (bS d (bS d (bS d s)))
 have K1 := byte_st c d s
 have K2 := byte_st c d (bS d s)
 have K3 := byte_st c d (bS d (bS d s))
 have K4 := byte_st c d (bS d (bS d (bS d s)))
 have HC : Hid (CurS w c d s) := hc
 clear hc hn
 generalize bX d s = x at *
 generalize bX d (bS d s) = y at *
 generalize bX d (bS d (bS d s)) = z at *
 generalize bX d (bS d (bS d (bS d s))) = u at *
 have hd : decide (n ≤ 0) = false := by simp; omega
 have hd2 : decide (n ≤ 256) = false := by simp; omega
 have hz : (n == 0) = false := by rw [beq_eq_false_iff_ne]; omega
 go_enter Try.func17, Try.ntmps17
 go_wp2_with fail
 refine (K1 _ HC.out).mono ?_
 rintro e w1 ⟨rfl, hc1, hg1⟩
 go_wp2_with fail
 refine (K2 _ hc1).mono ?_
 rintro e w2 ⟨rfl, hc2, hg2⟩
 go_wp2_with fail
 refine (K3 _ hc2).mono ?_
 rintro e w3 ⟨rfl, hc3, hg3⟩
 go_wp2_with fail
 refine (K4 _ hc3).mono ?_
 rintro e w4 ⟨rfl, hc4, hg4⟩
 go_wp2
 go_ret
 exact ⟨by rw [HX.out]; rfl, by rw [HS.out]; exact hc4, grownBy_trans hg1 (grownBy_trans hg2 (grownBy_trans hg3 hg4))⟩
theorem below_st (c : Nat) (d : Code1) (n : Int) (s : St) (h0 : 0 < n) (h2 : n ≤ 1000000000) :
  DrC 17 #[.pointer (some ⟨c, 0, none⟩), .int .i64 n] c d s (.int .i64 (belX d n s)) (belS d n s) := by
 by_cases h : n ≤ 256
 ·exact below_small c d n s h0 h
 ·exact below_big c d n s (by omega) h2
end Go.Proofs.Ytgjeefedcfakdaa.Cu
set_option linter.unusedVariables false
namespace Go.Proofs.Ytgjeefedcfakdaa.Cu
open Go.ChangeShapes Go.WideShapes Go.ChangeAt Go.RowKit
theorem cur_blocks {w w' : World} {c : Nat} {d : Code1} {s : St} (h : CurS w c d s) (hk : ∀ k, k ≤ c → w'.heap[k]? = w.heap[k]?) : CurS w' c d s := by
 obtain ⟨c0, c1, c2, f1, f2, hi, hcode⟩ := h
 exact ⟨(World.cell?_of_block (w := w) (a := ⟨c, 0, none⟩) (hk c (Nat.le_refl _))).trans c0, (World.cell?_of_block (w := w) (a := ⟨c, 1, none⟩) (hk c (Nat.le_refl _))).trans c1, (World.cell?_of_block (w := w) (a := ⟨c, 2, none⟩) (hk c (Nat.le_refl _))).trans c2,
  (World.frozen?_of_block (w := w) (a := ⟨c, 1, none⟩) (hk c (Nat.le_refl _))).trans f1, (World.frozen?_of_block (w := w) (a := ⟨c, 2, none⟩) (hk c (Nat.le_refl _))).trans f2, hi, code_of_block hcode fun b hb => hk b (by omega)⟩
theorem cur_lt {w : World} {c : Nat} {d : Code1} {s : St} (h : CurS w c d s) : c < w.heap.size := cell_lt h.1
theorem cur_alloc {w : World} {c : Nat} {d : Code1} {s : St} (h : CurS w c d s) (o : Obj) : CurS (w.alloc o) c d s :=
 cur_blocks h fun k hk => Below.heap_alloc w o k (by have := cur_lt h; omega)
theorem and30 (x : Int) : 0 ≤ bits .and .i64 x 1073741823 ∧ bits .and .i64 x 1073741823 ≤ 1073741823 := by
 have e : bits .and .i64 x 1073741823 = IntKind.i64.wrap ((BitVec.ofInt 64 x &&& BitVec.ofInt 64 1073741823).toNat : Int) := rfl
 have h1 : (BitVec.ofInt 64 x &&& BitVec.ofInt 64 1073741823).toNat ≤ 1073741823 := by
  rw [BitVec.toNat_and]
  exact Nat.and_le_right
 rw [e]
 generalize (BitVec.ofInt 64 x &&& BitVec.ofInt 64 1073741823).toNat = y at *
 simp [IntKind.wrap, IntKind.bits, IntKind.signed]
 omega
def newH (d : Code1) : Nat → Int
 | 0 => 10101 + d.len
 | k + 1 => bits .and .i64 (newH d k * 131 + d.z k + 7) 1073741823
theorem newH_bd (d : Code1) (h : d.len ≤ 1048576) : ∀ k, 0 ≤ newH d k ∧ newH d k ≤ 1073741823
 | 0 => by simp only [newH]; omega
 | k + 1 => and30 _
def newS (d : Code1) : St := (0, newH d (min d.len 4000))
theorem cur_new (w : World) (d : Code1) (h : Int) (t : TypeId) (hc : CodeAt w w.heap.size d) : CurS (w.alloc (.cells #[.slice d.a d.len d.cap, .int .i64 0, .int .i64 h] t)) w.heap.size d (0, h) := by
 refine ⟨?_, ?_, ?_, ?_, ?_, Nat.zero_le _, code_of_block hc fun b hb => Below.heap_alloc w _ b hb⟩
 ·rw [World.cell?_alloc_mark]; rfl
 ·rw [World.cell?_alloc_mark]; rfl
 ·rw [World.cell?_alloc_mark]; rfl
 ·rw [frozen?_alloc_cells]; simp [World.frozen?]
 ·rw [frozen?_alloc_cells]; simp [World.frozen?]
set_option maxRecDepth 100000 in
set_option maxHeartbeats 1000000 in
theorem new_st (d : Code1) (w : World) (hc : CodeAt w w.heap.size d) :
  Calls Try.prog 15 #[.slice d.a d.len d.cap] w fun e w' => e = .returned (.pointer (some ⟨w.heap.size, 0, none⟩)) ∧ CurS w' w.heap.size d (newS d) ∧ Below w.heap.size w w' := by
 have HC : Hid (CodeAt w w.heap.size d) := hc
 obtain ⟨a, len, cap, z⟩ := d
 obtain ⟨hl, hz, hcode⟩ := hc
 simp only at hl hz hcode ⊢
 have HN : Hid (∀ k, 0 ≤ newH ⟨a, len, cap, z⟩ k ∧ newH ⟨a, len, cap, z⟩ k ≤ 1073741823) := newH_bd _ hl
 have HZ : Hid _ := hz
 have HD : Hid _ := hcode
 clear hz hcode
 go_enter Try.func15, Try.ntmps15
 go_wp2
 go_loop [3, 4] (fun t i => ∃ k : Nat, k ≤ len ∧ k ≤ 4000 ∧ i = .int .i64 k ∧ t = .int .i64 (newH ⟨a, len, cap, z⟩ k)) (fun _ i => 4001 - (intOf i).toNat)
 case atStart => exact ⟨0, by omega, by omega, rfl, rfl⟩
 case round =>
  obtain ⟨k, hk, hk4, rfl, rfl⟩ := hrel
  obtain ⟨n1, n2⟩ := HN.out k
  by_cases hlt : k < len ∧ k < 4000
  ·obtain ⟨hlt, hlt4⟩ := hlt
   obtain ⟨b, o, rfl, hb, hcell⟩ := HD.out k hlt
   obtain ⟨z1, z2⟩ := HZ.out k hlt
   have HE : Hid (newH ⟨some ⟨b, o, none⟩, len, cap, z⟩ (k + 1) = bits .and .i64 (newH ⟨some ⟨b, o, none⟩, len, cap, z⟩ k * 131 + z k + 7) 1073741823) := rfl
   clear HD HZ HN
   generalize newH ⟨some ⟨b, o, none⟩, len, cap, z⟩ k = h at *
   go_wp2
   go_round
   case rel => exact ⟨k + 1, by omega, by omega, by go_num, by rw [HE.out]⟩
   case measure => simp [intOf]; omega
  ·have HK : Hid (newS ⟨a, len, cap, z⟩ = (0, newH ⟨a, len, cap, z⟩ k)) := by
    show _ = _
    unfold newS
    simp only
    rw [show min len 4000 = k by omega]
   clear HD HZ HN
   generalize newH ⟨a, len, cap, z⟩ k = h at *
   by_cases hlt : k < len
   ·go_wp2
    go_ret
    exact ⟨rfl, by rw [HK.out]; exact cur_new w ⟨a, len, cap, z⟩ h _ HC.out, (Below.refl _ _).alloc (Nat.le_refl _) _⟩
   ·go_wp2
    go_ret
    exact ⟨rfl, by rw [HK.out]; exact cur_new w ⟨a, len, cap, z⟩ h _ HC.out, (Below.refl _ _).alloc (Nat.le_refl _) _⟩
set_option maxRecDepth 100000 in
set_option maxHeartbeats 1000000 in
theorem once_st (c : Nat) (d : Code1) (n : Int) (s : St) (h0 : 0 < n) (h2 : n ≤ 1000000000) : DrC 18 #[.pointer (some ⟨c, 0, none⟩), .int .i64 n] c d s (.bool (belX d n s == 0)) (belS d n s) := by
 intro w hc
 have HB : Hid (Calls Try.prog 17 #[.pointer (some ⟨c, 0, none⟩), .int .i64 n] w fun e w' => DrewS w c d (.int .i64 (belX d n s)) (belS d n s) e w') := below_st c d n s h0 h2 w hc
 clear hc
 go_enter Try.func18, Try.ntmps18
 go_wp2_with (go_at_call 17; refine HB.out.mono ?_; rintro e w2 ⟨rfl, hc2, hg2⟩)
 go_ret
 exact ⟨rfl, hc2, hg2⟩
set_option maxRecDepth 100000 in
set_option maxHeartbeats 1000000 in
theorem pickS_st (c g cap : Nat) (d : Code1) (s : St) (L : List ByteArray) (w : World) (hc : CurS w c d s) (hne : g ≠ c) (hL : 0 < L.length) (hL2 : L.length ≤ 256) (hcell : ∀ (j : Nat) (x : ByteArray), L[j]? = some x → w.cell? ⟨g, j, none⟩ = some (.string x)) :
  Calls Try.prog 29 #[.pointer (some ⟨c, 0, none⟩), .slice (some ⟨g, 0, none⟩) L.length cap] w fun e w' => ∃ t s', e = .returned (.string t) ∧ t ∈ L ∧ CurS w' c d s' ∧ w.grownBy w' (some c) := by
 have HB : Hid (Calls Try.prog 17 #[.pointer (some ⟨c, 0, none⟩), .int .i64 (L.length : Int)] w fun e w' => DrewS w c d (.int .i64 (belX d L.length s)) (belS d L.length s) e w') := below_st c d L.length s (by omega) (by omega) w hc
 obtain ⟨b1, b2⟩ := belX_bd d L.length s (by omega)
 obtain ⟨k, hk⟩ : ∃ k : Nat, belX d L.length s = (k : Int) := ⟨_, (Int.toNat_of_nonneg b1).symm⟩
 rw [hk] at HB b2
 obtain ⟨x, hx⟩ : ∃ x, L[k]? = some x := ⟨_, List.getElem?_eq_getElem (by omega)⟩
 have HX : Hid (L[k]? = some x) := hx
 have hcx := hcell k x hx
 have hgl : g < w.heap.size := cell_lt hcx
 have HG : Hid (w.cell? ⟨g, k, none⟩ = some (.string x)) := hcx
 clear hcell hc hk hx hcx b1
 go_enter Try.func29, Try.ntmps29
 go_wp2_with (go_at_call 17; refine HB.out.mono ?_; rintro e w2 ⟨rfl, hc2, hg2⟩; have hcy := (World.cell?_of_block (a := ⟨g, k, none⟩) (hg2.block g hgl (fun e => hne (Option.some.inj e)))).trans HG.out)
 go_ret
 exact ⟨x, _, rfl, List.mem_of_getElem? HX.out, hc2, hg2⟩
def Cw (w : World) (c : Nat) (d : Code1) (W : World) : Prop := (∃ s, CurS W c d s) ∧ w.grownBy W (some c) ∧ c < w.heap.size
theorem Cw.alloc {w W : World} {c : Nat} {d : Code1} (h : Cw w c d W) (o : Obj) : Cw w c d (W.alloc o) := by
 obtain ⟨⟨s, hs⟩, hg, hl⟩ := h
 exact ⟨⟨s, cur_alloc hs o⟩, ⟨hg.os, hg.tape, hg.output, Nat.le_trans hg.size (by simp), fun i hi hn => (Below.heap_alloc W o i (Nat.lt_of_lt_of_le hi hg.size)).trans (hg.block i hi hn)⟩, hl⟩
theorem Cw.drew {w W : World} {c : Nat} {d : Code1} (h : Cw w c d W) (q : Nat) : Cw w c d (W.drewN q) := by
 obtain ⟨⟨s, hs⟩, hg, hl⟩ := h
 exact ⟨⟨s, hs⟩, ⟨hg.os, hg.tape, hg.output, hg.size, hg.block⟩, hl⟩
theorem Cw.lt {w W : World} {c : Nat} {d : Code1} (h : Cw w c d W) : c < W.heap.size := Nat.lt_of_lt_of_le h.2.2 h.2.1.size
theorem below_cw (w : World) (c : Nat) (d : Code1) (n : Nat) (W : World) (h : Cw w c d W) (h0 : 0 < n) (h2 : n ≤ 1000000000) : Calls Try.prog 17 #[.pointer (some ⟨c, 0, none⟩), .int .i64 (n : Int)] W fun e W' => ∃ k : Nat, e = .returned (.int .i64 (k : Int)) ∧ k < n ∧ Cw w c d W' := by
 obtain ⟨⟨s, hs⟩, hg, hl⟩ := h
 refine (below_st c d n s (by omega) (by omega) W hs).mono ?_
 rintro e W' ⟨rfl, h1, h3⟩
 obtain ⟨b1, b2⟩ := belX_bd d n s (by omega)
 exact ⟨(belX d n s).toNat, by rw [Int.toNat_of_nonneg b1], by omega, ⟨_, h1⟩, grownBy_trans hg h3, hl⟩
theorem pick_cw (L : List ByteArray) (w : World) (c : Nat) (d : Code1) (g cap : Nat) (W : World) (h : Cw w c d W) (hg : g = W.heap.size) (hL : 0 < L.length) (hL2 : L.length ≤ 256) (arr : Array Value) (harr : arr = (L.map Value.string).toArray) (hsz : ∀ x ∈ L, x.size ≤ 40) : Calls Try.prog 29 #[.pointer (some ⟨c, 0, none⟩), .slice (some ⟨g, 0, none⟩) L.length cap] (W.alloc (.cells arr 9)) fun e W' => ∃ t, e = .returned (.string t) ∧ t.size ≤ 40 ∧ Cw w c d W' := by
 have h' := h.alloc (.cells arr 9)
 have hlt := h.lt
 obtain ⟨⟨s, hs⟩, hg2, hl⟩ := h'
 refine (pickS_st c g cap d s L _ hs (by omega) hL hL2 ?_).mono ?_
 ·intro j x hx
  subst hg
  rw [World.cell?_alloc_mark, harr]
  simp [hx]
 ·rintro e W' ⟨t, s', rfl, ht, h1, h2⟩
  exact ⟨t, rfl, hsz t ht, ⟨s', h1⟩, grownBy_trans hg2 h2, hl⟩
theorem once_cw (w : World) (c : Nat) (d : Code1) (n : Nat) (W : World) (h : Cw w c d W) (h0 : 0 < n) (h2 : n ≤ 1000000000) : Calls Try.prog 18 #[.pointer (some ⟨c, 0, none⟩), .int .i64 (n : Int)] W fun e W' => ∃ b : Bool, e = .returned (.bool b) ∧ Cw w c d W' := by
 obtain ⟨⟨s, hs⟩, hg, hl⟩ := h
 refine (once_st c d n s (by omega) (by omega) W hs).mono ?_
 rintro e W' ⟨rfl, h1, h3⟩
 exact ⟨_, rfl, ⟨_, h1⟩, grownBy_trans hg h3, hl⟩
end Go.Proofs.Ytgjeefedcfakdaa.Cu
set_option linter.unusedVariables false
namespace Go.Proofs.Ytgjeefedcfakdaa
open Go.ChangeShapes Go.WideShapes Go.ChangeAt Go.RowKit
open Cu (Cw Code1 CurS)
theorem Cw_lit {W W' : World} {c : Nat} {d : Code1} {o : Obj} (h : Cw (W.alloc o) c d W') (hc : c < W.heap.size) : Cw W c d W' := by
 obtain ⟨hs, hg, hl⟩ := h
 refine ⟨hs, ⟨hg.os, hg.tape, hg.output, Nat.le_trans (by simp) hg.size, fun i hi hn => (hg.block i (by simp; omega) hn).trans ?_⟩, hc⟩
 show (Array.push _ _)[i]? = _
 rw [Array.getElem?_push_lt hi, Array.getElem?_eq_getElem hi]
theorem Cw_self {W : World} {c : Nat} {d : Code1} (h : ∃ s, CurS W c d s) (hc : c < W.heap.size) : Cw W c d W := ⟨h, ⟨rfl, rfl, rfl, Nat.le_refl _, fun _ _ _ => rfl⟩, hc⟩
theorem Cw_trans {W W1 W2 : World} {c : Nat} {d : Code1} (h : Cw W c d W1) (g : Cw W1 c d W2) : Cw W c d W2 := ⟨g.1, Cu.grownBy_trans h.2.1 g.2.1, h.2.2⟩
theorem Cw_set {W W' : World} {c b j : Nat} {d : Code1} {v : Value} (h : Cw W c d W') (hb : W.heap.size ≤ b) : Cw W c d (W'.setCell ⟨b, j, none⟩ v) := by
 obtain ⟨⟨s, hs⟩, hg, hl⟩ := h
 refine ⟨⟨s, Cu.cur_blocks hs fun k hk => heap_setCell_other _ _ _ _ (by show k ≠ b; omega)⟩, ⟨hg.os, hg.tape, hg.output, by simpa using hg.size, fun i hi hn => (heap_setCell_other _ _ _ _ (by show i ≠ b; omega)).trans (hg.block i hi hn)⟩, hl⟩
theorem Cw_blk {W W' : World} {c b : Nat} {d : Code1} {o : Obj} (h : Cw W c d W') (hk : W.heap[b]? = some o) (hb : b ≠ c) : W'.heap[b]? = some o :=
 (h.2.1.block b (alt hk) (fun e => hb (Option.some.inj e))).trans hk
end Go.Proofs.Ytgjeefedcfakdaa
set_option linter.unusedVariables false
namespace Go.Proofs.Ytgjeefedcfakdaa.Cu
open Go.ChangeShapes Go.WideShapes Go.ChangeAt Go.RowKit
theorem lit_size (l : List UInt8) : (⟨l.toArray⟩ : ByteArray).size = l.length := by simp [ByteArray.size]
def frN : Nat → Nat
 | 0 => 40
 | n + 1 => 3 * frN n + 120
def L5 : List ByteArray := [⟨#[120]⟩, ⟨#[121]⟩, ⟨#[102]⟩, ⟨#[103]⟩, ⟨#[107]⟩]
def L10 : List ByteArray := [⟨#[49]⟩, ⟨#[55]⟩, ⟨#[45, 51]⟩, ⟨#[35, 116]⟩, ⟨#[35, 102]⟩, ⟨#[120]⟩, ⟨#[121]⟩, ⟨#[39, 97]⟩, ⟨#[39, 40, 41]⟩, ⟨#[52, 48]⟩]
def L7 : List ByteArray := [⟨#[43]⟩, ⟨#[45]⟩, ⟨#[42]⟩, ⟨#[60]⟩, ⟨#[61]⟩, ⟨#[99, 111, 110, 115]⟩, ⟨#[101, 113, 63]⟩]
def L7b : List ByteArray := [⟨#[99, 97, 114]⟩, ⟨#[99, 100, 114]⟩, ⟨#[110, 117, 108, 108, 63]⟩, ⟨#[112, 97, 105, 114, 63]⟩, ⟨#[110, 111, 116]⟩, ⟨#[112, 114, 105, 110, 116]⟩, ⟨#[101, 114, 114, 111, 114]⟩]
def L3 : List ByteArray := [⟨#[48]⟩, ⟨#[49]⟩, ⟨#[50]⟩]
set_option maxRecDepth 100000 in
set_option maxHeartbeats 4000000 in
theorem form_zero (w : World) (c : Nat) (d : Code1) (W : World) (h : Cw w c d W) : Calls Try.prog 41 #[.pointer (some ⟨c, 0, none⟩), .int .i64 0] W fun e W' => ∃ t, e = .returned (.string t) ∧ t.size ≤ frN 0 ∧ Cw w c d W' := by
 go_enter Try.func41, Try.ntmps41
 go_wp2_with fail
 refine (pick_cw L5 w c d _ 5 W h rfl (by decide) (by decide) _ rfl (by decide)).mono ?_
 rintro e W1 ⟨x, rfl, hx, h1⟩
 go_wp2_with fail
 refine (pick_cw L10 w c d _ 10 W1 h1 rfl (by decide) (by decide) _ rfl (by decide)).mono ?_
 rintro e W2 ⟨t, rfl, ht, h2⟩
 go_wp2
 go_ret
 exact ⟨t, rfl, ht, h2⟩
set_option maxRecDepth 100000 in
set_option maxHeartbeats 4000000 in
theorem form_more (w : World) (c : Nat) (d : Code1) (n : Nat) (hn : n ≤ 3) (IH : ∀ W, Cw w c d W → Calls Try.prog 41 #[.pointer (some ⟨c, 0, none⟩), .int .i64 (n : Int)] W fun e W' => ∃ t, e = .returned (.string t) ∧ t.size ≤ frN n ∧ Cw w c d W') (W : World) (h : Cw w c d W) : Calls Try.prog 41 #[.pointer (some ⟨c, 0, none⟩), .int .i64 ((n : Int) + 1)] W fun e W' => ∃ t, e = .returned (.string t) ∧ t.size ≤ frN (n + 1) ∧ Cw w c d W' := by
 obtain ⟨M, hM⟩ : ∃ M, M = frN n := ⟨_, rfl⟩
 have hMb : M ≤ 4000 := by
  rw [hM]
  match n, hn with
  | 0, _ => decide
  | 1, _ => decide
  | 2, _ => decide
  | 3, _ => decide
 have hR : frN (n + 1) = 3 * M + 120 := by rw [hM]; rfl
 rw [hR]
 rw [← hM] at IH
 have HF : Hid (∀ W, Cw w c d W → Calls Try.prog 41 #[.pointer (some ⟨c, 0, none⟩), .int .i64 (n : Int)] W fun e W' => ∃ t, e = .returned (.string t) ∧ t.size ≤ M ∧ Cw w c d W') := IH
 clear IH hM hR
 have hdn : decide ((n : Int) + 1 ≤ 0) = false := by
  simp only [decide_eq_false_iff_not]
  omega
 go_enter Try.func41, Try.ntmps41
 go_wp2_with fail
 refine (pick_cw L5 w c d _ 5 W h rfl (by decide) (by decide) _ rfl (by decide)).mono ?_
 rintro e W1 ⟨x, rfl, hx, h1⟩
 clear h
 go_wp2_with fail
 refine (HF.out _ h1).mono ?_
 rintro e W2 ⟨t, rfl, ht, h2⟩
 clear h1
 go_wp2_with fail
 refine (below_cw w c d 20 W2 h2 (by decide) (by decide)).mono ?_
 rintro e W3 ⟨k, rfl, hk, h3⟩
 clear h2
 have hks : k = 0 ∨ k = 1 ∨ k = 2 ∨ k = 3 ∨ k = 4 ∨ k = 5 ∨ k = 6 ∨ k = 7 ∨ k = 8 ∨ k = 9 ∨ k = 10 ∨ k = 11 ∨ k = 12 ∨ k = 13 ∨ k = 14 ∨ k = 15 ∨ k = 16 ∨ k = 17 ∨ k = 18 ∨ k = 19 := by omega
 clear hk
 rcases hks with rfl | rfl | rfl | rfl | rfl | rfl | rfl | rfl | rfl | rfl | rfl | rfl | rfl | rfl | rfl | rfl | rfl | rfl | rfl | rfl
 ·go_wp2_with fail
  refine (HF.out _ h3).mono ?_
  rintro e W4 ⟨t4, rfl, ht4, h4⟩
  clear h3
  go_wp2_with fail
  refine (HF.out _ h4).mono ?_
  rintro e W5 ⟨t5, rfl, ht5, h5⟩
  clear h4
  go_wp2
  go_ret
  exact ⟨_, rfl, by simp only [ByteArray.size_append, lit_size, List.length_cons, List.length_nil]; omega, h5⟩
 ·go_wp2
  go_ret
  exact ⟨_, rfl, by simp only [ByteArray.size_append, lit_size, List.length_cons, List.length_nil]; omega, h3⟩
 ·go_wp2_with fail
  refine (HF.out _ h3).mono ?_
  rintro e W4 ⟨t4, rfl, ht4, h4⟩
  clear h3
  go_wp2
  go_ret
  exact ⟨_, rfl, by simp only [ByteArray.size_append, lit_size, List.length_cons, List.length_nil]; omega, h4⟩
 ·go_wp2_with fail
  refine (HF.out _ h3).mono ?_
  rintro e W4 ⟨t4, rfl, ht4, h4⟩
  clear h3
  go_wp2
  go_ret
  exact ⟨_, rfl, by simp only [ByteArray.size_append, lit_size, List.length_cons, List.length_nil]; omega, h4⟩
 ·go_wp2_with fail
  refine (pick_cw L7 w c d _ 7 W3 h3 rfl (by decide) (by decide) _ rfl (by decide)).mono ?_
  rintro e W4 ⟨t4, rfl, ht4, h4⟩
  clear h3
  go_wp2_with fail
  refine (HF.out _ h4).mono ?_
  rintro e W5 ⟨t5, rfl, ht5, h5⟩
  clear h4
  go_wp2
  go_ret
  exact ⟨_, rfl, by simp only [ByteArray.size_append, lit_size, List.length_cons, List.length_nil]; omega, h5⟩
 ·go_wp2_with fail
  refine (pick_cw L7 w c d _ 7 W3 h3 rfl (by decide) (by decide) _ rfl (by decide)).mono ?_
  rintro e W4 ⟨t4, rfl, ht4, h4⟩
  clear h3
  go_wp2_with fail
  refine (HF.out _ h4).mono ?_
  rintro e W5 ⟨t5, rfl, ht5, h5⟩
  clear h4
  go_wp2
  go_ret
  exact ⟨_, rfl, by simp only [ByteArray.size_append, lit_size, List.length_cons, List.length_nil]; omega, h5⟩
 ·go_wp2_with fail
  refine (pick_cw L7 w c d _ 7 W3 h3 rfl (by decide) (by decide) _ rfl (by decide)).mono ?_
  rintro e W4 ⟨t4, rfl, ht4, h4⟩
  clear h3
  go_wp2_with fail
  refine (HF.out _ h4).mono ?_
  rintro e W5 ⟨t5, rfl, ht5, h5⟩
  clear h4
  go_wp2
  go_ret
  exact ⟨_, rfl, by simp only [ByteArray.size_append, lit_size, List.length_cons, List.length_nil]; omega, h5⟩
 ·go_wp2_with fail
  refine (pick_cw L7b w c d _ 7 W3 h3 rfl (by decide) (by decide) _ rfl (by decide)).mono ?_
  rintro e W4 ⟨t4, rfl, ht4, h4⟩
  clear h3
  go_wp2
  go_ret
  exact ⟨_, rfl, by simp only [ByteArray.size_append, lit_size, List.length_cons, List.length_nil]; omega, h4⟩
 ·go_wp2_with fail
  refine (pick_cw L7b w c d _ 7 W3 h3 rfl (by decide) (by decide) _ rfl (by decide)).mono ?_
  rintro e W4 ⟨t4, rfl, ht4, h4⟩
  clear h3
  go_wp2
  go_ret
  exact ⟨_, rfl, by simp only [ByteArray.size_append, lit_size, List.length_cons, List.length_nil]; omega, h4⟩
 ·go_wp2_with fail
  refine (HF.out _ h3).mono ?_
  rintro e W4 ⟨t4, rfl, ht4, h4⟩
  clear h3
  go_wp2
  go_ret
  exact ⟨_, rfl, by simp only [ByteArray.size_append, lit_size, List.length_cons, List.length_nil]; omega, h4⟩
 ·go_wp2_with fail
  refine (HF.out _ h3).mono ?_
  rintro e W4 ⟨t4, rfl, ht4, h4⟩
  clear h3
  go_wp2
  go_ret
  exact ⟨_, rfl, by simp only [ByteArray.size_append, lit_size, List.length_cons, List.length_nil]; omega, h4⟩
 ·go_wp2_with fail
  refine (HF.out _ h3).mono ?_
  rintro e W4 ⟨t4, rfl, ht4, h4⟩
  clear h3
  go_wp2
  go_ret
  exact ⟨_, rfl, by simp only [ByteArray.size_append, lit_size, List.length_cons, List.length_nil]; omega, h4⟩
 ·go_wp2_with fail
  refine (HF.out _ h3).mono ?_
  rintro e W4 ⟨t4, rfl, ht4, h4⟩
  clear h3
  go_wp2
  go_ret
  exact ⟨_, rfl, by simp only [ByteArray.size_append, lit_size, List.length_cons, List.length_nil]; omega, h4⟩
 ·go_wp2
  go_ret
  exact ⟨_, rfl, by simp only [ByteArray.size_append, lit_size, List.length_cons, List.length_nil]; omega, h3⟩
 ·go_wp2_with fail
  refine (HF.out _ h3).mono ?_
  rintro e W4 ⟨t4, rfl, ht4, h4⟩
  clear h3
  go_wp2
  go_ret
  exact ⟨_, rfl, by simp only [ByteArray.size_append, lit_size, List.length_cons, List.length_nil]; omega, h4⟩
 ·go_wp2
  go_ret
  exact ⟨_, rfl, by simp only [ByteArray.size_append, lit_size, List.length_cons, List.length_nil]; omega, h3⟩
 ·go_wp2_with fail
  refine (pick_cw L3 w c d _ 3 W3 h3 rfl (by decide) (by decide) _ rfl (by decide)).mono ?_
  rintro e W4 ⟨t4, rfl, ht4, h4⟩
  clear h3
  go_wp2
  go_ret
  exact ⟨_, rfl, by simp only [ByteArray.size_append, lit_size, List.length_cons, List.length_nil]; omega, h4⟩
 ·go_wp2
  go_ret
  exact ⟨_, rfl, by simp only [ByteArray.size_append, lit_size, List.length_cons, List.length_nil]; omega, h3⟩
 ·go_wp2
  go_ret
  exact ⟨_, rfl, by simp only [ByteArray.size_append, lit_size, List.length_cons, List.length_nil]; omega, h3⟩
 ·go_wp2_with fail
  refine (HF.out _ h3).mono ?_
  rintro e W4 ⟨t4, rfl, ht4, h4⟩
  clear h3
  go_wp2
  go_ret
  exact ⟨_, rfl, by simp only [ByteArray.size_append, lit_size, List.length_cons, List.length_nil]; omega, h4⟩
theorem form_cw (w : World) (c : Nat) (d : Code1) : ∀ (n : Nat), n ≤ 4 → ∀ W, Cw w c d W → Calls Try.prog 41 #[.pointer (some ⟨c, 0, none⟩), .int .i64 (n : Int)] W fun e W' => ∃ t, e = .returned (.string t) ∧ t.size ≤ frN n ∧ Cw w c d W'
 | 0, _, W, h => form_zero w c d W h
 | n + 1, hn, W, h => by
  have := form_more w c d n (by omega) (form_cw w c d n (by omega)) W h
  rw [show ((n + 1 : Nat) : Int) = (n : Int) + 1 by omega]
  exact this
end Go.Proofs.Ytgjeefedcfakdaa.Cu
