/- The cursor of the draws: what one byte of it is, and how it goes on. -/
import Derived.Test.YtgfkmppkeolckaaDoorRows
import Derived.WalkKit
import Derived.ProofKit
import Derived.Below
import Derived.Outline
import Derived.WalkSpells
import Derived.WalkLawsBesides
import Derived.OpenShut
import Derived.Deep.QuietTactic
import Derived.BigQuiet
import Derived.Laws.BitsAllLaws
import Derived.Laws.IdiomStrings
namespace Go.Proofs.YtgfkmppkeolckaaDoor.Cu
open Go.ChangeShapes Go.WideShapes Go.ChangeAt Go.RowKit
/-- A code that came in: where it lies and which bytes it has. -/
structure Code1 where
  a : Option Addr
  len : Nat
  cap : Nat
  z : Nat → Int
/-- The code lies in the world, below a block. -/
def CodeAt (w : World) (B : Nat) (d : Code1) : Prop :=
  d.len ≤ 1048576 ∧ (∀ j, j < d.len → 0 ≤ d.z j ∧ d.z j < 256) ∧ (∀ j, j < d.len → ∃ b o, d.a = some ⟨b, o, none⟩ ∧ b < B ∧ w.cell? ⟨b, o + j, none⟩ = some (.int .u8 (d.z j)))
/-- The cursor over a code, in a block of its own. -/
def CurAt (w : World) (c : Nat) (d : Code1) (i : Nat) (h : Int) : Prop :=
  w.cell? ⟨c, 0, none⟩ = some (.slice d.a d.len d.cap) ∧ w.cell? ⟨c, 1, none⟩ = some (.int .i64 i) ∧ w.cell? ⟨c, 2, none⟩ = some (.int .i64 h) ∧ w.frozen? ⟨c, 1, none⟩ = false ∧ w.frozen? ⟨c, 2, none⟩ = false ∧ i ≤ d.len ∧ CodeAt w c d
theorem and255 (x : Int) : 0 ≤ bits .and .i64 x 255 ∧ bits .and .i64 x 255 ≤ 255 := by
  have e : bits .and .i64 x 255 = IntKind.i64.wrap ((BitVec.ofInt 64 x &&& BitVec.ofInt 64 255).toNat : Int) := rfl
  have h1 : (BitVec.ofInt 64 x &&& BitVec.ofInt 64 255).toNat ≤ 255 := by
    rw [BitVec.toNat_and]
    exact Nat.and_le_right
  rw [e]
  generalize (BitVec.ofInt 64 x &&& BitVec.ofInt 64 255).toNat = y at *
  simp [IntKind.wrap, IntKind.bits, IntKind.signed]
  omega
/-- The cursor's own number, a step on. -/
def nextH (h : Int) : Int := wrap64 (wrap64 (h * 6364136223846793005) + 1442695040888963407)
/-- The byte that follows from the number alone. -/
def ownX (h : Int) : Int := bits .and .i64 (bits .xor .i64 (h / 8589934592) (h / 35184372088832)) 255
theorem ownX_bd (h : Int) : 0 ≤ ownX h ∧ ownX h ≤ 255 := and255 _
/-- The byte that is drawn. -/
def byX (d : Code1) (i : Nat) (h : Int) : Int := if i < d.len then bits .and .i64 (ownX (nextH h) + d.z i) 255 else ownX (nextH h)
/-- The next place. -/
def byI (d : Code1) (i : Nat) : Nat := if i < d.len then i + 1 else i
theorem byX_bd (d : Code1) (i : Nat) (h : Int) : 0 ≤ byX d i h ∧ byX d i h ≤ 255 := by
  unfold byX
  split
  · exact and255 _
  · exact ownX_bd _
theorem grownBy_trans {a b c : World} {k : Nat} (h1 : a.grownBy b (some k)) (h2 : b.grownBy c (some k)) : a.grownBy c (some k) :=
  ⟨h2.os.trans h1.os, h2.tape.trans h1.tape, h2.output.trans h1.output, Nat.le_trans h1.size h2.size, fun j hj hn => (h2.block j (Nat.lt_of_lt_of_le hj h1.size) hn).trans (h1.block j hj hn)⟩
theorem grownBy_refl (a : World) (k : Nat) : a.grownBy a (some k) := ⟨rfl, rfl, rfl, Nat.le_refl _, fun _ _ _ => rfl⟩
theorem grownBy_setCell (a : World) (k j : Nat) (v : Value) : a.grownBy (a.setCell ⟨k, j, none⟩ v) (some k) :=
  ⟨rfl, rfl, rfl, by simp, fun i _ hn => heap_setCell_other a ⟨k, j, none⟩ i v (fun e => hn (by simp [e]))⟩
theorem grownBy_setDrew (a : World) (k j : Nat) (v : Value) (q : Nat) : a.grownBy ((a.setCell ⟨k, j, none⟩ v).drewN q) (some k) :=
  ⟨rfl, rfl, rfl, (grownBy_setCell a k j v).size, (grownBy_setCell a k j v).block⟩
theorem code_of_block {w w' : World} {B : Nat} {d : Code1} (h : CodeAt w B d) (hk : ∀ b, b < B → w'.heap[b]? = w.heap[b]?) : CodeAt w' B d := by
  obtain ⟨h1, h2, h3⟩ := h
  refine ⟨h1, h2, fun j hj => ?_⟩
  obtain ⟨b, o, ha, hb, hc⟩ := h3 j hj
  exact ⟨b, o, ha, hb, (World.cell?_of_block (w := w) (a := ⟨b, o + j, none⟩) (hk b hb)).trans hc⟩
theorem cell_lt {w : World} {a : Addr} {v : Value} (h : w.cell? a = some v) : a.block < w.heap.size := World.block_lt_of_cell? w _ h
theorem sc_other (w : World) (c j k : Nat) (v : Value) (_h : j ≠ k) : (w.setCell ⟨c, j, none⟩ v).cell? ⟨c, k, none⟩ = w.cell? ⟨c, k, none⟩ := by
  apply World.cell?_setCell_other
  simp
theorem sc_same {w : World} {a : Addr} {u v : Value} (h : w.cell? a = some u) : (w.setCell a v).cell? a = some v := by
  apply World.cell?_setCell_same
  exact h
theorem cur_setH {w : World} {c : Nat} {d : Code1} {i : Nat} {h : Int} (hc : CurAt w c d i h) (n : Int) (q : Nat) : CurAt ((w.setCell ⟨c, 2, none⟩ (.int .i64 n)).drewN q) c d i n := by
  obtain ⟨c0, c1, c2, f1, f2, hi, hcode⟩ := hc
  refine ⟨?_, ?_, ?_, ?_, ?_, hi, code_of_block hcode fun b hb => heap_setCell_other w _ b _ (by show b ≠ c; omega)⟩
  · show (w.setCell _ _).cell? _ = _; rw [sc_other _ _ _ _ _ (by decide), c0]
  · show (w.setCell _ _).cell? _ = _; rw [sc_other _ _ _ _ _ (by decide), c1]
  · exact sc_same c2
  · show (w.setCell _ _).frozen? _ = _; rw [World.frozen?_setCell, f1]
  · show (w.setCell _ _).frozen? _ = _; rw [World.frozen?_setCell, f2]
theorem cur_setI {w : World} {c : Nat} {d : Code1} {i : Nat} {h : Int} (hc : CurAt w c d i h) (hlt : i < d.len) : CurAt (w.setCell ⟨c, 1, none⟩ (.int .i64 ((i : Int) + 1))) c d (i + 1) h := by
  obtain ⟨c0, c1, c2, f1, f2, hi, hcode⟩ := hc
  refine ⟨?_, ?_, ?_, ?_, ?_, hlt, code_of_block hcode fun b hb => heap_setCell_other w _ b _ (by show b ≠ c; omega)⟩
  · rw [sc_other _ _ _ _ _ (by decide), c0]
  · exact sc_same c1
  · rw [sc_other _ _ _ _ _ (by decide), c2]
  · rw [World.frozen?_setCell, f1]
  · rw [World.frozen?_setCell, f2]
theorem cur_drewN {w : World} {c : Nat} {d : Code1} {i : Nat} {h : Int} (hc : CurAt w c d i h) (q : Nat) : CurAt (w.drewN q) c d i h := hc
theorem grownBy_drewN {a b : World} {r : Option Nat} (h : a.grownBy b r) (q : Nat) : a.grownBy (b.drewN q) r := ⟨h.os, h.tape, h.output, h.size, h.block⟩
/-- What a function that draws leaves: the answer, the cursor gone on, all other memory of before as it was. -/
def Drew (w : World) (c : Nat) (d : Code1) (v : Value) (i' : Nat) (h' : Int) (e : Ending) (w' : World) : Prop :=
  e = .returned v ∧ CurAt w' c d i' h' ∧ w.grownBy w' (some c)
set_option maxRecDepth 100000 in
set_option maxHeartbeats 1000000 in
theorem byte_any (c : Nat) (d : Code1) (i : Nat) (h : Int) (w : World) (hc : CurAt w c d i h) :
    Calls Tryd.prog 50 #[.pointer (some ⟨c, 0, none⟩)] w fun e w' => Drew w c d (.int .i64 (byX d i h)) (byI d i) (nextH h) e w' := by
  obtain ⟨a, len, cap, z⟩ := d
  have HC : Hid (CurAt w c ⟨a, len, cap, z⟩ i h) := hc
  obtain ⟨c0, c1, c2, f1, f2, hi, hl, hz, hcode⟩ := hc
  simp only at c0 c1 c2 hi hl hz hcode
  have HX : Hid (wrap64 (wrap64 (h * 6364136223846793005) + 1442695040888963407) = nextH h) := rfl
  by_cases hlt : i < len
  · have HB : Hid (byX ⟨a, len, cap, z⟩ i h = bits .and .i64 (ownX (nextH h) + z i) 255) := if_pos hlt
    have HI : Hid (byI ⟨a, len, cap, z⟩ i = i + 1) := if_pos hlt
    obtain ⟨b, o, rfl, hb, hcell⟩ := hcode i hlt
    have hne : ¬ b = c := by omega
    have hi0 : (0 : Int) ≤ (i : Int) := Int.natCast_nonneg _
    have hi1 : (i : Int) < (len : Int) := by omega
    have hz1 := hz i hlt
    clear hcode hz
    go_enter Tryd.func50, Tryd.ntmps50
    go_wp2
    rw [HX.out]
    generalize hn : nextH h = n at *
    have HN : Hid (nextH h = n) := hn
    clear HX hn
    go_quiet (fail)
    go_wp2
    go_quiet (fail)
    go_wp2
    obtain ⟨x1, x2⟩ := ownX_bd n
    rw [show bits .and .i64 (bits .xor .i64 (n / 8589934592) (n / 35184372088832)) 255 = ownX n from rfl]
    generalize ownX n = x at *
    go_quiet (fail)
    go_wp2
    go_ret
    refine ⟨by rw [HB.out]; rfl, ?_, ?_⟩
    · rw [HI.out]
      rw [HN.out]
      exact cur_setI (cur_setH HC.out n _) hlt
    · exact grownBy_trans (grownBy_setDrew w c 2 (.int .i64 n) _) (grownBy_setCell _ c 1 _)
  · have HB : Hid (byX ⟨a, len, cap, z⟩ i h = ownX (nextH h)) := if_neg hlt
    have HI : Hid (byI ⟨a, len, cap, z⟩ i = i) := if_neg hlt
    have hi1 : decide ((i : Int) < (len : Int)) = false := by simp; omega
    clear hcode hz
    go_enter Tryd.func50, Tryd.ntmps50
    go_wp2
    rw [HX.out]
    generalize hn : nextH h = n at *
    have HN : Hid (nextH h = n) := hn
    clear HX hn
    go_quiet (fail)
    go_wp2
    go_quiet (fail)
    go_wp2
    go_ret
    refine ⟨by rw [HB.out]; rfl, ?_, ?_⟩
    · rw [HI.out]
      rw [HN.out]
      exact cur_drewN (cur_setH HC.out n _) _
    · exact grownBy_drewN (grownBy_setDrew w c 2 (.int .i64 n) _) _
end Go.Proofs.YtgfkmppkeolckaaDoor.Cu
