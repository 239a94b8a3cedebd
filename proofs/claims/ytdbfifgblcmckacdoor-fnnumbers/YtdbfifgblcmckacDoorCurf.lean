/- A new cursor over a code, and what is drawn out of it. -/
import Derived.Test.YtdbfifgblcmckacDoorCure
import Derived.Test.YtdbfifgblcmckacDoorVarb
namespace Go.Proofs.YtdbfifgblcmckacDoor
open Go.ChangeShapes Go.WideShapes Go.ChangeAt Go.RowKit
theorem and30 (x : Int) : 0 ≤ bits .and .i64 x 1073741823 ∧ bits .and .i64 x 1073741823 ≤ 1073741823 := by
  have e : bits .and .i64 x 1073741823 = IntKind.i64.wrap ((BitVec.ofInt 64 x &&& BitVec.ofInt 64 1073741823).toNat : Int) := rfl
  have h1 : (BitVec.ofInt 64 x &&& BitVec.ofInt 64 1073741823).toNat ≤ 1073741823 := by
    rw [BitVec.toNat_and]
    exact Nat.and_le_right
  rw [e]
  generalize (BitVec.ofInt 64 x &&& BitVec.ofInt 64 1073741823).toNat = y at *
  simp [IntKind.wrap, IntKind.bits, IntKind.signed]
  omega
/-- The number that a cursor begins with. -/
def newH (d : Code1) : Nat → Int
  | 0 => 10101 + d.len
  | k + 1 => bits .and .i64 (newH d k * 131 + d.z k + 7) 1073741823
theorem newH_bd (d : Code1) (h : d.len ≤ 1048576) : ∀ k, 0 ≤ newH d k ∧ newH d k ≤ 1073741823
  | 0 => by simp only [newH]; omega
  | k + 1 => and30 _
def newS (d : Code1) : St := (0, newH d (min d.len 4000))
theorem cur_new (w : World) (d : Code1) (h : Int) (t : TypeId) (hc : CodeAt w w.heap.size d) : CurS (w.alloc (.cells #[.slice d.a d.len d.cap, .int .i64 0, .int .i64 h] t)) w.heap.size d (0, h) := by
  refine ⟨?_, ?_, ?_, ?_, ?_, Nat.zero_le _, code_of_block hc fun b hb => Below.heap_alloc w _ b hb⟩
  · rw [World.cell?_alloc_mark]; rfl
  · rw [World.cell?_alloc_mark]; rfl
  · rw [World.cell?_alloc_mark]; rfl
  · rw [frozen?_alloc_cells]; simp [World.frozen?]
  · rw [frozen?_alloc_cells]; simp [World.frozen?]
set_option maxRecDepth 100000 in
set_option maxHeartbeats 1000000 in
theorem new_st (d : Code1) (w : World) (hc : CodeAt w w.heap.size d) :
    Calls Tryd.prog 16 #[.slice d.a d.len d.cap] w fun e w' => e = .returned (.pointer (some ⟨w.heap.size, 0, none⟩)) ∧ CurS w' w.heap.size d (newS d) ∧ Below w.heap.size w w' := by
  have HC : Hid (CodeAt w w.heap.size d) := hc
  obtain ⟨a, len, cap, z⟩ := d
  obtain ⟨hl, hz, hcode⟩ := hc
  simp only at hl hz hcode ⊢
  have HN : Hid (∀ k, 0 ≤ newH ⟨a, len, cap, z⟩ k ∧ newH ⟨a, len, cap, z⟩ k ≤ 1073741823) := newH_bd _ hl
  have HZ : Hid _ := hz
  have HD : Hid _ := hcode
  clear hz hcode
  go_enter Tryd.func16, Tryd.ntmps16
  go_wp2
  go_loop [3, 4] (fun t i => ∃ k : Nat, k ≤ len ∧ k ≤ 4000 ∧ i = .int .i64 k ∧ t = .int .i64 (newH ⟨a, len, cap, z⟩ k)) (fun _ i => 4001 - (intOf i).toNat)
  case atStart => exact ⟨0, by omega, by omega, rfl, rfl⟩
  case round =>
    obtain ⟨k, hk, hk4, rfl, rfl⟩ := hrel
    obtain ⟨n1, n2⟩ := HN.out k
    by_cases hlt : k < len ∧ k < 4000
    · obtain ⟨hlt, hlt4⟩ := hlt
      obtain ⟨b, o, rfl, hb, hcell⟩ := HD.out k hlt
      obtain ⟨z1, z2⟩ := HZ.out k hlt
      have HE : Hid (newH ⟨some ⟨b, o, none⟩, len, cap, z⟩ (k + 1) = bits .and .i64 (newH ⟨some ⟨b, o, none⟩, len, cap, z⟩ k * 131 + z k + 7) 1073741823) := rfl
      clear HD HZ HN
      generalize newH ⟨some ⟨b, o, none⟩, len, cap, z⟩ k = h at *
      go_wp2
      go_round
      case rel => exact ⟨k + 1, by omega, by omega, by go_num, by rw [HE.out]⟩
      case measure => simp [intOf]; omega
    · have HK : Hid (newS ⟨a, len, cap, z⟩ = (0, newH ⟨a, len, cap, z⟩ k)) := by
        show _ = _
        unfold newS
        simp only
        rw [show min len 4000 = k by omega]
      clear HD HZ HN
      generalize newH ⟨a, len, cap, z⟩ k = h at *
      by_cases hlt : k < len
      · go_wp2
        go_ret
        exact ⟨rfl, by rw [HK.out]; exact cur_new w ⟨a, len, cap, z⟩ h _ HC.out, (Below.refl _ _).alloc (Nat.le_refl _) _⟩
      · go_wp2
        go_ret
        exact ⟨rfl, by rw [HK.out]; exact cur_new w ⟨a, len, cap, z⟩ h _ HC.out, (Below.refl _ _).alloc (Nat.le_refl _) _⟩
end Go.Proofs.YtdbfifgblcmckacDoor
