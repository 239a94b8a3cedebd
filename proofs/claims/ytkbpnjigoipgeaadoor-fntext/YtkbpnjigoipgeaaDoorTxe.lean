/- The program's teller: room and put. -/
import Derived.Test.YtkbpnjigoipgeaaDoorTxd
import Derived.Deep.RegionLaw
set_option linter.unusedVariables false
namespace Go.Proofs.YtkbpnjigoipgeaaDoor
open Go.ChangeShapes Go.WideShapes Go.ChangeAt Go.RowKit
/-- A teller in memory: its block, the bytes it has told. -/
structure TSt (w : World) (B T : Nat) (hv tv : Value) (l : List UInt8) : Prop where
  blk : w.heap[T]? = some (.cells #[hv, tv] 58)
  own : OwnB w B tv l
  ne : some T ≠ tv.ownBlock
  le : l.length ≤ 100000
  low : B ≤ T
/-- What a call of the teller leaves as it was: all blocks but its own and that of its bytes. -/
structure TG (w w' : World) (T : Nat) (tv : Value) : Prop where
  os : w'.os = w.os
  tape : w'.tape = w.tape
  output : w'.output = w.output
  size : w.heap.size ≤ w'.heap.size
  block : ∀ b, b < w.heap.size → b ≠ T → some b ≠ tv.ownBlock → w'.heap[b]? = w.heap[b]?
def Fr (w : World) (tv tv' : Value) : Prop := tv'.ownBlock = tv.ownBlock ∨ ∀ k, tv'.ownBlock = some k → w.heap.size ≤ k
set_option maxRecDepth 100000 in
theorem room_any (B T : Nat) (hv tv : Value) (l : List UInt8) (w : World) (h : TSt w B T hv tv l) :
    Calls Tryd.prog 45 #[.pointer (some ⟨T, 0, none⟩)] w fun e w' => e = .returned (.int .i64 (100000 - (l.length : Int))) ∧ w' = w := by
  obtain ⟨av, cv, rfl, _⟩ := h.own.slice
  have x1 := cell_blk (j := 1) h.blk rfl
  have hl := h.le
  clear h
  go_enter Tryd.func45, Tryd.ntmps45
  go_wp2
  go_ret
  exact ⟨rfl, rfl⟩
theorem TSt.drewN {w : World} {B T : Nat} {hv tv : Value} {l : List UInt8} (h : TSt w B T hv tv l) (n : Nat) : TSt (w.drewN n) B T hv tv l := ⟨h.blk, h.own, h.ne, h.le, h.low⟩
theorem ext_toList (s : ByteArray) (k : Nat) : (s.extract 0 k).data.toList = s.data.toList.take k := by simp
/-- What a call of the teller leaves. -/
def TPost (B T : Nat) (hv tv : Value) (l t : List UInt8) (w : World) (e : Ending) (w' : World) : Prop :=
  ∃ tv' l', e = .returned (.tuple #[]) ∧ TSt w' B T hv tv' l' ∧ Cut l' (l ++ t) ∧ TG w w' T tv ∧ Fr w tv tv'
set_option maxRecDepth 100000 in
set_option maxHeartbeats 2000000 in
theorem put_any (B T : Nat) (hv tv : Value) (l : List UInt8) (s : ByteArray) (w : World) (h : TSt w B T hv tv l) (hs : s.size ≤ 1048576) (hB : B ≤ w.heap.size) :
    Calls Tryd.prog 46 #[.pointer (some ⟨T, 0, none⟩), .string s] w fun e w' => TPost B T hv tv l s.data.toList w e w' := by
  have HRM : Hid (∀ n, Calls Tryd.prog 45 #[.pointer (some ⟨T, 0, none⟩)] (w.drewN n) fun e w' => e = .returned (.int .i64 (100000 - (l.length : Int))) ∧ w' = w.drewN n) := fun n => room_any B T hv tv l (w.drewN n) (h.drewN n)
  have x1 : w.cell? ⟨T, 1, none⟩ = some tv := cell_blk (j := 1) h.blk rfl
  have f1 : w.frozen? ⟨T, 1, none⟩ = false := frozen_blk h.blk 1
  have hl := h.le
  have HT : Hid (TSt w B T hv tv l) := h
  obtain ⟨k, hk⟩ : ∃ k, k = min s.size (100000 - l.length) := ⟨_, rfl⟩
  have hif : (if 100000 - (l.length : Int) < (s.size : Int) then 100000 - (l.length : Int) else (s.size : Int)) = (k : Int) := by
    split <;> omega
  have hk0 : (0 : Int) ≤ (k : Int) := by omega
  have hk1 : (k : Int) ≤ (s.size : Int) := by omega
  have hkl : l.length + k ≤ 100000 := by omega
  have HKE : Hid ((l ++ s.data.toList).take 100000 = l ++ (s.extract 0 k).data.toList) := by
    show _ = _
    rw [ext_toList, List.take_append, List.take_of_length_le hl]
    congr 1
    have e : s.data.toList.length = s.size := rfl
    by_cases hq : s.size ≤ 100000 - l.length
    · rw [List.take_of_length_le (by omega), List.take_of_length_le (by omega)]
    · have : k = 100000 - l.length := by omega
      rw [this]
  have hkk : (s.extract 0 k).data.toList.length ≤ k := by rw [ext_toList, List.length_take]; omega
  clear h hk
  go_enter Tryd.func46, Tryd.ntmps46
  go_wp2_with fail
  go_region_law (first
    | (refine step_append_b (by rfl) _ _ 9 (by rfl) B tv l (by rfl) (HT.out.drewN 1).own (.string (s.extract 0 k)) (s.extract 0 k).data.toList (by rfl) (src_str _ _) (by omega) hB ?_; intro v5 w5 ho5 hg5 hn5; have b5 : w5.heap[T]? = some (.cells #[hv, tv] 58) := (fr_step (HT.out.drewN 1).blk (HT.out.drewN 1).ne hg5 hn5).1; have y1 : w5.cell? ⟨T, 1, none⟩ = some tv := cell_blk (j := 1) b5 rfl; have y2 : w5.frozen? ⟨T, 1, none⟩ = false := frozen_blk b5 1; obtain ⟨a5, c5, rfl, hc5⟩ := ho5.slice)
    | (go_simp; go_at_call 45; refine (HRM.out 1).mono ?_; rintro e w4 ⟨rfl, rfl⟩))
  all_goals
    have hne5 := (fr_step (HT.out.drewN 1).blk (HT.out.drewN 1).ne hg5 hn5).2
    have HE : Hid (TPost B T hv tv l s.data.toList w (.returned (.tuple #[])) (w5.setCell ⟨T, 1, none⟩ (.slice a5 (l ++ (s.extract 0 k).data.toList).length c5))) := by
      refine ⟨_, l ++ (s.extract 0 k).data.toList, rfl, ?_, by rw [← HKE.out]; unfold Cut; rw [List.take_take, Nat.min_self], ?_, hn5⟩
      · exact ⟨heap_setCell_same _ _ _ _ _ _ b5, ho5.set hne5 _ _, hne5, by rw [List.length_append]; omega, HT.out.low⟩
      · exact ⟨hg5.os, hg5.tape, hg5.output, by simpa using hg5.size, fun b hb h1 h2 => (heap_setCell_other _ _ _ _ h1).trans (hg5.block b hb h2)⟩
    have he : (l ++ (s.extract 0 k).data.toList).length = l.length + min k s.size := by rw [List.length_append, ext_toList, List.length_take]; rfl
    have hE := HE.out
    rw [he] at hE
    have HE2 : Hid (TPost B T hv tv l s.data.toList w (.returned (.tuple #[])) (w5.setCell ⟨T, 1, none⟩ (.slice a5 (l.length + min k s.size) c5))) := hE
    clear hE
    go_wp2
    go_end0
    exact HE2.out
end Go.Proofs.YtkbpnjigoipgeaaDoor
