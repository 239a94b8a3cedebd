/- More plain facts for the law on numbers: decimal and hexadecimal texts; the contracts at what they are read from. -/
import Derived.Test.YtdbfifgblcmckacDoorNuma
namespace Go.Proofs.YtdbfifgblcmckacDoor
open Go.ChangeShapes Go.WideShapes Go.ChangeAt Go.RowKit
theorem rd_in (n : Int) (h1 : -1000000000 < n) (h2 : n < 1000000000) : RdRes (decL n) n true := .inl ⟨rfl, rfl, h1, h2⟩
theorem rd_out (n : Int) (h1 : -9223372036854775808 ≤ n) (h2 : n ≤ 9223372036854775807) (h : n ≤ -1000000000 ∨ 1000000000 ≤ n) : RdRes (decL n) 0 false :=
  .inr ⟨rfl, rfl, fun m a b he => by
    have := decL_inj m n ⟨by omega, by omega⟩ ⟨by omega, by omega⟩ he
    omega⟩
theorem decL_len (n : Int) : (decL n).length ≤ 21 := by
  unfold decL
  split
  · simp
  · split
    · have := digs_len_fuel 20 n.toNat; omega
    · have := digs_len_fuel 20 (-n).toNat; simp; omega
theorem size_mk (l : List UInt8) : (ByteArray.mk l.toArray).size = l.length := by simp [ByteArray.size]
theorem list_mk (l : List UInt8) : (ByteArray.mk l.toArray).data.toList = l := by simp
theorem readDec_K (l : List UInt8) (n : Int) (b : Bool) (hl : l.length ≤ 1048576) (h : RdRes l n b) (w : World) :
    Calls Tryd.prog 11 #[.string ⟨l.toArray⟩] w fun e w' => e = .returned (.tuple #[.int .i64 n, .bool b]) ∧ Below w.heap.size w w' :=
  (implRd_any ⟨l.toArray⟩ w (by rw [size_mk]; exact hl)).mono fun e w' ⟨n', b', he, hr, hw⟩ => by
    rw [list_mk] at hr
    obtain ⟨rfl, rfl⟩ := hr.unique h
    exact ⟨he, hw⟩
theorem hexV_hexD (k : Nat) (h : k < 16) : hexV (hexD k) = k := by
  rcases (by omega : k = 0 ∨ k = 1 ∨ k = 2 ∨ k = 3 ∨ k = 4 ∨ k = 5 ∨ k = 6 ∨ k = 7 ∨ k = 8 ∨ k = 9 ∨ k = 10 ∨ k = 11 ∨ k = 12 ∨ k = 13 ∨ k = 14 ∨ k = 15) with rfl | rfl | rfl | rfl | rfl | rfl | rfl | rfl | rfl | rfl | rfl | rfl | rfl | rfl | rfl | rfl
  all_goals rfl
theorem hexL_at : ∀ (l : List UInt8) (i : Nat), i < l.length → (hexL l).getD (2 * i) 0 = hexD ((l.getD i 0).toNat / 16) ∧ (hexL l).getD (2 * i + 1) 0 = hexD ((l.getD i 0).toNat % 16)
  | [], i, h => by simp at h
  | b :: l, 0, _ => ⟨rfl, rfl⟩
  | b :: l, i + 1, h => by
    have ih := hexL_at l i (by simpa using h)
    have e1 : 2 * (i + 1) = 2 * i + 1 + 1 := by omega
    rw [e1]
    simp only [hexL, List.getD_cons_succ]
    exact ih
theorem uh_of_hex (tl : List UInt8) : UhRes ⟨(hexL tl).toArray⟩ tl true := by
  have hsz : (ByteArray.mk (hexL tl).toArray).size = 2 * tl.length := by rw [size_mk, hexL_length]
  have hb : ∀ i, bAt ⟨(hexL tl).toArray⟩ i = (hexL tl).getD i 0 := fun i => by unfold bAt; rw [list_mk]
  have hok : ∀ i, i < tl.length → pairOk ⟨(hexL tl).toArray⟩ i ∧ pairB ⟨(hexL tl).toArray⟩ i = tl.getD i 0 := by
    intro i hi
    obtain ⟨h1, h2⟩ := hexL_at tl i hi
    have hlt := (tl.getD i 0).toNat_lt
    unfold pairOk pairB
    rw [hb, hb, h1, h2, hexV_hexD _ (by omega), hexV_hexD _ (by omega)]
    refine ⟨⟨by omega, by omega⟩, ?_⟩
    rw [show (16 * (((tl.getD i 0).toNat / 16 : Nat) : Int) + (((tl.getD i 0).toNat % 16 : Nat) : Int)).toNat = (tl.getD i 0).toNat by omega]
    simp
  have hu : ∀ k, k ≤ tl.length → uhL ⟨(hexL tl).toArray⟩ k = tl.take k := by
    intro k
    induction k with
    | zero => intro _; simp [uhL]
    | succ k ih =>
      intro hk
      simp only [uhL]
      rw [ih (by omega), (hok k (by omega)).2, List.take_succ_eq_append_getElem (by omega), List.getD_eq_getElem?_getD, List.getElem?_eq_getElem (by omega)]
      rfl
  refine .inl ⟨by rw [hsz]; omega, fun i hi => (hok i (by rw [hsz] at hi; omega)).1, rfl, ?_⟩
  rw [hsz, show 2 * tl.length / 2 = tl.length by omega, hu _ (Nat.le_refl _)]
  simp
theorem unhex_K (tl : List UInt8) (hl : tl.length ≤ 1000) (w : World) :
    Calls Tryd.prog 13 #[.string ⟨(hexL tl).toArray⟩] w fun e w' => e = .returned (.tuple #[.string ⟨tl.toArray⟩, .bool true]) ∧ Below w.heap.size w w' :=
  (implUh_any ⟨(hexL tl).toArray⟩ w (by rw [size_mk, hexL_length]; omega)).mono fun e w' ⟨l', b', he, hr, hw⟩ => by
    obtain ⟨rfl, rfl⟩ := hr.unique (uh_of_hex tl)
    exact ⟨he, hw⟩
theorem hex_K (tl : List UInt8) (hl : tl.length ≤ 1000) (w : World) :
    Calls Tryd.prog 14 #[.string ⟨tl.toArray⟩] w fun e w' => e = .returned (.string ⟨(hexL tl).toArray⟩) ∧ Below w.heap.size w w' := by
  have := implHex_any ⟨tl.toArray⟩ w (by rw [size_mk]; omega)
  rw [list_mk] at this
  exact this
theorem big_no (a : Option Addr) (len cap : Nat) (w : World) (h : len ≤ 1048576) :
    Calls Tryd.prog 4 #[.slice a len cap] w fun e w' => e = .returned (.bool false) ∧ w' = w := by
  have hd : decide ((1048576 : Int) < (len : Int)) = false := by simp; omega
  go_enter Tryd.func4, Tryd.ntmps4
  go_wp2
  go_ret
  exact ⟨rfl, rfl⟩
theorem big_yes (a : Option Addr) (len cap : Nat) (w : World) (h : 1048576 < len) :
    Calls Tryd.prog 4 #[.slice a len cap] w fun e w' => e = .returned (.bool true) ∧ w' = w := by
  have hd : decide ((1048576 : Int) < (len : Int)) = true := by simp; omega
  go_enter Tryd.func4, Tryd.ntmps4
  go_wp2
  go_ret
  exact ⟨rfl, rfl⟩
theorem code_below {w w' : World} {d : Code1} (h : CodeAt w w.heap.size d) (hb : Below w.heap.size w w') : CodeAt w' w'.heap.size d := by
  obtain ⟨h1, h2, h3⟩ := h
  refine ⟨h1, h2, fun j hj => ?_⟩
  obtain ⟨b, o, ha, hbl, hc⟩ := h3 j hj
  exact ⟨b, o, ha, Nat.lt_of_lt_of_le hbl hb.size, (World.cell?_of_block (w := w) (a := ⟨b, o + j, none⟩) (hb.block b hbl)).trans hc⟩
end Go.Proofs.YtdbfifgblcmckacDoor
