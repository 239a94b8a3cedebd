/- The law's marks: into rows of texts and of numbers, into programs. -/
import Derived.Test.YtjdlohjhfcmicaaMka
import Derived.Test.YtjdlohjhfcmicaaTuu
import Derived.Test.YtjdlohjhfcmicaaSzp
set_option linter.unusedVariables false
namespace Go.Proofs.Ytjdlohjhfcmicaa
open Go.ChangeShapes Go.WideShapes Go.ChangeAt Go.RowKit
/-- Blocks from B to C may hold other cells; no block has another shape; nothing else is changed. -/
structure Chg (B C : Nat) (w w' : World) : Prop where
  os : w'.os = w.os
  tape : w'.tape = w.tape
  output : w'.output = w.output
  size : w.heap.size ≤ w'.heap.size
  same : ∀ b, b < w.heap.size → (b < B ∨ C ≤ b) → w'.heap[b]? = w.heap[b]?
  shape : ∀ (b : Nat) (X : Array Value) (t : TypeId), w.heap[b]? = some (.cells X t (0, 0)) → ∃ X' : Array Value, w'.heap[b]? = some (.cells X' t (0, 0)) ∧ X'.size = X.size
theorem Chg.refl (B C : Nat) (w : World) : Chg B C w w := ⟨rfl, rfl, rfl, Nat.le_refl _, fun _ _ _ => rfl, fun _ X _ h => ⟨X, h, rfl⟩⟩
theorem Chg.trans {B C : Nat} {a b c : World} (h : Chg B C a b) (g : Chg B C b c) : Chg B C a c :=
  ⟨g.os.trans h.os, g.tape.trans h.tape, g.output.trans h.output, Nat.le_trans h.size g.size, fun k hk hb => (g.same k (Nat.lt_of_lt_of_le hk h.size) hb).trans (h.same k hk hb), fun k X t hX => by
    obtain ⟨X1, e1, s1⟩ := h.shape k X t hX
    obtain ⟨X2, e2, s2⟩ := g.shape k X1 t e1
    exact ⟨X2, e2, s2.trans s1⟩⟩
theorem Chg.of_below {B C : Nat} {w w' : World} (h : Below w.heap.size w w') : Chg B C w w' :=
  ⟨h.os, h.tape, h.output, h.size, fun k hk _ => h.block k hk, fun k X t hX => ⟨X, (h.block k (Array.getElem?_eq_some_iff.1 hX).1).trans hX, rfl⟩⟩
theorem Chg.set {B C : Nat} (w : World) {g : Nat} (h1 : B ≤ g) (h2 : g < C) (o : Nat) (v : Value) : Chg B C w (w.setCell ⟨g, o, none⟩ v) := by
  refine ⟨rfl, rfl, rfl, by simp, fun k hk hb => heap_setCell_other _ _ _ _ (by show k ≠ g; omega), fun k X t hX => ?_⟩
  by_cases hk : k = g
  · subst hk
    exact ⟨_, heap_setCell_same _ _ _ _ _ _ hX, by simp⟩
  · exact ⟨X, (heap_setCell_other _ _ _ _ hk).trans hX, rfl⟩
/-- A row that can be written, in a block from B to C that is no row of nodes. -/
def RowU (B C : Nat) (w : World) (a : Option Addr) (n : Nat) : Prop :=
  n = 0 ∨ ∃ (b o : Nat) (X : Array Value) (t : TypeId), a = some ⟨b, o, none⟩ ∧ B ≤ b ∧ b < C ∧ t ≠ 48 ∧ w.heap[b]? = some (.cells X t (0, 0)) ∧ o + n ≤ X.size
theorem RowU.chg {B C B' C' : Nat} {w w' : World} {a : Option Addr} {n : Nat} (h : RowU B C w a n) (hc : Chg B' C' w w') : RowU B C w' a n := by
  rcases h with h | ⟨b, o, X, t, h1, h2, h3, h4, h5, h6⟩
  · exact .inl h
  · obtain ⟨X', e, s⟩ := hc.shape b X t h5
    exact .inr ⟨b, o, X', t, h1, h2, h3, h4, e, by omega⟩
theorem cell_in {w : World} {b j : Nat} {X : Array Value} {t : TypeId} {v : Value} (h : w.heap[b]? = some (.cells X t (0, 0))) (hc : w.cell? ⟨b, j, none⟩ = some v) : j < X.size := by
  rw [cell_of_row w b j X t (0, 0) h] at hc
  exact (Array.getElem?_eq_some_iff.1 hc).1
theorem rowU_S {B C : Nat} {w : World} {p : Nat → Prop} {a : Option Addr} {ts : List ByteArray} (h : RowSP w p a ts) (hp : ∀ b, p b → B ≤ b ∧ b < C ∧ Unf w b) : RowU B C w a ts.length := by
  by_cases h0 : ts.length = 0
  · exact .inl h0
  · obtain ⟨x, hx⟩ : ∃ x, ts[ts.length - 1]? = some x := ⟨_, List.getElem?_eq_getElem (by omega)⟩
    obtain ⟨b, o, ha, hb, hc⟩ := h _ _ hx
    obtain ⟨h1, h2, X, t, h3, h4⟩ := hp b hb
    have := cell_in h3 hc
    exact .inr ⟨b, o, X, t, ha, h1, h2, h4, h3, by omega⟩
theorem rowU_I {B C : Nat} {w : World} {p : Nat → Prop} {a : Option Addr} {ts : List Int} (h : RowIP w p a ts) (hp : ∀ b, p b → B ≤ b ∧ b < C ∧ Unf w b) : RowU B C w a ts.length := by
  by_cases h0 : ts.length = 0
  · exact .inl h0
  · obtain ⟨x, hx⟩ : ∃ x, ts[ts.length - 1]? = some x := ⟨_, List.getElem?_eq_getElem (by omega)⟩
    obtain ⟨b, o, ha, hb, hc⟩ := h _ _ hx
    obtain ⟨h1, h2, X, t, h3, h4⟩ := hp b hb
    have := cell_in h3 hc
    exact .inr ⟨b, o, X, t, ha, h1, h2, h4, h3, by omega⟩
/-- A row of marks. -/
def RowM (w : World) (a : Option Addr) (k n : Nat) : Prop := ∀ p, p < n → ∃ b o, a = some ⟨b, o, none⟩ ∧ b < w.heap.size ∧ w.cell? ⟨b, o + p, none⟩ = some (.string (mtx (k + p)))
theorem RowM.keep {w w' : World} {a : Option Addr} {k n : Nat} (h : RowM w a k n) (hb : Below w.heap.size w w') : RowM w' a k n := by
  intro p hp
  obtain ⟨b, o, h1, h2, h3⟩ := h p hp
  exact ⟨b, o, h1, Nat.lt_of_lt_of_le h2 hb.size, (World.cell?_of_block (w := w) (a := ⟨b, _, none⟩) (hb.block b h2)).trans h3⟩
/-- Only the row's own block is changed. -/
def OnlyAt (w w' : World) (a : Option Addr) (n : Nat) : Prop := ∀ c, c < w.heap.size → (n = 0 ∨ ∀ b o, a = some ⟨b, o, none⟩ → c ≠ b) → w'.heap[c]? = w.heap[c]?
theorem cell_set_same {w : World} {b j : Nat} {X : Array Value} {t : TypeId} {v : Value} (h : w.heap[b]? = some (.cells X t (0, 0))) (hj : j < X.size) : (w.setCell ⟨b, j, none⟩ v).cell? ⟨b, j, none⟩ = some v :=
  cell_blk (heap_setCell_same _ _ _ _ _ _ h) (by rw [Array.getElem?_setIfInBounds, if_pos rfl, if_pos hj])
theorem cell_set_ne (w : World) (b j k : Nat) (v : Value) (h : j ≠ k) : (w.setCell ⟨b, j, none⟩ v).cell? ⟨b, k, none⟩ = w.cell? ⟨b, k, none⟩ := by
  apply World.cell?_setCell_other
  intro e
  injection e with _ e2
  exact h e2
set_option maxRecDepth 100000 in
set_option maxHeartbeats 1000000 in
theorem markStringS_U (B C : Nat) (a : Option Addr) (n cap k : Nat) (w : World) (h : RowU B C w a n) (hC : C ≤ w.heap.size) (hn : n ≤ 1048576) (hk1 : 1 ≤ k) (hk : k ≤ 6291456) :
    Calls Try.prog 13 #[.slice a n cap, .int .i64 (k : Int)] w fun e w' => e = .returned (.int .i64 ((k + n : Nat) : Int)) ∧ Chg B C w w' ∧ OnlyAt w w' a n ∧ RowM w' a k n := by
  go_enter Try.func13, Try.ntmps13
  go_wp2
  go_loopw [1, 5] (fun kv iv wr => ∃ (i m : Nat), i ≤ n ∧ m = k + i ∧ kv = .int .i64 m ∧ iv = .int .i64 i ∧ Chg B C w wr ∧ OnlyAt w wr a n ∧ RowM wr a k i)
    (fun kv iv _ => n - (intOf iv).toNat)
  case atStart => exact ⟨0, k, Nat.zero_le _, by omega, rfl, rfl, Chg.refl _ _ _, fun _ _ _ => rfl, fun p hp => by omega⟩
  case round =>
    obtain ⟨i, m, hi, hm, rfl, rfl, hchg, hon, hrm⟩ := hrel
    have HM : Hid (m = k + i) := hm
    have hm6 : m ≤ 7340032 := by omega
    have hm1 : 1 ≤ m := by omega
    have HG : Hid (Chg B C w wr) := hchg
    have HO : Hid (OnlyAt w wr a n) := hon
    have HR : Hid (RowM wr a k i) := hrm
    by_cases hlt : i < n
    · rcases h.chg hchg with h0 | ⟨b, o, X, t, rfl, h2, h3, h4, h5, h6⟩
      · exact absurd h0 (by omega)
      have KX : Hid (wr.heap[b]? = some (.cells X t (0, 0))) := h5
      have HC2 : Hid (b < C) := h3
      have hbl : b < wr.heap.size := (Array.getElem?_eq_some_iff.1 h5).1
      have HT : Hid (∀ w, Calls Try.prog 29 #[.int .i64 (m : Int)] w fun e w' => Ans w (.string (mtx m)) e w') := fun w => markText_any m w (by omega) (by omega)
      clear hchg hon hrm hm h5 h3
      go_wp2_with fail
      refine (HT.out _).mono ?_
      rintro e w2 ⟨rfl, hb2⟩
      have k2 := (hb2.block b hbl).trans KX.out
      have K2 : Hid (w2.heap[b]? = some (.cells X t (0, 0))) := k2
      obtain ⟨y0, e0⟩ := cell_blk' k2 (o + i) (by omega)
      have f0 := frozen_blk k2 (o + i)
      have HB2 : Hid (Below wr.heap.size wr w2) := hb2
      have hoi : o + i < X.size := by omega
      clear k2 hb2 HT
      go_wp2
      go_roundw
      case rel =>
        refine ⟨i + 1, m + 1, by omega, by have := HM.out; omega, by go_num, by go_num, (HG.out.trans (Chg.of_below HB2.out)).trans (Chg.set _ h2 HC2.out _ _), ?_, ?_⟩
        · intro c hc hcn
          have hcb : c ≠ b := by
            rcases hcn with h | h
            · omega
            · exact h b o rfl
          exact ((heap_setCell_other _ _ _ _ hcb).trans (HB2.out.block c (Nat.lt_of_lt_of_le hc HG.out.size))).trans (HO.out c hc hcn)
        · intro p hp
          refine ⟨b, o, rfl, by have := HB2.out.size; simp; omega, ?_⟩
          by_cases hpi : p = i
          · subst hpi
            rw [cell_set_same K2.out hoi, HM.out]
          · rw [cell_set_ne _ _ _ _ _ (by omega)]
            obtain ⟨b', o', h1', h2', h3'⟩ := HR.out p (by omega)
            simp only [Option.some.injEq, Addr.mk.injEq, and_true] at h1'
            obtain ⟨rfl, rfl⟩ := h1'
            exact (World.cell?_of_block (w := wr) (a := ⟨b, _, none⟩) (HB2.out.block b h2')).trans h3'
      case measure => simp [intOf]; omega
    · have hlt' : decide ((i : Int) < (n : Int)) = false := by simp; omega
      obtain rfl : i = n := by omega
      clear hlt hchg hon hrm hm h
      go_wp2
      go_ret
      exact ⟨by rw [HM.out]; rfl, HG.out, HO.out, HR.out⟩
set_option maxRecDepth 100000 in
set_option maxHeartbeats 1000000 in
theorem markIntS_U (B C : Nat) (a : Option Addr) (n cap k : Nat) (w : World) (h : RowU B C w a n) (hC : C ≤ w.heap.size) (hn : n ≤ 1048576) (hk1 : 1 ≤ k) (hk : k ≤ 7340032) :
    Calls Try.prog 41 #[.slice a n cap, .int .i64 (k : Int)] w fun e w' => e = .returned (.int .i64 ((k + n : Nat) : Int)) ∧ Chg B C w w' ∧ OnlyAt w w' a n := by
  go_enter Try.func41, Try.ntmps41
  go_wp2
  go_loopw [1, 5] (fun kv iv wr => ∃ (i m : Nat), i ≤ n ∧ m = k + i ∧ kv = .int .i64 m ∧ iv = .int .i64 i ∧ Chg B C w wr ∧ OnlyAt w wr a n)
    (fun kv iv _ => n - (intOf iv).toNat)
  case atStart => exact ⟨0, k, Nat.zero_le _, by omega, rfl, rfl, Chg.refl _ _ _, fun _ _ _ => rfl⟩
  case round =>
    obtain ⟨i, m, hi, hm, rfl, rfl, hchg, hon⟩ := hrel
    have HM : Hid (m = k + i) := hm
    have hm6 : m ≤ 8388608 := by omega
    have HG : Hid (Chg B C w wr) := hchg
    have HO : Hid (OnlyAt w wr a n) := hon
    by_cases hlt : i < n
    · rcases h.chg hchg with h0 | ⟨b, o, X, t, rfl, h2, h3, h4, h5, h6⟩
      · exact absurd h0 (by omega)
      have HC2 : Hid (b < C) := h3
      obtain ⟨y0, e0⟩ := cell_blk' h5 (o + i) (by omega)
      have f0 := frozen_blk h5 (o + i)
      clear hchg hon hm h5 h3
      go_wp2
      go_roundw
      case rel =>
        refine ⟨i + 1, m + 1, by omega, by have := HM.out; omega, by go_num, by go_num, HG.out.trans (Chg.set _ h2 HC2.out _ _), ?_⟩
        intro c hc hcn
        have hcb : c ≠ b := by
          rcases hcn with h | h
          · omega
          · exact h b o rfl
        exact (heap_setCell_other _ _ _ _ hcb).trans (HO.out c hc hcn)
      case measure => simp [intOf]; omega
    · have hlt' : decide ((i : Int) < (n : Int)) = false := by simp; omega
      obtain rfl : i = n := by omega
      clear hlt hchg hon hm h
      go_wp2
      go_ret
      exact ⟨by rw [HM.out]; rfl, HG.out, HO.out⟩
set_option maxRecDepth 100000 in
set_option maxHeartbeats 1000000 in
theorem heldStringS_any (a : Option Addr) (n cap k : Nat) (w : World) (hn : n ≤ 1048576) (hk1 : 1 ≤ k) (hk : k ≤ 6291456) (hr : RowM w a k n) :
    Calls Try.prog 14 #[.slice a n cap, .int .i64 (k : Int)] w fun e w' => Ans w (.int .i64 ((k + n : Nat) : Int)) e w' := by
  have HR : Hid (RowM w a k n) := hr
  clear hr
  go_enter Try.func14, Try.ntmps14
  go_wp2
  go_loopw [1, 5] (fun kv iv wr => ∃ (i m : Nat), i ≤ n ∧ m = k + i ∧ kv = .int .i64 m ∧ iv = .int .i64 i ∧ Below w.heap.size w wr)
    (fun kv iv _ => n - (intOf iv).toNat)
  case atStart => exact ⟨0, k, Nat.zero_le _, by omega, rfl, rfl, Below.refl _ _⟩
  case round =>
    obtain ⟨i, m, hi, hm, rfl, rfl, hb⟩ := hrel
    have HM : Hid (m = k + i) := hm
    have hm6 : m ≤ 7340032 := by omega
    have hm1 : 1 ≤ m := by omega
    have HB : Hid (Below w.heap.size w wr) := hb
    have hsz := hb.size
    by_cases hlt : i < n
    · obtain ⟨b, o, rfl, hbl, hc⟩ := HR.out i hlt
      have e0 := cell_keep hc hb hbl
      rw [← hm] at e0
      have HT : Hid (∀ w, Calls Try.prog 29 #[.int .i64 (m : Int)] w fun e w' => Ans w (.string (mtx m)) e w') := fun w => markText_any m w (by omega) (by omega)
      have hq : ((mtx m).toList != (mtx m).toList) = false := by simp
      clear hb hm hc
      go_wp2_with fail
      go_region_with (go_at_call 29; refine (HT.out _).mono ?_; rintro e w2 ⟨rfl, hb2⟩; have e1 : w2.cell? ⟨b, o + i, none⟩ = some (.string (mtx m)) := (World.cell?_of_block (w := wr) (a := ⟨b, _, none⟩) (hb2.block b (by show b < wr.heap.size; omega))).trans e0)
      all_goals
        have hb3 : Below w.heap.size w w2 := (below_drewN HB.out 1).trans (hb2.mono hsz)
        go_wp2
        go_roundw
        case rel => exact ⟨i + 1, m + 1, by omega, by have := HM.out; omega, by go_num, by go_num, hb3⟩
        case measure => simp [intOf]; omega
    · have hlt' : decide ((i : Int) < (n : Int)) = false := by simp; omega
      obtain rfl : i = n := by omega
      clear hlt hb hm
      go_wp2
      go_ret
      exact ⟨by rw [HM.out]; rfl, HB.out⟩
end Go.Proofs.Ytjdlohjhfcmicaa
