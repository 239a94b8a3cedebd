/- The law's marks: into data, found again. -/
import Derived.Test.YtilaonjjpfebgaaMkd
set_option linter.unusedVariables false
namespace Go.Proofs.Ytilaonjjpfebgaa
open Go.ChangeShapes Go.WideShapes Go.ChangeAt Go.RowKit
theorem OwnR.keep {B T sz : Nat} {a : Option Addr} {n cap : Nat} {w w' : World} (h : OwnR B T sz a n cap w) (hk : ∀ (b : Nat) (X : Array Value), w.heap[b]? = some (.cells X T (0, 0)) → w'.heap[b]? = some (.cells X T (0, 0))) : OwnR B T sz a n cap w' := by
  rcases h with h | ⟨g, X, h1, h2, h3, h4⟩
  · exact .inl h
  · exact .inr ⟨g, X, h1, h2, hk g X h3, h4⟩
theorem RowD.through {w w' : World} {a : Option Addr} {n k : Nat} (h : RowD w w.heap.size a (mkD k n)) (hk : ∀ (b : Nat) (X : Array Value), w.heap[b]? = some (.cells X 49 (0, 0)) → w'.heap[b]? = some (.cells X 49 (0, 0))) (ho : ∀ b o, a = some ⟨b, o, none⟩ → ∃ X, w.heap[b]? = some (.cells X 49 (0, 0))) : RowD w' w'.heap.size a (mkD k n) := by
  intro i d hd
  obtain ⟨b, o, h1, h2, h3⟩ := h i d hd
  obtain ⟨X, hX⟩ := ho b o h1
  have hX' := hk b X hX
  exact ⟨b, o, h1, (Array.getElem?_eq_some_iff.1 hX').1, h3.block (hX'.trans hX.symm)⟩
theorem OwnR.blk {B T sz : Nat} {a : Option Addr} {n cap : Nat} {w : World} (h : OwnR B T sz a n cap w) : ∀ b o, a = some ⟨b, o, none⟩ → ∃ X, w.heap[b]? = some (.cells X T (0, 0)) := by
  intro b o hb
  rcases h with ⟨h, _⟩ | ⟨g, X, h1, h2, h3, h4⟩
  · rw [h] at hb; cases hb
  · rw [h1] at hb
    injection hb with hb
    injection hb with hb
    subst hb
    exact ⟨X, h3⟩
set_option maxRecDepth 100000 in
set_option maxHeartbeats 1000000 in
theorem markData_any (a b : Option Addr) (n m ca cb B : Nat) (w : World) (ha : OwnR B 49 5 a n ca w) (hb : OwnR B 3 1 b m cb w) (hn : n ≤ 1000) (hm : m ≤ 1048576) (hB : B ≤ w.heap.size) :
    Calls Try.prog 7 #[.agg #[.slice a n ca, .slice b m cb], .int .i64 1] w fun e w' => e = .returned (.int .i64 ((1 + n * 5 + m : Nat) : Int)) ∧ Below B w w' ∧ RowD w' w'.heap.size a (mkD 1 n) ∧ RowI w' w'.heap.size b (mkI (1 + n * 5) m) ∧ (∀ (c : Nat) (X : Array Value), w.heap[c]? = some (.cells X 25 (0, 0)) → w'.heap[c]? = some (.cells X 25 (0, 0))) := by
  obtain ⟨w0, hw0⟩ : ∃ w0, w0 = w.alloc (Obj.cells #[Value.slice a n ca, Value.slice b m cb] 25) := ⟨_, rfl⟩
  have hb0 : Below w.heap.size w w0 := by rw [hw0]; exact (Below.refl _ _).alloc (Nat.le_refl _) _
  have k0 : w0.heap[w.heap.size]? = some (Obj.cells #[Value.slice a n ca, Value.slice b m cb] 25) := by rw [hw0]; exact blk_at _ _ _ rfl
  have kp : ∀ (T : TypeId) (c : Nat) (X : Array Value), w.heap[c]? = some (.cells X T (0, 0)) → w0.heap[c]? = some (.cells X T (0, 0)) := fun T c X h => (hb0.block c (Array.getElem?_eq_some_iff.1 h).1).trans h
  have ha0 : OwnR B 49 5 a n ca w0 := ha.keep (kp 49)
  have hb1 : OwnR B 3 1 b m cb w0 := hb.keep (kp 3)
  have HC : Hid (Calls Try.prog 16 #[.slice a n ca, .int .i64 1] w0 fun e w' => e = .returned (.int .i64 ((1 + n * 5 : Nat) : Int)) ∧ Below B w0 w' ∧ RowD w' w'.heap.size a (mkD 1 n) ∧ (∀ (b : Nat) (X : Array Value), w0.heap[b]? = some (.cells X 3 (0, 0)) → w'.heap[b]? = some (.cells X 3 (0, 0))) ∧ (∀ (b : Nat) (X : Array Value), w0.heap[b]? = some (.cells X 25 (0, 0)) → w'.heap[b]? = some (.cells X 25 (0, 0))) ∧ (∀ (c o : Nat), a = some ⟨c, o, none⟩ → ∃ X, w'.heap[c]? = some (.cells X 49 (0, 0)))) := markD_any a n ca 1 B w0 ha0 (by omega) (by omega) (by omega) (by have := hb0.size; omega)
  have HW : Hid (w0 = w.alloc (Obj.cells #[Value.slice a n ca, Value.slice b m cb] 25)) := hw0
  have K0 : Hid (w0.heap[w.heap.size]? = some (Obj.cells #[Value.slice a n ca, Value.slice b m cb] 25)) := k0
  have HB0 : Hid (Below B w w0) := hb0.mono hB
  have HA0 : Hid (OwnR B 49 5 a n ca w0) := ha0
  have HK : Hid (∀ (c : Nat) (X : Array Value), w.heap[c]? = some (.cells X 25 (0, 0)) → w0.heap[c]? = some (.cells X 25 (0, 0))) := kp 25
  have HO0 : Hid (OwnR B 3 1 b m cb w0) := hb1
  clear hw0 hb0 k0 kp ha0 hb1 ha hb
  go_enter Try.func7, Try.ntmps7
  go_wp2_with fail
  rw [← HW.out]
  refine HC.out.mono ?_
  rintro e w1 ⟨rfl, h1, h2, h3, h4, h5⟩
  have k1 := h4 _ _ K0.out
  have c1 := cell_blk (j := 1) k1 rfl
  obtain ⟨q, hq⟩ : ∃ q, q = 1 + n * 5 := ⟨_, rfl⟩
  rw [← hq]
  have hz1 := h1.size
  have hz0 := HB0.out.size
  have HI : Hid (Calls Try.prog 17 #[.slice b m cb, .int .i64 q] w1 fun e w' => e = .returned (.int .i64 ((q + m : Nat) : Int)) ∧ Below B w1 w' ∧ RowI w' w'.heap.size b (mkI q m) ∧ (∀ (b : Nat) (X : Array Value), w1.heap[b]? = some (.cells X 49 (0, 0)) → w'.heap[b]? = some (.cells X 49 (0, 0))) ∧ (∀ (b : Nat) (X : Array Value), w1.heap[b]? = some (.cells X 25 (0, 0)) → w'.heap[b]? = some (.cells X 25 (0, 0)))) := markI_any b m cb q B w1 (HO0.out.keep h3) hm (by omega) (by omega)
  have HB1 : Hid (Below B w w1) := HB0.out.trans h1
  have HD1 : Hid (RowD w1 w1.heap.size a (mkD 1 n)) := h2
  have HX : Hid (∀ c o, a = some ⟨c, o, none⟩ → ∃ X, w1.heap[c]? = some (.cells X 49 (0, 0))) := h5
  have HQ : Hid (q = 1 + n * 5) := hq
  have HK1 : Hid (∀ (c : Nat) (X : Array Value), w.heap[c]? = some (.cells X 25 (0, 0)) → w1.heap[c]? = some (.cells X 25 (0, 0))) := fun c X h => h4 c X (HK.out c X h)
  clear h1 h2 h3 h4 h5 k1 hq
  go_wp2_with fail
  refine HI.out.mono ?_
  rintro e w2 ⟨rfl, g1, g2, g3, g4⟩
  have HF : Hid (Below B w w2 ∧ RowD w2 w2.heap.size a (mkD 1 n) ∧ RowI w2 w2.heap.size b (mkI (1 + n * 5) m) ∧ (∀ (c : Nat) (X : Array Value), w.heap[c]? = some (.cells X 25 (0, 0)) → w2.heap[c]? = some (.cells X 25 (0, 0)))) := ⟨HB1.out.trans g1, RowD.through HD1.out g3 HX.out, by rw [← HQ.out]; exact g2, fun c X h => g4 c X (HK1.out c X h)⟩
  clear g1 g2 g3 g4
  go_wp2
  go_ret
  exact ⟨by rw [HQ.out]; rfl, HF.out⟩
set_option maxRecDepth 100000 in
set_option maxHeartbeats 1000000 in
theorem heldData_any (a b : Option Addr) (n m ca cb : Nat) (w : World) (hr : RowD w w.heap.size a (mkD 1 n)) (hi : RowI w w.heap.size b (mkI (1 + n * 5) m)) (hn : n ≤ 1000) (hm : m ≤ 1048576) :
    Calls Try.prog 8 #[.agg #[.slice a n ca, .slice b m cb], .int .i64 1] w fun e w' => Ans w (.int .i64 ((1 + n * 5 + m : Nat) : Int)) e w' := by
  obtain ⟨w0, hw0⟩ : ∃ w0, w0 = w.alloc (Obj.cells #[Value.slice a n ca, Value.slice b m cb] 25) := ⟨_, rfl⟩
  have hb0 : Below w.heap.size w w0 := by rw [hw0]; exact (Below.refl _ _).alloc (Nat.le_refl _) _
  have k0 : w0.heap[w.heap.size]? = some (Obj.cells #[Value.slice a n ca, Value.slice b m cb] 25) := by rw [hw0]; exact blk_at _ _ _ rfl
  have HC : Hid (Calls Try.prog 18 #[.slice a n ca, .int .i64 1] w0 fun e w' => Ans w0 (.int .i64 ((1 + n * 5 : Nat) : Int)) e w') := heldDatumS_any a n ca 1 w0 (by omega) (by omega) (by omega) ((hr.below hb0).mono hb0.size)
  have HW : Hid (w0 = w.alloc (Obj.cells #[Value.slice a n ca, Value.slice b m cb] 25)) := hw0
  have K0 : Hid (w0.heap[w.heap.size]? = some (Obj.cells #[Value.slice a n ca, Value.slice b m cb] 25)) := k0
  have HB0 : Hid (Below w.heap.size w w0) := hb0
  have HI0 : Hid (RowI w w.heap.size b (mkI (1 + n * 5) m)) := hi
  clear hw0 hb0 k0 hr hi
  go_enter Try.func8, Try.ntmps8
  go_wp2_with fail
  rw [← HW.out]
  refine HC.out.mono ?_
  rintro e w1 ⟨rfl, h1⟩
  have k1 := (h1.block _ (Array.getElem?_eq_some_iff.1 K0.out).1).trans K0.out
  have c1 := cell_blk (j := 1) k1 rfl
  obtain ⟨q, hq⟩ : ∃ q, q = 1 + n * 5 := ⟨_, rfl⟩
  rw [← hq]
  rw [← hq] at HI0
  have hz0 := HB0.out.size
  have hB1 : Below w.heap.size w w1 := HB0.out.trans (h1.mono hz0)
  have HI : Hid (Calls Try.prog 19 #[.slice b m cb, .int .i64 q] w1 fun e w' => Ans w1 (.int .i64 ((q + m : Nat) : Int)) e w') := heldIntS_any b m cb q w1 hm (by omega) ((HI0.out.below hB1).mono hB1.size)
  have HB1 : Hid (Below w.heap.size w w1) := hB1
  have HQ : Hid (q = 1 + n * 5) := hq
  have hd1 : decide ((q : Int) < 0) = false := by simp
  clear h1 k1 hq hB1
  go_wp2_with fail
  refine HI.out.mono ?_
  rintro e w2 ⟨rfl, g1⟩
  have HB2 : Hid (Below w.heap.size w w2) := HB1.out.trans (g1.mono HB1.out.size)
  obtain ⟨r, hr⟩ : ∃ r, r = q + m := ⟨_, rfl⟩
  rw [← hr]
  have HR : Hid (r = q + m) := hr
  have hd2 : decide ((r : Int) < 0) = false := by simp
  clear g1 hr
  go_wp2
  go_ret
  exact ⟨by rw [← HQ.out, ← HR.out]; rfl, HB2.out⟩
end Go.Proofs.Ytilaonjjpfebgaa
