/- The model's primitives: null?, pair?, not. -/
import Derived.Test.YtngelfohpkpekaaPmh
set_option linter.unusedVariables false
namespace Go.Proofs.Ytngelfohpkpekaa
open Go.ChangeShapes Go.WideShapes Go.ChangeAt Go.RowKit
set_option maxRecDepth 100000 in
set_option maxHeartbeats 2000000 in
theorem l7Prim_9 (B : Nat) (ah : Option Addr) (ch : Nat) (h : List Cel) (s : ByteArray) (aa : Option Addr) (ca : Nat) (x : Val) (w : World) (hs : s.toList = [110, 117, 108, 108, 63]) (hB : B ≤ w.heap.size) (hH : HeapP h) (ho : OwnH w B w.heap.size (.slice ah h.length ch) h) (hx : x.ok h = true) (hr : RowV w w.heap.size aa [x]) :
    Calls Try.prog 28 #[.slice ah h.length ch, .string s, .slice aa 1 ca] w fun e w' => PpPost B (prim1 9 h x) w e w' := by
  have e0 : (s.toList == [43]) = false := by rw [hs]; rfl
  have e1 : (s.toList == [45]) = false := by rw [hs]; rfl
  have e2 : (s.toList == [42]) = false := by rw [hs]; rfl
  have e3 : (s.toList == [60]) = false := by rw [hs]; rfl
  have e4 : (s.toList == [61]) = false := by rw [hs]; rfl
  have e6 : (s.toList == [99, 111, 110, 115]) = false := by rw [hs]; rfl
  have e7 : (s.toList == [99, 97, 114]) = false := by rw [hs]; rfl
  have e8 : (s.toList == [99, 100, 114]) = false := by rw [hs]; rfl
  have e9 : (s.toList == [110, 117, 108, 108, 63]) = true := by rw [hs]; rfl
  have e10 : (s.toList == [112, 97, 105, 114, 63]) = false := by rw [hs]; rfl
  have e11 : (s.toList == [110, 111, 116]) = false := by rw [hs]; rfl
  have HO : Hid (OwnH w B w.heap.size (.slice ah h.length ch) h) := ho
  have hb0 : Below w.heap.size w (w.alloc (Obj.cells #[.int .i64 0, .int .i64 0, .string ⟨#[]⟩] 29)) := (Below.refl _ _).alloc (Nat.le_refl _) _
  have hk0 : (w.alloc (Obj.cells #[.int .i64 0, .int .i64 0, .string ⟨#[]⟩] 29)).heap[w.heap.size]? = some (Obj.cells #[.int .i64 0, .int .i64 0, .string ⟨#[]⟩] 29) := blk_at _ _ _ rfl
  have hk2 : ((w.alloc (Obj.cells #[.int .i64 0, .int .i64 0, .string ⟨#[]⟩] 29)).alloc (Obj.cells #[.int .i64 0, .int .i64 0, .string ⟨#[]⟩] 29)).heap[w.heap.size + 1]? = some (Obj.cells #[.int .i64 0, .int .i64 0, .string ⟨#[]⟩] 29) := blk_at _ _ _ (by simp)
  have hlen : h.length ≤ 300 := hH.1
  have hsz0 : (w.alloc (Obj.cells #[.int .i64 0, .int .i64 0, .string ⟨#[]⟩] 29)).heap.size = w.heap.size + 1 := by simp
  obtain ⟨b, o, rfl, hbl, x0, x1, x2⟩ := hr 0 x rfl
  rw [Nat.zero_mul, Nat.add_zero] at x0 x1 x2
  have HBo : Hid (∀ b w, Calls Try.prog 43 #[.bool b] w fun e w' => Ans w (.agg #[.int .i64 2, .int .i64 (bvN b), .string ⟨#[]⟩]) e w') := fun b w => l7Bool_any b w
  have HR : Hid (prim1 9 h x = (h, bv (decide (x.k = 3)), 0)) := by show _ = _; simp [prim1]
  have hq : (x.k == 3) = decide (x.k = 3) := by by_cases h : x.k = 3 <;> simp [h]
  rw [HR.out]
  clear hs ho hr hx HR
  go_enter Try.func28, Try.ntmps28
  go_wp2_with fail
  refine (HBo.out _ _).mono ?_
  rintro e w1 ⟨rfl, hb1⟩
  have k1 := blk_keep hk0 hb1 (by simp)
  have K1 : Hid (w1.heap[w.heap.size]? = some (Obj.cells #[.int .i64 0, .int .i64 0, .string ⟨#[]⟩] 29)) := k1
  have hb2 := hb0.trans (hb1.mono hb0.size)
  have HB2 : Hid (Below w.heap.size w w1) := hb2
  have g0 := cell_blk (j := 0) k1 rfl
  have g1 := cell_blk (j := 1) k1 rfl
  have g2 := cell_blk (j := 2) k1 rfl
  have z0 := frozen_blk k1 0
  have z1 := frozen_blk k1 1
  have z2 := frozen_blk k1 2
  clear k1 hb1 hb2
  go_wp2
  refine bodyPost_ret (res_tct rfl _ _ w.heap.size _ _ _ rfl (put_blk _ _ _ K1.out)) rfl ?_
  exact ⟨_, rfl, HO.out.fin (put_below HB2.out (Nat.le_refl _) _ _ _), (put_below HB2.out (Nat.le_refl _) _ _ _).mono hB⟩
set_option maxRecDepth 100000 in
set_option maxHeartbeats 2000000 in
theorem l7Prim_10 (B : Nat) (ah : Option Addr) (ch : Nat) (h : List Cel) (s : ByteArray) (aa : Option Addr) (ca : Nat) (x : Val) (w : World) (hs : s.toList = [112, 97, 105, 114, 63]) (hB : B ≤ w.heap.size) (hH : HeapP h) (ho : OwnH w B w.heap.size (.slice ah h.length ch) h) (hx : x.ok h = true) (hr : RowV w w.heap.size aa [x]) :
    Calls Try.prog 28 #[.slice ah h.length ch, .string s, .slice aa 1 ca] w fun e w' => PpPost B (prim1 10 h x) w e w' := by
  have e0 : (s.toList == [43]) = false := by rw [hs]; rfl
  have e1 : (s.toList == [45]) = false := by rw [hs]; rfl
  have e2 : (s.toList == [42]) = false := by rw [hs]; rfl
  have e3 : (s.toList == [60]) = false := by rw [hs]; rfl
  have e4 : (s.toList == [61]) = false := by rw [hs]; rfl
  have e6 : (s.toList == [99, 111, 110, 115]) = false := by rw [hs]; rfl
  have e7 : (s.toList == [99, 97, 114]) = false := by rw [hs]; rfl
  have e8 : (s.toList == [99, 100, 114]) = false := by rw [hs]; rfl
  have e9 : (s.toList == [110, 117, 108, 108, 63]) = false := by rw [hs]; rfl
  have e10 : (s.toList == [112, 97, 105, 114, 63]) = true := by rw [hs]; rfl
  have e11 : (s.toList == [110, 111, 116]) = false := by rw [hs]; rfl
  have HO : Hid (OwnH w B w.heap.size (.slice ah h.length ch) h) := ho
  have hb0 : Below w.heap.size w (w.alloc (Obj.cells #[.int .i64 0, .int .i64 0, .string ⟨#[]⟩] 29)) := (Below.refl _ _).alloc (Nat.le_refl _) _
  have hk0 : (w.alloc (Obj.cells #[.int .i64 0, .int .i64 0, .string ⟨#[]⟩] 29)).heap[w.heap.size]? = some (Obj.cells #[.int .i64 0, .int .i64 0, .string ⟨#[]⟩] 29) := blk_at _ _ _ rfl
  have hk2 : ((w.alloc (Obj.cells #[.int .i64 0, .int .i64 0, .string ⟨#[]⟩] 29)).alloc (Obj.cells #[.int .i64 0, .int .i64 0, .string ⟨#[]⟩] 29)).heap[w.heap.size + 1]? = some (Obj.cells #[.int .i64 0, .int .i64 0, .string ⟨#[]⟩] 29) := blk_at _ _ _ (by simp)
  have hlen : h.length ≤ 300 := hH.1
  have hsz0 : (w.alloc (Obj.cells #[.int .i64 0, .int .i64 0, .string ⟨#[]⟩] 29)).heap.size = w.heap.size + 1 := by simp
  obtain ⟨b, o, rfl, hbl, x0, x1, x2⟩ := hr 0 x rfl
  rw [Nat.zero_mul, Nat.add_zero] at x0 x1 x2
  have HBo : Hid (∀ b w, Calls Try.prog 43 #[.bool b] w fun e w' => Ans w (.agg #[.int .i64 2, .int .i64 (bvN b), .string ⟨#[]⟩]) e w') := fun b w => l7Bool_any b w
  have HR : Hid (prim1 10 h x = (h, bv (decide (x.k = 5)), 0)) := by show _ = _; simp [prim1]
  have hq : (x.k == 5) = decide (x.k = 5) := by by_cases h : x.k = 5 <;> simp [h]
  rw [HR.out]
  clear hs ho hr hx HR
  go_enter Try.func28, Try.ntmps28
  go_wp2_with fail
  refine (HBo.out _ _).mono ?_
  rintro e w1 ⟨rfl, hb1⟩
  have k1 := blk_keep hk0 hb1 (by simp)
  have K1 : Hid (w1.heap[w.heap.size]? = some (Obj.cells #[.int .i64 0, .int .i64 0, .string ⟨#[]⟩] 29)) := k1
  have hb2 := hb0.trans (hb1.mono hb0.size)
  have HB2 : Hid (Below w.heap.size w w1) := hb2
  have g0 := cell_blk (j := 0) k1 rfl
  have g1 := cell_blk (j := 1) k1 rfl
  have g2 := cell_blk (j := 2) k1 rfl
  have z0 := frozen_blk k1 0
  have z1 := frozen_blk k1 1
  have z2 := frozen_blk k1 2
  clear k1 hb1 hb2
  go_wp2
  refine bodyPost_ret (res_tct rfl _ _ w.heap.size _ _ _ rfl (put_blk _ _ _ K1.out)) rfl ?_
  exact ⟨_, rfl, HO.out.fin (put_below HB2.out (Nat.le_refl _) _ _ _), (put_below HB2.out (Nat.le_refl _) _ _ _).mono hB⟩
set_option maxRecDepth 100000 in
set_option maxHeartbeats 2000000 in
theorem l7Prim_11 (B : Nat) (ah : Option Addr) (ch : Nat) (h : List Cel) (s : ByteArray) (aa : Option Addr) (ca : Nat) (x : Val) (w : World) (hs : s.toList = [110, 111, 116]) (hB : B ≤ w.heap.size) (hH : HeapP h) (ho : OwnH w B w.heap.size (.slice ah h.length ch) h) (hx : x.ok h = true) (hr : RowV w w.heap.size aa [x]) :
    Calls Try.prog 28 #[.slice ah h.length ch, .string s, .slice aa 1 ca] w fun e w' => PpPost B (prim1 11 h x) w e w' := by
  have e0 : (s.toList == [43]) = false := by rw [hs]; rfl
  have e1 : (s.toList == [45]) = false := by rw [hs]; rfl
  have e2 : (s.toList == [42]) = false := by rw [hs]; rfl
  have e3 : (s.toList == [60]) = false := by rw [hs]; rfl
  have e4 : (s.toList == [61]) = false := by rw [hs]; rfl
  have e6 : (s.toList == [99, 111, 110, 115]) = false := by rw [hs]; rfl
  have e7 : (s.toList == [99, 97, 114]) = false := by rw [hs]; rfl
  have e8 : (s.toList == [99, 100, 114]) = false := by rw [hs]; rfl
  have e9 : (s.toList == [110, 117, 108, 108, 63]) = false := by rw [hs]; rfl
  have e10 : (s.toList == [112, 97, 105, 114, 63]) = false := by rw [hs]; rfl
  have e11 : (s.toList == [110, 111, 116]) = true := by rw [hs]; rfl
  have HO : Hid (OwnH w B w.heap.size (.slice ah h.length ch) h) := ho
  have hb0 : Below w.heap.size w (w.alloc (Obj.cells #[.int .i64 0, .int .i64 0, .string ⟨#[]⟩] 29)) := (Below.refl _ _).alloc (Nat.le_refl _) _
  have hk0 : (w.alloc (Obj.cells #[.int .i64 0, .int .i64 0, .string ⟨#[]⟩] 29)).heap[w.heap.size]? = some (Obj.cells #[.int .i64 0, .int .i64 0, .string ⟨#[]⟩] 29) := blk_at _ _ _ rfl
  have hk2 : ((w.alloc (Obj.cells #[.int .i64 0, .int .i64 0, .string ⟨#[]⟩] 29)).alloc (Obj.cells #[.int .i64 0, .int .i64 0, .string ⟨#[]⟩] 29)).heap[w.heap.size + 1]? = some (Obj.cells #[.int .i64 0, .int .i64 0, .string ⟨#[]⟩] 29) := blk_at _ _ _ (by simp)
  have hlen : h.length ≤ 300 := hH.1
  have hsz0 : (w.alloc (Obj.cells #[.int .i64 0, .int .i64 0, .string ⟨#[]⟩] 29)).heap.size = w.heap.size + 1 := by simp
  obtain ⟨b, o, rfl, hbl, x0, x1, x2⟩ := hr 0 x rfl
  rw [Nat.zero_mul, Nat.add_zero] at x0 x1 x2
  have HBo : Hid (∀ b w, Calls Try.prog 43 #[.bool b] w fun e w' => Ans w (.agg #[.int .i64 2, .int .i64 (bvN b), .string ⟨#[]⟩]) e w') := fun b w => l7Bool_any b w
  have HT : Hid (∀ w, Calls Try.prog 44 #[.agg #[.int .i64 x.k, .int .i64 x.n, .string x.s]] w fun e w' => Ans w (.bool x.truth) e w') := fun w => specTruth_any x w
  have HR : Hid (prim1 11 h x = (h, bv (!x.truth), 0)) := by show _ = _; simp [prim1]
  rw [HR.out]
  clear hs ho hr hx HR
  go_enter Try.func28, Try.ntmps28
  go_wp2_with fail
  refine (HT.out _).mono ?_
  rintro e w0 ⟨rfl, hb9⟩
  have k9 := blk_keep hk0 hb9 (by simp)
  have hs9 : w.heap.size < w0.heap.size := (Array.getElem?_eq_some_iff.1 k9).1
  have hb8 := hb0.trans (hb9.mono hb0.size)
  clear hb9 hk0 hb0 hk2
  go_wp2_with fail
  refine (HBo.out _ _).mono ?_
  rintro e w1 ⟨rfl, hb1⟩
  have k1 := blk_keep k9 hb1 hs9
  have K1 : Hid (w1.heap[w.heap.size]? = some (Obj.cells #[.int .i64 0, .int .i64 0, .string ⟨#[]⟩] 29)) := k1
  have hb2 := hb8.trans (hb1.mono hb8.size)
  have HB2 : Hid (Below w.heap.size w w1) := hb2
  have g0 := cell_blk (j := 0) k1 rfl
  have g1 := cell_blk (j := 1) k1 rfl
  have g2 := cell_blk (j := 2) k1 rfl
  have z0 := frozen_blk k1 0
  have z1 := frozen_blk k1 1
  have z2 := frozen_blk k1 2
  clear k1 hb1 hb2 k9 hb8
  go_wp2
  refine bodyPost_ret (res_tct rfl _ _ w.heap.size _ _ _ rfl (put_blk _ _ _ K1.out)) rfl ?_
  exact ⟨_, rfl, HO.out.fin (put_below HB2.out (Nat.le_refl _) _ _ _), (put_below HB2.out (Nat.le_refl _) _ _ _).mono hB⟩
end Go.Proofs.Ytngelfohpkpekaa
