/- The model's primitives: cons. -/
import Derived.Test.YtngelfohpkpekaaPmh
set_option linter.unusedVariables false
namespace Go.Proofs.Ytngelfohpkpekaa
open Go.ChangeShapes Go.WideShapes Go.ChangeAt Go.RowKit
set_option maxRecDepth 100000 in
set_option maxHeartbeats 2000000 in
theorem l7Prim_6 (B : Nat) (ah : Option Addr) (ch : Nat) (h : List Cel) (s : ByteArray) (aa : Option Addr) (ca : Nat) (x y : Val) (w : World) (hs : s.toList = [99, 111, 110, 115]) (hB : B ≤ w.heap.size) (hH : HeapP h) (ho : OwnH w B w.heap.size (.slice ah h.length ch) h) (hx : x.ok h = true) (hy : y.ok h = true) (hr : RowV w w.heap.size aa [x, y]) :
    Calls Try.prog 28 #[.slice ah h.length ch, .string s, .slice aa 2 ca] w fun e w' => PpPost B (prim2 6 h x y) w e w' := by
  have e0 : (s.toList == [43]) = false := by rw [hs]; rfl
  have e1 : (s.toList == [45]) = false := by rw [hs]; rfl
  have e2 : (s.toList == [42]) = false := by rw [hs]; rfl
  have e3 : (s.toList == [60]) = false := by rw [hs]; rfl
  have e4 : (s.toList == [61]) = false := by rw [hs]; rfl
  have e6 : (s.toList == [99, 111, 110, 115]) = true := by rw [hs]; rfl
  have e7 : (s.toList == [99, 97, 114]) = false := by rw [hs]; rfl
  have e8 : (s.toList == [99, 100, 114]) = false := by rw [hs]; rfl
  have e9 : (s.toList == [110, 117, 108, 108, 63]) = false := by rw [hs]; rfl
  have e10 : (s.toList == [112, 97, 105, 114, 63]) = false := by rw [hs]; rfl
  have e11 : (s.toList == [110, 111, 116]) = false := by rw [hs]; rfl
  have HO : Hid (OwnH w B w.heap.size (.slice ah h.length ch) h) := ho
  have hb0 : Below w.heap.size w (w.alloc (Obj.cells #[.int .i64 0, .int .i64 0, .string ⟨#[]⟩] 29)) := (Below.refl _ _).alloc (Nat.le_refl _) _
  have hk0 : (w.alloc (Obj.cells #[.int .i64 0, .int .i64 0, .string ⟨#[]⟩] 29)).heap[w.heap.size]? = some (Obj.cells #[.int .i64 0, .int .i64 0, .string ⟨#[]⟩] 29) := blk_at _ _ _ rfl
  have hk2 : ((w.alloc (Obj.cells #[.int .i64 0, .int .i64 0, .string ⟨#[]⟩] 29)).alloc (Obj.cells #[.int .i64 0, .int .i64 0, .string ⟨#[]⟩] 29)).heap[w.heap.size + 1]? = some (Obj.cells #[.int .i64 0, .int .i64 0, .string ⟨#[]⟩] 29) := blk_at _ _ _ (by simp)
  have hlen : h.length ≤ 300 := hH.1
  have hsz0 : (w.alloc (Obj.cells #[.int .i64 0, .int .i64 0, .string ⟨#[]⟩] 29)).heap.size = w.heap.size + 1 := by simp
  obtain ⟨b, o, rfl, hbl, x0, x1, x2⟩ := hr 0 x rfl
  rw [Nat.zero_mul, Nat.add_zero] at x0 x1 x2
  obtain ⟨b', o', e', -, y0, y1, y2⟩ := hr 1 y rfl
  simp only [Option.some.injEq, Addr.mk.injEq, and_true] at e'
  obtain ⟨rfl, rfl⟩ := e'
  rw [Nat.one_mul] at y0 y1 y2
  rw [Nat.add_assoc] at y1 y2
  simp only [Nat.reduceAdd] at y1 y2
  obtain ⟨i55, hi55, hz550, hz551, hz552⟩ := info_parts info55
  clear hs ho hr
  by_cases hf : 300 ≤ h.length
  · have HR : Hid (prim2 6 h x y = (h, zv, 7)) := by show _ = _; simp [prim2, hf]
    have q1 : decide ((300 : Int) ≤ (h.length : Int)) = true := by simp; omega
    rw [HR.out]
    clear HR hx hy
    go_enter Try.func28, Try.ntmps28
    go_wp2
    refine bodyPost_ret (res_tct rfl _ _ w.heap.size (.int .i64 0) (.int .i64 0) (.string ⟨#[]⟩) rfl (blk_at _ _ _ rfl)) rfl ?_
    exact ⟨_, rfl, HO.out.fin hb0, hb0.mono hB⟩
  · have HR : Hid (prim2 6 h x y = (h ++ [consC x y], ⟨5, h.length, ⟨#[]⟩⟩, 0)) := by show _ = _; simp [prim2, hf]
    have q1 : decide ((300 : Int) ≤ (h.length : Int)) = false := by simp; omega
    have hb3 : Below w.heap.size w (((w.alloc (Obj.cells #[.int .i64 0, .int .i64 0, .string ⟨#[]⟩] 29)).alloc (Obj.cells #[.int .i64 x.k, .int .i64 x.n, .string x.s, .int .i64 y.k, .int .i64 y.n, .string y.s] 29)).alloc (Obj.cells #[.int .i64 1, .string ⟨#[]⟩, .int .i64 0, .int .i64 0, .slice none 0 0, .slice (some ⟨w.heap.size + 1, 0, none⟩) 2 2] 62)) := (hb0.alloc (by simp) _).alloc (by simp; omega) _
    have ke3 : (((w.alloc (Obj.cells #[.int .i64 0, .int .i64 0, .string ⟨#[]⟩] 29)).alloc (Obj.cells #[.int .i64 x.k, .int .i64 x.n, .string x.s, .int .i64 y.k, .int .i64 y.n, .string y.s] 29)).alloc (Obj.cells #[.int .i64 1, .string ⟨#[]⟩, .int .i64 0, .int .i64 0, .slice none 0 0, .slice (some ⟨w.heap.size + 1, 0, none⟩) 2 2] 62)).heap[w.heap.size + 1 + 1]? = some (Obj.cells #[.int .i64 1, .string ⟨#[]⟩, .int .i64 0, .int .i64 0, .slice none 0 0, .slice (some ⟨w.heap.size + 1, 0, none⟩) 2 2] 62) := blk_at _ _ _ (by simp)
    have kv3 : (((w.alloc (Obj.cells #[.int .i64 0, .int .i64 0, .string ⟨#[]⟩] 29)).alloc (Obj.cells #[.int .i64 x.k, .int .i64 x.n, .string x.s, .int .i64 y.k, .int .i64 y.n, .string y.s] 29)).alloc (Obj.cells #[.int .i64 1, .string ⟨#[]⟩, .int .i64 0, .int .i64 0, .slice none 0 0, .slice (some ⟨w.heap.size + 1, 0, none⟩) 2 2] 62)).heap[w.heap.size + 1]? = some (Obj.cells #[.int .i64 x.k, .int .i64 x.n, .string x.s, .int .i64 y.k, .int .i64 y.n, .string y.s] 29) := blk_past (blk_at _ _ _ (by simp))
    have kz3 : (((w.alloc (Obj.cells #[.int .i64 0, .int .i64 0, .string ⟨#[]⟩] 29)).alloc (Obj.cells #[.int .i64 x.k, .int .i64 x.n, .string x.s, .int .i64 y.k, .int .i64 y.n, .string y.s] 29)).alloc (Obj.cells #[.int .i64 1, .string ⟨#[]⟩, .int .i64 0, .int .i64 0, .slice none 0 0, .slice (some ⟨w.heap.size + 1, 0, none⟩) 2 2] 62)).heap[w.heap.size]? = some (Obj.cells #[.int .i64 0, .int .i64 0, .string ⟨#[]⟩] 29) := blk_past (blk_past (blk_at _ _ _ rfl))
    have hs3 : (((w.alloc (Obj.cells #[.int .i64 0, .int .i64 0, .string ⟨#[]⟩] 29)).alloc (Obj.cells #[.int .i64 x.k, .int .i64 x.n, .string x.s, .int .i64 y.k, .int .i64 y.n, .string y.s] 29)).alloc (Obj.cells #[.int .i64 1, .string ⟨#[]⟩, .int .i64 0, .int .i64 0, .slice none 0 0, .slice (some ⟨w.heap.size + 1, 0, none⟩) 2 2] 62)).heap.size = w.heap.size + 1 + 1 + 1 := by simp
    have HOH : Hid (OwnH (((w.alloc (Obj.cells #[.int .i64 0, .int .i64 0, .string ⟨#[]⟩] 29)).alloc (Obj.cells #[.int .i64 x.k, .int .i64 x.n, .string x.s, .int .i64 y.k, .int .i64 y.n, .string y.s] 29)).alloc (Obj.cells #[.int .i64 1, .string ⟨#[]⟩, .int .i64 0, .int .i64 0, .slice none 0 0, .slice (some ⟨w.heap.size + 1, 0, none⟩) 2 2] 62)) B w.heap.size (.slice ah h.length ch) h) := HO.out.below hb3
    obtain ⟨xs, hxs⟩ := HOH.out.1
    have HOV : Hid (OwnV (((w.alloc (Obj.cells #[.int .i64 0, .int .i64 0, .string ⟨#[]⟩] 29)).alloc (Obj.cells #[.int .i64 x.k, .int .i64 x.n, .string x.s, .int .i64 y.k, .int .i64 y.n, .string y.s] 29)).alloc (Obj.cells #[.int .i64 1, .string ⟨#[]⟩, .int .i64 0, .int .i64 0, .slice none 0 0, .slice (some ⟨w.heap.size + 1, 0, none⟩) 2 2] 62)) w.heap.size (.slice (some ⟨w.heap.size + 1, 0, none⟩) 2 2) [x, y]) := OwnV.of ⟨rfl, .inr ⟨w.heap.size + 1, 2, _, rfl, by omega, kv3, Nat.le_refl _, by unfold maxLen; omega, rfl, rfl⟩⟩
    have hxs' : ((((w.alloc (Obj.cells #[.int .i64 0, .int .i64 0, .string ⟨#[]⟩] 29)).alloc (Obj.cells #[.int .i64 x.k, .int .i64 x.n, .string x.s, .int .i64 y.k, .int .i64 y.n, .string y.s] 29)).alloc (Obj.cells #[.int .i64 1, .string ⟨#[]⟩, .int .i64 0, .int .i64 0, .slice none 0 0, .slice (some ⟨w.heap.size + 1, 0, none⟩) 2 2] 62)).drew).ownsRow B 62 6 (.slice ah h.length ch) h.length xs := hxs
    have HXS : Hid ((((w.alloc (Obj.cells #[.int .i64 0, .int .i64 0, .string ⟨#[]⟩] 29)).alloc (Obj.cells #[.int .i64 x.k, .int .i64 x.n, .string x.s, .int .i64 y.k, .int .i64 y.n, .string y.s] 29)).alloc (Obj.cells #[.int .i64 1, .string ⟨#[]⟩, .int .i64 0, .int .i64 0, .slice none 0 0, .slice (some ⟨w.heap.size + 1, 0, none⟩) 2 2] 62)).ownsRow B 62 6 (.slice ah h.length ch) h.length xs) := hxs
    have hone : ∀ u ∈ [Value.int .i64 1, .string ⟨#[]⟩, .int .i64 0, .int .i64 0, .slice none 0 0, .slice (some ⟨w.heap.size + 1, 0, none⟩) 2 2], u.oneCell' = true := by
      intro u hu
      simp at hu
      rcases hu with rfl | rfl | rfl | rfl | rfl <;> rfl
    rw [HR.out]
    clear HR hx hy hxs hk2
    go_enter Try.func28, Try.ntmps28
    go_wp2_with fail
    go_region_law (refine step_append_lies _ rfl _ _ 24 rfl B 62 i55 _ 6 88 Try.underlying24 hi55 hz550 hz551 hz552 rfl (by omega) (.slice ah h.length ch) h.length xs rfl hxs' ⟨w.heap.size + 1 + 1, 0, none⟩ 1 1 [.int .i64 1, .string ⟨#[]⟩, .int .i64 0, .int .i64 0, .slice none 0 0, .slice (some ⟨w.heap.size + 1, 0, none⟩) 2 2] rfl rfl (World.news_of_block ke3) hone (by omega) (by unfold maxLen; omega) (by omega) (by show B ≤ (((w.alloc (Obj.cells #[.int .i64 0, .int .i64 0, .string ⟨#[]⟩] 29)).alloc (Obj.cells #[.int .i64 x.k, .int .i64 x.n, .string x.s, .int .i64 y.k, .int .i64 y.n, .string y.s] 29)).alloc (Obj.cells #[.int .i64 1, .string ⟨#[]⟩, .int .i64 0, .int .i64 0, .slice none 0 0, .slice (some ⟨w.heap.size + 1, 0, none⟩) 2 2] 62)).heap.size; omega) (w.heap.size + 1 + 1 + 1) hs3 ?_; intro g2 c2 w4 hown4 hgr4 hat4 hlt4)
    all_goals
      have hgr5 : (((w.alloc (Obj.cells #[.int .i64 0, .int .i64 0, .string ⟨#[]⟩] 29)).alloc (Obj.cells #[.int .i64 x.k, .int .i64 x.n, .string x.s, .int .i64 y.k, .int .i64 y.n, .string y.s] 29)).alloc (Obj.cells #[.int .i64 1, .string ⟨#[]⟩, .int .i64 0, .int .i64 0, .slice none 0 0, .slice (some ⟨w.heap.size + 1, 0, none⟩) 2 2] 62)).grownBy w4 (Value.slice ah h.length ch).ownBlock := ⟨hgr4.os, hgr4.tape, hgr4.output, hgr4.size, hgr4.block⟩
      have k4 := (hgr5.block w.heap.size (by omega) (fun e => by have := (HO.out.lt e.symm).2.1; omega)).trans kz3
      have K4 : Hid (w4.heap[w.heap.size]? = some (Obj.cells #[.int .i64 0, .int .i64 0, .string ⟨#[]⟩] 29)) := k4
      have HBF : Hid (Below B w w4) := (hb3.mono hB).grown hgr5 (by omega) fun k hk => (own_blk HXS.out hk).1
      have g0 := cell_blk (j := 0) k4 rfl
      have g1 := cell_blk (j := 1) k4 rfl
      have g3 := cell_blk (j := 2) k4 rfl
      have z0 := frozen_blk k4 0
      have z1 := frozen_blk k4 1
      have z2 := frozen_blk k4 2
      have hs4 := hgr5.size
      have HFIN : Hid (∀ v0 v1 v2, OwnH (((w4.setCell ⟨w.heap.size, 0, none⟩ v0).setCell ⟨w.heap.size, 1, none⟩ v1).setCell ⟨w.heap.size, 2, none⟩ v2) B (((w4.setCell ⟨w.heap.size, 0, none⟩ v0).setCell ⟨w.heap.size, 1, none⟩ v1).setCell ⟨w.heap.size, 2, none⟩ v2).heap.size (.slice (some ⟨g2, 0, none⟩) (h.length + 1) c2) (h ++ [consC x y])) := fun v0 v1 v2 => by
        have oth : ∀ (W : World) b, b ≠ w.heap.size → (((W.setCell ⟨w.heap.size, 0, none⟩ v0).setCell ⟨w.heap.size, 1, none⟩ v1).setCell ⟨w.heap.size, 2, none⟩ v2).heap[b]? = W.heap[b]? := fun W b hb => (heap_setCell_other _ _ _ _ hb).trans ((heap_setCell_other _ _ _ _ hb).trans (heap_setCell_other _ _ _ _ hb))
        have lo4 := own_blk hown4 (b := g2) rfl
        refine OwnH.push (w := ((((((w.alloc (Obj.cells #[.int .i64 0, .int .i64 0, .string ⟨#[]⟩] 29)).alloc (Obj.cells #[.int .i64 x.k, .int .i64 x.n, .string x.s, .int .i64 y.k, .int .i64 y.n, .string y.s] 29)).alloc (Obj.cells #[.int .i64 1, .string ⟨#[]⟩, .int .i64 0, .int .i64 0, .slice none 0 0, .slice (some ⟨w.heap.size + 1, 0, none⟩) 2 2] 62)).setCell ⟨w.heap.size, 0, none⟩ v0).setCell ⟨w.heap.size, 1, none⟩ v1).setCell ⟨w.heap.size, 2, none⟩ v2)) (T := w.heap.size) (lo := w.heap.size) (c := consC x y) (HOH.out.keep fun b _ hb _ => oth _ b (by omega)) (own_keep HXS.out fun b hb => oth _ b (by have := (HO.out.lt hb).2.1; omega)) (own_keep hown4 fun b hb => oth _ b ?_) ?_ ⟨rfl, .inl ⟨rfl, rfl⟩⟩ (HOV.out.keep fun b hb => oth _ b ?_) (Nat.le_refl _) (by simp; omega)
        · have hb' : g2 = b := by injection hb
          subst hb'
          rcases hat4 with q | q
          · have := (HO.out.lt q).2.1; omega
          · omega
        · refine ⟨hgr5.os, hgr5.tape, hgr5.output, by simpa using hgr5.size, fun i hi hne => ?_⟩
          by_cases hiw : i = w.heap.size
          · subst hiw
            exact (put_blk v0 v1 v2 k4).trans (put_blk v0 v1 v2 kz3).symm
          · rw [oth _ i hiw, oth _ i hiw]
            exact hgr5.block i (by simpa using hi) hne
        · have hb' : w.heap.size + 1 = b := by injection hb
          omega
      clear k4 hgr5 hgr4 hown4 hat4 hxs' ke3 kv3 kz3 hb3
      go_wp2
      have hn1 : ((h.length : Int) + 1 - 1) = (h.length : Int) := by omega
      refine bodyPost_ret (res_tct rfl _ _ w.heap.size _ _ _ rfl (put_blk _ _ _ K4.out)) rfl ?_
      refine ⟨_, ?_, HFIN.out _ _ _, put_below HBF.out hB _ _ _⟩
      first | rfl | (rw [hn1]; rfl) | (simp [hn1])
end Go.Proofs.Ytngelfohpkpekaa
