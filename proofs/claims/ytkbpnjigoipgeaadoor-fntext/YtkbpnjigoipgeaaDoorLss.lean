/- The model's list of a value. -/
import Derived.Test.YtkbpnjigoipgeaaDoorLsp
set_option linter.unusedVariables false
namespace Go.Proofs.YtkbpnjigoipgeaaDoor
open Go.ChangeShapes Go.WideShapes Go.ChangeAt Go.RowKit
set_option maxRecDepth 100000 in
set_option maxHeartbeats 1000000 in
theorem l14List_any (v : Val) (a : Option Addr) (h : List Cel) (ca : Nat) (L : List Val) (z : Val) (w : World) (hl : h.length ≤ 1048576) (hLl : L.length ≤ 300) (hls : Lst h v L z) (bz : Bool) (hbz : bz = decide (z.k = 3)) (hr : RowC w w.heap.size a h) :
    Calls Tryd.prog 29 #[.slice a h.length ca, .agg #[.int .i64 v.k, .int .i64 v.n, .string v.s]] w fun e w' => LsPost L bz w e w' := by
  obtain ⟨i28, hi28, hz280, hz281, hz282⟩ := info_parts info28
  have HR : Hid (RowC w w.heap.size a h) := hr
  have HLS : Hid (Lst h v L z) := hls
  have HBZ : Hid (bz = decide (z.k = 3)) := hbz
  clear hr hls hbz
  go_enter Tryd.func29, Tryd.ntmps29
  go_wp2
  go_loopw [6] (fun o wr => ∃ (done rest : List Val) (u : Val), L = done ++ rest ∧ Lst h u rest z ∧ wr.ownsRow (w.heap.size + 1) 26 3 o done.length (vcells done) ∧ wr.heap[w.heap.size]? = some (.cells #[.int .i64 u.k, .int .i64 u.n, .string u.s] 26 (0, 0)) ∧ Below w.heap.size w wr)
    (fun o _ => L.length - slen o)
  case atStart =>
    refine ⟨[], L, v, rfl, HLS.out, own_empty (blk_at _ _ _ (by simp)) (Nat.le_refl _), blk_past (blk_at _ _ _ rfl), ((Below.refl _ _).alloc (Nat.le_refl _) _).alloc (by simp) _⟩
  case round =>
    obtain ⟨done, rest, u, hL, hu, ho, hk, hb⟩ := hrel
    obtain ⟨ao, co, rfl, hco⟩ := own_slice ho
    have hsz := hb.size
    have hlt0 : w.heap.size < wr.heap.size := (Array.getElem?_eq_some_iff.1 hk).1
    have HL : Hid (L = done ++ rest) := hL
    have hdl : done.length ≤ 300 := by rw [hL] at hLl; simp at hLl; omega
    have HO : Hid (wr.ownsRow (w.heap.size + 1) 26 3 (.slice ao done.length co) done.length (vcells done)) := ho
    have HK : Hid (wr.heap[w.heap.size]? = some (.cells #[.int .i64 u.k, .int .i64 u.n, .string u.s] 26 (0, 0))) := hk
    have HB : Hid (Below w.heap.size w wr) := hb
    have e0 := cell_blk (j := 0) hk rfl
    have e1 := cell_blk (j := 1) hk rfl
    have e2 := cell_blk (j := 2) hk rfl
    cases hu with
    | last h5 =>
      have q5 : (z.k == 5) = false := by simp [h5]
      clear hL ho hk hb
      rw [List.append_nil] at HL
      obtain rfl := HL.out
      by_cases h3 : z.k = 3
      · have q3 : (z.k != 3) = false := by simp [h3]
        have HD : Hid (bz = true) := HBZ.out.trans (decide_eq_true h3)
        clear h3 h5
        go_wp2
        go_ret2
        exact LsPost.mk' HD.out (OwnV.of (own_weak HO.out (by omega))) HB.out
      · have q3 : (z.k != 3) = true := by simp [h3]
        have HD : Hid (bz = false) := HBZ.out.trans (decide_eq_false h3)
        clear h3 h5
        go_wp2
        go_ret2
        exact LsPost.mk' HD.out (OwnV.of (l := []) (own_empty (blk_at _ _ _ rfl) hsz)) (HB.out.alloc hsz _)
    | @pair m s c x y l _ hc hvs hy =>
      have hm : m < h.length := (List.getElem?_eq_some_iff.1 hc).1
      obtain ⟨b, of, rfl, hbl, an, cn, av, cv, c0, c1, c2, c3, c4, c5, hrows⟩ := (HR.out.below hb) m c hc
      obtain ⟨-, r2, -, hcv⟩ := hrows
      rw [hvs] at r2 hcv c5
      obtain ⟨bv, ov, rfl, hbv, x0, x1, x2⟩ := r2 0 x rfl
      obtain ⟨bv', ov', ev', -, y0, y1, y2⟩ := r2 1 y rfl
      simp only [Option.some.injEq, Addr.mk.injEq, and_true] at ev'
      obtain ⟨rfl, rfl⟩ := ev'
      rw [Nat.zero_mul, Nat.add_zero] at x0 x1 x2
      rw [Nat.one_mul] at y0 y1 y2
      rw [Nat.add_assoc] at y1 y2
      simp only [Nat.reduceAdd] at y1 y2
      have hlen2 : [x, y].length = 2 := rfl
      rw [hlen2] at hcv c5
      clear c0 c1 c2 c3 c4 hvs r2 hlen2 hc
      have hs1 : (wr.alloc (Obj.cells #[.int .i64 x.k, .int .i64 x.n, .string x.s] 26)).heap.size = wr.heap.size + 1 := by simp
      have ho1 : (wr.alloc (Obj.cells #[.int .i64 x.k, .int .i64 x.n, .string x.s] 26)).ownsRow (w.heap.size + 1) 26 3 (.slice ao done.length co) done.length (vcells done) := own_keep ho (fun b hb => (((Below.refl wr.heap.size wr).alloc (Nat.le_refl _) (Obj.cells #[.int .i64 x.k, .int .i64 x.n, .string x.s] 26)).block b (own_blk ho hb).2.1))
      have hn1 : 0 < 1 → ∃ ad, (some ⟨wr.heap.size, 0, none⟩ : Option Addr) = some ad ∧ ∀ j u, (vcells [x])[j]? = some u → (wr.alloc (Obj.cells #[.int .i64 x.k, .int .i64 x.n, .string x.s] 26)).cell? (ad.add j) = some u := fun _ => ⟨_, rfl, news_one (blk_at _ _ _ rfl)⟩
      have hb1 : Below wr.heap.size wr (wr.alloc (Obj.cells #[.int .i64 x.k, .int .i64 x.n, .string x.s] 26)) := (Below.refl _ _).alloc (Nat.le_refl _) _
      have HB1 : Hid (Below wr.heap.size wr (wr.alloc (Obj.cells #[.int .i64 x.k, .int .i64 x.n, .string x.s] 26))) := hb1
      have hbk : ∀ k, (Value.slice ao done.length co).ownBlock = some k → w.heap.size + 1 ≤ k := fun k hk => (own_blk ho hk).1
      have HBK : Hid (∀ k, (Value.slice ao done.length co).ownBlock = some k → w.heap.size + 1 ≤ k) := hbk
      have HC5 : Hid (wr.cell? ⟨b, of + m * 6 + 5, none⟩ = some (.slice (some ⟨bv, ov, none⟩) 2 cv)) := c5
      have HY : Hid (wr.cell? ⟨bv, ov + 3, none⟩ = some (.int .i64 y.k) ∧ wr.cell? ⟨bv, ov + 4, none⟩ = some (.int .i64 y.n) ∧ wr.cell? ⟨bv, ov + 5, none⟩ = some (.string y.s)) := ⟨y0, y1, y2⟩
      have HYL : Hid (Lst h y l z) := hy
      clear y0 y1 y2 hb1 ho hk hb hbk hy hL
      go_wp2_with (at_builtin; go_loud (refine wpList_append_row rfl _ _ 32 rfl (w.heap.size + 1) 26 i28 _ 3 32 Tryd.underlying32 hi28 hz280 hz281 hz282 rfl (by omega) (.slice ao done.length co) done.length (vcells done) rfl ho1 (some ⟨wr.heap.size, 0, none⟩) 1 1 (vcells [x]) rfl rfl hn1 (vcells_one [x]) (by unfold maxLen; omega) (by omega) (by omega) ?_; intro nv w2 hown2 hgr2 hat2; refine stop ?_))
      have hlow : ∀ k, k ≤ w.heap.size → w2.heap[k]? = wr.heap[k]? := fun k hk => (hgr2.block k (by omega) (fun q => by have := HBK.out k q.symm; omega)).trans (HB1.out.block k (by omega))
      have hs2 : wr.heap.size + 1 ≤ w2.heap.size := by have := hgr2.size; omega
      have HB2 : Hid (Below w.heap.size w w2) := (HB.out.trans (HB1.out.mono hsz)).grown hgr2 (by omega) (fun k hk => by have := HBK.out k hk; omega)
      have HO2 : Hid (w2.ownsRow (w.heap.size + 1) 26 3 nv (done ++ [x]).length (vcells (done ++ [x]))) := by
        show w2.ownsRow _ _ _ _ _ _
        rw [vcells_app, List.length_append]
        exact hown2
      have hk2 : w2.heap[w.heap.size]? = some (.cells #[.int .i64 5, .int .i64 (m : Int), .string s] 26 (0, 0)) := (hlow _ (Nat.le_refl _)).trans HK.out
      have HK2 : Hid (w2.heap[w.heap.size]? = some (.cells #[.int .i64 5, .int .i64 (m : Int), .string s] 26 (0, 0))) := hk2
      have g0 := cell_blk (j := 0) hk2 rfl
      have g1 := cell_blk (j := 1) hk2 rfl
      have g2 := cell_blk (j := 2) hk2 rfl
      have f0 := frozen_blk hk2 0
      have f1 := frozen_blk hk2 1
      have f2 := frozen_blk hk2 2
      have c5' : w2.cell? ⟨b, of + m * 6 + 5, none⟩ = some (.slice (some ⟨bv, ov, none⟩) 2 cv) := (World.cell?_of_block (w := wr) (a := ⟨b, _, none⟩) (hlow b (by omega))).trans HC5.out
      have y0 : w2.cell? ⟨bv, ov + 3, none⟩ = some (.int .i64 y.k) := (World.cell?_of_block (w := wr) (a := ⟨bv, _, none⟩) (hlow bv (by omega))).trans HY.out.1
      have y1 : w2.cell? ⟨bv, ov + 4, none⟩ = some (.int .i64 y.n) := (World.cell?_of_block (w := wr) (a := ⟨bv, _, none⟩) (hlow bv (by omega))).trans HY.out.2.1
      have y2 : w2.cell? ⟨bv, ov + 5, none⟩ = some (.string y.s) := (World.cell?_of_block (w := wr) (a := ⟨bv, _, none⟩) (hlow bv (by omega))).trans HY.out.2.2
      clear hown2 hgr2 hat2 hk2 hlow ho1 hn1 hs1 x0 x1 x2 e0 e1 e2 c5
      unfold Hid
      go_wp2
      go_roundw
      case rel =>
        obtain ⟨av2, cv2, rfl, hcv2⟩ := own_slice HO2.out
        refine ⟨done ++ [x], l, y, by rw [HL.out]; simp, HYL.out, ?_, ?_, ?_⟩
        · exact own_keep HO2.out (fun k hk => by
            have h1 := (own_blk HO2.out hk).1
            rw [heap_setCell_other _ _ _ _ (by simp; omega), heap_setCell_other _ _ _ _ (by simp; omega), heap_setCell_other _ _ _ _ (by simp; omega)])
        · exact heap_setCell_same _ _ _ _ _ _ (heap_setCell_same _ _ _ _ _ _ (heap_setCell_same _ _ _ _ _ _ HK2.out))
        · exact ((HB2.out.setCell (p := ⟨_, _, none⟩) (Nat.le_refl _) _).setCell (p := ⟨_, _, none⟩) (Nat.le_refl _) _).setCell (p := ⟨_, _, none⟩) (Nat.le_refl _) _
      case measure =>
        obtain ⟨av2, cv2, rfl, hcv2⟩ := own_slice HO2.out
        rw [HL.out]
        simp [slen]
        omega
end Go.Proofs.YtkbpnjigoipgeaaDoor
