/- The program's Prim. -/
import Derived.Test.YtngelfohpkpekaaPih
import Derived.Test.YtngelfohpkpekaaHox
set_option linter.unusedVariables false
namespace Go.Proofs.Ytngelfohpkpekaa
open Go.ChangeShapes Go.WideShapes Go.ChangeAt Go.RowKit
set_option maxRecDepth 100000 in
set_option maxHeartbeats 4000000 in
theorem implPrim_any (ah : Option Addr) (ch : Nat) (h : List Cel) (s : ByteArray) (aa : Option Addr) (ca : Nat) (a : List Val) (r : List Cel × Val × Int) (w : World) (hl : h.length ≤ 1048576) (hch : h.length ≤ ch) (hsm : ∀ d ∈ h, d.small) (hla : a.length ≤ 1048576) (has : ∀ v ∈ a, v.small) (hss : s.size ≤ 1048576)
    (hrh : RowC w w.heap.size ah h) (hra : RowV w w.heap.size aa a) (hR : PrimR h s a r) :
    Calls Try.prog 6 #[.slice ah h.length ch, .string s, .slice aa a.length ca] w fun e w' => PpPost w.heap.size r w e w' := by
  have hb0 : Below w.heap.size w (w.alloc Z28) := (Below.refl _ _).alloc (Nat.le_refl _) _
  have hk0 : (w.alloc Z28).heap[w.heap.size]? = some Z28 := blk_at _ _ _ rfl
  have hs0 : (w.alloc Z28).heap.size = w.heap.size + 1 := by simp
  have HCP : Hid (Calls Try.prog 22 #[.slice ah h.length ch] (w.alloc Z28) fun e w' => ∃ v, e = .returned v ∧ OwnH w' (w.alloc Z28).heap.size w'.heap.size v h ∧ Below (w.alloc Z28).heap.size (w.alloc Z28) w') := copyHeap_any ah h ch _ hl hsm ((hrh.below hb0).mono hb0.size)
  have HHO : Hid (∀ w1, Below w.heap.size w w1 → Calls Try.prog 23 #[.slice ah h.length ch] w1 fun e w' => HpPost h w1 e w') := fun w1 hb => implHeap_any ah h ch w1 hl hch hsm ((hrh.below hb).mono hb.size)
  have HVO : Hid (∀ w1, Below w.heap.size w w1 → Calls Try.prog 24 #[.slice ah h.length ch, .slice aa a.length ca] w1 fun e w' => Ans w1 (.bool (a.all (·.ok h))) e w') := fun w1 hb => valuesOk_any ah h ch aa a ca w1 hl hla has ((hrh.below hb).mono hb.size) ((hra.below hb).mono hb.size)
  have HDO : Hid (∀ (B T bp : Nat) (xa : Option Addr) (xc : Nat) (W : World), Below w.heap.size w W → W.heap[bp]? = some (.cells #[.slice xa h.length xc, .slice aa a.length ca] 52 (0, 0)) → OwnH W B T (.slice xa h.length xc) h → T ≤ bp → B ≤ T → HeapP h → (∀ v ∈ a, v.ok h = true) → Calls Try.prog 25 #[.pointer (some ⟨bp, 0, none⟩), .string s] W fun e w' => DoP B T bp (.slice aa a.length ca) r W e w') := fun B T bp xa xc W hb hP ho hT hBT hH hok => do_all B T bp xa xc aa ca h s a W hP ((hra.below hb).mono hb.size) hsm has ho hT hBT hla hss r hH hok hR
  have HR : Hid (PrimR h s a r) := hR
  have HBAD : Hid (∀ (W : World) (v : Value) (T : Nat), OwnH W (w.heap.size + 1) T v h → T ≤ W.heap.size → Below w.heap.size w W → PpPost w.heap.size (h, zv, 2) w (.returned (.tuple #[v, .agg #[.int .i64 0, .int .i64 0, .string ⟨#[]⟩], .int .i64 2])) (((W.setCell ⟨w.heap.size, 0, none⟩ (.int .i64 0)).setCell ⟨w.heap.size, 1, none⟩ (.int .i64 0)).setCell ⟨w.heap.size, 2, none⟩ (.string ⟨#[]⟩))) := fun W v T ho hT hb => by
    have oth : ∀ b, b ≠ w.heap.size → (((W.setCell ⟨w.heap.size, 0, none⟩ (.int .i64 0)).setCell ⟨w.heap.size, 1, none⟩ (.int .i64 0)).setCell ⟨w.heap.size, 2, none⟩ (.string ⟨#[]⟩)).heap[b]? = W.heap[b]? := fun b hb => (heap_setCell_other _ _ _ _ hb).trans ((heap_setCell_other _ _ _ _ hb).trans (heap_setCell_other _ _ _ _ hb))
    exact ⟨v, rfl, ((ho.keep fun b h1 _ _ => oth b (by omega)).weak (Nat.le_succ _) (by simpa using hT)), put_below hb (Nat.le_refl _) _ _ _⟩
  clear hrh hra hsm has hR
  go_enter Try.func6, Try.ntmps6
  go_wp2_with fail
  refine HCP.out.mono ?_
  rintro e w1 ⟨xv, rfl, ho1, hb1⟩
  rw [hs0] at ho1
  have k1 := blk_keep hk0 hb1 (by omega)
  have hbw1 := hb0.trans (hb1.mono hb0.size)
  obtain ⟨xa, xc, rfl, hxc⟩ := ho1.slice
  have hs1 : w.heap.size < w1.heap.size := (Array.getElem?_eq_some_iff.1 k1).1
  have hb2 : Below w1.heap.size w1 (w1.alloc (Obj.cells #[.slice xa h.length xc, .slice aa a.length ca] 52)) := (Below.refl _ _).alloc (Nat.le_refl _) _
  have HO2 : Hid (OwnH (w1.alloc (Obj.cells #[.slice xa h.length xc, .slice aa a.length ca] 52)) (w.heap.size + 1) w1.heap.size (.slice xa h.length xc) h) := ho1.below hb2
  have KP2 : Hid ((w1.alloc (Obj.cells #[.slice xa h.length xc, .slice aa a.length ca] 52)).heap[w1.heap.size]? = some (Obj.cells #[.slice xa h.length xc, .slice aa a.length ca] 52)) := blk_at _ _ _ rfl
  have K2 : Hid ((w1.alloc (Obj.cells #[.slice xa h.length xc, .slice aa a.length ca] 52)).heap[w.heap.size]? = some Z28) := blk_past k1
  have HB2 : Hid (Below w.heap.size w (w1.alloc (Obj.cells #[.slice xa h.length xc, .slice aa a.length ca] 52))) := hbw1.trans (hb2.mono hbw1.size)
  clear ho1 k1 hbw1 hb1 hb0 hk0 hs0 HCP hb2
  go_wp2_with fail
  refine (HHO.out _ HB2.out).mono ?_
  rintro e w3 ⟨b3, rfl, hq3, hb3⟩
  have hsP : (w1.alloc (Obj.cells #[.slice xa h.length xc, .slice aa a.length ca] 52)).heap.size = w1.heap.size + 1 := by simp
  have hs3 : w1.heap.size + 1 ≤ w3.heap.size := by have := hb3.size; omega
  have HO3 : Hid (OwnH w3 (w.heap.size + 1) w1.heap.size (.slice xa h.length xc) h) := HO2.out.below hb3
  have KP3 : Hid (w3.heap[w1.heap.size]? = some (Obj.cells #[.slice xa h.length xc, .slice aa a.length ca] 52)) := blk_keep KP2.out hb3 (by omega)
  have K3 : Hid (w3.heap[w.heap.size]? = some Z28) := blk_keep K2.out hb3 (by omega)
  have HB3 : Hid (Below w.heap.size w w3) := HB2.out.trans (hb3.mono HB2.out.size)
  have HQ3 : Hid (b3 = true ↔ HeapP h) := hq3
  clear hb3 hq3 HO2 KP2 K2 HB2 HHO hsP
  cases b3 with
  | false =>
    have he : r = (h, zv, 2) := no_heap (fun hh => by have := HQ3.out.2 hh; cases this) HR.out
    have K4 : Hid (w3.heap[w.heap.size]? = some Z28) := K3.out
    have c0 := cell_blk (j := 0) K4.out rfl
    have c1 := cell_blk (j := 1) K4.out rfl
    have c2 := cell_blk (j := 2) K4.out rfl
    have f0 := frozen_blk K4.out 0
    have f1 := frozen_blk K4.out 1
    have f2 := frozen_blk K4.out 2
    have q0 : w3.cell? ⟨w1.heap.size, 0, none⟩ = some (.slice xa h.length xc) := cell_blk (j := 0) KP3.out rfl
    have HE : Hid (r = (h, zv, 2)) := he
    have HOO : Hid (OwnH w3 (w.heap.size + 1) w1.heap.size (.slice xa h.length xc) h) := HO3.out
    have HBB : Hid (Below w.heap.size w w3) := HB3.out
    have hs9 := (show w1.heap.size ≤ w3.heap.size by omega)
    clear he
    go_wp2
    refine bodyPost_ret (res_tct rfl _ _ w.heap.size _ _ _ rfl (put_blk _ _ _ K4.out)) rfl ?_
    rw [HE.out]
    exact HBAD.out _ _ _ HOO.out hs9 HBB.out
  | true =>
    have HH : Hid (HeapP h) := HQ3.out.1 rfl
    go_wp2_with fail
    refine (HVO.out _ HB3.out).mono ?_
    rintro e w4 ⟨rfl, hb4⟩
    have hs4 : w1.heap.size + 1 ≤ w4.heap.size := by have := hb4.size; omega
    have HO4 : Hid (OwnH w4 (w.heap.size + 1) w1.heap.size (.slice xa h.length xc) h) := HO3.out.below hb4
    have KP4 : Hid (w4.heap[w1.heap.size]? = some (Obj.cells #[.slice xa h.length xc, .slice aa a.length ca] 52)) := blk_keep KP3.out hb4 (by omega)
    have K5 : Hid (w4.heap[w.heap.size]? = some Z28) := blk_keep K3.out hb4 (by omega)
    have HB4 : Hid (Below w.heap.size w w4) := HB3.out.trans (hb4.mono HB3.out.size)
    obtain ⟨vb, hvb⟩ : ∃ vb, a.all (·.ok h) = vb := ⟨_, rfl⟩
    rw [hvb]
    have HVB : Hid (a.all (·.ok h) = vb) := hvb
    clear hb4 hvb HO3 KP3 K3 HB3 HVO HQ3
    cases vb with
    | false =>
      obtain ⟨v, hv, hvn⟩ : ∃ v, v ∈ a ∧ v.ok h = false := by
        have := HVB.out
        rw [List.all_eq_false] at this
        obtain ⟨v, h1, h2⟩ := this
        exact ⟨v, h1, by simpa using h2⟩
      have he : r = (h, zv, 2) := no_value hv hvn HR.out
      have K4 : Hid (w4.heap[w.heap.size]? = some Z28) := K5.out
      have c0 := cell_blk (j := 0) K4.out rfl
      have c1 := cell_blk (j := 1) K4.out rfl
      have c2 := cell_blk (j := 2) K4.out rfl
      have f0 := frozen_blk K4.out 0
      have f1 := frozen_blk K4.out 1
      have f2 := frozen_blk K4.out 2
      have q0 : w4.cell? ⟨w1.heap.size, 0, none⟩ = some (.slice xa h.length xc) := cell_blk (j := 0) KP4.out rfl
      have HE : Hid (r = (h, zv, 2)) := he
      have HOO : Hid (OwnH w4 (w.heap.size + 1) w1.heap.size (.slice xa h.length xc) h) := HO4.out
      have HBB : Hid (Below w.heap.size w w4) := HB4.out
      have hs9 := (show w1.heap.size ≤ w4.heap.size by omega)
      clear he
      go_wp2
      refine bodyPost_ret (res_tct rfl _ _ w.heap.size _ _ _ rfl (put_blk _ _ _ K4.out)) rfl ?_
      rw [HE.out]
      exact HBAD.out _ _ _ HOO.out hs9 HBB.out
    | true =>
      have HOK : Hid (∀ v ∈ a, v.ok h = true) := by
        intro v hv
        have := HVB.out
        rw [List.all_eq_true] at this
        exact this v hv
      have HD : Hid (Calls Try.prog 25 #[.pointer (some ⟨w1.heap.size, 0, none⟩), .string s] w4 fun e w' => DoP (w.heap.size + 1) w1.heap.size w1.heap.size (.slice aa a.length ca) r w4 e w') := HDO.out _ _ _ xa xc w4 HB4.out KP4.out HO4.out (Nat.le_refl _) hs1 HH.out HOK.out
      clear HDO HH HOK HVB HR
      go_wp2_with fail
      refine HD.out.mono ?_
      rintro e w5 ⟨rfl, hv, h1, h2, h3, h4, h5⟩
      have k5 : w5.heap[w.heap.size]? = some Z28 := (h5.block w.heap.size (by omega)).trans K5.out
      have kA : (w5.alloc (Obj.cells #[.int .i64 r.2.1.k, .int .i64 r.2.1.n, .string r.2.1.s] 29)).heap[w.heap.size]? = some Z28 := blk_past k5
      have kP : (w5.alloc (Obj.cells #[.int .i64 r.2.1.k, .int .i64 r.2.1.n, .string r.2.1.s] 29)).heap[w1.heap.size]? = some (.cells #[hv, .slice aa a.length ca] 52 (0, 0)) := blk_past h1
      have p0 : (w5.alloc (Obj.cells #[.int .i64 r.2.1.k, .int .i64 r.2.1.n, .string r.2.1.s] 29)).cell? ⟨w1.heap.size, 0, none⟩ = some hv := cell_blk (j := 0) kP rfl
      have p5 : w5.cell? ⟨w1.heap.size, 0, none⟩ = some hv := cell_blk (j := 0) h1 rfl
      have a0 := cell_blk (j := 0) kA rfl
      have a1 := cell_blk (j := 1) kA rfl
      have a2 := cell_blk (j := 2) kA rfl
      have q0 := frozen_blk kA 0
      have q1 := frozen_blk kA 1
      have q2 := frozen_blk kA 2
      have g0 := cell_blk (j := 0) k5 rfl
      have g1 := cell_blk (j := 1) k5 rfl
      have g2 := cell_blk (j := 2) k5 rfl
      have z0 := frozen_blk k5 0
      have z1 := frozen_blk k5 1
      have z2 := frozen_blk k5 2
      have hs5 : w.heap.size < w5.heap.size := (Array.getElem?_eq_some_iff.1 k5).1
      have K6 : Hid (w5.heap[w.heap.size]? = some Z28) := k5
      have HO5 : Hid (OwnH w5 (w.heap.size + 1) w5.heap.size hv r.1) := h2
      have HB5 : Hid (Below w.heap.size w w5) := HB4.out.trans (h5.mono (by omega))
      obtain ⟨va, vc, rfl, hvc⟩ := h2.slice
      have hs15 : w1.heap.size < w5.heap.size := (Array.getElem?_eq_some_iff.1 h1).1
      clear k5 kA kP h1 h2 h3 h4 h5 HD K5 HO4 KP4 HB4
      go_wp2_with fail
      go_region
      all_goals go_wp2
      all_goals
        refine bodyPost_ret (res_tct rfl _ _ w.heap.size _ _ _ rfl (blk_past (put_blk _ _ _ K6.out))) rfl ?_
        refine ⟨_, rfl, ((HO5.out.keep fun b h1 _ h3 => ?_).weak (Nat.le_succ _) ?_), below_drewN ((put_below HB5.out (Nat.le_refl _) _ _ _).alloc (by simp; omega) _) 1⟩
        · refine (alloc_lt _ _ (by simpa using h3)).trans ?_
          have hb : b ≠ w.heap.size := by omega
          exact (heap_setCell_other _ _ _ _ hb).trans ((heap_setCell_other _ _ _ _ hb).trans (heap_setCell_other _ _ _ _ hb))
        · show w5.heap.size ≤ (Array.push _ _).size
          simp
end Go.Proofs.Ytngelfohpkpekaa
