/- The model's primitives: car, cdr. -/
import Derived.Test.YtngelfohpkpekaaPmh
set_option linter.unusedVariables false
namespace Go.Proofs.Ytngelfohpkpekaa
open Go.ChangeShapes Go.WideShapes Go.ChangeAt Go.RowKit
theorem pair_parts {h : List Cel} {n : Int} {s : ByteArray} (hH : HeapP h) (hv : (⟨5, n, s⟩ : Val).ok h = true) : ∃ (m : Nat) (c : Cel) (v0 v1 : Val), n = m ∧ h[m]? = some c ∧ c.vals = [v0, v1] := by
  simp [Val.ok, cellB] at hv
  obtain ⟨_, h0, c, hc, hk⟩ := hv
  have hok := hH.2 _ c hc
  unfold Cel.ok Cel.shape at hok
  rw [if_pos hk] at hok
  simp at hok
  obtain ⟨m, rfl⟩ := Int.eq_ofNat_of_zero_le h0
  have hl : c.vals.length = 2 := hok.1.2
  match hvs : c.vals, hl with
  | [v0, v1], _ => exact ⟨m, c, v0, v1, rfl, by simpa using hc, hvs⟩
set_option maxRecDepth 100000 in
set_option maxHeartbeats 2000000 in
theorem l7Prim_7 (B : Nat) (ah : Option Addr) (ch : Nat) (h : List Cel) (s : ByteArray) (aa : Option Addr) (ca : Nat) (x : Val) (w : World) (hs : s.toList = [99, 97, 114]) (hB : B ≤ w.heap.size) (hH : HeapP h) (ho : OwnH w B w.heap.size (.slice ah h.length ch) h) (hx : x.ok h = true) (hr : RowV w w.heap.size aa [x]) :
    Calls Try.prog 28 #[.slice ah h.length ch, .string s, .slice aa 1 ca] w fun e w' => PpPost B (prim1 7 h x) w e w' := by
  have e0 : (s.toList == [43]) = false := by rw [hs]; rfl
  have e1 : (s.toList == [45]) = false := by rw [hs]; rfl
  have e2 : (s.toList == [42]) = false := by rw [hs]; rfl
  have e3 : (s.toList == [60]) = false := by rw [hs]; rfl
  have e4 : (s.toList == [61]) = false := by rw [hs]; rfl
  have e6 : (s.toList == [99, 111, 110, 115]) = false := by rw [hs]; rfl
  have e7 : (s.toList == [99, 97, 114]) = true := by rw [hs]; rfl
  have e8 : (s.toList == [99, 100, 114]) = false := by rw [hs]; rfl
  have e9 : (s.toList == [110, 117, 108, 108, 63]) = false := by rw [hs]; rfl
  have e10 : (s.toList == [112, 97, 105, 114, 63]) = false := by rw [hs]; rfl
  have e11 : (s.toList == [110, 111, 116]) = false := by rw [hs]; rfl
  have HO : Hid (OwnH w B w.heap.size (.slice ah h.length ch) h) := ho
  have hb0 : Below w.heap.size w (w.alloc (Obj.cells #[.int .i64 0, .int .i64 0, .string ⟨#[]⟩] 29)) := (Below.refl _ _).alloc (Nat.le_refl _) _
  have hk0 : (w.alloc (Obj.cells #[.int .i64 0, .int .i64 0, .string ⟨#[]⟩] 29)).heap[w.heap.size]? = some (Obj.cells #[.int .i64 0, .int .i64 0, .string ⟨#[]⟩] 29) := blk_at _ _ _ rfl
  have hk2 : ((w.alloc (Obj.cells #[.int .i64 0, .int .i64 0, .string ⟨#[]⟩] 29)).alloc (Obj.cells #[.int .i64 0, .int .i64 0, .string ⟨#[]⟩] 29)).heap[w.heap.size + 1]? = some (Obj.cells #[.int .i64 0, .int .i64 0, .string ⟨#[]⟩] 29) := blk_at _ _ _ (by simp)
  have hlen : h.length ≤ 300 := hH.1
  have hsz0 : (w.alloc (Obj.cells #[.int .i64 0, .int .i64 0, .string ⟨#[]⟩] 29)).heap.size = w.heap.size + 1 := by simp
  obtain ⟨b, o, rfl, hbl, x0, x1, x2⟩ := hr 0 x rfl
  rw [Nat.zero_mul, Nat.add_zero] at x0 x1 x2
  have HRC : Hid (RowC w w.heap.size ah h) := ho.row
  clear hs ho hr
  obtain ⟨xk, xn, xs⟩ := x
  by_cases hxk : xk = 5
  · subst hxk
    obtain ⟨m, c, v0, v1, rfl, hc, hvs⟩ := pair_parts hH hx
    have hml : m < h.length := (List.getElem?_eq_some_iff.1 hc).1
    have HR : Hid (prim1 7 h ⟨5, m, xs⟩ = (h, v0, 0)) := by show _ = _; simp [prim1, partP, hc, hvs]
    obtain ⟨gb, go, rfl, hgl, an, cn, av, cv, -, -, -, -, -, d5, -, rv, -, -⟩ := HRC.out m c hc
    rw [hvs] at d5 rv
    obtain ⟨vb, vo, rfl, hvl, u0, u1, u2⟩ := rv 0 v0 rfl
    have hvl : vb < w.heap.size := hvl
    rw [Nat.zero_mul, Nat.add_zero] at u0 u1 u2
    have hml2 : (m : Int) < (h.length : Int) := by omega
    rw [HR.out]
    clear HR hc hx HRC hvs
    go_enter Try.func28, Try.ntmps28
    go_wp2_with fail
    go_region
    all_goals go_wp2
    all_goals
      refine bodyPost_ret (res_tct rfl _ _ w.heap.size (.int .i64 v0.k) (.int .i64 v0.n) (.string v0.s) rfl (blk_at _ _ _ rfl)) rfl ?_
      have hbf : ∀ W, Below w.heap.size w W → PpPost B (h, v0, 0) w (.returned (.tuple #[.slice (some ⟨gb, go, none⟩) h.length ch, .agg #[.int .i64 v0.k, .int .i64 v0.n, .string v0.s], .int .i64 0])) W := fun W hb => ⟨_, rfl, HO.out.fin hb, hb.mono hB⟩
      exact hbf _ (below_drewN ((Below.refl _ _).alloc (Nat.le_refl _) _) 1)
  · have HR : Hid (prim1 7 h ⟨xk, xn, xs⟩ = (h, zv, 2)) := by show _ = _; simp [prim1, hxk]
    have q1 : (xk != 5) = true := by rw [bne_iff_ne]; exact hxk
    rw [HR.out]
    clear hx HR hxk HRC
    go_enter Try.func28, Try.ntmps28
    go_wp2
    refine bodyPost_ret (res_tct rfl _ _ w.heap.size (.int .i64 0) (.int .i64 0) (.string ⟨#[]⟩) rfl (blk_at _ _ _ rfl)) rfl ?_
    exact ⟨_, rfl, HO.out.fin hb0, hb0.mono hB⟩
set_option maxRecDepth 100000 in
set_option maxHeartbeats 2000000 in
theorem l7Prim_8 (B : Nat) (ah : Option Addr) (ch : Nat) (h : List Cel) (s : ByteArray) (aa : Option Addr) (ca : Nat) (x : Val) (w : World) (hs : s.toList = [99, 100, 114]) (hB : B ≤ w.heap.size) (hH : HeapP h) (ho : OwnH w B w.heap.size (.slice ah h.length ch) h) (hx : x.ok h = true) (hr : RowV w w.heap.size aa [x]) :
    Calls Try.prog 28 #[.slice ah h.length ch, .string s, .slice aa 1 ca] w fun e w' => PpPost B (prim1 8 h x) w e w' := by
  have e0 : (s.toList == [43]) = false := by rw [hs]; rfl
  have e1 : (s.toList == [45]) = false := by rw [hs]; rfl
  have e2 : (s.toList == [42]) = false := by rw [hs]; rfl
  have e3 : (s.toList == [60]) = false := by rw [hs]; rfl
  have e4 : (s.toList == [61]) = false := by rw [hs]; rfl
  have e6 : (s.toList == [99, 111, 110, 115]) = false := by rw [hs]; rfl
  have e7 : (s.toList == [99, 97, 114]) = false := by rw [hs]; rfl
  have e8 : (s.toList == [99, 100, 114]) = true := by rw [hs]; rfl
  have e9 : (s.toList == [110, 117, 108, 108, 63]) = false := by rw [hs]; rfl
  have e10 : (s.toList == [112, 97, 105, 114, 63]) = false := by rw [hs]; rfl
  have e11 : (s.toList == [110, 111, 116]) = false := by rw [hs]; rfl
  have HO : Hid (OwnH w B w.heap.size (.slice ah h.length ch) h) := ho
  have hb0 : Below w.heap.size w (w.alloc (Obj.cells #[.int .i64 0, .int .i64 0, .string ⟨#[]⟩] 29)) := (Below.refl _ _).alloc (Nat.le_refl _) _
  have hk0 : (w.alloc (Obj.cells #[.int .i64 0, .int .i64 0, .string ⟨#[]⟩] 29)).heap[w.heap.size]? = some (Obj.cells #[.int .i64 0, .int .i64 0, .string ⟨#[]⟩] 29) := blk_at _ _ _ rfl
  have hk2 : ((w.alloc (Obj.cells #[.int .i64 0, .int .i64 0, .string ⟨#[]⟩] 29)).alloc (Obj.cells #[.int .i64 0, .int .i64 0, .string ⟨#[]⟩] 29)).heap[w.heap.size + 1]? = some (Obj.cells #[.int .i64 0, .int .i64 0, .string ⟨#[]⟩] 29) := blk_at _ _ _ (by simp)
  have hlen : h.length ≤ 300 := hH.1
  have hsz0 : (w.alloc (Obj.cells #[.int .i64 0, .int .i64 0, .string ⟨#[]⟩] 29)).heap.size = w.heap.size + 1 := by simp
  obtain ⟨b, o, rfl, hbl, x0, x1, x2⟩ := hr 0 x rfl
  rw [Nat.zero_mul, Nat.add_zero] at x0 x1 x2
  have HRC : Hid (RowC w w.heap.size ah h) := ho.row
  clear hs ho hr
  obtain ⟨xk, xn, xs⟩ := x
  by_cases hxk : xk = 5
  · subst hxk
    obtain ⟨m, c, v0, v1, rfl, hc, hvs⟩ := pair_parts hH hx
    have hml : m < h.length := (List.getElem?_eq_some_iff.1 hc).1
    have HR : Hid (prim1 8 h ⟨5, m, xs⟩ = (h, v1, 0)) := by show _ = _; simp [prim1, partP, hc, hvs]
    obtain ⟨gb, go, rfl, hgl, an, cn, av, cv, -, -, -, -, -, d5, -, rv, -, -⟩ := HRC.out m c hc
    rw [hvs] at d5 rv
    obtain ⟨vb, vo, rfl, hvl, u0, u1, u2⟩ := rv 1 v1 rfl
    have hvl : vb < w.heap.size := hvl
    rw [Nat.one_mul] at u0 u1 u2
    have hml2 : (m : Int) < (h.length : Int) := by omega
    rw [HR.out]
    clear HR hc hx HRC hvs
    go_enter Try.func28, Try.ntmps28
    go_wp2_with fail
    go_region
    all_goals go_wp2
    all_goals
      refine bodyPost_ret (res_tct rfl _ _ w.heap.size (.int .i64 v1.k) (.int .i64 v1.n) (.string v1.s) rfl (blk_at _ _ _ rfl)) rfl ?_
      have hbf : ∀ W, Below w.heap.size w W → PpPost B (h, v1, 0) w (.returned (.tuple #[.slice (some ⟨gb, go, none⟩) h.length ch, .agg #[.int .i64 v1.k, .int .i64 v1.n, .string v1.s], .int .i64 0])) W := fun W hb => ⟨_, rfl, HO.out.fin hb, hb.mono hB⟩
      exact hbf _ (below_drewN ((Below.refl _ _).alloc (Nat.le_refl _) _) 1)
  · have HR : Hid (prim1 8 h ⟨xk, xn, xs⟩ = (h, zv, 2)) := by show _ = _; simp [prim1, hxk]
    have q1 : (xk != 5) = true := by rw [bne_iff_ne]; exact hxk
    rw [HR.out]
    clear hx HR hxk HRC
    go_enter Try.func28, Try.ntmps28
    go_wp2
    refine bodyPost_ret (res_tct rfl _ _ w.heap.size (.int .i64 0) (.int .i64 0) (.string ⟨#[]⟩) rfl (blk_at _ _ _ rfl)) rfl ?_
    exact ⟨_, rfl, HO.out.fin hb0, hb0.mono hB⟩
end Go.Proofs.Ytngelfohpkpekaa
