/- The model's expander: what has been made so far, as a result; one node more of any result. The model's expander: the end of a call whose last word is another call; l4Bool, l4If. The model's expander: l4Name. The model's expander: l4List. -/
import Derived.Test.YtgjeefedcfakdaaXpp
set_option linter.unusedVariables false
namespace Go.Proofs.Ytgjeefedcfakdaa
variable {Gz : Nat → Prop}
open Go.ChangeShapes Go.WideShapes Go.ChangeAt Go.RowKit
def XRep (Gz : Nat → Prop) (w : World) (B : Nat) (v : Value) (n : Nat) (code : Int) (r : Sx) : Prop :=
 n = r.1.length ∧ code = r.2 ∧ r.1.length ≤ 400 ∧ i64B r.2 ∧ OwnN Gz w B v r.1
theorem XRep.below {w w' : World} {B : Nat} {v : Value} {n : Nat} {code : Int} {r : Sx} (h : XRep Gz w B v n code r) (hb : Below w.heap.size w w') : XRep Gz w' B v n code r := by
 exact ⟨h.1, h.2.1, h.2.2.1, h.2.2.2.1, h.2.2.2.2.below hb⟩
theorem XRep.i64 {w : World} {B : Nat} {v : Value} {n : Nat} {code : Int} {r : Sx} (h : XRep Gz w B v n code r) : i64B code := by
 rw [h.2.1]
 exact h.2.2.2.1
def XEnd (Gz : Nat → Prop) (B : Nat) (sc st : Value) (a3 : Option Addr) (n3 c3 : Nat) (root : Int) (r : Sx) (w : World) (e : Ending) (w' : World) : Prop :=
 ∃ (a : Option Addr) (n c : Nat) (code : Int), e = .returned (xV sc st (.slice a n c) root code) ∧ XRep Gz w' B (.slice a n c) n code r ∧ w.grownBy w' (Value.slice a3 n3 c3).ownBlock ∧ ((Value.slice a n c).ownBlock = (Value.slice a3 n3 c3).ownBlock ∨ ∀ k, (Value.slice a n c).ownBlock = some k → w.heap.size ≤ k)
theorem l4Put_any (B : Nat) (a1 a2 a3 : Option Addr) (n1 n2 n3 c1 c2 c3 : Nat) (root code : Int) (r : Sx) (d : Nod) (an aa : Option Addr) (cn ca : Nat) (w : World) (hB : B ≤ w.heap.size) (hr : XRep Gz w B (.slice a3 n3 c3) n3 code r) (hrd : NodX w (NP Gz w (Value.slice a3 n3 c3)) an cn aa ca d) :
  Calls Try.prog 79 #[xV (.slice a1 n1 c1) (.slice a2 n2 c2) (.slice a3 n3 c3) root code, .agg #[.int .i64 d.k, .int .i64 d.n, .string d.s, .slice an d.names.length cn, .slice aa d.args.length ca]] w fun e w' => XEnd Gz B (.slice a1 n1 c1) (.slice a2 n2 c2) a3 n3 c3 root (putN r d) w e w' := by
 obtain ⟨ns, cx⟩ := r
 obtain ⟨rfl, rfl, hle, hc, ho⟩ := hr
 show Calls Try.prog 79 #[xV (.slice a1 n1 c1) (.slice a2 n2 c2) (.slice a3 ns.length c3) root code, .agg #[.int .i64 d.k, .int .i64 d.n, .string d.s, .slice an d.names.length cn, .slice aa d.args.length ca]] w fun e w' => XEnd Gz B (.slice a1 n1 c1) (.slice a2 n2 c2) a3 ns.length c3 root (putN (ns, code) d) w e w'
 by_cases h0 : code = 0
 ·subst h0
  by_cases hn : ns.length < 400
  ·refine (l4Put_ok B a1 a2 a3 n1 n2 c1 c2 c3 root ns d an aa cn ca w hB hn ho hrd).mono ?_
   rintro e w' ⟨a, c, rfl, q1, q2, q3⟩
   have hp : putN (ns, 0) d = (ns ++ [d], 0) := by unfold putN; rw [if_pos rfl, if_pos hn]
   rw [hp]
   exact ⟨a, _, c, 0, rfl, ⟨rfl, rfl, by simp; omega, hc, q1⟩, q2, q3⟩
  ·refine (l4Put_full B a1 a2 a3 n1 n2 c1 c2 c3 root ns d an aa cn ca w (by omega) (by have : ns.length ≤ 400 := hle; omega) ho).mono ?_
   rintro e w' ⟨a, c, rfl, q1, q2, q3⟩
   have hp : putN (ns, 0) d = (ns, 2) := by unfold putN; rw [if_pos rfl, if_neg hn]
   rw [hp]
   exact ⟨a, _, c, 2, rfl, ⟨rfl, rfl, hle, ⟨by show (-9223372036854775808 : Int) ≤ 2; decide, by show (2 : Int) ≤ 9223372036854775807; decide⟩, q1⟩, q2, q3⟩
 ·refine (l4Put_bad B a1 a2 a3 n1 n2 c1 c2 c3 root code ns d an aa cn ca w hc h0 ho).mono ?_
  rintro e w' ⟨a, c, rfl, q1, q2, q3⟩
  have hp : putN (ns, code) d = (ns, code) := by unfold putN; rw [if_neg h0]
  rw [hp]
  exact ⟨a, _, c, code, rfl, ⟨rfl, rfl, hle, hc, q1⟩, q2, q3⟩
theorem l4Fail_rep (B : Nat) (a1 a2 a3 : Option Addr) (n1 n2 n3 c1 c2 c3 : Nat) (root code cd : Int) (r : Sx) (w : World) (hcd : i64B cd) (hr : XRep Gz w B (.slice a3 n3 c3) n3 code r) :
  Calls Try.prog 80 #[xV (.slice a1 n1 c1) (.slice a2 n2 c2) (.slice a3 n3 c3) root code, .int .i64 cd] w fun e w' => XEnd Gz B (.slice a1 n1 c1) (.slice a2 n2 c2) a3 n3 c3 root (failN r cd) w e w' := by
 refine (l4Fail_any a1 a2 a3 n1 n2 n3 c1 c2 c3 root code cd w hr.i64 hcd).mono ?_
 rintro e w' ⟨rfl, hb⟩
 obtain ⟨ns, cx⟩ := r
 obtain ⟨rfl, rfl, hle, hc, ho⟩ := hr
 by_cases h0 : code = 0
 ·subst h0
  have hp : failN (ns, 0) cd = (ns, cd) := by unfold failN; rw [if_pos rfl]
  rw [hp]
  exact ⟨a3, _, c3, cd, rfl, ⟨rfl, rfl, hle, hcd, ho.below hb⟩, gb_below _ hb, .inl rfl⟩
 ·have hp : failN (ns, code) cd = (ns, code) := by unfold failN; rw [if_neg h0]
  rw [hp]
  refine ⟨a3, _, c3, code, ?_, ⟨rfl, rfl, hle, hc, ho.below hb⟩, gb_below _ hb, .inl rfl⟩
  show Ending.returned (xV _ _ _ _ (if code = 0 then cd else code)) = _
  rw [if_neg h0]
end Go.Proofs.Ytgjeefedcfakdaa
set_option linter.unusedVariables false
namespace Go.Proofs.Ytgjeefedcfakdaa
variable {Gz : Nat → Prop}
open Go.ChangeShapes Go.WideShapes Go.ChangeAt Go.RowKit
theorem XRep.own_lt {w : World} {B : Nat} {v : Value} {n : Nat} {code : Int} {r : Sx} (h : XRep Gz w B v n code r) {k : Nat} (hk : v.ownBlock = some k) : B ≤ k ∧ k < w.heap.size := by
 exact h.2.2.2.2.lt hk
theorem XRep.but {w W : World} {B g : Nat} {v : Value} {n : Nat} {code : Int} {r : Sx} {cs : Array Value} {t : TypeId} {f : Nat × Nat} (h : XRep Gz w B v n code r) (hk : ∀ b, b ≠ g → W.heap[b]? = w.heap[b]?) (hs : w.heap.size ≤ W.heap.size) (hg : w.heap[g]? = some (.cells cs t f)) (ht : t ≠ 3 ∧ t ≠ 9) (hne : v.ownBlock ≠ some g) : XRep Gz W B v n code r := by
 obtain ⟨h1, h2, h3, h4, ⟨xs, ⟨hl, hx⟩, hnd⟩⟩ := h
 refine ⟨h1, h2, h3, h4, ⟨xs, ⟨hl, ?_⟩, fun j d hd => ?_⟩⟩
 ·rcases hx with ⟨hv, h0⟩ | ⟨q, cap', cur, hv, a1, hblk, a3⟩
  ·exact .inl ⟨hv, h0⟩
  ·exact .inr ⟨q, cap', cur, hv, a1, (hk q (by rintro rfl; exact hne (by rw [hv]; rfl))).trans hblk, a3⟩
 ·obtain ⟨an, cn, aa, ca, e0, e1, e2, e3, e4, hr⟩ := hnd j d hd
  exact ⟨an, cn, aa, ca, e0, e1, e2, e3, e4, hr.keep fun b hq => ⟨⟨Nat.lt_of_lt_of_le hq.1 hs, hq.2.1, hq.2.2.1.same (hk b (hq.2.2.1.ne hg ht)), hq.2.2.2⟩, hk b (hq.2.2.1.ne hg ht)⟩⟩
def set5 (w : World) (g : Nat) (v0 v1 v2 v3 v4 : Value) : World := ((((w.setCell ⟨g, 0, none⟩ v0).setCell ⟨g, 1, none⟩ v1).setCell ⟨g, 2, none⟩ v2).setCell ⟨g, 3, none⟩ v3).setCell ⟨g, 4, none⟩ v4
theorem set5_other (w : World) (g : Nat) (v0 v1 v2 v3 v4 : Value) (b : Nat) (h : b ≠ g) : (set5 w g v0 v1 v2 v3 v4).heap[b]? = w.heap[b]? := by
 unfold set5
 rw [heap_setCell_other _ _ _ _ h, heap_setCell_other _ _ _ _ h, heap_setCell_other _ _ _ _ h, heap_setCell_other _ _ _ _ h, heap_setCell_other _ _ _ _ h]
theorem set5_below (w : World) (g : Nat) (v0 v1 v2 v3 v4 : Value) {B : Nat} (h : B ≤ g) : Below B w (set5 w g v0 v1 v2 v3 v4) := (((((Below.refl B w).setCell (p := ⟨g, _, none⟩) h _).setCell (p := ⟨g, _, none⟩) h _).setCell (p := ⟨g, _, none⟩) h _).setCell (p := ⟨g, _, none⟩) h _).setCell (p := ⟨g, _, none⟩) h _
theorem XEnd.lay {B : Nat} {sc st : Value} {a3 a : Option Addr} {n3 c3 n c g : Nat} {root code0 code : Int} {r0 r : Sx} {w Wc w1 : World} {cs : Array Value} (hr : XRep Gz w B (.slice a3 n3 c3) n3 code0 r0) (hb : Below w.heap.size w Wc) (hx : XRep Gz w1 B (.slice a n c) n code r) (hg : Wc.grownBy w1 (Value.slice a3 n3 c3).ownBlock) (hs : (Value.slice a n c).ownBlock = (Value.slice a3 n3 c3).ownBlock ∨ ∀ k, (Value.slice a n c).ownBlock = some k → Wc.heap.size ≤ k) (hgw : w.heap.size ≤ g) (hgl : g < Wc.heap.size) (hk : w1.heap[g]? = some (.cells cs 104 (0, 0))) (v0 v1 v2 v3 v4 : Value) :
  XEnd Gz B sc st a3 n3 c3 root r w (.returned (xV sc st (.slice a n c) root code)) (set5 w1 g v0 v1 v2 v3 v4) := by
 have hbl := set5_below w1 g v0 v1 v2 v3 v4 hgw
 refine ⟨a, n, c, code, rfl, hx.but (fun b hb => set5_other w1 g v0 v1 v2 v3 v4 b hb) hbl.size hk ⟨by decide, by decide⟩ (fun e => ?_), ⟨?_, ?_, ?_, ?_, ?_⟩, ?_⟩
 ·rcases hs with h | h
  ·rw [h] at e
   have := (hr.own_lt e).2
   omega
  ·have := h g e
   omega
 ·rw [hbl.os, hg.os, hb.os]
 ·rw [hbl.tape, hg.tape, hb.tape]
 ·rw [hbl.output, hg.output, hb.output]
 ·have h1 := hbl.size
  have h2 := hg.size
  have h3 := hb.size
  omega
 ·intro k hk' hne
  have h3 := hb.size
  rw [hbl.block k hk', hg.block k (by omega) hne]
  exact hb.block k hk'
 ·rcases hs with h | h
  ·exact .inl h
  ·right
   intro k hk'
   have h1 := h k hk'
   have h3 := hb.size
   omega
theorem grown_blk {W w1 w : World} {v : Value} {g : Nat} {o : Obj} {B n : Nat} {code : Int} {r : Sx} (hr : XRep Gz w B v n code r) (hg : W.grownBy w1 v.ownBlock) (hgw : w.heap.size ≤ g) (hk : W.heap[g]? = some o) : w1.heap[g]? = some o :=
 (hg.block g (alt hk) (fun e => by have := (hr.own_lt e.symm).2; omega)).trans hk
set_option maxRecDepth 100000 in
set_option maxHeartbeats 1000000 in
theorem l4Bool_any (B : Nat) (a1 a2 a3 : Option Addr) (n1 n2 n3 c1 c2 c3 : Nat) (root code n : Int) (r : Sx) (w : World) (hB : B ≤ w.heap.size) (hr : XRep Gz w B (.slice a3 n3 c3) n3 code r) :
  Calls Try.prog 85 #[xV (.slice a1 n1 c1) (.slice a2 n2 c2) (.slice a3 n3 c3) root code, .int .i64 n] w fun e w' => XEnd Gz B (.slice a1 n1 c1) (.slice a2 n2 c2) a3 n3 c3 root (putN r (boolN n)) w e w' := by
 have HR : Hid (XRep Gz w B (.slice a3 n3 c3) n3 code r) := hr
 have HB : Hid (Below w.heap.size w ((w.alloc (Obj.cells #[.slice a1 n1 c1, .slice a2 n2 c2, .slice a3 n3 c3, .int .i64 root, .int .i64 code] 104)).alloc (Obj.cells #[.slice none 0 0, .slice none 0 0, .slice none 0 0, .int .i64 0, .int .i64 0] 104))) := (bR _ _).alloc (by simp) _
 have hK : ((w.alloc (Obj.cells #[.slice a1 n1 c1, .slice a2 n2 c2, .slice a3 n3 c3, .int .i64 root, .int .i64 code] 104)).alloc (Obj.cells #[.slice none 0 0, .slice none 0 0, .slice none 0 0, .int .i64 0, .int .i64 0] 104)).heap[w.heap.size + 1]? = some (Obj.cells #[.slice none 0 0, .slice none 0 0, .slice none 0 0, .int .i64 0, .int .i64 0] 104) := blk_at _ _ _ (by simp)
 have HK : Hid _ := hK
 have HN : Hid (NodX ((w.alloc (Obj.cells #[.slice a1 n1 c1, .slice a2 n2 c2, .slice a3 n3 c3, .int .i64 root, .int .i64 code] 104)).alloc (Obj.cells #[.slice none 0 0, .slice none 0 0, .slice none 0 0, .int .i64 0, .int .i64 0] 104)) (NP Gz ((w.alloc (Obj.cells #[.slice a1 n1 c1, .slice a2 n2 c2, .slice a3 n3 c3, .int .i64 root, .int .i64 code] 104)).alloc (Obj.cells #[.slice none 0 0, .slice none 0 0, .slice none 0 0, .int .i64 0, .int .i64 0] 104)) (.slice a3 n3 c3)) none 0 none 0 (boolN n)) := ⟨⟨fun i x h => by simp [boolN] at h, fun i x h => by simp [boolN] at h, Nat.le_refl _, Nat.le_refl _⟩, .inl ⟨rfl, rfl, rfl⟩, .inl ⟨rfl, rfl, rfl⟩⟩
 clear hr hK
 unfold xV
 go_enter Try.func85, Try.ntmps85
 go_wp2_with fail
 refine (l4Put_any B a1 a2 a3 n1 n2 n3 c1 c2 c3 root code r (boolN n) none none 0 0 _ (Nat.le_trans hB HB.out.size) (HR.out.below HB.out) HN.out).mono ?_
 rintro e w1 ⟨a, n', c, code', rfl, hx, hg, hs⟩
 have k1 := grown_blk HR.out hg (by omega) HK.out
 have HX : Hid _ := hx
 have HG : Hid _ := hg
 have HS : Hid _ := hs
 have K1 : Hid _ := k1
 obtain ⟨e0, e1, e2, e3, e4⟩ := zn5 k1 rfl rfl rfl rfl rfl
 have f0 := frozen_blk k1 0
 have f1 := frozen_blk k1 1
 have f2 := frozen_blk k1 2
 have f3 := frozen_blk k1 3
 have f4 := frozen_blk k1 4
 clear hx hg hs k1
 unfold xV
 go_wp2
 refine bodyPost_ret (ret104 rfl rfl _ _ _ _ _ K1.out) rfl ?_
 exact XEnd.lay HR.out HB.out HX.out HG.out HS.out (by omega) (by simp) K1.out _ _ _ _ _
theorem rowI_block {w : World} {p : Nat → Prop} {g : Nat} {cs : Array Value} {t : TypeId} {l : List Int} (hk : w.heap[g]? = some (.cells cs t)) (hc : ∀ (i : Nat) (v : Int), l[i]? = some v → cs[i]? = some (.int .i64 v)) (hp : p g) : RowIP w p (some ⟨g, 0, none⟩) l := by
 intro i v hi
 exact ⟨g, 0, rfl, hp, by rw [Nat.zero_add]; exact cell_blk hk (hc i v hi)⟩
set_option maxRecDepth 100000 in
set_option maxHeartbeats 1000000 in
theorem l4If_any (B : Nat) (a1 a2 a3 : Option Addr) (n1 n2 n3 c1 c2 c3 : Nat) (root code x y z : Int) (r : Sx) (w : World) (hB : B ≤ w.heap.size) (hGl : ∀ g, Gz g → g < w.heap.size) (hr : XRep Gz w B (.slice a3 n3 c3) n3 code r) :
  Calls Try.prog 95 #[xV (.slice a1 n1 c1) (.slice a2 n2 c2) (.slice a3 n3 c3) root code, .int .i64 x, .int .i64 y, .int .i64 z] w fun e w' => XEnd Gz B (.slice a1 n1 c1) (.slice a2 n2 c2) a3 n3 c3 root (putN r (ifN [x, y, z])) w e w' := by
 have HR : Hid (XRep Gz w B (.slice a3 n3 c3) n3 code r) := hr
 have HB : Hid (Below w.heap.size w (((w.alloc (Obj.cells #[.slice a1 n1 c1, .slice a2 n2 c2, .slice a3 n3 c3, .int .i64 root, .int .i64 code] 104)).alloc (Obj.cells #[.slice none 0 0, .slice none 0 0, .slice none 0 0, .int .i64 0, .int .i64 0] 104)).alloc (Obj.cells #[.int .i64 x, .int .i64 y, .int .i64 z] 3))) := ((bR _ _).alloc (by simp) _).alloc (by simp; omega) _
 have hK : (((w.alloc (Obj.cells #[.slice a1 n1 c1, .slice a2 n2 c2, .slice a3 n3 c3, .int .i64 root, .int .i64 code] 104)).alloc (Obj.cells #[.slice none 0 0, .slice none 0 0, .slice none 0 0, .int .i64 0, .int .i64 0] 104)).alloc (Obj.cells #[.int .i64 x, .int .i64 y, .int .i64 z] 3)).heap[w.heap.size + 1]? = some (Obj.cells #[.slice none 0 0, .slice none 0 0, .slice none 0 0, .int .i64 0, .int .i64 0] 104) := blk_past (blk_at _ _ _ (by simp))
 have HK : Hid _ := hK
 have HN : Hid (NodX (((w.alloc (Obj.cells #[.slice a1 n1 c1, .slice a2 n2 c2, .slice a3 n3 c3, .int .i64 root, .int .i64 code] 104)).alloc (Obj.cells #[.slice none 0 0, .slice none 0 0, .slice none 0 0, .int .i64 0, .int .i64 0] 104)).alloc (Obj.cells #[.int .i64 x, .int .i64 y, .int .i64 z] 3)) (NP Gz (((w.alloc (Obj.cells #[.slice a1 n1 c1, .slice a2 n2 c2, .slice a3 n3 c3, .int .i64 root, .int .i64 code] 104)).alloc (Obj.cells #[.slice none 0 0, .slice none 0 0, .slice none 0 0, .int .i64 0, .int .i64 0] 104)).alloc (Obj.cells #[.int .i64 x, .int .i64 y, .int .i64 z] 3)) (.slice a3 n3 c3)) none 0 (some ⟨w.heap.size + 1 + 1, 0, none⟩) 3 (ifN [x, y, z])) := ⟨⟨fun i x h => by simp [ifN] at h, rowI_block (g := w.heap.size + 1 + 1) (cs := #[.int .i64 x, .int .i64 y, .int .i64 z]) (blk_at _ _ _ (by simp)) (fun i v h => by rcases i with _ | _ | _ | i <;> simp [ifN] at h <;> subst h <;> rfl) ⟨by simp, fun e => by have := (hr.own_lt e).2; omega, ⟨_, 3, _, blk_at _ _ _ (by simp), .inl rfl⟩, fun hg => by have := hGl _ hg; omega⟩, Nat.le_refl _, Nat.le_refl _⟩, .inl ⟨rfl, rfl, rfl⟩, .inr ⟨w.heap.size + 1 + 1, _, ⟨by simp, fun e => by have := (hr.own_lt e).2; omega, ⟨_, 3, _, blk_at _ _ _ (by simp), .inl rfl⟩, fun hg => by have := hGl _ hg; omega⟩, rfl, blk_at _ _ _ (by simp), rfl, Nat.le_refl _, by decide⟩⟩
 clear hr hK
 unfold xV
 go_enter Try.func95, Try.ntmps95
 go_wp2_with fail
 refine (l4Put_any B a1 a2 a3 n1 n2 n3 c1 c2 c3 root code r (ifN [x, y, z]) none (some ⟨w.heap.size + 1 + 1, 0, none⟩) 0 3 _ (Nat.le_trans hB HB.out.size) (HR.out.below HB.out) HN.out).mono ?_
 rintro e w1 ⟨a, n', c, code', rfl, hx, hg, hs⟩
 have k1 := grown_blk HR.out hg (by omega) HK.out
 have HX : Hid _ := hx
 have HG : Hid _ := hg
 have HS : Hid _ := hs
 have K1 : Hid _ := k1
 obtain ⟨e0, e1, e2, e3, e4⟩ := zn5 k1 rfl rfl rfl rfl rfl
 have f0 := frozen_blk k1 0
 have f1 := frozen_blk k1 1
 have f2 := frozen_blk k1 2
 have f3 := frozen_blk k1 3
 have f4 := frozen_blk k1 4
 clear hx hg hs k1
 unfold xV
 go_wp2
 refine bodyPost_ret (ret104 rfl rfl _ _ _ _ _ K1.out) rfl ?_
 exact XEnd.lay HR.out HB.out HX.out HG.out HS.out (by omega) (by simp) K1.out _ _ _ _ _
end Go.Proofs.Ytgjeefedcfakdaa
set_option linter.unusedVariables false
set_option maxRecDepth 100000
set_option maxHeartbeats 8000000
namespace Go.Proofs.Ytgjeefedcfakdaa
open Go.ChangeShapes Go.WideShapes Go.ChangeAt Go.RowKit
theorem l4Name_sym (b o : Nat) (n cc : Nat) (st : Value) (i : Nat) (d : Dat) (w : World) (hi : i < n) (hn : n ≤ 1048576) (hb : b < w.heap.size) (hsz : d.s.size ≤ 1048576) (hd : DatAt w b (o + i * 5) d) (hk : d.k = 3) :
  Calls Try.prog 87 #[.agg #[.slice (some ⟨b, o, none⟩) n cc, st], .int .i64 i] w fun e w' => Ans w (.tuple #[.string d.s, .bool (decide (d.k = 3) && naL d.s.toList)]) e w' := by
 obtain ⟨d0, d1, d2, d3, d4⟩ := hd
 have HN : Hid (∀ w, Calls Try.prog 36 #[.string d.s] w fun e w' => Ans w (.bool (naL d.s.toList)) e w') := fun w => specNa_any d.s w (by omega)
 rw [hk] at d0
 have HV : Hid ((decide (d.k = 3) && naL d.s.toList) = naL d.s.toList) := by show _ = _; simp [hk]
 have hk2 : ((w.alloc (Obj.cells #[.slice (some ⟨b, o, none⟩) n cc, st] 66)).alloc (Obj.cells #[.int .i64 3, .int .i64 d.n, .string d.s, .int .i64 d.l, .int .i64 d.r] 98)).heap[w.heap.size + 1]? = some (Obj.cells #[.int .i64 3, .int .i64 d.n, .string d.s, .int .i64 d.l, .int .i64 d.r] 98) := blk_at _ _ _ (by simp)
 have HK : Hid _ := hk2
 have HB : Hid (Below w.heap.size w ((w.alloc (Obj.cells #[.slice (some ⟨b, o, none⟩) n cc, st] 66)).alloc (Obj.cells #[.int .i64 3, .int .i64 d.n, .string d.s, .int .i64 d.l, .int .i64 d.r] 98))) := (bR _ _).alloc (by simp) _
 rw [HV.out]
 clear hk2 hk hsz
 go_enter Try.func87, Try.ntmps87
 go_wp2_with fail
 go_region_with (go_at_call 36; (refine (HN.out _).mono ?_; rintro e w1 ⟨rfl, hb1⟩; have c2 := cell_blk (j := 2) (blk_keep (w := World.drew _) HK.out hb1 (by simp)) rfl; have c0 := cell_blk (j := 0) (blk_keep (w := World.drew _) HK.out hb1 (by simp)) rfl))
 all_goals (try go_wp2)
 all_goals go_ret2
 all_goals exact ⟨rfl, HB.out.drew.trans (hb1.mono HB.out.size)⟩
theorem l4Name_other (b o : Nat) (n cc : Nat) (st : Value) (i : Nat) (d : Dat) (w : World) (hi : i < n) (hn : n ≤ 1048576) (hb : b < w.heap.size) (hd : DatAt w b (o + i * 5) d) (hk : d.k ≠ 3) :
  Calls Try.prog 87 #[.agg #[.slice (some ⟨b, o, none⟩) n cc, st], .int .i64 i] w fun e w' => Ans w (.tuple #[.string d.s, .bool (decide (d.k = 3) && naL d.s.toList)]) e w' := by
 obtain ⟨d0, d1, d2, d3, d4⟩ := hd
 have HV : (decide (d.k = 3) && naL d.s.toList) = false := by simp [hk]
 have hkb : (d.k == 3) = false := by simp [hk]
 have HB : Hid (Below w.heap.size w ((w.alloc (Obj.cells #[.slice (some ⟨b, o, none⟩) n cc, st] 66)).alloc (Obj.cells #[.int .i64 d.k, .int .i64 d.n, .string d.s, .int .i64 d.l, .int .i64 d.r] 98))) := (bR _ _).alloc (by simp) _
 rw [HV]
 clear hk HV
 go_enter Try.func87, Try.ntmps87
 go_wp2_with fail
 go_quiet (fail)
 all_goals (try go_wp2)
 all_goals go_ret2
 all_goals exact ⟨rfl, ⟨HB.out.os, HB.out.tape, HB.out.output, HB.out.size, HB.out.block⟩⟩
theorem l4Name_any (b o : Nat) (n cc : Nat) (st : Value) (i : Nat) (d : Dat) (w : World) (hi : i < n) (hn : n ≤ 1048576) (hb : b < w.heap.size) (hsz : d.s.size ≤ 1048576) (hd : DatAt w b (o + i * 5) d) :
  Calls Try.prog 87 #[.agg #[.slice (some ⟨b, o, none⟩) n cc, st], .int .i64 i] w fun e w' => Ans w (.tuple #[.string d.s, .bool (decide (d.k = 3) && naL d.s.toList)]) e w' := by
 by_cases hk : d.k = 3
 ·exact l4Name_sym b o n cc st i d w hi hn hb hsz hd hk
 ·exact l4Name_other b o n cc st i d w hi hn hb hd hk
end Go.Proofs.Ytgjeefedcfakdaa
set_option linter.unusedVariables false
set_option maxRecDepth 100000
set_option maxHeartbeats 8000000
namespace Go.Proofs.Ytgjeefedcfakdaa
open Go.ChangeShapes Go.WideShapes Go.ChangeAt Go.RowKit
def OwnI (w : World) (B : Nat) (v : Value) (l : List Int) : Prop := w.ownsRow B 3 1 v l.length (l.map (Value.int .i64))
theorem OwnI.slice {w : World} {B : Nat} {v : Value} {l : List Int} (h : OwnI w B v l) : ∃ (a : Option Addr) (cap : Nat), v = .slice a l.length cap := by
 obtain ⟨hl, ⟨hv, h0⟩ | ⟨g, cap', cur, hv, _⟩⟩ := h
 ·exact ⟨none, 0, by rw [hv, h0]⟩
 ·exact ⟨_, _, hv⟩
theorem ownI_nil {W : World} {B g : Nat} (h : W.heap[g]? = some (.cells #[] 3 (0, 0))) (hB : B ≤ g) : OwnI W B (.slice (some ⟨g, 0, none⟩) 0 0) [] := ⟨rfl, .inr ⟨g, 0, #[], rfl, hB, h, Nat.le_refl _, by simp [maxLen], rfl, rfl⟩⟩
theorem OwnI.mono {w : World} {B B' : Nat} {v : Value} {l : List Int} (h : OwnI w B v l) (hB : B' ≤ B) : OwnI w B' v l := by
 obtain ⟨hl, h | ⟨g, cap', cur, hv, a1, h2⟩⟩ := h
 ·exact ⟨hl, .inl h⟩
 ·exact ⟨hl, .inr ⟨g, cap', cur, hv, Nat.le_trans hB a1, h2⟩⟩
theorem info3 : (Try.prog.info? 3).map (fun i => (i.zero, i.size, i.bytes)) = some (some (.int .i64 0), 1, 8) := by kernel_rfl
def Ahead (cs : List Dat) : Prop := ∀ (j : Nat) (d : Dat), cs[j]? = some d → d.k = 5 → 0 ≤ d.l ∧ d.l < (j : Int) ∧ 0 ≤ d.r ∧ d.r < (j : Int)
theorem cel_of {cs : List Dat} {k : Nat} {d : Dat} (h : cs[k]? = some d) : cel cs (k : Int) = d := by
 unfold cel
 simp [List.getD, h]
theorem lstC_fuel {cs : List Dat} (ha : Ahead cs) : ∀ (k : Nat), k < cs.length → ∀ f g, k < f → k < g → lstC cs f (k : Int) = lstC cs g (k : Int) := by
 intro k
 induction k using Nat.strongRecOn with
 | ind k ih =>
  intro hk f g hf hg
  obtain ⟨f', rfl⟩ : ∃ x, f = x + 1 := ⟨f - 1, by omega⟩
  obtain ⟨g', rfl⟩ : ∃ x, g = x + 1 := ⟨g - 1, by omega⟩
  have hd : cs[k]? = some cs[k] := List.getElem?_eq_getElem hk
  unfold lstC
  rw [cel_of hd]
  by_cases h5 : cs[k].k = 5
  ·rw [if_pos h5, if_pos h5]
   obtain ⟨_, _, h1, h2⟩ := ha k _ hd h5
   obtain ⟨q, hq⟩ := Int.eq_ofNat_of_zero_le h1
   rw [hq] at h2 ⊢
   rw [ih q (by omega) (by omega) f' g' (by omega) (by omega)]
  ·rw [if_neg h5, if_neg h5]
theorem lst_pair {cs : List Dat} (ha : Ahead cs) {k q : Nat} {d : Dat} (hd : cs[k]? = some d) (h5 : d.k = 5) (hq : d.r = (q : Int)) : lstOf cs (k : Int) = (lstOf cs (q : Int)).map (d.l :: ·) := by
 have hk := (llt hd)
 obtain ⟨_, _, h1, h2⟩ := ha k d hd h5
 unfold lstOf
 conv => lhs; unfold lstC
 rw [cel_of hd, if_pos h5, hq]
 rw [lstC_fuel ha q (by omega) ((k : Int).toNat) ((q : Int).toNat + 1) (by omega) (by omega)]
theorem lst_end {cs : List Dat} {k : Nat} {d : Dat} (hd : cs[k]? = some d) (h5 : d.k ≠ 5) : lstOf cs (k : Int) = if d.k = 4 then some [] else none := by
 unfold lstOf lstC
 rw [cel_of hd, if_neg h5]
def LEnd (cs : List Dat) (i : Nat) (w : World) (e : Ending) (w' : World) : Prop := ∃ (v : Value) (l : List Int) (ok : Bool), e = .returned (.tuple #[v, .bool ok]) ∧ OwnI w' w.heap.size v l ∧ l.length ≤ i ∧ Below w.heap.size w w' ∧ (if ok = true then lstOf cs (i : Int) = some l else lstOf cs (i : Int) = none) ∧ Hid (∀ x ∈ l, 0 ≤ x ∧ x < (i : Int))
theorem l4List_any (b o : Nat) (cc : Nat) (st : Value) (i : Nat) (w : World) (cs : List Dat) (hi : i < cs.length) (hn : cs.length ≤ 1048576) (hrow : RowD w w.heap.size (some ⟨b, o, none⟩) cs) (ha : Ahead cs) :
  Calls Try.prog 81 #[.agg #[.slice (some ⟨b, o, none⟩) cs.length cc, st], .int .i64 i] w fun e w' => LEnd cs i w e w' := by
 have HROW : Hid (RowD w w.heap.size (some ⟨b, o, none⟩) cs) := hrow
 have HA : Hid (Ahead cs) := ha
 obtain ⟨i0, hi0, hz0, hz1, hz2⟩ := info_parts info3
 have HB0 : Hid (Below w.heap.size w ((w.alloc (Obj.cells #[.slice (some ⟨b, o, none⟩) cs.length cc, st] 66)).alloc (Obj.cells #[] 3))) := (bR _ _).alloc (by simp) _
 have HP0 : Hid (((w.alloc (Obj.cells #[.slice (some ⟨b, o, none⟩) cs.length cc, st] 66)).alloc (Obj.cells #[] 3)).heap[w.heap.size]? = some (Obj.cells #[.slice (some ⟨b, o, none⟩) cs.length cc, st] 66)) := blk_past (blk_at _ _ _ rfl)
 have HO0 : Hid (OwnI ((w.alloc (Obj.cells #[.slice (some ⟨b, o, none⟩) cs.length cc, st] 66)).alloc (Obj.cells #[] 3)) (w.heap.size + 1) (.slice (some ⟨w.heap.size + 1, 0, none⟩) 0 0) []) := ownI_nil (blk_at _ _ _ (by simp)) (Nat.le_refl _)
 clear hrow ha
 go_enter Try.func81, Try.ntmps81
 go_wp2_with fail
 go_loopw [1, 6] (fun iv ov wr => ∃ (k : Nat) (acc : List Int), iv = .int .i64 k ∧ k < cs.length ∧ acc.length + k ≤ i ∧ OwnI wr (w.heap.size + 1) ov acc ∧ Below w.heap.size w wr ∧ wr.heap[w.heap.size]? = some (Obj.cells #[.slice (some ⟨b, o, none⟩) cs.length cc, st] 66) ∧ lstOf cs (i : Int) = (lstOf cs (k : Int)).map (acc ++ ·) ∧ Hid (∀ x ∈ acc, 0 ≤ x ∧ x < (i : Int))) (fun iv _ _ => (intOf iv).toNat)
 case atStart => exact ⟨i, [], rfl, hi, by simp, HO0.out, HB0.out, HP0.out, by simp, fun x hx => by cases hx⟩
 case round =>
  obtain ⟨k, acc, rfl, hk, hak, hown, hbw, hkp, hls, HAC⟩ := hrel
  obtain ⟨d, hd⟩ : ∃ d, cs[k]? = some d := ⟨_, List.getElem?_eq_getElem hk⟩
  obtain ⟨oa, oc, rfl⟩ := hown.slice
  obtain ⟨b1, o1, hbo, hbb, hda⟩ := (HROW.out.below hbw) k d hd
  obtain ⟨rfl, rfl⟩ : b = b1 ∧ o = o1 := by simpa using hbo
  have hob : ∀ kk, (Value.slice oa acc.length oc).ownBlock = some kk → w.heap.size + 1 ≤ kk ∧ kk < wr.heap.size := fun kk h => World.ownsRow.lt hown kk h
  have p0 := zB 0 hkp rfl
  have hbs := hbw.size
  have hps := (alt hkp)
  obtain ⟨d0, d1, d2, d3, d4⟩ := hda
  by_cases h5 : d.k = 5
  ·rw [h5] at d0
   obtain ⟨hl0, hl1, hr0, hr1⟩ := HA.out k d hd h5
   obtain ⟨q, hq⟩ := Int.eq_ofNat_of_zero_le hr0
   rw [hq] at d4 hr1
   have HLS : Hid (lstOf cs (i : Int) = (lstOf cs (q : Int)).map ((acc ++ [d.l]) ++ ·)) := by
    show _ = _
    rw [hls, lst_pair HA.out hd h5 hq, Option.map_map]
    congr 1
    funext z
    simp
   have HAC2 : Hid (∀ x ∈ acc ++ [d.l], 0 ≤ x ∧ x < (i : Int)) := fun x hx => by
    rcases List.mem_append.1 hx with h | h
    ·exact HAC.out x h
    ·obtain rfl := List.mem_singleton.1 h
     exact ⟨hl0, by omega⟩
   generalize d.l = L at *
   have HOA : Hid ((wr.alloc (Obj.cells #[.int .i64 L] 3)).ownsRow (w.heap.size + 1) 3 1 (.slice oa acc.length oc) acc.length (acc.map (Value.int .i64))) := World.ownsRow.alloc hown _
   have kA : (wr.alloc (Obj.cells #[.int .i64 L] 3)).heap[wr.heap.size]? = some (Obj.cells #[.int .i64 L] 3) := blk_at _ _ _ rfl
   have hAz : (wr.alloc (Obj.cells #[.int .i64 L] 3)).heap.size = wr.heap.size + 1 := by simp
   have hwA : w.heap.size + 1 ≤ (wr.alloc (Obj.cells #[.int .i64 L] 3)).heap.size := by rw [hAz]; omega
   have HC : Hid (∀ w5, (wr.alloc (Obj.cells #[.int .i64 L] 3)).grownBy w5 (Value.slice oa acc.length oc).ownBlock → w5.cell? ⟨w.heap.size, 0, none⟩ = some (.slice (some ⟨b, o, none⟩) cs.length cc) ∧ w5.cell? ⟨b, o + k * 5 + 4, none⟩ = some (.int .i64 q) ∧ Below w.heap.size w w5 ∧ w5.heap[w.heap.size]? = some (Obj.cells #[.slice (some ⟨b, o, none⟩) cs.length cc, st] 66)) := by
    intro w5 hg
    have hsame : ∀ j, j < w.heap.size + 1 → w5.heap[j]? = wr.heap[j]? := fun j hj => by
     rw [hg.block j (by rw [hAz]; omega) (fun e => by have := (hob j e.symm).1; omega)]
     exact ((Below.refl wr.heap.size wr).alloc (Nat.le_refl _) _).block j (by omega)
    refine ⟨?_, ?_, ⟨hg.os.trans hbw.os, hg.tape.trans hbw.tape, hg.output.trans hbw.output, by have := hg.size; rw [hAz] at this; omega, fun j hj => (hsame j (by omega)).trans (hbw.block j hj)⟩, (hsame _ (by omega)).trans hkp⟩
    ·exact (World.cell?_of_block (w := wr) (a := ⟨w.heap.size, _, none⟩) (hsame w.heap.size (by omega))).trans p0
    ·exact (World.cell?_of_block (w := wr) (a := ⟨b, _, none⟩) (hsame b (by omega))).trans d4
   clear hown hbw hkp hls hob hd hq h5 hr0 hbo
   go_wp2_with (at_builtin; (refine wpList_append_lies _ rfl _ _ 33 rfl (w.heap.size + 1) 3 i0 _ 1 8 Try.underlying33 hi0 hz0 hz1 hz2 rfl (by omega) (.slice oa acc.length oc) acc.length (acc.map (Value.int .i64)) rfl HOA.out ⟨wr.heap.size, 0, none⟩ 1 1 [.int .i64 L] rfl rfl (World.news_of_block kA) (by intro u hu; simp at hu; rcases hu with rfl; rfl) (by omega) (by simp [maxLen]; omega) (by omega) hwA (wr.heap.size + 1) hAz ?_); intro gg cap' w5 hown5 hgr5 hat5 hlt5; obtain ⟨q0, q4, hB5, hK5⟩ := HC.out w5 hgr5)
   refine ⟨⟨q, acc ++ [L], rfl, by omega, by simp; omega, ?_, hB5, hK5, HLS.out, HAC2⟩, by simp [intOf]; omega⟩
   show World.ownsRow _ _ _ _ _ _ _
   rw [List.length_append, List.map_append]
   exact hown5
  ·have h5b : (d.k == 5) = false := by simp [h5]
   have HLS : Hid (lstOf cs (i : Int) = if d.k = 4 then some acc else none) := by
    show _ = _
    rw [hls, lst_end hd h5]
    split <;> simp
   have HOWN : Hid (OwnI wr (w.heap.size + 1) (.slice oa acc.length oc) acc) := hown
   have HBW : Hid (Below w.heap.size w wr) := hbw
   clear hown hbw hkp hls hob hd h5 hbo
   go_wp2
   all_goals (try go_quiet (fail))
   all_goals (try go_wp2)
   all_goals
    go_ret2
    refine ⟨.slice oa acc.length oc, acc, (d.k == 4), rfl, HOWN.out.mono (Nat.le_succ _), by omega, below_drewN HBW.out _, ?_, HAC⟩
    by_cases h4 : d.k = 4
    ·rw [if_pos (by simp [h4]), HLS.out, if_pos h4]
    ·rw [if_neg (by simp [h4]), HLS.out, if_neg h4]
end Go.Proofs.Ytgjeefedcfakdaa
