/- The model: l2Same. Showing data, as a plain function of the cells. Each cell once, plain. -/
import Derived.Test.YtgjeefedcfakdaaXpp
import Derived.Deep.RegionWith
import Derived.Test.YtgjeefedcfakdaaRdb
set_option linter.unusedVariables false
namespace Go.Proofs.Ytgjeefedcfakdaa.R2
open Go.ChangeShapes Go.WideShapes Go.ChangeAt Go.RowKit
noncomputable instance decDat : DecidableEq Dat := fun a b => Classical.propDecidable (a = b)
theorem dat_ne {a b : Dat} (h : a ≠ b) : (a.k == b.k) = false ∨ ((a.k == b.k) = true ∧ (a.n == b.n) = false) ∨ ((a.k == b.k) = true ∧ (a.n == b.n) = true ∧ (a.s.toList == b.s.toList) = false) ∨ ((a.k == b.k) = true ∧ (a.n == b.n) = true ∧ (a.s.toList == b.s.toList) = true ∧ (a.l == b.l) = false) ∨ ((a.k == b.k) = true ∧ (a.n == b.n) = true ∧ (a.s.toList == b.s.toList) = true ∧ (a.l == b.l) = true ∧ (a.r == b.r) = false) := by
 cases h1 : (a.k == b.k) with
 | false => exact .inl rfl
 | true =>
  cases h2 : (a.n == b.n) with
  | false => exact .inr (.inl ⟨rfl, rfl⟩)
  | true =>
   cases h3 : (a.s.toList == b.s.toList) with
   | false => exact .inr (.inr (.inl ⟨rfl, rfl, rfl⟩))
   | true =>
    cases h4 : (a.l == b.l) with
    | false => exact .inr (.inr (.inr (.inl ⟨rfl, rfl, rfl, rfl⟩)))
    | true =>
     cases h5 : (a.r == b.r) with
     | false => exact .inr (.inr (.inr (.inr ⟨rfl, rfl, rfl, rfl, rfl⟩)))
     | true =>
      refine absurd ?_ h
      rw [beq_iff_eq] at h1 h2 h3 h4 h5
      rw [ByteArray.toList_eq, ByteArray.toList_eq] at h3
      have hs : a.s = b.s := by
       have : a.s.data = b.s.data := Array.toList_inj.1 h3
       cases ha : a.s
       cases hb : b.s
       rw [ha, hb] at this
       exact congrArg ByteArray.mk this
      cases a; cases b
      simp_all
theorem list_ne {α : Type} {xs ys : List α} {i : Nat} {x y : α} (hx : xs[i]? = some x) (hy : ys[i]? = some y) (h : x ≠ y) : xs ≠ ys := by
 rintro rfl
 exact h (Option.some.inj (hx.symm.trans hy))
theorem list_eq {α : Type} {xs ys : List α} {i : Nat} (h : xs.take i = ys.take i) (h1 : xs.length ≤ i) (h2 : ys.length ≤ i) : xs = ys := by
 rw [List.take_of_length_le h1, List.take_of_length_le h2] at h
 exact h
open Go.ChangeShapes Go.WideShapes Go.ChangeAt Go.RowKit
set_option maxRecDepth 100000 in
set_option maxHeartbeats 1000000 in
theorem l2Same_len (a b a' b' : Option Addr) (cs cs' : List Dat) (ts ts' : List Int) (ca cb ca' cb' : Nat) (w : World) (hn : cs.length ≤ 9223372036854775807) (hm : ts.length ≤ 9223372036854775807) (h : cs.length ≠ cs'.length ∨ ts.length ≠ ts'.length) :
  Calls Try.prog 69 #[.agg #[.slice a cs.length ca, .slice b ts.length cb], .agg #[.slice a' cs'.length ca', .slice b' ts'.length cb']] w fun e w' => Ans w (.bool false) e w' := by
 have hb0 : Below w.heap.size w ((w.alloc (Obj.cells #[Value.slice a cs.length ca, Value.slice b ts.length cb] 66)).alloc (Obj.cells #[Value.slice a' cs'.length ca', Value.slice b' ts'.length cb'] 66)) := (bR _ _).alloc (by simp) _
 have HB0 : Hid (Below w.heap.size w ((w.alloc (Obj.cells #[Value.slice a cs.length ca, Value.slice b ts.length cb] 66)).alloc (Obj.cells #[Value.slice a' cs'.length ca', Value.slice b' ts'.length cb'] 66))) := hb0
 clear hb0
 by_cases h1 : cs.length = cs'.length
 ·have h2 : ts.length ≠ ts'.length := by
   rcases h with h | h
   ·exact absurd h1 h
   ·exact h
  have q1 : ((cs.length : Int) != (cs'.length : Int)) = false := by rw [bne_eq_false_iff_eq]; omega
  have q2 : ((ts.length : Int) != (ts'.length : Int)) = true := by rw [bne_iff_ne]; omega
  clear h h1 h2
  go_enter Try.func69, Try.ntmps69
  go_wp2
  go_ret
  exact ⟨rfl, HB0.out⟩
 ·have q1 : ((cs.length : Int) != (cs'.length : Int)) = true := by rw [bne_iff_ne]; omega
  clear h h1
  go_enter Try.func69, Try.ntmps69
  go_wp2
  go_ret
  exact ⟨rfl, HB0.out⟩
set_option maxRecDepth 100000 in
set_option maxHeartbeats 2000000 in
theorem l2Same_same (a b a' b' : Option Addr) (cs cs' : List Dat) (ts ts' : List Int) (ca cb ca' cb' : Nat) (w : World) (hn : cs.length ≤ 9223372036854775807) (hm : ts.length ≤ 9223372036854775807) (h1 : cs.length = cs'.length) (h2 : ts.length = ts'.length) (x1 : RowD w w.heap.size a cs) (x2 : RowI w w.heap.size b ts) (y1 : RowD w w.heap.size a' cs') (y2 : RowI w w.heap.size b' ts') :
  Calls Try.prog 69 #[.agg #[.slice a cs.length ca, .slice b ts.length cb], .agg #[.slice a' cs'.length ca', .slice b' ts'.length cb']] w fun e w' => Ans w (.bool (decide (cs = cs') && decide (ts = ts'))) e w' := by
 have hb0 : Below w.heap.size w ((w.alloc (Obj.cells #[Value.slice a cs.length ca, Value.slice b ts.length cb] 66)).alloc (Obj.cells #[Value.slice a' cs'.length ca', Value.slice b' ts'.length cb'] 66)) := (bR _ _).alloc (by simp) _
 have k0 : ((w.alloc (Obj.cells #[Value.slice a cs.length ca, Value.slice b ts.length cb] 66)).alloc (Obj.cells #[Value.slice a' cs'.length ca', Value.slice b' ts'.length cb'] 66)).heap[w.heap.size]? = some (Obj.cells #[Value.slice a cs.length ca, Value.slice b ts.length cb] 66) := blk_past (blk_at _ _ _ rfl)
 have k1 : ((w.alloc (Obj.cells #[Value.slice a cs.length ca, Value.slice b ts.length cb] 66)).alloc (Obj.cells #[Value.slice a' cs'.length ca', Value.slice b' ts'.length cb'] 66)).heap[w.heap.size + 1]? = some (Obj.cells #[Value.slice a' cs'.length ca', Value.slice b' ts'.length cb'] 66) := blk_at _ _ _ (by simp)
 obtain ⟨v, hv⟩ : ∃ v, v = (w.alloc (Obj.cells #[Value.slice a cs.length ca, Value.slice b ts.length cb] 66)).alloc (Obj.cells #[Value.slice a' cs'.length ca', Value.slice b' ts'.length cb'] 66) := ⟨_, rfl⟩
 obtain ⟨r, hr⟩ : ∃ r, r = (decide (cs = cs') && decide (ts = ts')) := ⟨_, rfl⟩
 have HR : Hid (r = (decide (cs = cs') && decide (ts = ts'))) := hr
 have X1 : Hid (RowD w w.heap.size a cs) := x1
 have X2 : Hid (RowI w w.heap.size b ts) := x2
 have Y1 : Hid (RowD w w.heap.size a' cs') := y1
 have Y2 : Hid (RowI w w.heap.size b' ts') := y2
 have HL1 : Hid (cs.length = cs'.length) := h1
 have HL2 : Hid (ts.length = ts'.length) := h2
 have HB0 : Hid (Below w.heap.size w ((w.alloc (Obj.cells #[Value.slice a cs.length ca, Value.slice b ts.length cb] 66)).alloc (Obj.cells #[Value.slice a' cs'.length ca', Value.slice b' ts'.length cb'] 66))) := hb0
 have K0 : Hid (((w.alloc (Obj.cells #[Value.slice a cs.length ca, Value.slice b ts.length cb] 66)).alloc (Obj.cells #[Value.slice a' cs'.length ca', Value.slice b' ts'.length cb'] 66)).heap[w.heap.size]? = some (Obj.cells #[Value.slice a cs.length ca, Value.slice b ts.length cb] 66)) := k0
 have K1 : Hid (((w.alloc (Obj.cells #[Value.slice a cs.length ca, Value.slice b ts.length cb] 66)).alloc (Obj.cells #[Value.slice a' cs'.length ca', Value.slice b' ts'.length cb'] 66)).heap[w.heap.size + 1]? = some (Obj.cells #[Value.slice a' cs'.length ca', Value.slice b' ts'.length cb'] 66)) := k1
 have q1 : ((cs.length : Int) != (cs'.length : Int)) = false := by rw [bne_eq_false_iff_eq]; omega
 have q2 : ((ts.length : Int) != (ts'.length : Int)) = false := by rw [bne_eq_false_iff_eq]; omega
 rw [← hr]
 clear hb0 k0 k1 hv v hr x1 x2 y1 y2 h1 h2
 go_enter Try.func69, Try.ntmps69
 go_wp2
 go_loopw [5] (fun o wr => ∃ (i : Nat), i ≤ cs.length ∧ o = .int .i64 i ∧ wr.heap[w.heap.size]? = some (Obj.cells #[Value.slice a cs.length ca, Value.slice b ts.length cb] 66) ∧ wr.heap[w.heap.size + 1]? = some (Obj.cells #[Value.slice a' cs'.length ca', Value.slice b' ts'.length cb'] 66) ∧ Below w.heap.size w wr ∧ cs.take i = cs'.take i)
  (fun o _ => cs.length - (intOf o).toNat)
 case atStart => exact ⟨0, by omega, rfl, K0.out, K1.out, HB0.out, rfl⟩
 case round =>
  clear HB0 K0 K1
  obtain ⟨i, hi, rfl, k0, k1, hb, hpre⟩ := hrel
  have HPRE : Hid (cs.take i = cs'.take i) := hpre
  have K0 : Hid (wr.heap[w.heap.size]? = some (Obj.cells #[Value.slice a cs.length ca, Value.slice b ts.length cb] 66)) := k0
  have K1 : Hid (wr.heap[w.heap.size + 1]? = some (Obj.cells #[Value.slice a' cs'.length ca', Value.slice b' ts'.length cb'] 66)) := k1
  obtain ⟨z0, z1⟩ := zn2 k0 rfl rfl
  obtain ⟨z2, z3⟩ := zn2 k1 rfl rfl
  clear hpre k0 k1
  by_cases hlt : i < cs.length
  ·obtain ⟨d1, hd1⟩ : ∃ d, cs[i]? = some d := ⟨_, List.getElem?_eq_getElem hlt⟩
   obtain ⟨d2, hd2⟩ : ∃ d, cs'[i]? = some d := ⟨_, List.getElem?_eq_getElem (by have := HL1.out; omega)⟩
   obtain ⟨b1, o1, rfl, hbb, c0, c1, c2, c3, c4⟩ := (X1.out.below hb) i d1 hd1
   obtain ⟨b2, o2, rfl, hbb', c5, c6, c7, c8, c9⟩ := (Y1.out.below hb) i d2 hd2
   have HD1 : Hid (cs[i]? = some d1) := hd1
   have HD2 : Hid (cs'[i]? = some d2) := hd2
   clear hd1 hd2
   have hli : (i : Int) < (cs.length : Int) := by omega
   have hli' : (i : Int) < (cs'.length : Int) := by have := HL1.out; omega
   by_cases hd : d1 = d2
   ·subst hd
    have HN : Hid (cs.take (i + 1) = cs'.take (i + 1)) := by
     show _ = _
     rw [List.take_add_one, List.take_add_one, HPRE.out, HD1.out, HD2.out]
    clear HPRE
    go_wp2
    go_quiet (fail)
    go_wp2
    go_roundw
    case rel => exact ⟨i + 1, by omega, by go_num, K0.out, K1.out, below_drewN hb _, HN.out⟩
    case measure => simp [intOf]; omega
   ·have HF : Hid (r = false) := by
     show r = false
     rw [HR.out]
     simp only [Bool.and_eq_false_iff, decide_eq_false_iff_not]
     exact .inl (list_ne HD1.out HD2.out hd)
    have hdn := dat_ne hd
    clear hd HPRE
    rcases hdn with q1 | ⟨q1, q2⟩ | ⟨q1, q2, q3⟩ | ⟨q1, q2, q3, q4⟩ | ⟨q1, q2, q3, q4, q5⟩
    all_goals
     go_wp2
     go_quiet (fail)
     go_wp2
     go_ret
     exact ⟨by rw [HF.out]; rfl, below_drewN hb _⟩
  ·have hlt' : decide ((i : Int) < (cs.length : Int)) = false := by simp; omega
   have HC : Hid (cs = cs') := list_eq HPRE.out (by omega) (by have := HL1.out; omega)
   clear HPRE
   go_wp2
   go_loopw [6] (fun o wr => ∃ (i : Nat), i ≤ ts.length ∧ o = .int .i64 i ∧ wr.heap[w.heap.size]? = some (Obj.cells #[Value.slice a cs.length ca, Value.slice b ts.length cb] 66) ∧ wr.heap[w.heap.size + 1]? = some (Obj.cells #[Value.slice a' cs'.length ca', Value.slice b' ts'.length cb'] 66) ∧ Below w.heap.size w wr ∧ ts.take i = ts'.take i)
    (fun o _ => ts.length - (intOf o).toNat)
   case atStart => exact ⟨0, by omega, rfl, K0.out, K1.out, hb, rfl⟩
   case round =>
    clear K0 K1 hb z0 z1 z2 z3 hlt hlt' hi
    obtain ⟨j, hj, rfl, k0, k1, hb, hpre⟩ := hrel
    have HPRE : Hid (ts.take j = ts'.take j) := hpre
    have K0 : Hid (wr.heap[w.heap.size]? = some (Obj.cells #[Value.slice a cs.length ca, Value.slice b ts.length cb] 66)) := k0
    have K1 : Hid (wr.heap[w.heap.size + 1]? = some (Obj.cells #[Value.slice a' cs'.length ca', Value.slice b' ts'.length cb'] 66)) := k1
    obtain ⟨z0, z1⟩ := zn2 k0 rfl rfl
    obtain ⟨z2, z3⟩ := zn2 k1 rfl rfl
    clear hpre k0 k1
    by_cases hlt : j < ts.length
    ·obtain ⟨d1, hd1⟩ : ∃ d, ts[j]? = some d := ⟨_, List.getElem?_eq_getElem hlt⟩
     obtain ⟨d2, hd2⟩ : ∃ d, ts'[j]? = some d := ⟨_, List.getElem?_eq_getElem (by have := HL2.out; omega)⟩
     obtain ⟨b1, o1, rfl, hbb, c0⟩ := (X2.out.below hb) j d1 hd1
     obtain ⟨b2, o2, rfl, hbb', c5⟩ := (Y2.out.below hb) j d2 hd2
     have HD1 : Hid (ts[j]? = some d1) := hd1
     have HD2 : Hid (ts'[j]? = some d2) := hd2
     clear hd1 hd2
     have hli : (j : Int) < (ts.length : Int) := by omega
     have hli' : (j : Int) < (ts'.length : Int) := by have := HL2.out; omega
     by_cases hd : d1 = d2
     ·subst hd
      have q2 : (d1 != d1) = false := by simp
      have HN : Hid (ts.take (j + 1) = ts'.take (j + 1)) := by
       show _ = _
       rw [List.take_add_one, List.take_add_one, HPRE.out, HD1.out, HD2.out]
      clear HPRE
      go_wp2
      go_quiet (fail)
      go_wp2
      go_roundw
      case rel => exact ⟨j + 1, by omega, by go_num, K0.out, K1.out, below_drewN hb _, HN.out⟩
      case measure => simp [intOf]; omega
     ·have HF : Hid (r = false) := by
       show r = false
       rw [HR.out]
       simp only [Bool.and_eq_false_iff, decide_eq_false_iff_not]
       exact .inr (list_ne HD1.out HD2.out hd)
      have e1 : (d1 == d2) = false := by rw [beq_eq_false_iff_ne]; exact hd
      have e2 : (d1 != d2) = true := by rw [bne_iff_ne]; exact hd
      clear hd HPRE
      go_wp2
      go_quiet (fail)
      go_wp2
      go_ret
      exact ⟨by rw [HF.out]; rfl, below_drewN hb _⟩
    ·have hlt' : decide ((j : Int) < (ts.length : Int)) = false := by simp; omega
     have HF : Hid (r = true) := by
      show r = true
      rw [HR.out]
      simp only [Bool.and_eq_true, decide_eq_true_eq]
      exact ⟨HC.out, list_eq HPRE.out (by omega) (by have := HL2.out; omega)⟩
     clear HPRE
     go_wp2
     go_ret
     exact ⟨by rw [HF.out]; rfl, hb⟩
theorem l2Same_any (a b a' b' : Option Addr) (cs cs' : List Dat) (ts ts' : List Int) (ca cb ca' cb' : Nat) (w : World) (hn : cs.length ≤ 9223372036854775807) (hm : ts.length ≤ 9223372036854775807) (x1 : RowD w w.heap.size a cs) (x2 : RowI w w.heap.size b ts) (y1 : RowD w w.heap.size a' cs') (y2 : RowI w w.heap.size b' ts') :
  Calls Try.prog 69 #[.agg #[.slice a cs.length ca, .slice b ts.length cb], .agg #[.slice a' cs'.length ca', .slice b' ts'.length cb']] w fun e w' => Ans w (.bool (decide (cs = cs') && decide (ts = ts'))) e w' := by
 by_cases h1 : cs.length = cs'.length
 ·by_cases h2 : ts.length = ts'.length
  ·exact l2Same_same a b a' b' cs cs' ts ts' ca cb ca' cb' w hn hm h1 h2 x1 x2 y1 y2
  ·have e : (decide (cs = cs') && decide (ts = ts')) = false := by
    simp only [Bool.and_eq_false_iff, decide_eq_false_iff_not]
    exact .inr (by rintro rfl; exact h2 rfl)
   rw [e]
   exact l2Same_len a b a' b' cs cs' ts ts' ca cb ca' cb' w hn hm (.inr h2)
 ·have e : (decide (cs = cs') && decide (ts = ts')) = false := by
   simp only [Bool.and_eq_false_iff, decide_eq_false_iff_not]
   exact .inl (by rintro rfl; exact h1 rfl)
  rw [e]
  exact l2Same_len a b a' b' cs cs' ts ts' ca cb ca' cb' w hn hm (.inl h1)
end Go.Proofs.Ytgjeefedcfakdaa.R2
set_option linter.unusedVariables false
namespace Go.Proofs.Ytgjeefedcfakdaa.R2
open Go.ChangeShapes Go.WideShapes Go.ChangeAt Go.RowKit
def PairOk (cs : List Dat) : Prop := ∀ (i : Nat) (d : Dat), cs[i]? = some d → d.k = 5 → 0 ≤ d.l ∧ d.l < i ∧ 0 ≤ d.r ∧ d.r < i
def partsOf (d : Dat) : List Int := if d.k = 5 then [d.l, d.r] else []
def usesOf (cs : List Dat) (ts : List Int) : List Int := cs.flatMap partsOf ++ ts
def TreeP (cs : List Dat) (ts : List Int) : Prop :=
 PairOk cs ∧ (∀ t ∈ ts, 0 ≤ t ∧ t < cs.length) ∧ ∀ i : Nat, i < cs.length → (usesOf cs ts).count (i : Int) = 1
def shF (cs : List Dat) : Nat → Nat → Bool → List UInt8
 | 0, _, _ => []
 | f + 1, i, false =>
  match cs[i]? with
  | none => []
  | some d =>
   if d.k = 1 then decL d.n
   else if d.k = 2 then (if d.n = 1 then [35, 116] else [35, 102])
   else if d.k = 3 then d.s.data.toList
   else if d.k = 4 then [40, 41]
   else if d.k = 5 then 40 :: (shF cs f d.l.toNat false ++ shF cs f d.r.toNat true ++ [41])
   else []
 | f + 1, r, true =>
  match cs[r]? with
  | none => []
  | some d =>
   if d.k = 5 then 32 :: (shF cs f d.l.toNat false ++ shF cs f d.r.toNat true)
   else if d.k = 4 then []
   else [32, 46, 32] ++ shF cs f r false
def need (i : Nat) (m : Bool) : Nat := if m then 2 * i + 2 else 2 * i + 1
theorem shF_more {cs : List Dat} (hp : PairOk cs) : ∀ (f g i : Nat) (m : Bool), need i m ≤ f → need i m ≤ g → shF cs f i m = shF cs g i m
 | 0, _, i, m, h, _ => by cases m <;> simp [need] at h
 | _ + 1, 0, i, m, _, h => by cases m <;> simp [need] at h
 | f + 1, g + 1, i, m, hf, hg => by
  cases hd : cs[i]? with
  | none => cases m <;> simp only [shF, hd]
  | some d =>
   cases m with
   | false =>
    simp only [need, Bool.false_eq_true, if_false] at hf hg
    simp only [shF, hd]
    by_cases h5 : d.k = 5
    ·obtain ⟨a, b, c, e⟩ := hp i d hd h5
     rw [shF_more hp f g d.l.toNat false (by simp [need]; omega) (by simp [need]; omega), shF_more hp f g d.r.toNat true (by simp [need]; omega) (by simp [need]; omega)]
    ·simp only [h5, if_false]
   | true =>
    simp only [need, if_true] at hf hg
    simp only [shF, hd]
    by_cases h5 : d.k = 5
    ·obtain ⟨a, b, c, e⟩ := hp i d hd h5
     rw [shF_more hp f g d.l.toNat false (by simp [need]; omega) (by simp [need]; omega), shF_more hp f g d.r.toNat true (by simp [need]; omega) (by simp [need]; omega), shF_more hp f g i false (by simp [need]; omega) (by simp [need]; omega)]
    ·rw [shF_more hp f g i false (by simp [need]; omega) (by simp [need]; omega)]
     simp only [h5, if_false]
def sh (cs : List Dat) (i : Nat) : List UInt8 := shF cs (2 * i + 1) i false
def rst (cs : List Dat) (i : Nat) : List UInt8 := shF cs (2 * i + 2) i true
theorem sh_flat {cs : List Dat} {i : Nat} {d : Dat} (hd : cs[i]? = some d) (h : d.k ≠ 5) : sh cs i =
  (if d.k = 1 then decL d.n else if d.k = 2 then (if d.n = 1 then [35, 116] else [35, 102]) else if d.k = 3 then d.s.data.toList else if d.k = 4 then [40, 41] else []) := by
 simp only [sh, shF, hd, h, if_false]
theorem sh_pair {cs : List Dat} {i : Nat} {d : Dat} (hp : PairOk cs) (hd : cs[i]? = some d) (h : d.k = 5) : sh cs i = 40 :: (sh cs d.l.toNat ++ rst cs d.r.toNat ++ [41]) := by
 obtain ⟨a, b, c, e⟩ := hp i d hd h
 have e1 : shF cs (2 * i) d.l.toNat false = sh cs d.l.toNat := shF_more hp _ _ _ _ (by simp [need]; omega) (by simp [need])
 have e2 : shF cs (2 * i) d.r.toNat true = rst cs d.r.toNat := shF_more hp _ _ _ _ (by simp [need]; omega) (by simp [need])
 show shF cs (2 * i + 1) i false = _
 simp [shF, hd, h, e1, e2]
theorem rst_pair {cs : List Dat} {i : Nat} {d : Dat} (hp : PairOk cs) (hd : cs[i]? = some d) (h : d.k = 5) : rst cs i = 32 :: (sh cs d.l.toNat ++ rst cs d.r.toNat) := by
 obtain ⟨a, b, c, e⟩ := hp i d hd h
 have e1 : shF cs (2 * i + 1) d.l.toNat false = sh cs d.l.toNat := shF_more hp _ _ _ _ (by simp [need]; omega) (by simp [need])
 have e2 : shF cs (2 * i + 1) d.r.toNat true = rst cs d.r.toNat := shF_more hp _ _ _ _ (by simp [need]; omega) (by simp [need])
 show shF cs (2 * i + 1 + 1) i true = _
 rw [shF, hd]
 simp only [h, if_true, e1, e2]
theorem rst_nil {cs : List Dat} {i : Nat} {d : Dat} (hd : cs[i]? = some d) (h : d.k = 4) : rst cs i = [] := by
 show shF cs (2 * i + 1 + 1) i true = _
 simp [shF, hd, h]
theorem rst_other {cs : List Dat} {i : Nat} {d : Dat} (hd : cs[i]? = some d) (h : d.k ≠ 5) (h4 : d.k ≠ 4) : rst cs i = [32, 46, 32] ++ sh cs i := by
 show shF cs (2 * i + 1 + 1) i true = _
 rw [shF, hd]
 simp only [h, h4, if_false]
 rfl
def wtF (cs : List Dat) : Nat → Nat → Nat
 | 0, _ => 0
 | f + 1, i =>
  match cs[i]? with
  | none => 0
  | some d => d.s.size + 24 + (if d.k = 5 then wtF cs f d.l.toNat + wtF cs f d.r.toNat else 0)
theorem wtF_more {cs : List Dat} (hp : PairOk cs) : ∀ (f g i : Nat), i + 1 ≤ f → i + 1 ≤ g → wtF cs f i = wtF cs g i
 | 0, _, i, h, _ => by omega
 | _ + 1, 0, i, _, h => by omega
 | f + 1, g + 1, i, hf, hg => by
  cases hd : cs[i]? with
  | none => simp only [wtF, hd]
  | some d =>
   simp only [wtF, hd]
   by_cases h5 : d.k = 5
   ·obtain ⟨a, b, c, e⟩ := hp i d hd h5
    rw [wtF_more hp f g d.l.toNat (by omega) (by omega), wtF_more hp f g d.r.toNat (by omega) (by omega)]
   ·simp only [h5, if_false]
def wt (cs : List Dat) (i : Nat) : Nat := wtF cs (i + 1) i
theorem wt_pair {cs : List Dat} {i : Nat} {d : Dat} (hp : PairOk cs) (hd : cs[i]? = some d) (h : d.k = 5) : wt cs i = d.s.size + 24 + (wt cs d.l.toNat + wt cs d.r.toNat) := by
 obtain ⟨a, b, c, e⟩ := hp i d hd h
 have e1 : wtF cs i d.l.toNat = wt cs d.l.toNat := wtF_more hp _ _ _ (by omega) (by omega)
 have e2 : wtF cs i d.r.toNat = wt cs d.r.toNat := wtF_more hp _ _ _ (by omega) (by omega)
 show wtF cs (i + 1) i = _
 simp [wtF, hd, h, e1, e2]
theorem wt_flat {cs : List Dat} {i : Nat} {d : Dat} (hd : cs[i]? = some d) (h : d.k ≠ 5) : wt cs i = d.s.size + 24 := by
 show wtF cs (i + 1) i = _
 simp [wtF, hd, h]
theorem decL_le (x : Int) : (decL x).length ≤ 21 := by
 rcases Int.lt_trichotomy x 0 with h | rfl | h
 ·rw [decL_neg x h]
  have := digs_len_fuel 20 (-x).toNat
  simp; omega
 ·decide
 ·rw [decL_pos x h]
  have := digs_len_fuel 20 x.toNat
  omega
theorem sh_le {cs : List Dat} (hp : PairOk cs) : ∀ (i : Nat), (sh cs i).length + (match cs[i]? with | some d => if d.k = 5 then 0 else 3 | none => 0) ≤ wt cs i ∧ (rst cs i).length ≤ wt cs i := by
 intro i
 induction i using Nat.strongRecOn with
 | ind i ih =>
  cases hd : cs[i]? with
  | none =>
   have e1 : sh cs i = [] := by simp only [sh, shF, hd]
   have e2 : rst cs i = [] := by show shF cs (2 * i + 1 + 1) i true = _; rw [shF, hd]
   rw [e1, e2]; simp
  | some d =>
   by_cases h5 : d.k = 5
   ·obtain ⟨a, b, c, e⟩ := hp i d hd h5
    obtain ⟨l1, _⟩ := ih d.l.toNat (by omega)
    obtain ⟨_, r1⟩ := ih d.r.toNat (by omega)
    rw [sh_pair hp hd h5, rst_pair hp hd h5, wt_pair hp hd h5]
    simp only [h5, if_true, List.length_cons, List.length_append, List.length_nil]
    omega
   ·have hx : (sh cs i).length ≤ d.s.size + 21 := by
     rw [sh_flat hd h5]
     have := decL_le d.n
     split
     ·omega
     ·split
      ·split <;> simp
      ·split
       ·simp [← Array.length_toList, ByteArray.size]
       ·split <;> simp
    have hr : (rst cs i).length ≤ (sh cs i).length + 3 := by
     by_cases h4 : d.k = 4
     ·rw [rst_nil hd h4]; simp
     ·rw [rst_other hd h5 h4]; simp
    rw [wt_flat hd h5]
    simp only [h5, if_false]
    omega
def sumW (f : Nat → Nat) (l : List Nat) : Nat := (l.map f).sum
theorem sumW_perm (f : Nat → Nat) {a b : List Nat} (h : List.Perm a b) : sumW f a = sumW f b := (h.map f).sum_nat
theorem sumW_append (f : Nat → Nat) (a b : List Nat) : sumW f (a ++ b) = sumW f a + sumW f b := by simp [sumW]
theorem le_sumW (f : Nat → Nat) {a : List Nat} {x : Nat} (h : x ∈ a) : f x ≤ sumW f a := by
 induction a with
 | nil => cases h
 | cons y a ih =>
  simp only [sumW, List.map_cons, List.sum_cons]
  rcases List.mem_cons.1 h with rfl | h
  ·omega
  ·have := ih h; simp only [sumW] at this; omega
theorem uses_perm {cs : List Dat} {ts : List Int} (h : TreeP cs ts) : List.Perm ((usesOf cs ts).map Int.toNat) (List.range cs.length) := by
 obtain ⟨hp, ht, hc⟩ := h
 have hin : ∀ u ∈ usesOf cs ts, 0 ≤ u ∧ u < cs.length := by
  intro u hu
  rcases List.mem_append.1 hu with hu | hu
  ·obtain ⟨d, hd, hud⟩ := List.mem_flatMap.1 hu
   unfold partsOf at hud
   split at hud
   ·rename_i h5
    obtain ⟨i, hi, rfl⟩ := List.mem_iff_getElem.1 hd
    obtain ⟨a, b, c, e⟩ := hp i _ (List.getElem?_eq_getElem hi) h5
    rcases List.mem_cons.1 hud with rfl | hud
    ·omega
    ·rcases List.mem_cons.1 hud with rfl | hud
     ·omega
     ·cases hud
   ·cases hud
  ·exact ht u hu
 rw [List.perm_iff_count]
 intro a
 have hcount : ((usesOf cs ts).map Int.toNat).count a = (usesOf cs ts).count (a : Int) := by
  generalize usesOf cs ts = l at hin
  induction l with
  | nil => rfl
  | cons x l ih =>
   have hx := hin x (by simp)
   rw [List.map_cons, List.count_cons, List.count_cons, ih (fun u hu => hin u (by simp [hu]))]
   congr 1
   by_cases hxa : x = (a : Int)
   ·subst hxa; simp
   ·have : x.toNat ≠ a := by omega
    simp [hxa, this]
 rw [hcount]
 by_cases ha : a < cs.length
 ·rw [hc a ha, List.count_range]
  simp [ha]
 ·rw [List.count_range]
  simp only [ha, if_false]
  apply List.count_eq_zero.2
  intro hm
  have := hin _ hm
  omega
theorem sum_own {cs : List Dat} (hp : PairOk cs) : ∀ (n : Nat), n ≤ cs.length → sumW (wt cs) (List.range n) = bulkD (cs.take n) + 23 * n + sumW (wt cs) (((cs.take n).flatMap partsOf).map Int.toNat)
 | 0, _ => by simp [sumW, bulkD]
 | n + 1, h => by
  have ih := sum_own hp n (by omega)
  obtain ⟨d, hd⟩ : ∃ d, cs[n]? = some d := ⟨_, List.getElem?_eq_getElem (by omega)⟩
  rw [List.range_succ, sumW_append, ih, bulkD_take_succ hd, List.take_add_one, hd]
  simp only [Option.toList_some, List.flatMap_append, List.map_append, sumW_append, List.flatMap_cons, List.flatMap_nil, List.append_nil]
  have e : sumW (wt cs) [n] = d.s.size + 24 + sumW (wt cs) ((partsOf d).map Int.toNat) := by
   unfold partsOf
   by_cases h5 : d.k = 5
   ·simp [sumW, h5, wt_pair hp hd h5]
   ·simp [sumW, h5, wt_flat hd h5]
  rw [e]
  omega
theorem tops_wt {cs : List Dat} {ts : List Int} (h : TreeP cs ts) : sumW (wt cs) (ts.map Int.toNat) = bulkD cs + 23 * cs.length := by
 have h1 := sumW_perm (wt cs) (uses_perm h)
 rw [sum_own h.1 cs.length (Nat.le_refl _), List.take_length] at h1
 unfold usesOf at h1
 rw [List.map_append, sumW_append] at h1
 omega
theorem wt_le {cs : List Dat} {ts : List Int} (h : TreeP cs ts) : ∀ (k i : Nat), i < cs.length → cs.length - i ≤ k → wt cs i ≤ bulkD cs + 23 * cs.length
 | 0, i, hi, hk => by omega
 | k + 1, i, hi, hk => by
  have hm : (i : Int) ∈ usesOf cs ts := by
   apply List.count_pos_iff.1
   rw [h.2.2 i hi]; omega
  rcases List.mem_append.1 hm with hu | hu
  ·obtain ⟨d, hd, hud⟩ := List.mem_flatMap.1 hu
   unfold partsOf at hud
   split at hud
   ·rename_i h5
    obtain ⟨j, hj, rfl⟩ := List.mem_iff_getElem.1 hd
    have hjd := List.getElem?_eq_getElem hj
    obtain ⟨a, b, c, e⟩ := h.1 j _ hjd h5
    have hw := wt_pair h.1 hjd h5
    have hij : i < j := by
     rcases List.mem_cons.1 hud with hud | hud
     ·omega
     ·rcases List.mem_cons.1 hud with hud | hud
      ·omega
      ·cases hud
    have ih := wt_le h k j hj (by omega)
    rcases List.mem_cons.1 hud with hud | hud
    ·rw [← hud] at hw
     simp only [Int.toNat_natCast] at hw
     omega
    ·rcases List.mem_cons.1 hud with hud | hud
     ·rw [← hud] at hw
      simp only [Int.toNat_natCast] at hw
      omega
     ·cases hud
   ·cases hud
  ·rw [← tops_wt h]
   apply le_sumW
   exact List.mem_map.2 ⟨_, hu, by simp⟩
theorem sh_bound {cs : List Dat} {ts : List Int} (h : TreeP cs ts) (hb : bulkD cs ≤ 1048576) (i : Nat) (hi : i < cs.length) : (sh cs i).length ≤ 33554432 := by
 have h1 := (sh_le h.1 i).1
 have h2 := wt_le h _ i hi (Nat.le_refl _)
 have h3 := bulkD_len cs
 omega
def shAll (cs : List Dat) (ts : List Int) : List UInt8 := ts.flatMap fun t => sh cs t.toNat ++ [10]
theorem shAll_le {cs : List Dat} (hp : PairOk cs) : ∀ (ts : List Int), (shAll cs ts).length ≤ sumW (wt cs) (ts.map Int.toNat) + ts.length
 | [] => by simp [shAll, sumW]
 | t :: ts => by
  have ih := shAll_le hp ts
  have h1 := (sh_le hp t.toNat).1
  simp only [shAll, sumW, List.flatMap_cons, List.map_cons, List.sum_cons, List.length_append, List.length_cons, List.length_nil] at *
  omega
theorem shAll_bound {cs : List Dat} {ts : List Int} (h : TreeP cs ts) (hb : bulkD cs + ts.length ≤ 1048576) : (shAll cs ts).length ≤ 33554432 := by
 have h1 := shAll_le h.1 ts
 have h2 := tops_wt h
 have h3 := bulkD_len cs
 omega
end Go.Proofs.Ytgjeefedcfakdaa.R2
set_option linter.unusedVariables false
namespace Go.Proofs.Ytgjeefedcfakdaa.R2
open Go.ChangeShapes Go.WideShapes Go.ChangeAt Go.RowKit
def cntA (n : Nat) (us : List Int) : Array Value := ((List.range n).map fun (j : Nat) => Value.int .i64 ((us.count (j : Int) : Nat) : Int)).toArray
theorem cntA_size (n : Nat) (us : List Int) : (cntA n us).size = n := by simp [cntA]
theorem cntA_get {n j : Nat} (us : List Int) (h : j < n) : (cntA n us)[j]? = some (.int .i64 ((us.count (j : Int) : Nat) : Int)) := by
 simp [cntA, h]
theorem cntA_set {n k : Nat} (us : List Int) (h : k < n) : (cntA n us).setIfInBounds k (.int .i64 (((us.count (k : Int) : Nat) : Int) + 1)) = cntA n (us ++ [(k : Int)]) := by
 apply Array.ext_getElem?
 intro j
 rw [Array.getElem?_setIfInBounds]
 by_cases hj : j < n
 ·rw [cntA_get _ hj, cntA_get _ hj, cntA_size]
  by_cases hk : k = j
  ·subst hk
   simp [h]
  ·rw [if_neg hk, List.count_append]
   have : (k : Int) ≠ (j : Int) := by omega
   simp [this]
 ·have h1 : (cntA n us)[j]? = none := by rw [Array.getElem?_eq_none]; rw [cntA_size]; omega
  have h2 : (cntA n (us ++ [(k : Int)]))[j]? = none := by rw [Array.getElem?_eq_none]; rw [cntA_size]; omega
  rw [h1, h2, if_neg (by omega)]
theorem cntA_zero (n : Nat) (cur : Array Value) (h : cur.size = n) (hc : cur.toList.take n = (madeCells #[Value.int .i64 0] n).toList) : cur = cntA n [] := by
 have e : cur.toList = (madeCells #[Value.int .i64 0] n).toList := by
  rw [← hc, List.take_of_length_le]
  simp [h]
 apply Array.ext'
 rw [e, toList_madeCells_one]
 symm
 apply List.eq_replicate_iff.2
 refine ⟨by simp [cntA], ?_⟩
 intro b hb
 simp only [cntA, List.count_nil] at hb
 obtain ⟨j, _, rfl⟩ := List.mem_map.1 hb
 rfl
theorem TreeP.not_of_pair {cs : List Dat} {ts : List Int} {i : Nat} {d : Dat} (hd : cs[i]? = some d) (h5 : d.k = 5) (h : ¬ (0 ≤ d.l ∧ d.l < i ∧ 0 ≤ d.r ∧ d.r < i)) : ¬ TreeP cs ts := fun ht => h (ht.1 i d hd h5)
theorem TreeP.not_of_top {cs : List Dat} {ts : List Int} {i : Nat} {t : Int} (hd : ts[i]? = some t) (h : ¬ (0 ≤ t ∧ t < cs.length)) : ¬ TreeP cs ts := fun ht => h (ht.2.1 t (List.mem_of_getElem? hd))
def usesC (cs : List Dat) (i : Nat) : List Int := (cs.take i).flatMap partsOf
theorem usesC_succ {cs : List Dat} {i : Nat} {d : Dat} (h : cs[i]? = some d) : usesC cs (i + 1) = usesC cs i ++ partsOf d := by
 simp [usesC, List.take_add_one, h]
theorem usesC_all (cs : List Dat) : usesC cs cs.length = cs.flatMap partsOf := by simp [usesC]
theorem parts_len (d : Dat) : (partsOf d).length ≤ 2 := by unfold partsOf; split <;> simp
theorem usesC_len (cs : List Dat) : ∀ i, (usesC cs i).length ≤ 2 * i
 | 0 => by simp [usesC]
 | i + 1 => by
  cases h : cs[i]? with
  | none =>
   have : usesC cs (i + 1) = usesC cs i := by simp [usesC, List.take_add_one, h]
   rw [this]; have := usesC_len cs i; omega
  | some d =>
   rw [usesC_succ h, List.length_append]
   have := usesC_len cs i
   have := parts_len d
   omega
open Classical in
noncomputable def treeB (cs : List Dat) (ts : List Int) : Bool := decide (TreeP cs ts)
theorem treeB_true {cs : List Dat} {ts : List Int} (h : TreeP cs ts) : treeB cs ts = true := by simp [treeB, h]
theorem treeB_false {cs : List Dat} {ts : List Int} (h : ¬ TreeP cs ts) : treeB cs ts = false := by simp [treeB, h]
theorem treeB_tree {cs : List Dat} {ts : List Int} (h : treeB cs ts = true) : TreeP cs ts := by simpa [treeB] using h
def PairsTo (cs : List Dat) (i : Nat) : Prop := ∀ (j : Nat) (d : Dat), j < i → cs[j]? = some d → d.k = 5 → 0 ≤ d.l ∧ d.l < j ∧ 0 ≤ d.r ∧ d.r < j
end Go.Proofs.Ytgjeefedcfakdaa.R2
