/- The program's text of a cell, written to a builder. -/
import Derived.Test.YtgfkmppkeolckaaDoorShp
import Derived.Test.YtgfkmppkeolckaaDoorDecb
import Derived.Test.YtgfkmppkeolckaaDoorBld
import Derived.WalkSmall
set_option linter.unusedVariables false
namespace Go.Proofs.YtgfkmppkeolckaaDoor
open Go.ChangeShapes Go.WideShapes Go.ChangeAt Go.RowKit
/-- The builder holds a text; what else there was below stands. -/
def Bw (B b : Nat) (l : List UInt8) (w w' : World) : Prop :=
  Lib.IsBuilderF 59 5 B b (Lib.byteCells l) w' ∧ Below B w w' ∧ Lib.OthersKept 5 (some b) w w'
/-- What the writing leans on. -/
def Ctx (B : Nat) (a : Option Addr) (cs : List Dat) (w : World) : Prop :=
  RowD w B a cs ∧ Lib.TabIs Tryd.prog w "internal/strconv.uint64pow10" .u64 Lib.pow10Tab ∧ 0 < B ∧ B ≤ w.heap.size
theorem Ctx.below {B : Nat} {a : Option Addr} {cs : List Dat} {w w' : World} (h : Ctx B a cs w) (hb : Below B w w') : Ctx B a cs w' :=
  ⟨h.1.below hb, var?_below hb gPow h.2.2.1 h.2.1, h.2.2.1, Nat.le_trans h.2.2.2 hb.size⟩
theorem byteCells_snoc (l : List UInt8) (c : UInt8) : Lib.byteCells l ++ [Value.int .u8 (c.toNat : Int)] = Lib.byteCells (l ++ [c]) := by simp [Lib.byteCells]
theorem byteCells_app (l m : List UInt8) : Lib.byteCells l ++ Lib.strCells ⟨m.toArray⟩ = Lib.byteCells (l ++ m) := by
  simp [Lib.byteCells, Lib.strCells]
theorem Bw.trans {B b : Nat} {l m : List UInt8} {w1 w2 w3 : World} (h : Bw B b l w1 w2) (k : Bw B b m w2 w3) : Bw B b m w1 w3 :=
  ⟨k.1, h.2.1.trans k.2.1, h.2.2.trans k.2.2⟩
theorem wb (B b : Nat) (l : List UInt8) (c : UInt8) (x : Int) (hx : x = (c.toNat : Int)) (w : World) (h : Lib.IsBuilderF 59 5 B b (Lib.byteCells l) w) (hlen : l.length ≤ 1099511627776) (hBw : B ≤ w.heap.size) :
    Calls Tryd.prog 31 #[.pointer (some ⟨b, 0, none⟩), .int .u8 x] w fun e w' => e = .returned .nilIface ∧ Bw B b (l ++ [c]) w w' := by
  subst hx
  refine (writeByte_any B b _ _ w h (by rw [Lib.byteCells_length]; omega) hBw).mono ?_
  rintro e w' ⟨rfl, h1, h2, h3⟩
  rw [byteCells_snoc] at h1
  exact ⟨rfl, .inr h1, h2, h3⟩
theorem ws (B b : Nat) (l m : List UInt8) (w : World) (h : Lib.IsBuilderF 59 5 B b (Lib.byteCells l) w) (hlen : l.length + m.length ≤ 1099511627776) (hBw : B ≤ w.heap.size) :
    Calls Tryd.prog 65 #[.pointer (some ⟨b, 0, none⟩), .string ⟨m.toArray⟩] w fun e w' => ∃ v, e = .returned v ∧ Bw B b (l ++ m) w w' := by
  have hs : (ByteArray.mk m.toArray).size = m.length := by simp [ByteArray.size]
  refine (writeString_any B b _ _ w h (by rw [Lib.byteCells_length, hs]; omega) hBw).mono ?_
  rintro e w' ⟨rfl, h1, h2, h3⟩
  rw [byteCells_app] at h1
  exact ⟨_, rfl, .inr h1, h2, h3⟩
theorem isB_alloc {B b : Nat} {bs : List Value} {w : World} (h : Lib.IsBuilderF 59 5 B b bs w) (o : Obj) : Lib.IsBuilderF 59 5 B b bs (w.alloc o) := by
  rcases h with h | h
  · exact .inl (h.alloc o)
  · exact .inr (h.alloc o)
theorem grownBy_setCell' (a : World) (k j : Nat) (v : Value) : a.grownBy (a.setCell ⟨k, j, none⟩ v) (some k) :=
  ⟨rfl, rfl, rfl, by simp, fun i _ hn => heap_setCell_other a ⟨k, j, none⟩ i v (fun e => hn (by simp [e]))⟩
theorem atB_set {B b c j : Nat} {p : Value} {bs : List Value} {w : World} {xs : Array Value} {t : TypeId} (h : Lib.BuilderAtF 59 5 B b p bs w) (hc : w.heap[c]? = some (.cells xs t (0, 0))) (ht : t ≠ 5) (hcb : c ≠ b) (v : Value) : Lib.BuilderAtF 59 5 B b p bs (w.setCell ⟨c, j, none⟩ v) := by
  obtain ⟨h1, u, h2, h3, h4⟩ := h
  refine ⟨h1, u, ?_, h3.kept (grownBy_setCell' w c j v) (.inr (Lib.ownBlock_neF h3 hc ht)), h4⟩
  rw [heap_setCell_other _ _ _ _ (fun e => hcb e.symm)]
  exact h2
theorem isB_put {B b c o : Nat} {bs : List Value} {w : World} {xs : Array Value} {t : TypeId} (d : Dat) (h : Lib.IsBuilderF 59 5 B b bs w) (hc : w.heap[c]? = some (.cells xs t (0, 0))) (ht : t ≠ 5) (hcb : c ≠ b) : Lib.IsBuilderF 59 5 B b bs (putDat w c o d) := by
  have step : ∀ (w : World) (xs : Array Value) (j : Nat) (v : Value), Lib.IsBuilderF 59 5 B b bs w → w.heap[c]? = some (.cells xs t (0, 0)) → Lib.IsBuilderF 59 5 B b bs (w.setCell ⟨c, j, none⟩ v) := by
    intro w xs j v h hc
    rcases h with h | h
    · exact .inl (atB_set h hc ht hcb v)
    · exact .inr (atB_set h hc ht hcb v)
  have k0 := heap_setCell_same w c o xs t (.int .i64 d.k) hc
  have k1 := heap_setCell_same _ c (o + 1) _ t (.int .i64 d.n) k0
  have k2 := heap_setCell_same _ c (o + 2) _ t (.string d.s) k1
  have k3 := heap_setCell_same _ c (o + 3) _ t (.int .i64 d.l) k2
  exact step _ _ _ _ (step _ _ _ _ (step _ _ _ _ (step _ _ _ _ (step _ _ _ _ h hc) k0) k1) k2) k3
theorem ok_put {b c o : Nat} {w w' : World} (d : Dat) (h : Lib.OthersKept 5 (some b) w w') (hc : w.heap.size ≤ c) : Lib.OthersKept 5 (some b) w (putDat w' c o d) := by
  intro k x hk hb hx
  have h1 := h k x hk hb hx
  have hkc : k ≠ c := by have := (Array.getElem?_eq_some_iff.1 hk).1; omega
  unfold putDat
  rw [heap_setCell_other _ _ _ _ hkc, heap_setCell_other _ _ _ _ hkc, heap_setCell_other _ _ _ _ hkc, heap_setCell_other _ _ _ _ hkc, heap_setCell_other _ _ _ _ hkc]
  exact h1
theorem grownBy_below {w w' : World} (h : Below w.heap.size w w') : w.grownBy w' none := ⟨h.os, h.tape, h.output, h.size, fun k hk _ => h.block k hk⟩
theorem isB_below {B b : Nat} {bs : List Value} {w w' : World} (h : Lib.IsBuilderF 59 5 B b bs w) (hb : Below w.heap.size w w') : Lib.IsBuilderF 59 5 B b bs w' := by
  have key : ∀ p, Lib.BuilderAtF 59 5 B b p bs w → Lib.BuilderAtF 59 5 B b p bs w' := by
    rintro p ⟨h1, u, h2, h3, h4⟩
    exact ⟨h1, u, (hb.block b (Array.getElem?_eq_some_iff.1 h2).1).trans h2, h3.kept (grownBy_below hb) (by cases u.ownBlock <;> simp), h4⟩
  rcases h with h | h
  · exact .inl (key _ h)
  · exact .inr (key _ h)
theorem okb_below {b : Option Nat} {w w' : World} (hb : Below w.heap.size w w') : Lib.OthersKept 5 b w w' := fun k o hk _ _ => (hb.block k (Array.getElem?_eq_some_iff.1 hk).1).trans hk
theorem Bw.start {B b : Nat} {l : List UInt8} {w w' : World} (h : Lib.IsBuilderF 59 5 B b (Lib.byteCells l) w) (hB : B ≤ w.heap.size) (hb : Below w.heap.size w w') : Bw B b l w w' := ⟨isB_below h hb, hb.mono hB, okb_below hb⟩
/-- The contract of showCell at a cell. -/
def SC (B b : Nat) (a : Option Addr) (ca : Nat) (cs : List Dat) (i : Nat) : Prop :=
  ∀ (w : World) (l : List UInt8), Lib.IsBuilderF 59 5 B b (Lib.byteCells l) w → Ctx B a cs w → l.length + (sh cs i).length ≤ 1099511627776 →
    Calls Tryd.prog 30 #[.pointer (some ⟨b, 0, none⟩), .slice a cs.length ca, .int .i64 i] w fun e w' => e = .returned (.tuple #[]) ∧ Bw B b (l ++ sh cs i) w w'
set_option maxRecDepth 100000 in
set_option maxHeartbeats 2000000 in
theorem showCell_flat (B b : Nat) (a : Option Addr) (ca : Nat) (cs : List Dat) (i : Nat) (d : Dat) (hd : cs[i]? = some d) (hw : d.wf) (h5 : d.k ≠ 5) : SC B b a ca cs i := by
  intro w l hib hcx hlen
  rw [sh_flat hd h5] at *
  have hi := (List.getElem?_eq_some_iff.1 hd).1
  have HX : Hid (Ctx B a cs w) := hcx
  have HB : Hid (Lib.IsBuilderF 59 5 B b (Lib.byteCells l) w) := hib
  obtain ⟨b1, o1, rfl, hbb, c0, c1, c2, c3, c4⟩ := hcx.1 i d hd
  obtain ⟨k, n, s, l', r⟩ := d
  simp only [Dat.wf] at *
  have i0 : (0 : Int) ≤ (i : Int) := by omega
  have i1 : (i : Int) < (cs.length : Int) := by omega
  have hBs := hcx.2.2.2
  clear hib hcx
  by_cases h1 : k = 1
  · subst h1
    simp only [if_true] at *
    go_enter Tryd.func30, Tryd.ntmps30
    go_wp2_with fail
    have hs := Bw.start HB.out hBs ((Below.refl _ w).alloc (Nat.le_refl _) (Obj.cells #[Value.int .i64 1, Value.int .i64 n, Value.string s, Value.int .i64 l', Value.int .i64 r] 67))
    refine (implDec_any n _ hw.2.1.1 hw.2.1.2 (HX.out.below hs.2.1).2.1).mono ?_
    rintro e w1 ⟨rfl, hb1⟩
    have hs1 := hs.trans (Bw.start hs.1 (HX.out.below hs.2.1).2.2.2 hb1)
    have HS1 : Hid (Bw B b l w w1) := hs1
    have hB1 := (HX.out.below hs1.2.1).2.2.2
    clear hs hb1 hs1
    go_wp2_with fail
    refine (ws B b l (decL n) _ HS1.out.1 hlen hB1).mono ?_
    rintro e w2 ⟨v, rfl, h2⟩
    go_wp2
    go_end0
    exact ⟨rfl, HS1.out.trans h2⟩
  have fin : ∀ (m : List UInt8) (k' : Int) (w2 : World), Lib.IsBuilderF 59 5 B b (Lib.byteCells l) w → l.length + m.length ≤ 1099511627776 → Calls Tryd.prog 65 #[.pointer (some ⟨b, 0, none⟩), .string ⟨m.toArray⟩] (w.alloc (Obj.cells #[Value.int .i64 k', Value.int .i64 n, Value.string s, Value.int .i64 l', Value.int .i64 r] 67)) fun e w' => ∃ v, e = .returned v ∧ Bw B b (l ++ m) w w' := by
    intro m k' _ hB hl
    have hs := Bw.start hB hBs ((Below.refl _ w).alloc (Nat.le_refl _) (Obj.cells #[Value.int .i64 k', Value.int .i64 n, Value.string s, Value.int .i64 l', Value.int .i64 r] 67))
    refine (ws B b l m _ hs.1 hl (HX.out.below hs.2.1).2.2.2).mono ?_
    rintro e w2 ⟨v, rfl, h2⟩
    exact ⟨v, rfl, hs.trans h2⟩
  have FN : Hid _ := fin
  clear fin
  by_cases h2 : k = 2
  · subst h2
    by_cases hn1 : n = 1
    · subst hn1
      simp (config := { decide := true }) only [if_true, if_false] at *
      go_enter Tryd.func30, Tryd.ntmps30
      go_wp2_with fail
      refine (FN.out [35, 116] 2 w HB.out hlen).mono ?_
      rintro e w2 ⟨v, rfl, h2⟩
      go_wp2
      go_end0
      exact ⟨rfl, h2⟩
    · have hn2 : (n == 1) = false := by simp [hn1]
      simp (config := { decide := true }) only [hn1, if_true, if_false] at *
      go_enter Tryd.func30, Tryd.ntmps30
      go_wp2_with fail
      refine (FN.out [35, 102] 2 w HB.out hlen).mono ?_
      rintro e w2 ⟨v, rfl, h2⟩
      go_wp2
      go_end0
      exact ⟨rfl, h2⟩
  by_cases h3 : k = 3
  · subst h3
    simp (config := { decide := true }) only [if_true, if_false] at *
    go_enter Tryd.func30, Tryd.ntmps30
    go_wp2_with fail
    refine (FN.out s.data.toList 3 w HB.out hlen).mono ?_
    rintro e w2 ⟨v, rfl, h2⟩
    go_wp2
    go_end0
    exact ⟨rfl, h2⟩
  by_cases h4 : k = 4
  · subst h4
    simp (config := { decide := true }) only [if_true, if_false] at *
    go_enter Tryd.func30, Tryd.ntmps30
    go_wp2_with fail
    refine (FN.out [40, 41] 4 w HB.out hlen).mono ?_
    rintro e w2 ⟨v, rfl, h2⟩
    go_wp2
    go_end0
    exact ⟨rfl, h2⟩
  have g1 : (k == 1) = false := by simp [h1]
  have g2 : (k == 2) = false := by simp [h2]
  have g3 : (k == 3) = false := by simp [h3]
  have g4 : (k == 4) = false := by simp [h4]
  have g5 : (k == 5) = false := by simp [h5]
  simp only [h1, h2, h3, h4, if_false]
  go_enter Tryd.func30, Tryd.ntmps30
  go_wp2
  go_end0
  rw [List.append_nil]
  exact ⟨rfl, Bw.start HB.out hBs ((Below.refl _ w).alloc (Nat.le_refl _) _)⟩
end Go.Proofs.YtgfkmppkeolckaaDoor
