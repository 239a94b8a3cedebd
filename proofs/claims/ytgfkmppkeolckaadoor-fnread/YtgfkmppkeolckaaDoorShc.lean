/- The program's text of a list, and of each cell. -/
import Derived.Test.YtgfkmppkeolckaaDoorShb
import Derived.Deep.RegionWith
set_option linter.unusedVariables false
namespace Go.Proofs.YtgfkmppkeolckaaDoor
open Go.ChangeShapes Go.WideShapes Go.ChangeAt Go.RowKit
def datA (d : Dat) : Array Value := #[.int .i64 d.k, .int .i64 d.n, .string d.s, .int .i64 d.l, .int .i64 d.r]
theorem putDat_full {w : World} {c : Nat} {v0 v1 v2 v3 v4 : Value} {t : TypeId} (d : Dat) (h : w.heap[c]? = some (.cells #[v0, v1, v2, v3, v4] t (0, 0))) : (putDat w c 0 d).heap[c]? = some (.cells #[.int .i64 d.k, .int .i64 d.n, .string d.s, .int .i64 d.l, .int .i64 d.r] t (0, 0)) :=
  heap_setCell_same _ _ _ _ _ _ (heap_setCell_same _ _ _ _ _ _ (heap_setCell_same _ _ _ _ _ _ (heap_setCell_same _ _ _ _ _ _ (heap_setCell_same _ _ _ _ _ _ h))))
theorem ok_blk {b c : Nat} {w w' : World} {xs : Array Value} {t : TypeId} (h : Lib.OthersKept 5 (some b) w w') (hc : w.heap[c]? = some (.cells xs t (0, 0))) (ht : t ≠ 5) (hcb : c ≠ b) : w'.heap[c]? = some (.cells xs t (0, 0)) :=
  h c _ hc (fun e => hcb (Option.some.inj e)) (fun _ _ e => ht (by injection e))
theorem isB_lt {B b : Nat} {bs : List Value} {w : World} (h : Lib.IsBuilderF 59 5 B b bs w) : b < w.heap.size := by
  rcases h with h | h
  · exact h.lt
  · exact h.lt
set_option maxRecDepth 100000 in
set_option maxHeartbeats 4000000 in
theorem showList_any (B b : Nat) (a : Option Addr) (ca : Nat) (cs : List Dat) (hp : PairOk cs) (i : Nat) (d : Dat) (hd : cs[i]? = some d) (h5 : d.k = 5) (ih : ∀ j, j < i → SC B b a ca cs j) (w : World) (l : List UInt8) (hib : Lib.IsBuilderF 59 5 B b (Lib.byteCells l) w) (hcx : Ctx B a cs w) (hlen : l.length + (sh cs i).length ≤ 1099511627776) :
    Calls Tryd.prog 67 #[.pointer (some ⟨b, 0, none⟩), .slice a cs.length ca, .agg #[.int .i64 d.k, .int .i64 d.n, .string d.s, .int .i64 d.l, .int .i64 d.r]] w fun e w' => e = .returned (.tuple #[]) ∧ Bw B b (l ++ sh cs i) w w' := by
  have IH : Hid (∀ j, j < i → SC B b a ca cs j) := ih
  have HX : Hid (Ctx B a cs w) := hcx
  have HP : Hid (PairOk cs) := hp
  have hsp := sh_pair hp hd h5
  have HB : Hid (Lib.IsBuilderF 59 5 B b (Lib.byteCells l) w) := hib
  have hbw := isB_lt hib
  have hBs := hcx.2.2.2
  have hi := (List.getElem?_eq_some_iff.1 hd).1
  obtain ⟨q1, q2, q3, q4⟩ := hp i d hd h5
  obtain ⟨k, n, s, l', r⟩ := d
  simp only at *
  subst h5
  obtain ⟨L, rfl⟩ := Int.eq_ofNat_of_zero_le q1
  obtain ⟨R, rfl⟩ := Int.eq_ofNat_of_zero_le q3
  simp only [Int.toNat_natCast] at *
  have HS : Hid (sh cs i = 40 :: (sh cs L ++ rst cs R ++ [41])) := hsp
  have hLi : L < i := by omega
  have HD : Hid (cs[i]? = some (⟨5, n, s, (L : Int), (R : Int)⟩ : Dat)) := hd
  have HLN : Hid (l.length + (sh cs i).length ≤ 1099511627776) := hlen
  have hln : l.length + 1 + (sh cs L).length ≤ 1099511627776 := by
    rw [hsp] at hlen
    simp only [List.length_cons, List.length_append, List.length_nil] at hlen
    omega
  clear ih hcx hp hsp hib hd hlen
  go_enter Tryd.func67, Tryd.ntmps67
  go_wp2_with fail
  have hs := Bw.start HB.out hBs ((Below.refl _ w).alloc (Nat.le_refl _) (Obj.cells #[Value.int .i64 5, Value.int .i64 n, Value.string s, Value.int .i64 (L : Int), Value.int .i64 (R : Int)] 67))
  refine (wb B b l 40 40 rfl _ hs.1 (by omega) (HX.out.below hs.2.1).2.2.2).mono ?_
  rintro e w1 ⟨rfl, h1⟩
  have hk1 := ok_blk h1.2.2 (blk_alloc w _) (by decide) (by omega)
  have hs1 := hs.trans h1
  have c1 := cell_blk (j := 3) hk1 rfl
  have HK1 : Hid _ := hk1
  have HS1 : Hid (Bw B b (l ++ [40]) w w1) := hs1
  have hx1 : Hid (Ctx B a cs w1) := HX.out.below hs1.2.1
  clear hs h1 hk1 hs1
  go_wp2_with fail
  refine (IH.out L hLi _ (l ++ [40]) HS1.out.1 hx1.out (by simp; omega)).mono ?_
  rintro e w2 ⟨rfl, h2⟩
  have hk2 := ok_blk h2.2.2 HK1.out (by decide) (by omega)
  have HK2 : Hid (w2.heap[w.heap.size]? = some (Obj.cells #[Value.int .i64 5, Value.int .i64 n, Value.string s, Value.int .i64 (L : Int), Value.int .i64 (R : Int)] 67)) := hk2
  have HS2 : Hid (Bw B b (l ++ [40] ++ sh cs L) w w2) := HS1.out.trans h2
  clear hk2 h2 HK1 HS1 hx1 c1
  go_wp2
  go_loopw [13] (fun _ wr => ∃ (x y n : Nat) (n' : Int) (s' : ByteArray) (l0 : Int) (acc : List UInt8), x ≤ i ∧ y < x ∧ wr.heap[w.heap.size]? = some (Obj.cells #[Value.int .i64 5, Value.int .i64 n', Value.string s', Value.int .i64 l0, Value.int .i64 (y : Int)] 67) ∧ acc ++ rst cs y ++ [41] = sh cs i ∧ Bw B b (l ++ acc) w wr)
    (fun _ wr => match wr.cell? ⟨w.heap.size, 4, none⟩ with | some v => (intOf v).toNat | none => 0)
  case atStart => exact ⟨i, R, 0, n, s, (L : Int), 40 :: sh cs L, Nat.le_refl _, by omega, HK2.out, by rw [HS.out]; simp, by have := HS2.out; simpa using this⟩
  case round =>
    clear HK2 HS2
    obtain ⟨x, y, _, n', s', l0, acc, hx, hy, hk, hacc, hbw2⟩ := hrel
    obtain ⟨dy, hdy⟩ : ∃ dy, cs[y]? = some dy := ⟨_, List.getElem?_eq_getElem (by omega)⟩
    have hcx2 := HX.out.below hbw2.2.1
    obtain ⟨b2, o2, rfl, hbb2, c0, c1, c2, c3, c4⟩ := hcx2.1 y dy hdy
    have e0 := cell_blk (j := 0) hk rfl
    have e1 := cell_blk (j := 1) hk rfl
    have e2 := cell_blk (j := 2) hk rfl
    have e3 := cell_blk (j := 3) hk rfl
    have e4 := cell_blk (j := 4) hk rfl
    have f0 := frozen_blk hk 0
    have f1 := frozen_blk hk 1
    have f2 := frozen_blk hk 2
    have f3 := frozen_blk hk 3
    have f4 := frozen_blk hk 4
    have HK : Hid (wr.heap[w.heap.size]? = some (Obj.cells #[Value.int .i64 5, Value.int .i64 n', Value.string s', Value.int .i64 l0, Value.int .i64 (y : Int)] 67)) := hk
    have HA : Hid (acc ++ rst cs y ++ [41] = sh cs i) := hacc
    have HW : Hid (Bw B b (l ++ acc) w wr) := hbw2
    have HCX : Hid (Ctx B (some ⟨b2, o2, none⟩) cs wr) := hcx2
    have y0 : (0 : Int) ≤ (y : Int) := by omega
    have y1 : (y : Int) < (cs.length : Int) := by omega
    have hne : ¬ b2 = w.heap.size := by omega
    have HLA : Hid (l.length + acc.length + (rst cs y).length + 1 ≤ 1099511627776) := by
      have h1 := HLN.out
      rw [← hacc] at h1
      simp only [List.length_cons, List.length_append, List.length_nil] at h1
      show _ ≤ _; omega
    clear hk hbw2 hcx2 hacc
    by_cases hk5 : dy.k = 5
    · have hrp := rst_pair HP.out hdy hk5
      obtain ⟨u1, u2, u3, u4⟩ := HP.out y dy hdy hk5
      obtain ⟨k', n'', s'', l'', r''⟩ := dy
      simp only at *
      subst hk5
      obtain ⟨L', rfl⟩ := Int.eq_ofNat_of_zero_le u1
      obtain ⟨R', rfl⟩ := Int.eq_ofNat_of_zero_le u3
      simp only [Int.toNat_natCast] at *
      have hL' : L' < i := by omega
      have hR' : R' < y := by omega
      have HRP : Hid (rst cs y = 32 :: (sh cs L' ++ rst cs R')) := hrp
      have hln2 : l.length + acc.length + 1 + (sh cs L').length ≤ 1099511627776 := by
        have h1 := HLA.out
        rw [hrp] at h1
        simp only [List.length_cons, List.length_append] at h1
        omega
      clear hrp
      go_wp2_with fail
      have p1 := putDat_full (⟨5, n'', s'', (L' : Int), (R' : Int)⟩ : Dat) HK.out
      have p2 : Lib.IsBuilderF 59 5 B b (Lib.byteCells (l ++ acc)) (putDat wr w.heap.size 0 ⟨5, n'', s'', (L' : Int), (R' : Int)⟩) := isB_put _ HW.out.1 HK.out (by decide) (by omega)
      have p3 : Bw B b (l ++ acc) w (putDat wr w.heap.size 0 ⟨5, n'', s'', (L' : Int), (R' : Int)⟩) := ⟨p2, putDat_below HW.out.2.1 hBs _ _, ok_put _ HW.out.2.2 (Nat.le_refl _)⟩
      refine (wb B b (l ++ acc) 32 32 rfl (putDat wr w.heap.size 0 ⟨5, n'', s'', (L' : Int), (R' : Int)⟩) p2 (by simp; omega) (HX.out.below p3.2.1).2.2.2).mono ?_
      rintro e w3 ⟨rfl, h3⟩
      have hk3 := ok_blk h3.2.2 p1 (by decide) (by omega)
      have hs3 := p3.trans h3
      have g3 := cell_blk (j := 3) hk3 rfl
      have HK3 : Hid _ := hk3
      have HS3 : Hid (Bw B b (l ++ acc ++ [32]) w w3) := hs3
      have HX3 : Hid (Ctx B (some ⟨b2, o2, none⟩) cs w3) := HX.out.below hs3.2.1
      clear p1 p2 p3 h3 hk3 hs3 c0 c1 c2 c3 c4 e0 e1 e2 e3 f0 f1 f2 f3 f4
      go_wp2_with fail
      refine (IH.out L' hL' _ (l ++ acc ++ [32]) HS3.out.1 HX3.out (by simp; omega)).mono ?_
      rintro e w4 ⟨rfl, h4⟩
      have hk4 := ok_blk h4.2.2 HK3.out (by decide) (by omega)
      have HK4 : Hid (w4.heap[w.heap.size]? = some (Obj.cells #[Value.int .i64 5, Value.int .i64 n'', Value.string s'', Value.int .i64 (L' : Int), Value.int .i64 (R' : Int)] 67)) := hk4
      have HS4 : Hid (Bw B b (l ++ acc ++ [32] ++ sh cs L') w w4) := HS3.out.trans h4
      have HM : Hid (w4.cell? ⟨w.heap.size, 4, none⟩ = some (.int .i64 (R' : Int))) := cell_blk (j := 4) hk4 rfl
      have HM0 : Hid (wr.cell? ⟨w.heap.size, 4, none⟩ = some (.int .i64 (y : Int))) := e4
      clear hk4 h4 HK3 HS3 HX3 g3
      go_wp2
      go_roundw
      case rel => exact ⟨y, R', 0, n'', s'', (L' : Int), acc ++ 32 :: sh cs L', by omega, hR', HK4.out, by rw [← HA.out, HRP.out]; simp, by have := HS4.out; simpa using this⟩
      case measure => simp only [HM.out, HM0.out, intOf]; simp; omega
    · have hk5' : (dy.k == 5) = false := by simp [hk5]
      by_cases hk4 : dy.k = 4
      · rw [rst_nil hdy hk4, List.append_nil] at HA
        have hla : l.length + acc.length ≤ 1099511627776 := by have := HLA.out; omega
        obtain ⟨k', n'', s'', l'', r''⟩ := dy
        simp only at *
        subst hk4
        go_wp2_with fail
        refine (wb B b (l ++ acc) 41 41 rfl _ HW.out.1 (by simp; omega) HCX.out.2.2.2).mono ?_
        rintro e w3 ⟨rfl, h3⟩
        have HS3 : Hid (Bw B b (l ++ acc ++ [41]) w w3) := HW.out.trans h3
        clear h3
        go_wp2
        go_end0
        refine ⟨rfl, ?_⟩
        rw [← HA.out, ← List.append_assoc]
        exact HS3.out
      · have hk4' : (dy.k != 4) = true := by simp [hk4]
        rw [rst_other hdy hk5 hk4] at HA HLA
        have hla : l.length + acc.length + 3 + (sh cs y).length + 1 ≤ 1099511627776 := by
          have h1 := HLA.out
          simp only [List.length_cons, List.length_append, List.length_nil] at h1
          omega
        go_wp2_with fail
        refine (ws B b (l ++ acc) [32, 46, 32] _ HW.out.1 (by simp; omega) HCX.out.2.2.2).mono ?_
        rintro e w3 ⟨v3, rfl, h3⟩
        have hk3 := ok_blk h3.2.2 HK.out (by decide) (by omega)
        have hs3 := HW.out.trans h3
        have g4 := cell_blk (j := 4) hk3 rfl
        have HS3 : Hid (Bw B b (l ++ acc ++ [32, 46, 32]) w w3) := hs3
        have HX3 : Hid (Ctx B (some ⟨b2, o2, none⟩) cs w3) := HX.out.below hs3.2.1
        have hyi : y < i := by omega
        clear h3 hk3 hs3 c0 c1 c2 c3 c4 e0 e1 e2 e3 e4 f0 f1 f2 f3 f4
        go_wp2_with fail
        refine (IH.out y hyi _ (l ++ acc ++ [32, 46, 32]) HS3.out.1 HX3.out (by simp; omega)).mono ?_
        rintro e w4 ⟨rfl, h4⟩
        have HS4 : Hid (Bw B b (l ++ acc ++ [32, 46, 32] ++ sh cs y) w w4) := HS3.out.trans h4
        have hB4 := (HX.out.below HS4.out.2.1).2.2.2
        clear h4 g4
        go_wp2_with fail
        refine (wb B b (l ++ acc ++ [32, 46, 32] ++ sh cs y) 41 41 rfl _ HS4.out.1 (by simp; omega) hB4).mono ?_
        rintro e w5 ⟨rfl, h5⟩
        have HS5 : Hid (Bw B b (l ++ acc ++ [32, 46, 32] ++ sh cs y ++ [41]) w w5) := HS4.out.trans h5
        clear h5
        go_wp2
        go_end0
        refine ⟨rfl, ?_⟩
        rw [← HA.out]
        have := HS5.out
        simpa using this
set_option maxRecDepth 100000 in
set_option maxHeartbeats 2000000 in
theorem showCell_any (B b : Nat) (a : Option Addr) (ca : Nat) (cs : List Dat) (hp : PairOk cs) (hwf : ∀ d ∈ cs, d.wf) : ∀ i, i < cs.length → SC B b a ca cs i := by
  intro i
  induction i using Nat.strongRecOn with
  | ind i ih =>
  intro hi
  obtain ⟨d, hd⟩ : ∃ d, cs[i]? = some d := ⟨_, List.getElem?_eq_getElem hi⟩
  by_cases h5 : d.k = 5
  · intro w l hib hcx hlen
    have hsl : Hid (∀ w, Lib.IsBuilderF 59 5 B b (Lib.byteCells l) w → Ctx B a cs w → Calls Tryd.prog 67 #[.pointer (some ⟨b, 0, none⟩), .slice a cs.length ca, .agg #[.int .i64 d.k, .int .i64 d.n, .string d.s, .int .i64 d.l, .int .i64 d.r]] w fun e w' => e = .returned (.tuple #[]) ∧ Bw B b (l ++ sh cs i) w w') := fun w h1 h2 => showList_any B b a ca cs hp i d hd h5 (fun j hj => ih j hj (by omega)) w l h1 h2 hlen
    have HX : Hid (Ctx B a cs w) := hcx
    have HB : Hid (Lib.IsBuilderF 59 5 B b (Lib.byteCells l) w) := hib
    obtain ⟨b1, o1, rfl, hbb, c0, c1, c2, c3, c4⟩ := hcx.1 i d hd
    have hBs := hcx.2.2.2
    have i0 : (0 : Int) ≤ (i : Int) := by omega
    have i1 : (i : Int) < (cs.length : Int) := by omega
    obtain ⟨k, n, s, l', r⟩ := d
    simp only at *
    subst h5
    clear hib hcx ih hp hwf
    go_enter Tryd.func30, Tryd.ntmps30
    go_wp2_with fail
    have hs := Bw.start HB.out hBs ((Below.refl _ w).alloc (Nat.le_refl _) (Obj.cells #[Value.int .i64 5, Value.int .i64 n, Value.string s, Value.int .i64 l', Value.int .i64 r] 67))
    refine (hsl.out _ hs.1 (HX.out.below hs.2.1)).mono ?_
    rintro e w2 ⟨rfl, h2⟩
    have HF : Hid (Bw B b (l ++ sh cs i) w w2) := hs.trans h2
    clear hs h2
    go_wp2
    go_end0
    exact ⟨rfl, HF.out⟩
  · exact showCell_flat B b a ca cs i d hd (hwf d (List.mem_of_getElem? hd)) h5
end Go.Proofs.YtgfkmppkeolckaaDoor
