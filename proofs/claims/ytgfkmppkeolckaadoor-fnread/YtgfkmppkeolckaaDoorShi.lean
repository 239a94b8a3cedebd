/- The program's Show. -/
import Derived.Test.YtgfkmppkeolckaaDoorTrb
import Derived.Test.YtgfkmppkeolckaaDoorShs
import Derived.Test.YtgfkmppkeolckaaDoorShc
set_option linter.unusedVariables false
namespace Go.Proofs.YtgfkmppkeolckaaDoor
open Go.ChangeShapes Go.WideShapes Go.ChangeAt Go.RowKit
set_option maxRecDepth 100000 in
set_option maxHeartbeats 4000000 in
theorem implShow_any (a b : Option Addr) (ca cb : Nat) (cs : List Dat) (ts : List Int) (w : World) (hbk : bulkD cs + ts.length ≤ 1048576) (hwf : ∀ d ∈ cs, d.wf) (hr : RowD w w.heap.size a cs) (hi : RowI w w.heap.size b ts) (h0 : 0 < w.heap.size) (htab : Lib.TabIs Tryd.prog w "internal/strconv.uint64pow10" .u64 Lib.pow10Tab) :
    Calls Tryd.prog 10 #[.agg #[.slice a cs.length ca, .slice b ts.length cb]] w fun e w' => Ans w (.string ⟨(showR cs ts).toArray⟩) e w' := by
  have hln := bulkD_len cs
  have HT : Hid (∀ w1, Below w.heap.size w w1 → Calls Tryd.prog 29 #[.agg #[.slice a cs.length ca, .slice b ts.length cb]] w1 fun e w' => Ans w1 (.bool (treeB cs ts)) e w') := fun w1 h => eachOnce_any a b ca cb cs ts w1 (by omega) (by omega) ((hr.below h).mono h.size) ((hi.below h).mono h.size)
  have hb0 : Below w.heap.size w (w.alloc (Obj.cells #[Value.slice a cs.length ca, Value.slice b ts.length cb] 28)) := (Below.refl _ _).alloc (Nat.le_refl _) _
  cases htb : treeB cs ts with
  | false =>
    rw [showR_not htb]
    rw [htb] at HT
    clear hr hi htab
    go_enter Tryd.func10, Tryd.ntmps10
    go_wp2_with fail
    refine (HT.out _ hb0).mono ?_
    rintro e w1 ⟨rfl, hb1⟩
    have hb2 := hb0.trans (hb1.mono hb0.size)
    go_wp2
    go_ret
    exact ⟨rfl, hb2⟩
  | true =>
    rw [showR_tree htb]
    rw [htb] at HT
    have htree := treeB_tree htb
    have HTR : Hid (TreeP cs ts) := htree
    have HR : Hid (RowD w w.heap.size a cs) := hr
    have HI : Hid (RowI w w.heap.size b ts) := hi
    have HTB : Hid _ := htab
    have HSC : Hid (∀ (B bl : Nat) (i : Nat), i < cs.length → SC B bl a ca cs i) := fun B bl i h => showCell_any B bl a ca cs htree.1 hwf i h
    have hsl := shAll_bound htree hbk
    clear hr hi htree htab
    go_enter Tryd.func10, Tryd.ntmps10
    go_wp2_with fail
    refine (HT.out _ hb0).mono ?_
    rintro e w1 ⟨rfl, hb1⟩
    have HK1 : Hid (w1.heap[w.heap.size]? = some (Obj.cells #[Value.slice a cs.length ca, Value.slice b ts.length cb] 28)) := blk_keep (blk_alloc w _) hb1 (by simp)
    have e0 := cell_blk (j := 0) HK1.out rfl
    have e1 := cell_blk (j := 1) HK1.out rfl
    have hsz : w.heap.size < w1.heap.size := (Array.getElem?_eq_some_iff.1 HK1.out).1
    have hb2 := hb0.trans (hb1.mono hb0.size)
    clear hb0 hb1
    have hb3 : Below w1.heap.size w1 (w1.alloc (Obj.cells #[Value.pointer none, Value.slice none 0 0] 59)) := (Below.refl _ _).alloc (Nat.le_refl _) _
    have hisb : Lib.IsBuilderF 59 5 w1.heap.size w1.heap.size (Lib.byteCells []) (w1.alloc (Obj.cells #[Value.pointer none, Value.slice none 0 0] 59)) :=
      .inl ⟨Nat.le_refl _, .slice none 0 0, blk_alloc _ _, World.ownsRowF_nil _ _ _ _, by simp [Value.ownBlock]⟩
    have hcx : Ctx w1.heap.size a cs w1 := ⟨(HR.out.below hb2).mono hb2.size, var?_below hb2 gPow h0 HTB.out, by omega, Nat.le_refl _⟩
    have HCX : Hid (Ctx w1.heap.size a cs w1) := hcx
    have HI1 : Hid (RowI w1 w1.heap.size b ts) := (HI.out.below hb2).mono hb2.size
    have HSB : Hid _ := hisb
    have HB3 : Hid _ := hb3
    clear hb3 hcx hisb
    go_wp2
    go_loopw [12] (fun o wr => ∃ (i : Nat), i ≤ ts.length ∧ o = .int .i64 i ∧ Lib.IsBuilderF 59 5 w1.heap.size w1.heap.size (Lib.byteCells (shAll cs (ts.take i))) wr ∧ Below w1.heap.size w1 wr)
      (fun o _ => ts.length - (intOf o).toNat)
    case atStart => exact ⟨0, by omega, rfl, HSB.out, HB3.out⟩
    case round =>
      clear HSB HB3 e0 e1
      obtain ⟨i, hi, rfl, hib, hb⟩ := hrel
      have hkd := blk_keep HK1.out hb hsz
      have e0 := cell_blk (j := 0) hkd rfl
      have e1 := cell_blk (j := 1) hkd rfl
      have HB : Hid (Lib.IsBuilderF 59 5 w1.heap.size w1.heap.size (Lib.byteCells (shAll cs (ts.take i))) wr) := hib
      have hcw := HCX.out.below hb
      have HCW : Hid (Ctx w1.heap.size a cs wr) := hcw
      clear hkd hib
      by_cases hlt : i < ts.length
      · obtain ⟨t, ht⟩ : ∃ t, ts[i]? = some t := ⟨_, List.getElem?_eq_getElem hlt⟩
        obtain ⟨q1, q2⟩ := HTR.out.2.1 t (List.mem_of_getElem? ht)
        obtain ⟨b1, o1, rfl, hbb, c0⟩ := (HI1.out.below hb) i t ht
        obtain ⟨T, rfl⟩ := Int.eq_ofNat_of_zero_le q1
        have i1 : decide ((i : Int) < (ts.length : Int)) = true := by simp; omega
        have hsn := shAll_snoc cs ts i (T : Int) ht
        rw [Int.toNat_natCast] at hsn
        have hle := shAll_take cs ts (i + 1)
        have HSN : Hid (shAll cs (ts.take (i + 1)) = shAll cs (ts.take i) ++ (sh cs T ++ [10])) := hsn
        have hl2 : (shAll cs (ts.take i)).length + (sh cs T).length + 1 ≤ 33554432 := by
          rw [hsn] at hle
          simp only [List.length_append, List.length_cons, List.length_nil] at hle
          omega
        have HST : Hid (SC w1.heap.size w1.heap.size a ca cs T) := HSC.out _ _ T (by omega)
        clear hsn hle hcw
        generalize shAll cs (ts.take i) = acc at *
        go_wp2_with fail
        refine (HST.out wr acc HB.out HCW.out (by omega)).mono ?_
        rintro e w3 ⟨rfl, h3⟩
        have HS3 : Hid (Bw w1.heap.size w1.heap.size (acc ++ sh cs T) wr w3) := h3
        have hB3 := (HCW.out.below h3.2.1).2.2.2
        clear h3
        go_wp2_with fail
        refine (wb w1.heap.size w1.heap.size (acc ++ sh cs T) 10 10 rfl w3 HS3.out.1 (by simp; omega) hB3).mono ?_
        rintro e w4 ⟨rfl, h4⟩
        have HS4 : Hid (Bw w1.heap.size w1.heap.size (acc ++ sh cs T ++ [10]) wr w4) := HS3.out.trans h4
        clear h4
        go_wp2
        go_roundw
        case rel => exact ⟨i + 1, by omega, by go_num, by rw [HSN.out, ← List.append_assoc]; exact HS4.out.1, hb.trans HS4.out.2.1⟩
        case measure => simp [intOf]; omega
      · have i1 : decide ((i : Int) < (ts.length : Int)) = false := by simp; omega
        obtain rfl : i = ts.length := by omega
        rw [List.take_length] at HB
        have hB3 := hcw.2.2.2
        clear hcw
        go_wp2_with fail
        refine (Tryd.Builder_String_any_k w1.heap.size w1.heap.size (shAll cs ts) wr HB.out hB3).mono ?_
        rintro e w4 ⟨rfl, -, hb4, -⟩
        have hb5 : Below w.heap.size w w4 := hb2.trans ((hb.trans hb4).mono hb2.size)
        clear hb4
        go_wp2
        go_ret
        exact ⟨rfl, hb5⟩
end Go.Proofs.YtgfkmppkeolckaaDoor
