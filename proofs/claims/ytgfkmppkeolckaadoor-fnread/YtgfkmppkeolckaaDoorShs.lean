/- The model's Show. -/
import Derived.Test.YtgfkmppkeolckaaDoorTra
import Derived.Test.YtgfkmppkeolckaaDoorSha
set_option linter.unusedVariables false
namespace Go.Proofs.YtgfkmppkeolckaaDoor
open Go.ChangeShapes Go.WideShapes Go.ChangeAt Go.RowKit
theorem shAll_snoc (cs : List Dat) (ts : List Int) (i : Nat) (t : Int) (h : ts[i]? = some t) : shAll cs (ts.take (i + 1)) = shAll cs (ts.take i) ++ (sh cs t.toNat ++ [10]) := by
  simp [shAll, List.take_add_one, h]
theorem shAll_take (cs : List Dat) (ts : List Int) (i : Nat) : (shAll cs (ts.take i)).length ≤ (shAll cs ts).length := by
  have h : shAll cs ts = shAll cs (ts.take i) ++ shAll cs (ts.drop i) := by
    unfold shAll
    rw [← List.flatMap_append, List.take_append_drop]
  rw [h, List.length_append]
  omega
/-- What both Shows answer. -/
noncomputable def showR (cs : List Dat) (ts : List Int) : List UInt8 := if treeB cs ts = true then shAll cs ts else []
theorem showR_tree {cs : List Dat} {ts : List Int} (h : treeB cs ts = true) : showR cs ts = shAll cs ts := if_pos h
theorem showR_not {cs : List Dat} {ts : List Int} (h : treeB cs ts = false) : showR cs ts = [] := if_neg (by rw [h]; decide)
theorem app3' (a b c : List UInt8) : ((⟨a.toArray⟩ : ByteArray) ++ ⟨b.toArray⟩) ++ ⟨c.toArray⟩ = ⟨(a ++ (b ++ c)).toArray⟩ := app3 a b c
set_option maxRecDepth 100000 in
set_option maxHeartbeats 4000000 in
theorem specShow_any (a b : Option Addr) (ca cb : Nat) (cs : List Dat) (ts : List Int) (w : World) (hbk : bulkD cs + ts.length ≤ 1048576) (hwf : ∀ d ∈ cs, d.wf) (hr : RowD w w.heap.size a cs) (hi : RowI w w.heap.size b ts) :
    Calls Tryd.prog 16 #[.agg #[.slice a cs.length ca, .slice b ts.length cb]] w fun e w' => Ans w (.string ⟨(showR cs ts).toArray⟩) e w' := by
  have hln := bulkD_len cs
  have HT : Hid (∀ w1, Below w.heap.size w w1 → Calls Tryd.prog 40 #[.agg #[.slice a cs.length ca, .slice b ts.length cb]] w1 fun e w' => Ans w1 (.bool (treeB cs ts)) e w') := fun w1 h => l2Tree_any a b ca cb cs ts w1 (by omega) (by omega) ((hr.below h).mono h.size) ((hi.below h).mono h.size)
  have hb0 : Below w.heap.size w (w.alloc (Obj.cells #[Value.slice a cs.length ca, Value.slice b ts.length cb] 28)) := (Below.refl _ _).alloc (Nat.le_refl _) _
  cases htb : treeB cs ts with
  | false =>
    rw [showR_not htb]
    rw [htb] at HT
    clear hr hi
    go_enter Tryd.func16, Tryd.ntmps16
    go_wp2_with fail
    refine (HT.out _ hb0).mono ?_
    rintro e w1 ⟨rfl, hb1⟩
    have hb2 := hb0.trans (hb1.mono hb0.size)
    go_wp2
    go_ret
    exact ⟨rfl, hb2⟩
  | true =>
    rw [showR_tree htb]
    rw [htb] at HT
    have htree := treeB_tree htb
    have HTR : Hid (TreeP cs ts) := htree
    have HR : Hid (RowD w w.heap.size a cs) := hr
    have HI : Hid (RowI w w.heap.size b ts) := hi
    have HS : Hid (∀ (i : Nat) (w1 : World), i < cs.length → Below w.heap.size w w1 → Calls Tryd.prog 41 #[.agg #[.slice a cs.length ca, .slice b ts.length cb], .int .i64 i] w1 fun e w' => Ans w1 (.string ⟨(sh cs i).toArray⟩) e w') := fun i w1 h hb => l2Show_any a ca (.slice b ts.length cb) cs (by omega) hwf htree.1 (fun j hj => sh_bound htree (by omega) j hj) rfl i w1 h ((hr.below hb).mono hb.size)
    have hsl := shAll_bound htree hbk
    clear hr hi htree
    go_enter Tryd.func16, Tryd.ntmps16
    go_wp2_with fail
    refine (HT.out _ hb0).mono ?_
    rintro e w1 ⟨rfl, hb1⟩
    have HK1 : Hid (w1.heap[w.heap.size]? = some (Obj.cells #[Value.slice a cs.length ca, Value.slice b ts.length cb] 28)) := blk_keep (blk_alloc w _) hb1 (by simp)
    have hb2 := hb0.trans (hb1.mono hb0.size)
    clear hb0 hb1
    go_wp2
    go_loopw [3, 4] (fun t o wr => ∃ (i : Nat), i ≤ ts.length ∧ t = .string ⟨(shAll cs (ts.take i)).toArray⟩ ∧ o = .int .i64 i ∧ wr.heap[w.heap.size]? = some (Obj.cells #[Value.slice a cs.length ca, Value.slice b ts.length cb] 28) ∧ Below w.heap.size w wr)
      (fun _ o _ => ts.length - (intOf o).toNat)
    case atStart => exact ⟨0, by omega, rfl, rfl, HK1.out, hb2⟩
    case round =>
      clear HK1 hb2
      obtain ⟨i, hi, rfl, rfl, hkd, hb⟩ := hrel
      have e0 := cell_blk (j := 0) hkd rfl
      have e1 := cell_blk (j := 1) hkd rfl
      have HKD : Hid (wr.heap[w.heap.size]? = some (Obj.cells #[Value.slice a cs.length ca, Value.slice b ts.length cb] 28)) := hkd
      have hsz : w.heap.size < wr.heap.size := (Array.getElem?_eq_some_iff.1 hkd).1
      clear hkd
      by_cases hlt : i < ts.length
      · obtain ⟨t, ht⟩ : ∃ t, ts[i]? = some t := ⟨_, List.getElem?_eq_getElem hlt⟩
        obtain ⟨q1, q2⟩ := HTR.out.2.1 t (List.mem_of_getElem? ht)
        obtain ⟨b1, o1, rfl, hbb, c0⟩ := (HI.out.below hb) i t ht
        obtain ⟨T, rfl⟩ := Int.eq_ofNat_of_zero_le q1
        have hsn := shAll_snoc cs ts i (T : Int) ht
        rw [Int.toNat_natCast] at hsn
        have hle := shAll_take cs ts (i + 1)
        have HSN : Hid (shAll cs (ts.take (i + 1)) = shAll cs (ts.take i) ++ (sh cs T ++ [10])) := hsn
        have hl2 : (shAll cs (ts.take i)).length + (sh cs T).length + 1 ≤ 33554432 := by
          rw [hsn] at hle
          simp only [List.length_append, List.length_cons, List.length_nil] at hle
          omega
        have HST := fun w1 hb => HS.out T w1 (by omega) hb
        have HST' : Hid (∀ (w1 : World), Below w.heap.size w w1 → Calls Tryd.prog 41 #[.agg #[.slice a cs.length ca, .slice (some ⟨b1, o1, none⟩) ts.length cb], .int .i64 T] w1 fun e w' => Ans w1 (.string ⟨(sh cs T).toArray⟩) e w') := HST
        clear hsn hle HST
        generalize shAll cs (ts.take i) = acc at *
        generalize sh cs T = sl at *
        go_wp2
        go_region_with (go_at_call 41; refine (HST'.out _ ?_).mono ?_; exact below_drewN hb _; rintro e w3 ⟨rfl, hb3⟩)
        all_goals
          have hb4 : Below w.heap.size w w3 := (below_drewN hb _).trans (hb3.mono hb.size)
          have hk3 : w3.heap[w.heap.size]? = some (Obj.cells #[Value.slice a cs.length ca, Value.slice (some ⟨b1, o1, none⟩) ts.length cb] 28) := (hb3.block _ hsz).trans HKD.out
          have HK3 : Hid _ := hk3
          clear hk3
          go_wp2
          go_roundw
          case rel => exact ⟨i + 1, by omega, by rw [HSN.out]; exact congrArg Value.string (app3 acc sl [10]), by go_num, HK3.out, hb4⟩
          case measure => simp [intOf]; omega
      · have i1 : decide ((i : Int) < (ts.length : Int)) = false := by simp; omega
        obtain rfl : i = ts.length := by omega
        rw [List.take_length]
        go_wp2
        go_ret
        exact ⟨rfl, hb⟩
end Go.Proofs.YtgfkmppkeolckaaDoor
