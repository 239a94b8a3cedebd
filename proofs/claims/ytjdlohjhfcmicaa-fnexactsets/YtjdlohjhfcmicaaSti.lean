/- The program's Sets. -/
import Derived.Test.YtjdlohjhfcmicaaSts
set_option linter.unusedVariables false
namespace Go.Proofs.Ytjdlohjhfcmicaa
open Go.ChangeShapes Go.WideShapes Go.ChangeAt Go.RowKit
set_option maxRecDepth 100000 in
theorem implSets_no (a : Option Addr) (ns : List Nod) (cap : Nat) (root : Int) (w : World) (hn : ns.length ≤ 1048576) (hr : RowN w w.heap.size a ns) (hsm : ∀ d ∈ ns, d.small) (hno : ¬ OkP ns root) :
    Calls Try.prog 16 #[.agg #[.slice a ns.length cap, .int .i64 root]] w fun e w' => TellP [] w e w' := by
  have hbB : Below w.heap.size w (w.alloc (Obj.cells #[.slice a ns.length cap, .int .i64 root] 30)) := (Below.refl _ _).alloc (Nat.le_refl _) _
  have HOK : Hid (Calls Try.prog 23 #[.agg #[.slice a ns.length cap, .int .i64 root]] (w.alloc (Obj.cells #[.slice a ns.length cap, .int .i64 root] 30)) fun e w' => OkPost ns root (w.alloc (Obj.cells #[.slice a ns.length cap, .int .i64 root] 30)) e w') := implOk_any a ns cap root _ hn ((hr.below hbB).mono hbB.size) hsm
  clear hr hsm
  go_enter Try.func16, Try.ntmps16
  go_wp2_with fail
  refine HOK.out.mono ?_
  rintro e w1 ⟨b, rfl, hq, hb1⟩
  obtain rfl : b = false := by
    cases b with
    | false => rfl
    | true => exact absurd (hq.1 rfl) hno
  have hb2 := hbB.trans (hb1.mono hbB.size)
  clear hbB hb1
  go_wp2
  go_ret
  exact ⟨.slice none 0 0, rfl, ⟨rfl, .inl ⟨rfl, rfl⟩⟩, hb2⟩
set_option maxRecDepth 100000 in
set_option maxHeartbeats 1000000 in
theorem implSets_yes (a : Option Addr) (ns : List Nod) (cap : Nat) (root : Int) (w : World) (hn : ns.length ≤ 1048576) (hr : RowN w w.heap.size a ns) (hsm : ∀ d ∈ ns, d.small) (hok : OkP ns root) :
    Calls Try.prog 16 #[.agg #[.slice a ns.length cap, .int .i64 root]] w fun e w' => TellP (setsL ns) w e w' := by
  obtain ⟨w0, hw0⟩ : ∃ w0, w0 = w.alloc (Obj.cells #[.slice a ns.length cap, .int .i64 root] 30) := ⟨_, rfl⟩
  have hbB : Below w.heap.size w w0 := by rw [hw0]; exact (Below.refl _ _).alloc (Nat.le_refl _) _
  have kB : w0.heap[w.heap.size]? = some (Obj.cells #[.slice a ns.length cap, .int .i64 root] 30) := by rw [hw0]; exact blk_alloc _ _
  have HOK : Hid (Calls Try.prog 23 #[.agg #[.slice a ns.length cap, .int .i64 root]] w0 fun e w' => OkPost ns root w0 e w') := implOk_any a ns cap root _ hn ((hr.below hbB).mono hbB.size) hsm
  have HW0 : Hid (w0 = w.alloc (Obj.cells #[.slice a ns.length cap, .int .i64 root] 30)) := hw0
  have hs0 : w0.heap.size = w.heap.size + 1 := by rw [hw0]; simp
  have HR : Hid (RowN w w.heap.size a ns) := hr
  have HS : Hid (∀ d ∈ ns, d.small) := hsm
  obtain ⟨hl1, hl2, -⟩ := id hok
  have HOKP : Hid (OkP ns root) := hok
  clear hr hsm hok hw0
  obtain ⟨i9, hi9, hz90, hz91, hz92⟩ := info_parts Try.info9
  go_enter Try.func16, Try.ntmps16
  go_wp2_with fail
  rw [← HW0.out]
  refine HOK.out.mono ?_
  rintro e w1 ⟨b, rfl, hq, hb1⟩
  obtain rfl : b = true := hq.2 HOKP.out
  have k1 := blk_keep kB hb1 (by omega)
  have hb2 := hbB.trans (hb1.mono hbB.size)
  have hs1 := hb1.size
  have e0 := cell_blk (j := 0) k1 rfl
  clear hbB hb1 hq kB HW0 k1 HOK
  go_wp2
  clear e0
  go_loopw [3, 12] (fun v o wr => ∃ (i : Nat), i ≤ ns.length ∧ o = .int .i64 i ∧ OwnS wr w.heap.size v (setsL (ns.take i)) ∧ Below w.heap.size w wr)
    (fun _ o _ => ns.length - (intOf o).toNat)
  case atStart => exact ⟨0, by omega, rfl, ⟨rfl, .inl ⟨rfl, rfl⟩⟩, hb2⟩
  case round =>
    clear hb2
    obtain ⟨i, hi, rfl, hown, hb⟩ := hrel
    obtain ⟨oa, oc, rfl⟩ := hown.slice
    have HOW : Hid (OwnS wr w.heap.size (.slice oa (setsL (ns.take i)).length oc) (setsL (ns.take i))) := hown
    have hws := hb.size
    have hsl : (setsL (ns.take i)).length ≤ i := setsL_len i _ (by rw [List.length_take]; omega)
    clear hown
    by_cases hlt : i < ns.length
    · obtain ⟨d, hd⟩ : ∃ d, ns[i]? = some d := ⟨_, List.getElem?_eq_getElem hlt⟩
      obtain ⟨b1, o1, rfl, hbb, an, cn, aa, ca, v0, v1, v2, v3, v4, hrs, hri, hcn1, hca1⟩ := HR.out i d hd
      have c0 := cell_keep v0 hb hbb
      have c1 := cell_keep v1 hb hbb
      have c2 := cell_keep v2 hb hbb
      have c3 := cell_keep v3 hb hbb
      have c4 := cell_keep v4 hb hbb
      have HST : Hid (setsL (ns.take (i + 1)) = if d.k = 10 ∧ hasS (setsL (ns.take i)) d.s = false then setsL (ns.take i) ++ [d.s] else setsL (ns.take i)) := setsL_take hd
      have hds := (HS.out d (List.mem_of_getElem? hd)).2.2.1
      have hki := (HS.out d (List.mem_of_getElem? hd)).1
      obtain ⟨w2, hw2⟩ : ∃ w2, w2 = wr.alloc (Obj.cells #[.int .i64 d.k, .int .i64 d.n, .string d.s, .slice an d.names.length cn, .slice aa d.args.length ca] 48) := ⟨_, rfl⟩
      have hbn : Below wr.heap.size wr w2 := by rw [hw2]; exact (Below.refl _ _).alloc (Nat.le_refl _) _
      have kn : w2.heap[wr.heap.size]? = some (Obj.cells #[.int .i64 d.k, .int .i64 d.n, .string d.s, .slice an d.names.length cn, .slice aa d.args.length ca] 48) := by rw [hw2]; exact blk_at _ _ _ rfl
      have HB2 : Hid (Below w.heap.size w w2) := hb.trans (hbn.mono hws)
      have HO2 : Hid (OwnS w2 w.heap.size (.slice oa (setsL (ns.take i)).length oc) (setsL (ns.take i))) := HOW.out.below hbn
      have HW2 : Hid (w2 = wr.alloc (Obj.cells #[.int .i64 d.k, .int .i64 d.n, .string d.s, .slice an d.names.length cn, .slice aa d.args.length ca] 48)) := hw2
      have KN : Hid (w2.heap[wr.heap.size]? = some (Obj.cells #[.int .i64 d.k, .int .i64 d.n, .string d.s, .slice an d.names.length cn, .slice aa d.args.length ca] 48)) := kn
      have hnl := (Array.getElem?_eq_some_iff.1 kn).1
      generalize setsL (ns.take i) = l at *
      have HIN : Hid (Calls Try.prog 31 #[.slice oa l.length oc, .string d.s] w2 fun e w' => Ans w2 (.bool (hasS l d.s)) e w') := containsS_any oa l oc d.s w2 (by omega) HO2.out.row.2
      clear hrs hri hd v0 v1 v2 v3 v4 hb hw2 hbn kn HOW
      by_cases hk : d.k = 10
      · have hkb : (d.k == 10) = true := by rw [hk]; rfl
        cases hh : hasS l d.s
        · rw [hh] at HIN HST
          have HST2 : Hid (setsL (ns.take (i + 1)) = l ++ [d.s]) := by have := HST.out; rw [if_pos ⟨hk, rfl⟩] at this; exact this
          clear HST hh hk
          go_wp2_with fail
          rw [← HW2.out]
          refine HIN.out.mono ?_
          rintro e w3 ⟨rfl, hb4⟩
          have kn3 := (hb4.block _ hnl).trans KN.out
          have d2 := cell_blk (j := 2) kn3 rfl
          have hb5 : Below w.heap.size w w3 := HB2.out.trans (hb4.mono HB2.out.size)
          have HO3 : Hid (OwnS w3 w.heap.size (.slice oa l.length oc) l) := HO2.out.below hb4
          have HCL : Hid (Calls Try.prog 25 #[.string d.s] w3 fun e w' => Ans w3 (.string d.s) e w') := clone_any d.s w3 hds
          have HB5 : Hid (Below w.heap.size w w3) := hb5
          clear hb4 hb5 kn3 HO2 HIN HB2 HW2 c0 c1 c2 c3 c4
          go_wp2_with fail
          refine HCL.out.mono ?_
          rintro e w4 ⟨rfl, hb6⟩
          have HB6 : Hid (Below w.heap.size w w4) := HB5.out.trans (hb6.mono HB5.out.size)
          have HO4 : Hid (OwnS w4 w.heap.size (.slice oa l.length oc) l) := HO3.out.below hb6
          have HOA : Hid ((w4.alloc (.cells #[.string d.s] 9 (0, 0))).ownsRow w.heap.size 9 1 (.slice oa l.length oc) l.length (l.map Value.string)) := World.ownsRow.alloc HO4.out _
          have kA : (w4.alloc (.cells #[.string d.s] 9 (0, 0))).heap[w4.heap.size]? = some (.cells #[.string d.s] 9 (0, 0)) := blk_at _ _ _ rfl
          have hAz : (w4.alloc (.cells #[.string d.s] 9 (0, 0))).heap.size = w4.heap.size + 1 := by simp
          have hwA : w.heap.size ≤ (w4.alloc (.cells #[.string d.s] 9 (0, 0))).heap.size := by have := HB6.out.size; rw [hAz]; omega
          have HBA : Hid (Below w.heap.size w (w4.alloc (.cells #[.string d.s] 9 (0, 0)))) := HB6.out.alloc HB6.out.size _
          clear hb6 HO3 HO4 HB5 HB6 HCL d2
          go_wp2_with (at_builtin; refine wpList_append_lies _ rfl _ _ 26 rfl w.heap.size 9 i9 _ 1 16 Try.underlying26 hi9 hz90 hz91 hz92 rfl (by omega) (.slice oa l.length oc) l.length (l.map Value.string) rfl HOA.out ⟨w4.heap.size, 0, none⟩ 1 1 [.string d.s] rfl rfl (World.news_of_block kA) (by intro u hu; simp at hu; subst hu; rfl) (by omega) (by simp [maxLen]; omega) (by omega) hwA (w4.heap.size + 1) hAz ?_)
          intro gg cap' w5 hown hgrow hat hlt4
          have HO5 : Hid (OwnS w5 w.heap.size (.slice (some ⟨gg, 0, none⟩) (l ++ [d.s]).length cap') (l ++ [d.s])) := ownS_snoc hown
          have HB5 : Hid (Below w.heap.size w w5) := HBA.out.trans ⟨hgrow.os, hgrow.tape, hgrow.output, hgrow.size, fun k hk => hgrow.block k (by rw [hAz] at hwA ⊢; omega) (fun e => by have := (World.ownsRow.lt HOA.out _ e.symm).1; omega)⟩
          have hln : (l ++ [d.s]).length = l.length + 1 := by simp
          clear hown hgrow hat hlt4 kA hAz hwA HBA HOA
          go_wp2
          go_roundw
          case rel => exact ⟨i + 1, by omega, by go_num, by rw [HST2.out, ← hln]; exact HO5.out, HB5.out⟩
          case measure => simp [intOf]; omega
        · rw [hh] at HIN HST
          have HST2 : Hid (setsL (ns.take (i + 1)) = l) := by have := HST.out; rw [if_neg (by simp)] at this; exact this
          clear HST hh hk
          go_wp2_with fail
          rw [← HW2.out]
          refine HIN.out.mono ?_
          rintro e w3 ⟨rfl, hb4⟩
          have HB3 : Hid (Below w.heap.size w w3) := HB2.out.trans (hb4.mono HB2.out.size)
          have HO3 : Hid (OwnS w3 w.heap.size (.slice oa l.length oc) l) := HO2.out.below hb4
          clear hb4 c0 c1 c2 c3 c4 HO2 HIN HB2 HW2 KN
          go_wp2
          go_roundw
          case rel => exact ⟨i + 1, by omega, by go_num, by rw [HST2.out]; exact HO3.out, HB3.out⟩
          case measure => simp [intOf]; omega
      · have hkb : (d.k == 10) = false := by rw [beq_eq_false_iff_ne]; exact hk
        have HST2 : Hid (setsL (ns.take (i + 1)) = l) := by have := HST.out; rw [if_neg (by simp [hk])] at this; exact this
        clear HST hk HIN
        go_wp2
        rw [← HW2.out]
        go_roundw
        case rel => exact ⟨i + 1, by omega, by go_num, by rw [HST2.out]; exact HO2.out, HB2.out⟩
        case measure => simp [intOf]; omega
    · have hlt' : decide ((i : Int) < (ns.length : Int)) = false := by simp; omega
      obtain rfl : i = ns.length := by omega
      rw [List.take_length] at HOW ⊢
      clear hlt hi
      go_wp2
      go_ret
      exact ⟨.slice oa (setsL ns).length oc, rfl, HOW.out, hb⟩
/-- Both Sets tell the same. -/
theorem setss (ns : List Nod) (root : Int) (hn : ns.length ≤ 1048576) (hfl : (flat ns).length ≤ 1048576) (hsm : ∀ d ∈ ns, d.small) :
    ∃ l : List ByteArray, l.length ≤ 400 ∧ (∀ (a : Option Addr) (ca : Nat) (w : World), RowN w w.heap.size a ns → Calls Try.prog 15 #[.agg #[.slice a ns.length ca, .int .i64 root]] w fun e w' => TellP l w e w') ∧ ∀ (a : Option Addr) (ca : Nat) (w : World), RowN w w.heap.size a ns → Calls Try.prog 16 #[.agg #[.slice a ns.length ca, .int .i64 root]] w fun e w' => TellP l w e w' := by
  by_cases h : OkP ns root
  · exact ⟨setsL ns, Nat.le_trans (setsL_len _ ns rfl) h.2.1, fun a ca w hr => specSets_yes a ns ca root w hn hfl hr hsm h, fun a ca w hr => implSets_yes a ns ca root w hn hr hsm h⟩
  · exact ⟨[], by simp, fun a ca w hr => specSets_no a ns ca root w hn hfl hr hsm h, fun a ca w hr => implSets_no a ns ca root w hn hr hsm h⟩
end Go.Proofs.Ytjdlohjhfcmicaa
