/- The model's Sets. -/
import Derived.Test.YtjdlohjhfcmicaaStp
import Derived.Test.YtjdlohjhfcmicaaTon
set_option linter.unusedVariables false
namespace Go.Proofs.Ytjdlohjhfcmicaa
open Go.ChangeShapes Go.WideShapes Go.ChangeAt Go.RowKit
theorem OwnS.lt {w : World} {B b : Nat} {v : Value} {l : List ByteArray} (h : OwnS w B v l) (hv : v.ownBlock = some b) : B ≤ b ∧ b < w.heap.size := World.ownsRow.lt h b hv
theorem ownS_grow {B : Nat} {w0 w1 w2 : World} {v : Value} {l : List ByteArray} (hb : Below B w0 w1) (hB : w0.heap.size ≤ w1.heap.size) (hB2 : B ≤ w1.heap.size) (ho : OwnS w1 B v l) (hg : w1.grownBy w2 v.ownBlock) : Below B w0 w2 :=
  hb.trans ⟨hg.os, hg.tape, hg.output, hg.size, fun k hk => hg.block k (by omega) (fun e => by have := (ho.lt e.symm).1; omega)⟩
theorem OwnS.weak {w : World} {B B' : Nat} {v : Value} {l : List ByteArray} (h : OwnS w B v l) (hB : B' ≤ B) : OwnS w B' v l := by
  obtain ⟨hl, ⟨hv, h0⟩ | ⟨g, cap', cur, hv, a1, a3⟩⟩ := h
  · exact ⟨hl, .inl ⟨hv, h0⟩⟩
  · exact ⟨hl, .inr ⟨g, cap', cur, hv, Nat.le_trans hB a1, a3⟩⟩
/-- A text more. -/
theorem ownS_snoc {w : World} {B g cap : Nat} {l : List ByteArray} {s : ByteArray} (h : w.ownsRow B 9 1 (.slice (some ⟨g, 0, none⟩) (l.length + 1) cap) (l.length + 1) (l.map Value.string ++ [.string s])) : OwnS w B (.slice (some ⟨g, 0, none⟩) (l ++ [s]).length cap) (l ++ [s]) := by
  show World.ownsRow _ _ _ _ _ _ _
  rw [List.length_append, List.map_append]
  exact h
set_option maxRecDepth 100000 in
set_option maxHeartbeats 1000000 in
theorem specSets_yes (a : Option Addr) (ns : List Nod) (cap : Nat) (root : Int) (w : World) (hn : ns.length ≤ 1048576) (hfl : (flat ns).length ≤ 1048576) (hr : RowN w w.heap.size a ns) (hsm : ∀ d ∈ ns, d.small) (hok : OkP ns root) :
    Calls Try.prog 15 #[.agg #[.slice a ns.length cap, .int .i64 root]] w fun e w' => TellP (setsL ns) w e w' := by
  have HOK : Hid (∀ w1, Below w.heap.size w w1 → Calls Try.prog 20 #[.agg #[.slice a ns.length cap, .int .i64 root]] w1 fun e w' => OkPost ns root w1 e w') := fun w1 h => specOk_any a ns cap root w1 hn hfl ((hr.below h).mono h.size) hsm
  have HR : Hid (RowN w w.heap.size a ns) := hr
  have HS : Hid (∀ d ∈ ns, d.small) := hsm
  obtain ⟨hl1, hl2, -⟩ := id hok
  have HOKP : Hid (OkP ns root) := hok
  clear hr hsm hok
  obtain ⟨i9, hi9, hz90, hz91, hz92⟩ := info_parts Try.info9
  go_enter Try.func15, Try.ntmps15
  go_wp2
  go_loopw [3, 4] (fun v o wr => ∃ (i : Nat), i ≤ ns.length ∧ o = .int .i64 i ∧ wr.heap[w.heap.size]? = some (Obj.cells #[.slice a ns.length cap, .int .i64 root] 30) ∧ OwnS wr (w.heap.size + 1) v (setsL (ns.take i)) ∧ Below w.heap.size w wr)
    (fun _ o _ => ns.length - (intOf o).toNat)
  case atStart =>
    refine ⟨0, by omega, rfl, blk_past (blk_at _ _ _ rfl), ?_, ((Below.refl _ _).alloc (Nat.le_refl _) _).alloc (by simp) _⟩
    exact ⟨rfl, .inr ⟨w.heap.size + 1, 0, #[], rfl, Nat.le_refl _, blk_at _ _ _ (by simp), Nat.le_refl _, Nat.zero_le _, rfl, rfl⟩⟩
  case round =>
    obtain ⟨i, hi, rfl, hkd, hown, hb⟩ := hrel
    obtain ⟨oa, oc, rfl⟩ := hown.slice
    have e0 := cell_blk (j := 0) hkd rfl
    have e1 := cell_blk (j := 1) hkd rfl
    have HKD : Hid (wr.heap[w.heap.size]? = some (Obj.cells #[.slice a ns.length cap, .int .i64 root] 30)) := hkd
    have HOW : Hid (OwnS wr (w.heap.size + 1) (.slice oa (setsL (ns.take i)).length oc) (setsL (ns.take i))) := hown
    have hws := (Array.getElem?_eq_some_iff.1 hkd).1
    have hsl : (setsL (ns.take i)).length ≤ i := setsL_len i _ (by rw [List.length_take]; omega)
    clear hkd hown
    by_cases hlt : i < ns.length
    · obtain ⟨d, hd⟩ : ∃ d, ns[i]? = some d := ⟨_, List.getElem?_eq_getElem hlt⟩
      have HD : Hid (ns[i]? = some d) := hd
      obtain ⟨b1, o1, rfl, hbb, an, cn, aa, ca, v0, v1, v2, v3, v4, hrs, hri, hcn1, hca1⟩ := HR.out i d hd
      have HST : Hid (setsL (ns.take (i + 1)) = if d.k = 10 ∧ hasS (setsL (ns.take i)) d.s = false then setsL (ns.take i) ++ [d.s] else setsL (ns.take i)) := setsL_take hd
      have HO : Hid (Calls Try.prog 20 #[.agg #[.slice (some ⟨b1, o1, none⟩) ns.length cap, .int .i64 root]] wr fun e w' => OkPost ns root wr e w') := HOK.out wr hb
      have C0 : Hid (∀ w3, Below w.heap.size w w3 → w3.cell? ⟨b1, o1 + i * 5, none⟩ = some (.int .i64 d.k) ∧ w3.cell? ⟨b1, o1 + i * 5 + 2, none⟩ = some (.string d.s)) := fun w3 h3 => ⟨cell_keep v0 h3 hbb, cell_keep v2 h3 hbb⟩
      have hki := (HS.out d (List.mem_of_getElem? hd)).1
      clear hrs hri hd v0 v1 v2 v3 v4
      generalize setsL (ns.take i) = l at *
      go_wp2_with fail
      refine HO.out.mono ?_
      rintro e w2 ⟨b, rfl, hq, hb2⟩
      obtain rfl : b = true := hq.2 HOKP.out
      have hk2 := blk_keep HKD.out hb2 hws
      have HK2 : Hid (w2.heap[w.heap.size]? = some (Obj.cells #[.slice (some ⟨b1, o1, none⟩) ns.length cap, .int .i64 root] 30)) := hk2
      have HO2 : Hid (OwnS w2 (w.heap.size + 1) (.slice oa l.length oc) l) := HOW.out.below hb2
      have hb3 : Below w.heap.size w w2 := hb.trans (hb2.mono (Nat.le_of_lt hws))
      obtain ⟨c0, c2⟩ := C0.out w2 hb3
      have HIN : Hid (Calls Try.prog 30 #[.slice oa l.length oc, .string d.s] w2 fun e w' => Ans w2 (.bool (hasS l d.s)) e w') := l3In_any oa l oc d.s w2 (by omega) HO2.out.row.2
      have k0 := cell_blk (j := 0) hk2 rfl
      have hws2 := (Array.getElem?_eq_some_iff.1 hk2).1
      clear hq hb2 hb HO HKD HOW e0 e1 hk2
      by_cases hk : d.k = 10
      · have hkb : (d.k == 10) = true := by rw [hk]; rfl
        cases hh : hasS l d.s
        · rw [hh] at HIN HST
          have HST2 : Hid (setsL (ns.take (i + 1)) = l ++ [d.s]) := by have := HST.out; rw [if_pos ⟨hk, rfl⟩] at this; exact this
          clear HST hh hk
          go_wp2_with fail
          refine HIN.out.mono ?_
          rintro e w3 ⟨rfl, hb4⟩
          have hk3 := blk_keep HK2.out hb4 hws2
          have HK3 : Hid (w3.heap[w.heap.size]? = some (Obj.cells #[.slice (some ⟨b1, o1, none⟩) ns.length cap, .int .i64 root] 30)) := hk3
          have hb5 : Below w.heap.size w w3 := hb3.trans (hb4.mono (Nat.le_of_lt hws2))
          have hws3 := (Array.getElem?_eq_some_iff.1 hk3).1
          obtain ⟨_, d2⟩ := C0.out w3 hb5
          have m0 := cell_blk (j := 0) hk3 rfl
          have HO3 : Hid (OwnS w3 (w.heap.size + 1) (.slice oa l.length oc) l) := HO2.out.below hb4
          have HOA : Hid ((w3.alloc (.cells #[.string d.s] 9 (0, 0))).ownsRow (w.heap.size + 1) 9 1 (.slice oa l.length oc) l.length (l.map Value.string)) := World.ownsRow.alloc HO3.out _
          have kA : (w3.alloc (.cells #[.string d.s] 9 (0, 0))).heap[w3.heap.size]? = some (.cells #[.string d.s] 9 (0, 0)) := blk_at _ _ _ rfl
          have hAz : (w3.alloc (.cells #[.string d.s] 9 (0, 0))).heap.size = w3.heap.size + 1 := by simp
          have hwA : w.heap.size + 1 ≤ (w3.alloc (.cells #[.string d.s] 9 (0, 0))).heap.size := by rw [hAz]; omega
          have HBA : Hid (Below w.heap.size w (w3.alloc (.cells #[.string d.s] 9 (0, 0)))) := hb5.alloc (by omega) _
          clear hk3 hb3 hb4 c0 c2 k0 HO2 HK2 HIN
          go_wp2_with (at_builtin; refine wpList_append_lies _ rfl _ _ 26 rfl (w.heap.size + 1) 9 i9 _ 1 16 Try.underlying26 hi9 hz90 hz91 hz92 rfl (by omega) (.slice oa l.length oc) l.length (l.map Value.string) rfl HOA.out ⟨w3.heap.size, 0, none⟩ 1 1 [.string d.s] rfl rfl (World.news_of_block kA) (by intro u hu; simp at hu; subst hu; rfl) (by omega) (by simp [maxLen]; omega) (by omega) hwA (w3.heap.size + 1) hAz ?_)
          intro gg cap' w4 hown hgrow hat hlt4
          have HO4 : Hid (OwnS w4 (w.heap.size + 1) (.slice (some ⟨gg, 0, none⟩) (l ++ [d.s]).length cap') (l ++ [d.s])) := ownS_snoc hown
          have HK4 : Hid (w4.heap[w.heap.size]? = some (Obj.cells #[.slice (some ⟨b1, o1, none⟩) ns.length cap, .int .i64 root] 30)) := (hgrow.block _ (by rw [hAz]; omega) (fun e => by have := (World.ownsRow.lt HOA.out _ e.symm).1; omega)).trans (blk_past HK3.out)
          have HB4 : Hid (Below w.heap.size w w4) := HBA.out.trans ⟨hgrow.os, hgrow.tape, hgrow.output, hgrow.size, fun k hk => hgrow.block k (by rw [hAz]; omega) (fun e => by have := (World.ownsRow.lt HOA.out _ e.symm).1; omega)⟩
          have hln : (l ++ [d.s]).length = l.length + 1 := by simp
          clear hown hgrow hat hlt4 kA hAz hwA HBA HOA HK3 HO3 d2 m0
          go_wp2
          go_roundw
          case rel => exact ⟨i + 1, by omega, by go_num, HK4.out, by rw [HST2.out, ← hln]; exact HO4.out, HB4.out⟩
          case measure => simp [intOf]; omega
        · rw [hh] at HIN HST
          have HST2 : Hid (setsL (ns.take (i + 1)) = l) := by have := HST.out; rw [if_neg (by simp)] at this; exact this
          clear HST hh hk
          go_wp2_with fail
          refine HIN.out.mono ?_
          rintro e w3 ⟨rfl, hb4⟩
          have HK3 : Hid (w3.heap[w.heap.size]? = some (Obj.cells #[.slice (some ⟨b1, o1, none⟩) ns.length cap, .int .i64 root] 30)) := blk_keep HK2.out hb4 hws2
          have HB3 : Hid (Below w.heap.size w w3) := hb3.trans (hb4.mono (Nat.le_of_lt hws2))
          have HO3 : Hid (OwnS w3 (w.heap.size + 1) (.slice oa l.length oc) l) := HO2.out.below hb4
          clear hb3 hb4 c0 c2 k0 HO2 HK2 HIN
          go_wp2
          go_roundw
          case rel => exact ⟨i + 1, by omega, by go_num, HK3.out, by rw [HST2.out]; exact HO3.out, HB3.out⟩
          case measure => simp [intOf]; omega
      · have hkb : (d.k == 10) = false := by rw [beq_eq_false_iff_ne]; exact hk
        have HST2 : Hid (setsL (ns.take (i + 1)) = l) := by have := HST.out; rw [if_neg (by simp [hk])] at this; exact this
        clear HST hk
        go_wp2
        go_roundw
        case rel => exact ⟨i + 1, by omega, by go_num, HK2.out, by rw [HST2.out]; exact HO2.out, hb3⟩
        case measure => simp [intOf]; omega
    · have hlt' : decide ((i : Int) < (ns.length : Int)) = false := by simp; omega
      obtain rfl : i = ns.length := by omega
      rw [List.take_length] at HOW ⊢
      clear hlt hi
      go_wp2
      go_ret
      exact ⟨.slice oa (setsL ns).length oc, rfl, HOW.out.weak (Nat.le_succ _), hb⟩
set_option maxRecDepth 100000 in
set_option maxHeartbeats 1000000 in
theorem specSets_no (a : Option Addr) (ns : List Nod) (cap : Nat) (root : Int) (w : World) (hn : ns.length ≤ 1048576) (hfl : (flat ns).length ≤ 1048576) (hr : RowN w w.heap.size a ns) (hsm : ∀ d ∈ ns, d.small) (hno : ¬ OkP ns root) :
    Calls Try.prog 15 #[.agg #[.slice a ns.length cap, .int .i64 root]] w fun e w' => TellP [] w e w' := by
  have HOK : Hid (∀ w1, Below w.heap.size w w1 → Calls Try.prog 20 #[.agg #[.slice a ns.length cap, .int .i64 root]] w1 fun e w' => OkPost ns root w1 e w') := fun w1 h => specOk_any a ns cap root w1 hn hfl ((hr.below h).mono h.size) hsm
  have HNO : Hid (¬ OkP ns root) := hno
  clear hr hsm hno
  go_enter Try.func15, Try.ntmps15
  go_wp2
  go_loopw [3, 4] (fun v o wr => o = .int .i64 0 ∧ v = .slice (some ⟨w.heap.size + 1, 0, none⟩) 0 0 ∧ wr.heap[w.heap.size]? = some (Obj.cells #[.slice a ns.length cap, .int .i64 root] 30) ∧ wr.heap[w.heap.size + 1]? = some (Obj.cells #[] 9 (0, 0)) ∧ Below w.heap.size w wr)
    (fun _ o _ => 0)
  case atStart => exact ⟨rfl, rfl, blk_past (blk_at _ _ _ rfl), blk_at _ _ _ (by simp), ((Below.refl _ _).alloc (Nat.le_refl _) _).alloc (by simp) _⟩
  case round =>
    obtain ⟨rfl, rfl, hkd, hkl, hb⟩ := hrel
    have e0 := cell_blk (j := 0) hkd rfl
    have e1 := cell_blk (j := 1) hkd rfl
    have KL : Hid (wr.heap[w.heap.size + 1]? = some (Obj.cells #[] 9 (0, 0))) := hkl
    have hls := (Array.getElem?_eq_some_iff.1 hkl).1
    have HO : Hid (Calls Try.prog 20 #[.agg #[.slice a ns.length cap, .int .i64 root]] wr fun e w' => OkPost ns root wr e w') := HOK.out wr hb
    have HB : Hid (Below w.heap.size w wr) := hb
    clear hkl hb hkd
    by_cases hlt : 0 < ns.length
    · have hd : decide ((0 : Int) < (ns.length : Int)) = true := by simp; omega
      go_wp2_with fail
      refine HO.out.mono ?_
      rintro e w2 ⟨b, rfl, hq, hb2⟩
      obtain rfl : b = false := by
        cases b with
        | false => rfl
        | true => exact absurd (hq.1 rfl) HNO.out
      have K2 : Hid (w2.heap[w.heap.size + 1]? = some (Obj.cells #[] 9 (0, 0))) := (hb2.block _ hls).trans KL.out
      have HB2 : Hid (Below w.heap.size w w2) := HB.out.trans (hb2.mono HB.out.size)
      clear hq hb2 e0 e1 HO
      go_wp2
      go_ret
      exact ⟨.slice (some ⟨w.heap.size + 1, 0, none⟩) 0 0, rfl, ⟨rfl, .inr ⟨w.heap.size + 1, 0, #[], rfl, Nat.le_succ _, K2.out, Nat.le_refl _, Nat.zero_le _, rfl, rfl⟩⟩, HB2.out⟩
    · obtain rfl : ns = [] := List.eq_nil_of_length_eq_zero (by omega)
      simp only [List.length_nil] at e0 e1
      clear hlt HO HOK HNO
      go_wp2
      go_ret
      exact ⟨.slice (some ⟨w.heap.size + 1, 0, none⟩) 0 0, rfl, ⟨rfl, .inr ⟨w.heap.size + 1, 0, #[], rfl, Nat.le_succ _, KL.out, Nat.le_refl _, Nat.zero_le _, rfl, rfl⟩⟩, HB.out⟩
end Go.Proofs.Ytjdlohjhfcmicaa
