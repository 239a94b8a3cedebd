/- The law FnExactHeapOk answers true for every heap: the program's HeapOk and the model's say the same, and the argument stays as it was. No condition (the law itself answers true ahead of all where the argument holds more than 1048576 parts and bytes). -/
import Derived.Test.YtpcijembmiifpaaRows
import Derived.Test.YtpcijembmiifpaaHox
import Derived.Test.YtpcijembmiifpaaSzc
import Derived.Test.YtpcijembmiifpaaToc
import Derived.Test.YtpcijembmiifpaaEqc
import Derived.Test.YtpcijembmiifpaaOpc
import Derived.WalkKit
import Derived.ProofKit
import Derived.OpenShut
import Derived.ShutString
namespace Go.Proofs.Ytpcijembmiifpaa.fnExactHeapOk
open Go.ChangeShapes Go.WideShapes Go.ChangeAt Go.RowKit
set_option linter.unusedVariables false
set_option maxRecDepth 100000 in
set_option maxHeartbeats 4000000 in
theorem walk (a : Option Addr) (ca : Nat) (cs : List Cel) (w : World) (hl1 : cs.length ≤ 9223372036854775807) (hwf : ∀ d ∈ cs, d.wf) (hr : RowC w w.heap.size a cs) :
    Calls Try.prog 4 #[.slice a cs.length ca] w fun e w' => Ans w (.bool true) e w' := by
  have HZ : Hid (Calls Try.prog 5 #[.slice a cs.length ca, .int .i64 1048576] w fun e w' => Ans w (.int .i64 (leftOf 1048576 (bulkC cs))) e w') := szCellS_any a cs ca 1048576 w (by omega) hl1 hr hwf
  by_cases hbk : 1048576 < bulkC cs
  · rw [leftOf_neg hbk] at HZ
    clear hr hwf
    go_enter Try.func4, Try.ntmps4
    go_wp2_with fail
    refine HZ.out.mono ?_
    rintro e w1 ⟨rfl, hb1⟩
    go_wp2
    go_ret
    exact ⟨rfl, hb1⟩
  · have hln : cs.length ≤ bulkC cs := bulkOf_len _ cs
    have hbk' : bulkC cs ≤ 1048576 := by omega
    have hsm := small_of hwf hbk'
    rw [leftOf_nat hbk] at HZ
    generalize 1048576 - bulkC cs = q at *
    have HTO : Hid (∀ w1, Below w.heap.size w w1 → Calls Try.prog 8 #[.slice a cs.length ca] w1 fun e w' => TpPost cs w1 e w') := fun w1 h => toCellS_any a cs ca w1 (by omega) ((hr.below h).mono h.size) hsm
    have HSP : Hid (∀ (a : Option Addr) (ca : Nat) (w1 : World), RowC w1 w1.heap.size a cs → Calls Try.prog 12 #[.slice a cs.length ca] w1 fun e w' => HpPost cs w1 e w') := fun a ca w1 h1 => specHeap_any a cs ca w1 (by omega) hsm h1
    have HIM : Hid (∀ (a : Option Addr) (w1 : World), RowC w1 w1.heap.size a cs → Calls Try.prog 13 #[.slice a cs.length cs.length] w1 fun e w' => HpPost cs w1 e w') := fun a w1 h1 => implHeap_any a cs cs.length w1 (by omega) (Nat.le_refl _) hsm h1
    have HEQ : Hid (∀ (a a' : Option Addr) (ca ca' : Nat) (w1 : World), RowC w1 w1.heap.size a cs → RowC w1 w1.heap.size a' cs → Calls Try.prog 11 #[.slice a cs.length ca, .slice a' cs.length ca'] w1 fun e w' => Ans w1 (.bool true) e w') := fun a a' ca ca' w1 h1 h2 => eqCellS_same a a' cs ca ca' w1 (by omega) hsm h1 h2
    clear hr hwf hsm hbk hbk' hln
    go_enter Try.func4, Try.ntmps4
    go_wp2_with fail
    refine HZ.out.mono ?_
    rintro e w1 ⟨rfl, hb1⟩
    go_wp2_with fail
    refine (HTO.out _ hb1).mono ?_
    rintro e w2 ⟨g2, rfl, hrd2, hb2⟩
    have hb3 := hb1.trans (hb2.mono hb1.size)
    have HR2 : Hid (RowC w2 w2.heap.size (some ⟨g2, 0, none⟩) cs) := hrd2
    clear hrd2 hb1 hb2
    go_wp2_with fail
    refine (HSP.out _ _ _ HR2.out).mono ?_
    rintro e w3 ⟨b3, rfl, hq3, hb4⟩
    have HQ3 : Hid (b3 = true ↔ HeapP cs) := hq3
    have hb5 := hb3.trans (hb4.mono hb3.size)
    clear hq3 hb3 hb4 HR2
    go_wp2_with fail
    refine (HTO.out _ hb5).mono ?_
    rintro e w4 ⟨g4, rfl, hrd4, hb6⟩
    have hb7 := hb5.trans (hb6.mono hb5.size)
    have HR4 : Hid (RowC w4 w4.heap.size (some ⟨g4, 0, none⟩) cs) := hrd4
    clear hrd4 hb5 hb6
    go_wp2_with fail
    refine (HIM.out _ _ HR4.out).mono ?_
    rintro e w5 ⟨b5, rfl, hq5, hb8⟩
    obtain rfl : b5 = b3 := by
      have h3 := HQ3.out
      cases b5 <;> cases b3
      · rfl
      · exact absurd (hq5.2 (h3.1 rfl)) (by simp)
      · exact absurd (h3.2 (hq5.1 rfl)) (by simp)
      · rfl
    have hb9 := hb7.trans (hb8.mono hb7.size)
    have HR5 : Hid (RowC w5 w5.heap.size (some ⟨g4, 0, none⟩) cs) := (HR4.out.below hb8).mono hb8.size
    clear hq5 hb7 hb8 HR4 HQ3
    go_wp2_with fail
    refine (HTO.out _ hb9).mono ?_
    rintro e w6 ⟨g6, rfl, hrd6, hb10⟩
    have hb11 := hb9.trans (hb10.mono hb9.size)
    have HR6 : Hid (RowC w6 w6.heap.size (some ⟨g4, 0, none⟩) cs) := (HR5.out.below hb10).mono hb10.size
    have HE6 : Hid (RowC w6 w6.heap.size (some ⟨g6, 0, none⟩) cs) := hrd6
    clear hrd6 hb9 hb10 HR5
    go_wp2_with fail
    refine (HEQ.out _ _ _ _ _ HR6.out HE6.out).mono ?_
    rintro e w7 ⟨rfl, hb12⟩
    have hb13 := hb11.trans (hb12.mono hb11.size)
    go_wp2
    go_ret
    exact ⟨rfl, hb13⟩
theorem laidOut : laidOutB Try.prog = true := by kernel_rfl
theorem own : ownKnob Try.prog.godebug = none := by kernel_rfl
set_option maxRecDepth 100000 in
theorem lifted (os : Os) (started : os.Started) (H : Type) (enc : TypeId × Value → H) :
    ReturnsInHanded {} Try.checked os 4 .any (Rows.fnExactHeapOkSpec.pre6 enc Try.prog Try.f4 Rows.fnExactHeapOkRow.domain false) (Rows.fnExactHeapOkSpec.post enc Try.prog Try.f4 false true false false) := by
  refine returnsInHanded_of_change (C := Try.checked) own started (by kernel_rfl) Try.func4
    (ChangeSpec.witness6 (enc := enc) (C := Try.checked) false ⟨#[], #[.slice none 0 0], []⟩ 8 (by kernel_rfl) (by kernel_rfl) (by kernel_rfl) (by kernel_rfl)) ?_
  intro W base args ds gs before hval0 hW hcnd _
  have hval : ∀ (j : Nat) t v, Try.f4.params[j]? = some t → args[j]? = some v → Value.okWide Try.prog W .any base t v := hval0
  have hW' := hW
  obtain ⟨p, q, hA0, hV, rfl, hfz, hnd⟩ := hW
  have hA : DataW.TrodAll enc Try.prog W 0 (fun _ => true) true Try.f4.params.toList args.toList ds p := hA0
  rw [Try.params4] at hA hval
  obtain ⟨v0, d0, rfl, rfl, h0⟩ := trodAll_one hA
  obtain ⟨rfl, rfl⟩ := trodVars_none hV
  have k0 := h0
  have lt0 : ∀ x ∈ p, x.block < W.heap.size := by obtain ⟨m, hm⟩ := k0; exact DataW.trod_lt m _ _ _ hm
  obtain ⟨a, cs, ca, rfl, hl1, hr, hwf⟩ := open_heap (Value.okWide_any_base (hval 0 22 v0 rfl rfl)) h0
  clear hA0 hval0
  simp only [List.append_nil] at hW'
  refine (walk a ca cs W hl1 hwf hr).mono fun e W' ⟨he, bel⟩ => ?_
  subst he
  exact ⟨_, rfl, _, _, _, [], _, [], hW', trodAll_mk1 (shut_bool Try.underlying4 _), trodAll_mk1 (Below.trod laidOut (by kernel_rfl) (of_decide_eq_true (by kernel_rfl)) k0 bel lt0), rfl, bel.frame _, fun h => by cases h⟩
theorem over : Rows.fnExactHeapOkRow.holds Try.pinned (OpenSpec.ofChange Rows.fnExactHeapOkSpec) :=
  OpenClaim.holds_of_wide 4 Try.f4 rfl rfl rfl rfl rfl rfl rfl ⟨rfl, rfl, rfl, rfl, rfl⟩ rfl rfl rfl rfl rfl (by kernel_rfl) Try.func4 (by kernel_rfl)
    (of_decide_eq_true (by kernel_rfl)) (by unfold Func.isWrapper; first | (rw [if_pos (by decide +kernel)]; kernel_rfl) | (rw [if_neg (by decide +kernel)]; exact ⟨rfl, rfl⟩))
    (fun os started H enc _ => lifted os started H enc)
end Go.Proofs.Ytpcijembmiifpaa.fnExactHeapOk
namespace Go.Proofs.Ytpcijembmiifpaa
theorem FnExactHeapOk_holds : Rows.FnExactHeapOkSaid := fnExactHeapOk.over
#print axioms FnExactHeapOk_holds
end Go.Proofs.Ytpcijembmiifpaa
