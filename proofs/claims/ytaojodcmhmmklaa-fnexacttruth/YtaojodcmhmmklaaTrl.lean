/- The law FnExactTruth answers true for every value: the program's Truth and the model's say the same, and the argument stays as it was. No condition (the law itself answers true ahead of all where the value's text is longer than 1048576 bytes). -/
import Derived.Test.YtaojodcmhmmklaaRows
import Derived.Test.YtaojodcmhmmklaaTru
import Derived.Test.YtaojodcmhmmklaaSzc
import Derived.Test.YtaojodcmhmmklaaToa
import Derived.Test.YtaojodcmhmmklaaOpc
import Derived.WalkKit
import Derived.ProofKit
import Derived.OpenShut
import Derived.ShutString
namespace Go.Proofs.Ytaojodcmhmmklaa.fnExactTruth
open Go.ChangeShapes Go.WideShapes Go.ChangeAt Go.RowKit
set_option linter.unusedVariables false
set_option maxRecDepth 100000 in
set_option maxHeartbeats 1000000 in
theorem walk (d : Val) (w : World) (hw : d.wf) : Calls Try.prog 4 #[.agg #[.int .i64 d.k, .int .i64 d.n, .string d.s]] w fun e w' => Ans w (.bool true) e w' := by
  have hb0 : Below w.heap.size w (w.alloc (Obj.cells #[.int .i64 d.k, .int .i64 d.n, .string d.s] 40)) := (Below.refl _ _).alloc (Nat.le_refl _) _
  have HZ : Hid (∀ w, Calls Try.prog 17 #[.agg #[.int .i64 d.k, .int .i64 d.n, .string d.s], .int .i64 1048576] w fun e w' => Ans w (.int .i64 (leftOf 1048576 d.s.size)) e w') := fun w => szValue_any d 1048576 w (by omega) hw.2.2
  have HT : Hid (∀ w, Calls Try.prog 19 #[.agg #[.int .i64 d.k, .int .i64 d.n, .string d.s]] w fun e w' => Ans w (.agg #[.int .i64 d.k, .int .i64 d.n, .string d.s]) e w') := fun w => toValue_any d w
  have HS : Hid (∀ w, Calls Try.prog 18 #[.agg #[.int .i64 d.k, .int .i64 d.n, .string d.s]] w fun e w' => Ans w (.bool d.truth) e w') := fun w => specTruth_any d w
  have HI : Hid (∀ w, Calls Try.prog 20 #[.agg #[.int .i64 d.k, .int .i64 d.n, .string d.s]] w fun e w' => Ans w (.bool d.truth) e w') := fun w => implTruth_any d w
  have k0 := blk_alloc w (Obj.cells #[.int .i64 d.k, .int .i64 d.n, .string d.s] 40)
  generalize d.truth = b at *
  by_cases h : 1048576 < d.s.size
  · rw [leftOf_neg h] at HZ
    go_enter Try.func4, Try.ntmps4
    go_wp2_with fail
    refine (HZ.out _).mono ?_
    rintro e w1 ⟨rfl, hb1⟩
    go_wp2
    go_ret
    exact ⟨rfl, hb0.trans (hb1.mono hb0.size)⟩
  · rw [leftOf_nat h] at HZ
    generalize 1048576 - d.s.size = q at *
    clear h
    go_enter Try.func4, Try.ntmps4
    go_wp2_with fail
    refine (HZ.out _).mono ?_
    rintro e w1 ⟨rfl, hb1⟩
    have hb2 := hb0.trans (hb1.mono hb0.size)
    have k1 := blk_keep k0 hb1 (by simp)
    have K1 : Hid (w1.heap[w.heap.size]? = some (Obj.cells #[.int .i64 d.k, .int .i64 d.n, .string d.s] 40)) := k1
    have c0 := cell_blk (j := 0) k1 rfl
    have c1 := cell_blk (j := 1) k1 rfl
    have c2 := cell_blk (j := 2) k1 rfl
    have hs1 : w.heap.size < w1.heap.size := (Array.getElem?_eq_some_iff.1 k1).1
    clear k1 k0 hb1 hb0
    go_wp2_with fail
    refine (HT.out _).mono ?_
    rintro e w2 ⟨rfl, hb3⟩
    have hb4 := hb2.trans (hb3.mono hb2.size)
    have k2 := blk_keep K1.out hb3 hs1
    clear c0 c1 c2
    go_wp2_with fail
    refine (HS.out _).mono ?_
    rintro e w3 ⟨rfl, hb5⟩
    have hb6 := hb4.trans (hb5.mono hb4.size)
    have hs2 := hb3.size
    have k3 := blk_keep k2 hb5 (by omega)
    have c0 := cell_blk (j := 0) k3 rfl
    have c1 := cell_blk (j := 1) k3 rfl
    have c2 := cell_blk (j := 2) k3 rfl
    clear k2 k3 hb2 hb3 hb4 hb5
    go_wp2_with fail
    refine (HT.out _).mono ?_
    rintro e w4 ⟨rfl, hb7⟩
    have hb8 := hb6.trans (hb7.mono hb6.size)
    clear c0 c1 c2
    go_wp2_with fail
    refine (HI.out _).mono ?_
    rintro e w5 ⟨rfl, hb9⟩
    have hb10 := hb8.trans (hb9.mono hb8.size)
    have hq : (b != b) = false := by simp
    go_wp2
    go_ret
    exact ⟨rfl, hb10⟩
theorem laidOut : laidOutB Try.prog = true := by kernel_rfl
theorem own : ownKnob Try.prog.godebug = none := by kernel_rfl
set_option maxRecDepth 100000 in
theorem lifted (os : Os) (started : os.Started) (H : Type) (enc : TypeId × Value → H) :
    ReturnsInHanded {} Try.checked os 4 .any (Rows.fnExactTruthSpec.pre6 enc Try.prog Try.f4 Rows.fnExactTruthRow.domain false) (Rows.fnExactTruthSpec.post enc Try.prog Try.f4 false true false false) := by
  refine returnsInHanded_of_change (C := Try.checked) own started (by kernel_rfl) Try.func4
    (ChangeSpec.witness6 (enc := enc) (C := Try.checked) false ⟨#[], #[.agg #[.int .i64 0, .int .i64 0, .string ⟨#[]⟩]], []⟩ 8 (by kernel_rfl) (by kernel_rfl) (by kernel_rfl) (by kernel_rfl)) ?_
  intro W base args ds gs before hval0 hW hcnd _
  have hval : ∀ (j : Nat) t v, Try.f4.params[j]? = some t → args[j]? = some v → Value.okWide Try.prog W .any base t v := hval0
  have hW' := hW
  obtain ⟨p, q, hA0, hV, rfl, hfz, hnd⟩ := hW
  have hA : DataW.TrodAll enc Try.prog W 0 (fun _ => true) true Try.f4.params.toList args.toList ds p := hA0
  rw [Try.params4] at hA hval
  obtain ⟨v0, d0, rfl, rfl, h0⟩ := trodAll_one hA
  obtain ⟨rfl, rfl⟩ := trodVars_none hV
  have k0 := h0
  have lt0 : ∀ x ∈ p, x.block < W.heap.size := by obtain ⟨m, hm⟩ := k0; exact DataW.trod_lt m _ _ _ hm
  obtain ⟨v, rfl, hv⟩ := open_value (Value.okWide_any_base (hval 0 40 v0 rfl rfl)) h0
  clear hA0 hval0
  simp only [List.append_nil] at hW'
  refine (walk v W hv).mono fun e W' ⟨he, bel⟩ => ?_
  subst he
  exact ⟨_, rfl, _, _, _, [], _, [], hW', trodAll_mk1 (shut_bool Try.underlying4 _), trodAll_mk1 (Below.trod laidOut (by kernel_rfl) (of_decide_eq_true (by kernel_rfl)) k0 bel lt0), rfl, bel.frame _, fun h => by cases h⟩
theorem over : Rows.fnExactTruthRow.holds Try.pinned (OpenSpec.ofChange Rows.fnExactTruthSpec) :=
  OpenClaim.holds_of_wide 4 Try.f4 rfl rfl rfl rfl rfl rfl rfl ⟨rfl, rfl, rfl, rfl, rfl⟩ rfl rfl rfl rfl rfl (by kernel_rfl) Try.func4 (by kernel_rfl)
    (of_decide_eq_true (by kernel_rfl)) (by unfold Func.isWrapper; first | (rw [if_pos (by decide +kernel)]; kernel_rfl) | (rw [if_neg (by decide +kernel)]; exact ⟨rfl, rfl⟩))
    (fun os started H enc _ => lifted os started H enc)
end Go.Proofs.Ytaojodcmhmmklaa.fnExactTruth
namespace Go.Proofs.Ytaojodcmhmmklaa
theorem FnExactTruth_holds : Rows.FnExactTruthSaid := fnExactTruth.over
#print axioms FnExactTruth_holds
end Go.Proofs.Ytaojodcmhmmklaa
