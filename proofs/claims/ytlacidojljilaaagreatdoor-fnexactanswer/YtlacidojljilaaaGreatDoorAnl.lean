/- The card of the law FnExactAnswer: for every Sys and every Machine the law answers true: the program's Answer and the model's tell the same text, and the arguments stay as they were (the law itself answers true ahead of all where the arguments hold more than 1048576 parts and bytes). Its condition: the library's three tables that the road names read as their initialisers lay them (tied by the given tie). -/
import Derived.Test.YtlacidojljilaaaGreatDoorRows
import Derived.Test.YtlacidojljilaaaGreatDoorTie
import Derived.Test.YtlacidojljilaaaGreatDoorCards
import Derived.Test.YtlacidojljilaaaGreatDoorAnw
import Derived.Test.YtlacidojljilaaaGreatDoorOpx
import Derived.Test.YtlacidojljilaaaGreatDoorMcx
import Derived.WalkKit
import Derived.ProofKit
import Derived.OpenShut
import Derived.ShutString
import Derived.LaidMore
import Derived.Stop.Joined
import Derived.SevenTiedAt
import Derived.Lib.LaidTab
import Derived.Stop.LaidErr
namespace Go.Proofs.YtlacidojljilaaaGreatDoor.fnExactAnswer
open Go.ChangeShapes Go.WideShapes Go.ChangeAt Go.RowKit
set_option linter.unusedVariables false
theorem laidOut : laidOutB Tryz.prog = true := by kernel_rfl
theorem own : ownKnob Tryz.prog.godebug = none := by kernel_rfl
theorem door_met (os : Os) (args : Array Value) : laidMetH Tryz.prog Rows.fnExactAnswerRow.laid ((World.doorLaid Tryz.prog 400 os).forCall (fun _ _ => 0) ⟨#[], args, []⟩).memory :=
 laidMetH_of_parts3 (fuel := 8) (laidMet_of_run' 8 (by kernel_rfl) (by kernel_rfl)) (by kernel_rfl) (by kernel_rfl)
theorem tab_of_laid {W : World} (h : laidMetH Tryz.prog Rows.fnExactAnswerRow.laid W) : Tab W := by
 rw [MakeChecks.laidMetH_plain _ _ _ (by kernel_rfl)] at h
 have h1 := laidMet.tail (show laidMet Tryz.prog (_ :: _) W from h)
 have h3 := laidMet.tail (show laidMet Tryz.prog (_ :: _) W from h1)
 exact Lib.tabIs_of_head (e := 229) (n := 20) gPow (t := 244) (by kernel_rfl) (by kernel_rfl) Tryz.underlying229 (by kernel_rfl) (by kernel_rfl) h3
theorem size_of_tab {W : World} (h : Tab W) : 0 < W.heap.size := by
 have hc := World.var?_cell gPow h 0
 have h1 : W.cell? ⟨0, 0, none⟩ = some (.int .u64 1) := by rw [hc]; rfl
 exact World.block_lt_of_cell? W _ h1
set_option maxRecDepth 100000 in
theorem lifted (os : Os) (started : os.Started) (H : Type) (enc : TypeId × Value → H) :
  ReturnsInHanded {} Tryz.checked os 3 .any (fun w args => (Rows.fnExactAnswerSpec.pre enc Tryz.prog Tryz.f3 [] false w args ∧ laidMetH Tryz.prog Rows.fnExactAnswerRow.laid w) ∧ sizedMet enc Tryz.prog Tryz.f3 (OpenSpec.ofChange Rows.fnExactAnswerSpec) false w args)
   (Rows.fnExactAnswerSpec.post enc Tryz.prog Tryz.f3 false true false false) := by
 refine returnsInHanded_of_change_and (C := Tryz.checked) (X := fun w _ => laidMetH Tryz.prog Rows.fnExactAnswerRow.laid w) (fun _ _ _ hh h => h.of_heap hh) own started (by kernel_rfl) Tryz.func3
  (ChangeSpec.witness_shaped (enc := enc) (C := Tryz.checked) (os := os) (X := fun w _ => laidMetH Tryz.prog Rows.fnExactAnswerRow.laid w) false (World.doorLaid Tryz.prog 400 os) #[.agg #[.slice none 0 0, .slice none 0 0, .slice none 0 0, .slice none 0 0], .agg #[.int .i64 0, .int .i64 0, .int .i64 0, .slice none 0 0, .int .i64 0, .int .i64 0, .string ⟨#[]⟩, .slice none 0 0, .int .i64 0]] 8 rfl (World.shaped_of_RefB (by kernel_rfl) (by kernel_rfl)) (by kernel_rfl) (by kernel_rfl) (by kernel_rfl) (door_met os _)) ?_
 intro W base args ds gs before hval0 hW _ _ hL _
 have hval : ∀ (j : Nat) t v, Tryz.f3.params[j]? = some t → args[j]? = some v → Value.okWide Tryz.prog W .any base t v := hval0
 have hW' := hW
 obtain ⟨p, q, hA0, hV, rfl, hfz, hnd⟩ := hW
 have hA : DataW.TrodAll enc Tryz.prog W 0 (fun _ => true) true Tryz.f3.params.toList args.toList ds p := hA0
 rw [Tryz.params3] at hA hval
 obtain ⟨v0, v1, d0, d1, p0, p1, rfl, rfl, rfl, h0, h1⟩ := trodAll_two hA
 obtain ⟨rfl, rfl⟩ := trodVars_none hV
 have k0 := h0
 have k1 := h1
 have lt0 : ∀ x ∈ p0, x.block < W.heap.size := by obtain ⟨m, hm⟩ := k0; exact DataW.trod_lt m _ _ _ hm
 have lt1 : ∀ x ∈ p1, x.block < W.heap.size := by obtain ⟨m, hm⟩ := k1; exact DataW.trod_lt m _ _ _ hm
 obtain ⟨y, cs, rfl, ⟨a1, a2, a3, a4, c1, c2, c3, c4, rfl, hr⟩, hwf⟩ := op_Sys (Value.okWide_any_base (hval 0 27 v0 rfl rfl)) h0
 obtain ⟨m, cs, rfl, ⟨m1, m2, e1, e2, rfl, hrm⟩, hwm⟩ := op_Machine (Value.okWide_any_base (hval 1 33 v1 rfl rfl)) h1
 have htab := tab_of_laid hL
 clear hA0 hval0
 simp only [List.append_nil] at hW'
 refine (walk y a1 a2 a3 a4 c1 c2 c3 c4 m m1 m2 e1 e2 W hwf hr hwm hrm (size_of_tab htab) htab).mono fun e W' ⟨he, bel⟩ => ?_
 subst he
 exact ⟨_, rfl, _, _, _, [], _, [], hW', trodAll_mk1 (shut_bool Tryz.underlying4 _), trodAll_mk2 (Below.trod laidOut (by kernel_rfl) (of_decide_eq_true (by kernel_rfl)) k0 bel lt0) (Below.trod laidOut (by kernel_rfl) (of_decide_eq_true (by kernel_rfl)) k1 bel lt1), rfl, bel.frame _, fun h => by cases h⟩
theorem over : Rows.FnExactAnswerSaid :=
 OpenClaim.holds_of_wide 3 Tryz.f3 rfl rfl rfl rfl rfl rfl rfl ⟨rfl, rfl, rfl, rfl, rfl⟩ rfl rfl rfl rfl rfl (by kernel_rfl) Tryz.func3 (by kernel_rfl)
  (of_decide_eq_true (by kernel_rfl)) (by unfold Func.isWrapper; first | (rw [if_pos (by decide +kernel)]; kernel_rfl) | (rw [if_neg (by decide +kernel)]; exact ⟨rfl, rfl⟩))
  (fun os started H enc _ => lifted os started H enc)
end Go.Proofs.YtlacidojljilaaaGreatDoor.fnExactAnswer
namespace Go.Proofs.YtlacidojljilaaaGreatDoor
open Go
theorem FnExactAnswer_holds : Rows.FnExactAnswerCardSaid :=
 Claim7.holds_tied_plain_at .later [] [.data, .data, .data] true (true, "5f46a0739e64f2ba046edbfed7fb9632ab239111806111609e8b7a2b5637ba53") true
  fnExactAnswer.over (fun _ h => by cases h) (by kernel_rfl) (fun _ h => by cases h) fnExactAnswer_row_tie rfl ⟨rfl, rfl⟩ (by kernel_rfl) rfl
  (fun f fn hf hfn => by
   obtain rfl : f = 3 := Option.some.inj ((show Tryz.prog.funcNamed Rows.fnExactAnswerRow.func = some 3 by kernel_rfl).symm.trans hf) |>.symm
   obtain rfl : fn = Tryz.f3 := (Option.some.inj (Tryz.func3.symm.trans hfn)).symm
   exact ⟨by kernel_rfl, fun j t ht => by
    rw [Tryz.params3] at ht
    have hm : t ∈ [27, 33] := by simpa using Array.mem_of_getElem? ht
    have hall : ([27, 33].all fun u => !Tryz.prog.wantsStandIn u) = true := by kernel_rfl
    exact (show Tryz.prog.wantsStandIn t = false by simpa using List.all_eq_true.1 hall t hm)⟩)
  (by kernel_rfl)
#print axioms FnExactAnswer_holds
end Go.Proofs.YtlacidojljilaaaGreatDoor
