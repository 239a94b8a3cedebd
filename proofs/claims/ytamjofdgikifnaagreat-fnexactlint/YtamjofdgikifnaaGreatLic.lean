/- The law FnExactLint answers true for every source and every names that are given: the program's Lint and the model's tell the same notes, the arguments stay as they were, and the answer owns its memory. No condition (the law itself answers true ahead of all where the arguments hold more than 1048576 parts and bytes). -/
import Derived.Test.YtamjofdgikifnaaGreatLow
import Derived.Test.YtamjofdgikifnaaGreatCoc
set_option linter.unusedVariables false
namespace Go.Proofs.YtamjofdgikifnaaGreat.fnExactLint
open Go.ChangeShapes Go.WideShapes Go.ChangeAt Go.RowKit
set_option linter.unusedVariables false
theorem laidOut : laidOutB Tryz.prog = true := by kernel_rfl
theorem own : ownKnob Tryz.prog.godebug = none := by kernel_rfl
set_option maxRecDepth 100000 in
theorem open_strs {H : Type} {enc : TypeId × Value → H} {W : World} {v : Value} {d : DataW H} {p : List MemPlace} (hv : Value.okWide Tryz.prog W .any 0 22 v) (h : DataW.Trod enc Tryz.prog W 0 (fun _ => true) true 22 v d p) :
  ∃ (a : Option Addr) (l : List ByteArray) (cap : Nat), v = .slice a l.length cap ∧ l.length ≤ 9223372036854775807 ∧ l.length ≤ cap ∧ rgS.Row W (fun b => b < W.heap.size) a l ∧ ∀ d ∈ l, wfS d := by
 obtain ⟨fuel, hf⟩ := h
 obtain ⟨x, l, c, rfl⟩ := okWide_slice Tryz.underlying22 hv
 exact opr_string hf
set_option maxRecDepth 100000 in
theorem lifted (os : Os) (started : os.Started) (H : Type) (enc : TypeId × Value → H) :
  ReturnsInHanded {} Tryz.checked os 3 .any (Rows.fnExactLintSpec.pre6 enc Tryz.prog Tryz.f3 Rows.fnExactLintRow.domain false) (Rows.fnExactLintSpec.post enc Tryz.prog Tryz.f3 false true false false) := by
 refine returnsInHanded_of_change (C := Tryz.checked) own started (by kernel_rfl) Tryz.func3
  (ChangeSpec.witness6 (enc := enc) (C := Tryz.checked) false ⟨#[], #[.agg #[.string ⟨#[]⟩, .slice none 0 0, .slice none 0 0, .slice none 0 0, .slice none 0 0, .slice none 0 0], .slice none 0 0], []⟩ 8 (by kernel_rfl) (by kernel_rfl) (by kernel_rfl) (by kernel_rfl)) ?_
 intro W base args ds gs before hval0 hW hcnd _
 have hval : ∀ (j : Nat) t v, Tryz.f3.params[j]? = some t → args[j]? = some v → Value.okWide Tryz.prog W .any base t v := hval0
 have hW' := hW
 obtain ⟨p, q, hA0, hV, rfl, hfz, hnd⟩ := hW
 have hA : DataW.TrodAll enc Tryz.prog W 0 (fun _ => true) true Tryz.f3.params.toList args.toList ds p := hA0
 rw [Tryz.params3] at hA hval
 obtain ⟨v0, v1, d0, d1, p0, p1, rfl, rfl, rfl, h0, h1⟩ := trodAll_two hA
 obtain ⟨rfl, rfl⟩ := trodVars_none hV
 have k0 := h0
 have k1 := h1
 have lt0 : ∀ x ∈ p0, x.block < W.heap.size := by obtain ⟨m, hm⟩ := k0; exact DataW.trod_lt m _ _ _ hm
 have lt1 : ∀ x ∈ p1, x.block < W.heap.size := by obtain ⟨m, hm⟩ := k1; exact DataW.trod_lt m _ _ _ hm
 obtain ⟨x, cs, rfl, ⟨a1, a2, a3, a4, a5, c1, c2, c3, c4, c5, rfl, hr⟩, hwx⟩ := op_Src (Value.okWide_any_base (hval 0 26 v0 rfl rfl)) h0
 obtain ⟨ag, gv, cg, rfl, hgl, _, hq, hwg⟩ := open_strs (Value.okWide_any_base (hval 1 22 v1 rfl rfl)) h1
 clear hA0 hval0
 simp only [List.append_nil] at hW'
 refine (walk x gv a1 a2 a3 a4 a5 ag c1 c2 c3 c4 c5 cg W hwx ⟨hgl, hwg⟩ hr hq).mono fun e W' ⟨he, bel⟩ => ?_
 subst he
 exact ⟨_, rfl, _, _, _, [], _, [], hW', trodAll_mk1 (shut_bool Tryz.underlying4 _), trodAll_mk2 (Below.trod laidOut (by kernel_rfl) (of_decide_eq_true (by kernel_rfl)) k0 bel lt0) (Below.trod laidOut (by kernel_rfl) (of_decide_eq_true (by kernel_rfl)) k1 bel lt1), rfl, bel.frame _, fun h => by cases h⟩
theorem over : Rows.fnExactLintRow.holds Tryz.pinned (OpenSpec.ofChange Rows.fnExactLintSpec) :=
 OpenClaim.holds_of_wide 3 Tryz.f3 rfl rfl rfl rfl rfl rfl rfl ⟨rfl, rfl, rfl, rfl, rfl⟩ rfl rfl rfl rfl rfl (by kernel_rfl) Tryz.func3 (by kernel_rfl)
  (of_decide_eq_true (by kernel_rfl)) (by unfold Func.isWrapper; first | (rw [if_pos (by decide +kernel)]; kernel_rfl) | (rw [if_neg (by decide +kernel)]; exact ⟨rfl, rfl⟩))
  (fun os started H enc _ => lifted os started H enc)
end Go.Proofs.YtamjofdgikifnaaGreat.fnExactLint
namespace Go.Proofs.YtamjofdgikifnaaGreat
theorem FnExactLint_holds : Rows.FnExactLintSaid := fnExactLint.over
#print axioms FnExactLint_holds
end Go.Proofs.YtamjofdgikifnaaGreat
