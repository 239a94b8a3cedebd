/- The law FnExactPrim answers true for every heap, every text and every row of values: the program's Prim tells what the model's tells, every part of it; it writes into no argument, and its answer owns its memory. No condition (the law itself answers true ahead of all where the arguments hold more than 1048576 parts and bytes). -/
import Derived.Test.YtaojodcmhmmklaaRows
import Derived.Test.YtaojodcmhmmklaaPil
import Derived.Test.YtaojodcmhmmklaaOpc
import Derived.WalkKit
import Derived.ProofKit
import Derived.OpenShut
import Derived.ShutString
namespace Go.Proofs.Ytaojodcmhmmklaa.fnExactPrim
open Go.ChangeShapes Go.WideShapes Go.ChangeAt Go.RowKit
open Go.ChangeMaps (open_string shut_string)
set_option linter.unusedVariables false
theorem laidOut : laidOutB Try.prog = true := by kernel_rfl
theorem own : ownKnob Try.prog.godebug = none := by kernel_rfl
set_option maxRecDepth 100000 in
theorem open_values {H : Type} {enc : TypeId × Value → H} {W : World} {v : Value} {d : DataW H} {p : List MemPlace} (hv : Value.okWide Try.prog W .any 0 23 v) (h : DataW.Trod enc Try.prog W 0 (fun _ => true) true 23 v d p) :
    ∃ (a : Option Addr) (cs : List Val) (ca : Nat), v = .slice a cs.length ca ∧ cs.length ≤ 9223372036854775807 ∧ RowV W W.heap.size a cs ∧ (∀ d ∈ cs, d.wf) := by
  obtain ⟨fuel, hf⟩ := h
  obtain ⟨x, l, c, rfl⟩ := okWide_slice Try.underlying23 hv
  obtain ⟨a, cs, ca, h1, h2, -, h4, h5⟩ := open_rowV hf
  exact ⟨a, cs, ca, h1, h2, h4, h5⟩
set_option maxRecDepth 100000 in
theorem lifted (os : Os) (started : os.Started) (H : Type) (enc : TypeId × Value → H) :
    ReturnsInHanded {} Try.checked os 3 .any (Rows.fnExactPrimSpec.pre6 enc Try.prog Try.f3 Rows.fnExactPrimRow.domain false) (Rows.fnExactPrimSpec.post enc Try.prog Try.f3 false true false false) := by
  refine returnsInHanded_of_change (C := Try.checked) own started (by kernel_rfl) Try.func3
    (ChangeSpec.witness6 (enc := enc) (C := Try.checked) false ⟨#[], #[.slice none 0 0, .string ByteArray.empty, .slice none 0 0], []⟩ 8 (by kernel_rfl) (by kernel_rfl) (by kernel_rfl) (by kernel_rfl)) ?_
  intro W base args ds gs before hval0 hW hcnd _
  have hval : ∀ (j : Nat) t v, Try.f3.params[j]? = some t → args[j]? = some v → Value.okWide Try.prog W .any base t v := hval0
  have hW' := hW
  obtain ⟨p, q, hA0, hV, rfl, hfz, hnd⟩ := hW
  have hA : DataW.TrodAll enc Try.prog W 0 (fun _ => true) true Try.f3.params.toList args.toList ds p := hA0
  rw [Try.params3] at hA hval
  obtain ⟨v0, v1, v2, d0, d1, d2, p0, p1, p2, rfl, rfl, rfl, h0, h1, h2⟩ := trodAll_three hA
  obtain ⟨rfl, rfl⟩ := trodVars_none hV
  have k0 := h0
  have k2 := h2
  have lt0 : ∀ x ∈ p0, x.block < W.heap.size := by obtain ⟨m, hm⟩ := k0; exact DataW.trod_lt m _ _ _ hm
  have lt2 : ∀ x ∈ p2, x.block < W.heap.size := by obtain ⟨m, hm⟩ := k2; exact DataW.trod_lt m _ _ _ hm
  obtain ⟨a, cs, ca, rfl, hl1, hr, hwf⟩ := open_heap (Value.okWide_any_base (hval 0 22 v0 rfl rfl)) h0
  obtain ⟨s, rfl, rfl, rfl, ws⟩ := open_string Try.underlying9 (hval 1 9 v1 rfl rfl) h1
  obtain ⟨a2, cs2, ca2, rfl, hl2, hr2, hwf2⟩ := open_values (Value.okWide_any_base (hval 2 23 v2 rfl rfl)) h2
  clear hA0 hval0
  simp only [List.append_nil] at hW'
  refine (walk a ca cs s a2 ca2 cs2 W hl1 hwf hl2 hwf2 ws hr hr2).mono fun e W' ⟨he, bel⟩ => ?_
  subst he
  exact ⟨_, rfl, _, _, _, [], _, [], hW', trodAll_mk1 (shut_bool Try.underlying4 _), trodAll_mk3 (Below.trod laidOut (by kernel_rfl) (of_decide_eq_true (by kernel_rfl)) k0 bel lt0) (shut_string Try.underlying9 ws) (Below.trod laidOut (by kernel_rfl) (of_decide_eq_true (by kernel_rfl)) k2 bel lt2), rfl, bel.frame _, fun h => by cases h⟩
theorem over : Rows.fnExactPrimRow.holds Try.pinned (OpenSpec.ofChange Rows.fnExactPrimSpec) :=
  OpenClaim.holds_of_wide 3 Try.f3 rfl rfl rfl rfl rfl rfl rfl ⟨rfl, rfl, rfl, rfl, rfl⟩ rfl rfl rfl rfl rfl (by kernel_rfl) Try.func3 (by kernel_rfl)
    (of_decide_eq_true (by kernel_rfl)) (by unfold Func.isWrapper; first | (rw [if_pos (by decide +kernel)]; kernel_rfl) | (rw [if_neg (by decide +kernel)]; exact ⟨rfl, rfl⟩))
    (fun os started H enc _ => lifted os started H enc)
end Go.Proofs.Ytaojodcmhmmklaa.fnExactPrim
namespace Go.Proofs.Ytaojodcmhmmklaa
theorem FnExactPrim_holds : Rows.FnExactPrimSaid := fnExactPrim.over
#print axioms FnExactPrim_holds
end Go.Proofs.Ytaojodcmhmmklaa
