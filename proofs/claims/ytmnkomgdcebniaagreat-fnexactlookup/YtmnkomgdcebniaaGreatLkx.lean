/- The law FnExactLookup answers true for every Sys, number and text: the program and the model say the same, and the arguments stay as they were. No condition (the law itself answers true ahead of all where the arguments hold more than 1048576 parts and bytes). -/
import Derived.Test.YtmnkomgdcebniaaGreatRows
import Derived.Test.YtmnkomgdcebniaaGreatLku
import Derived.Test.YtmnkomgdcebniaaGreatLkq
import Derived.Test.YtmnkomgdcebniaaGreatOpx
import Derived.WalkKit
import Derived.ProofKit
import Derived.OpenShut
import Derived.ShutString
namespace Go.Proofs.YtmnkomgdcebniaaGreat.fnExactLookup
open Go.ChangeShapes Go.WideShapes Go.ChangeAt Go.RowKit
open Go.ChangeMaps (open_string shut_string)
set_option linter.unusedVariables false
theorem once_of {ns : List ByteArray} (h : nmA ns = true) : Once ns := by
  have key : ∀ (i j : Nat) (s : ByteArray), i < j → ns[i]? = some s → ns[j]? = some s → False := by
    intro i j s hij h1 h2
    have : hasS (ns.take j) s = true := hasS_of (k := i) (t := s) (by rw [List.getElem?_take_of_lt hij]; exact h1) (by simp)
    rw [nmA_false h2 (.inr this)] at h
    cases h
  intro i j s h1 h2
  by_cases e : i = j
  · exact e
  · rcases Nat.lt_or_gt_of_ne e with h | h
    · exact (key i j s h h1 h2).elim
    · exact (key j i s h h2 h1).elim
theorem names_of {y : Sy} (h : y.ok = true) : ∀ x ∈ y.insts, Once x.names := by
  intro x hx
  unfold Sy.ok instsB at h
  simp only [Bool.and_eq_true] at h
  obtain ⟨⟨⟨⟨_, ⟨⟨_, _⟩, hall⟩⟩, _⟩, _⟩, _⟩ := h
  obtain ⟨i, hi⟩ := List.getElem?_of_mem hx
  cases hok : x.ok y.heap y.insts.length i with
  | false => rw [allI_bad hi hok] at hall; cases hall
  | true =>
    unfold Ins.ok Ins.cont at hok
    simp only [Bool.and_eq_true] at hok
    obtain ⟨_, ⟨⟨⟨⟨_, hn⟩, _⟩, _⟩, _⟩⟩ := hok
    unfold Ins.lns at hn
    exact once_of (nmA_pre hn)
theorem hold_any (y : Sy) (hs : y.small) (a : Option Addr) (c : Nat) (w1 : World) (hr : rgX.Row w1 (fun b => b < w1.heap.size) a y.insts) (hok : y.ok = true) : Calls Tryz.prog 97 #[.slice a y.insts.length c] w1 fun e w' => HoldP y.insts w1 e w' :=
  holdings_any a c y.insts w1 hs.2.1.1 hs.2.1.2 (fun x hx => (Sy.fits hok x hx).1) (names_of hok) hr
theorem laidOut : laidOutB Tryz.prog = true := by kernel_rfl
theorem own : ownKnob Tryz.prog.godebug = none := by kernel_rfl
set_option maxRecDepth 100000 in
theorem lifted (os : Os) (started : os.Started) (H : Type) (enc : TypeId × Value → H) :
    ReturnsInHanded {} Tryz.checked os 4 .any (Rows.fnExactLookupSpec.pre6 enc Tryz.prog Tryz.f4 Rows.fnExactLookupRow.domain false) (Rows.fnExactLookupSpec.post enc Tryz.prog Tryz.f4 false true false false) := by
  refine returnsInHanded_of_change (C := Tryz.checked) own started (by kernel_rfl) Tryz.func4
    (ChangeSpec.witness6 (enc := enc) (C := Tryz.checked) false ⟨#[], #[.agg #[.slice none 0 0, .slice none 0 0, .slice none 0 0, .slice none 0 0], .int .i64 0, .string ⟨#[]⟩], []⟩ 8 (by kernel_rfl) (by kernel_rfl) (by kernel_rfl) (by kernel_rfl)) ?_
  intro W base args ds gs before hval0 hW hcnd _
  have hval : ∀ (j : Nat) t v, Tryz.f4.params[j]? = some t → args[j]? = some v → Value.okWide Tryz.prog W .any base t v := hval0
  have hW' := hW
  obtain ⟨p, q, hA0, hV, rfl, hfz, hnd⟩ := hW
  have hA : DataW.TrodAll enc Tryz.prog W 0 (fun _ => true) true Tryz.f4.params.toList args.toList ds p := hA0
  rw [Tryz.params4] at hA hval
  obtain ⟨v0, v1, v2, d0, d1, d2, p0, p1, p2, rfl, rfl, rfl, h0, h1, h2⟩ := trodAll_three hA
  obtain ⟨rfl, rfl⟩ := trodVars_none hV
  have k0 := h0
  have lt0 : ∀ x ∈ p0, x.block < W.heap.size := by obtain ⟨m, hm⟩ := k0; exact DataW.trod_lt m _ _ _ hm
  obtain ⟨y, cs, rfl, ⟨a1, a2, a3, a4, c1, c2, c3, c4, rfl, hr⟩, hwf⟩ := op_Sys (Value.okWide_any_base (hval 0 27 v0 rfl rfl)) h0
  obtain ⟨n1, rfl, rfl, rfl, wn1⟩ := open_int Tryz.underlying3 (hval 1 3 v1 rfl rfl) h1
  obtain ⟨s, rfl, rfl, rfl, ws⟩ := open_string Tryz.underlying9 (hval 2 9 v2 rfl rfl) h2
  clear hA0 hval0
  simp only [List.append_nil] at hW'
  refine (walk y a1 a2 a3 a4 c1 c2 c3 c4 n1 s W (i64_of_wf wn1) ws hwf hr (fun hs a c w1 h1 h2 => hold_any y hs a c w1 h1 h2)).mono fun e W' ⟨he, bel⟩ => ?_
  subst he
  exact ⟨_, rfl, _, _, _, [], _, [], hW', trodAll_mk1 (shut_bool Tryz.underlying4 _), trodAll_mk3 (Below.trod laidOut (by kernel_rfl) (of_decide_eq_true (by kernel_rfl)) k0 bel lt0) (shut_int Tryz.underlying3 wn1) (shut_string Tryz.underlying9 ws), rfl, bel.frame _, fun h => by cases h⟩
theorem over : Rows.fnExactLookupRow.holds Tryz.pinned (OpenSpec.ofChange Rows.fnExactLookupSpec) :=
  OpenClaim.holds_of_wide 4 Tryz.f4 rfl rfl rfl rfl rfl rfl rfl ⟨rfl, rfl, rfl, rfl, rfl⟩ rfl rfl rfl rfl rfl (by kernel_rfl) Tryz.func4 (by kernel_rfl)
    (of_decide_eq_true (by kernel_rfl)) (by unfold Func.isWrapper; first | (rw [if_pos (by decide +kernel)]; kernel_rfl) | (rw [if_neg (by decide +kernel)]; exact ⟨rfl, rfl⟩))
    (fun os started H enc _ => lifted os started H enc)
end Go.Proofs.YtmnkomgdcebniaaGreat.fnExactLookup
namespace Go.Proofs.YtmnkomgdcebniaaGreat
theorem FnExactLookup_holds : Rows.FnExactLookupSaid := fnExactLookup.over
#print axioms FnExactLookup_holds
end Go.Proofs.YtmnkomgdcebniaaGreat
