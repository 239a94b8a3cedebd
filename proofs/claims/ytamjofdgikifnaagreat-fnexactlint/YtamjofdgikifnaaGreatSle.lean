/- Each export is a definition, each conversion one of a type. -/
import Derived.Test.YtamjofdgikifnaaGreatSld
import Derived.Deep.RegionHeldLaw
import Derived.Deep.RegionHeld3
set_option linter.unusedVariables false
namespace Go.Proofs.YtamjofdgikifnaaGreat
open Go.ChangeShapes Go.WideShapes Go.ChangeAt Go.RowKit
section
variable {Q : Exit → Act → World → Prop}
theorem wpAnyH_eq {ops : Array Oper} {S : World → Prop} {fuel : Nat} {l l' : Array Bool} {a a' : Act} {w : World} (hl : l = l') (ha : a = a') (h : wpAnyH Tryz.prog .any ops Q S fuel l' a' w) : wpAnyH Tryz.prog .any ops Q S fuel l a w := by
 subst hl ha
 exact h
theorem opw_call {ops : Array Oper} {i : Nat} {o : Oper} {a : Act} {w : World} {K : Act → World → Prop} {f : FuncId} {args : Array Value} (ho : ops[i]? = some o) (hw : Region.wanted o (yielded ops a.tmps) = true)
  (hr : (execOp a.eval o).run Tryz.prog w = .ok (.enter f args) w) (h : Calls Tryz.prog f args w fun e w' => ∃ v, e = .returned v ∧ K (a.put o.dst v) w') : wpOp Tryz.prog ops Q i K a w := by
 unfold wpOp
 simp only [ho, hw, if_true]
 refine .inl ?_
 unfold Oper.wp
 rw [hr]
 refine h.mono ?_
 rintro e w' ⟨v, rfl, hk⟩
 exact hk
theorem ldR {a : Act} {o : Oper} {t : TypeId} {x : Operand} {p v : Value} {w : World} (ho : o.op = .load t x) (hx : a.eval x = p) (h : (Instr.loadAt t p).run Tryz.prog w = .ok v w) : (execOp a.eval o).run Tryz.prog w = .ok (.value v) w := by
 simp [execOp, ho, hx, h, Result.andThen]
theorem ixR {a : Act} {o : Oper} {t : TypeId} {x y : Operand} {s k v : Value} {w : World} (ho : o.op = .indexAddr t x y) (hx : a.eval x = s) (hy : a.eval y = k) (h : (Instr.indexAt t s k).run Tryz.prog w = .ok v w) : (execOp a.eval o).run Tryz.prog w = .ok (.value v) w := by
 simp [execOp, ho, hx, hy, h, Result.andThen]
end
theorem sb_dn {B : Nat} {w wr : World} (h : Below B w wr) (n : Nat) : Below B w (wr.drewN n) := ⟨h.os, h.tape, h.output, h.size, h.block⟩
theorem sb_of {x : Srx} {a1 a2 a3 a4 a5 : Option Addr} {c1 c2 c3 c4 c5 : Nat} {w : World} {w' : World} (hb : Below w.heap.size w w') (k : w'.heap[w.heap.size]? = some (Obj.cells #[.string x.name, .slice a1 x.imps.length c1, .slice a2 x.exps.length c2, .slice a3 x.types.length c3, .slice a4 x.defs.length c4, .slice a5 x.convs.length c5] 34)) : Below w.heap.size w w' ∧ w'.heap[w.heap.size]? = some (Obj.cells #[.string x.name, .slice a1 x.imps.length c1, .slice a2 x.exps.length c2, .slice a3 x.types.length c3, .slice a4 x.defs.length c4, .slice a5 x.convs.length c5] 34) ∧ w'.cell? ⟨w.heap.size, 0, none⟩ = some (.string x.name) ∧ w'.cell? ⟨w.heap.size, 1, none⟩ = some (.slice a1 x.imps.length c1) ∧ w'.cell? ⟨w.heap.size, 2, none⟩ = some (.slice a2 x.exps.length c2) ∧ w'.cell? ⟨w.heap.size, 3, none⟩ = some (.slice a3 x.types.length c3) ∧ w'.cell? ⟨w.heap.size, 4, none⟩ = some (.slice a4 x.defs.length c4) ∧ w'.cell? ⟨w.heap.size, 5, none⟩ = some (.slice a5 x.convs.length c5) :=
 ⟨hb, k, cell_blk (j := 0) k rfl, cell_blk (j := 1) k rfl, cell_blk (j := 2) k rfl, cell_blk (j := 3) k rfl, cell_blk (j := 4) k rfl, cell_blk (j := 5) k rfl⟩
set_option maxRecDepth 100000 in
set_option maxHeartbeats 1000000 in
theorem allKnown_any (x : Srx) (a1 a2 a3 a4 a5 : Option Addr) (c1 c2 c3 c4 c5 : Nat) (w : World) (hs : x.small) (hr : SrxRows w (fun b => b < w.heap.size) a1 a2 a3 a4 a5 c1 c2 c3 c4 c5 x) :
  Calls Tryz.prog 64 #[.agg #[.string x.name, .slice a1 x.imps.length c1, .slice a2 x.exps.length c2, .slice a3 x.types.length c3, .slice a4 x.defs.length c4, .slice a5 x.convs.length c5]] w fun e w' => Ans w (.bool x.known) e w' := by
 have S : Hid (SrxAt x a1 a2 a3 a4 a5 c1 c2 c3 c4 c5 w) := srxAt x a1 a2 a3 a4 a5 c1 c2 c3 c4 c5 w hs hr
 clear hs hr
 have hb0 : Below w.heap.size w (w.alloc (Obj.cells #[.string x.name, .slice a1 x.imps.length c1, .slice a2 x.exps.length c2, .slice a3 x.types.length c3, .slice a4 x.defs.length c4, .slice a5 x.convs.length c5] 34)) := (Below.refl _ _).alloc (Nat.le_refl _) _
 have k0 : (w.alloc (Obj.cells #[.string x.name, .slice a1 x.imps.length c1, .slice a2 x.exps.length c2, .slice a3 x.types.length c3, .slice a4 x.defs.length c4, .slice a5 x.convs.length c5] 34)).heap[w.heap.size]? = some (Obj.cells #[.string x.name, .slice a1 x.imps.length c1, .slice a2 x.exps.length c2, .slice a3 x.types.length c3, .slice a4 x.defs.length c4, .slice a5 x.convs.length c5] 34) := blk_at _ _ _ rfl
 have HN0 : Hid (∀ w2, Below w.heap.size w w2 → Calls Tryz.prog 35 #[.slice a4 x.defs.length c4] w2 fun e w' => NmP x.dns x.defs.length w2 e w') := fun w2 h2 => (defNames_any a4 x.defs c4 w2 S.out.l4 (S.out.defs w2 h2)).mono fun e w' h => NmPost.to h
 have HC0 : Hid (∀ w2 a cap, Below w.heap.size w w2 → NmsAt x.dns x.defs.length w2 a cap → Calls Tryz.prog 91 #[.slice a2 x.exps.length c2, .slice a x.defs.length cap] w2 fun e w' => Ans w2 (.bool (x.exps.all (hasS x.dns))) e w') := fun w2 a cap h2 h => among_at S.out.l2 S.out.l4 (S.out.exps w2 h2) h
 have HN1 : Hid (∀ w2, Below w.heap.size w w2 → Calls Tryz.prog 35 #[.slice a5 x.convs.length c5] w2 fun e w' => NmP x.cns x.convs.length w2 e w') := fun w2 h2 => (defNames_any a5 x.convs c5 w2 S.out.l5 (S.out.convs w2 h2)).mono fun e w' h => NmPost.to h
 have HN2 : Hid (∀ w2, Below w.heap.size w w2 → Calls Tryz.prog 77 #[.slice a3 x.types.length c3] w2 fun e w' => NmP x.tns x.types.length w2 e w') := fun w2 h2 => (typeNames_any a3 x.types c3 w2 S.out.l3 (S.out.types w2 h2)).mono fun e w' h => NmPost.to h
 have HC1 : Hid (∀ w2 a b cap cap', NmsAt x.cns x.convs.length w2 a cap → NmsAt x.tns x.types.length w2 b cap' → Calls Tryz.prog 91 #[.slice a x.convs.length cap, .slice b x.types.length cap'] w2 fun e w' => Ans w2 (.bool (x.cns.all (hasS x.tns))) e w') := fun w2 a b cap cap' h h' => among_at S.out.l5 S.out.l3 h h'
 clear S
 cases h0 : x.exps.all (hasS x.dns)
 ·rw [h0] at HC0
  have HQ : Hid (x.known = false) := by show _ = _; unfold Srx.known; rw [h0]; rfl
  clear h0
  go_enter Tryz.func64, Tryz.ntmps64
  go_wp2_with fail
  refine wp_region_held (S := (fun W => (Below w.heap.size w W) ∧ (W.heap[w.heap.size]? = some (Obj.cells #[.string x.name, .slice a1 x.imps.length c1, .slice a2 x.exps.length c2, .slice a3 x.types.length c3, .slice a4 x.defs.length c4, .slice a5 x.convs.length c5] 34)) ∧ (W.cell? ⟨w.heap.size, 0, none⟩ = some (.string x.name)) ∧ (W.cell? ⟨w.heap.size, 1, none⟩ = some (.slice a1 x.imps.length c1)) ∧ (W.cell? ⟨w.heap.size, 2, none⟩ = some (.slice a2 x.exps.length c2)) ∧ (W.cell? ⟨w.heap.size, 3, none⟩ = some (.slice a3 x.types.length c3)) ∧ (W.cell? ⟨w.heap.size, 4, none⟩ = some (.slice a4 x.defs.length c4)) ∧ (W.cell? ⟨w.heap.size, 5, none⟩ = some (.slice a5 x.convs.length c5)))) (by kernel_rfl) ?_
  have hS := sb_of (sb_dn hb0 1) k0
  refine wpAnyH_take (i := 0) (v := .pointer (some ⟨w.heap.size, 2, none⟩)) rfl (by kernel_rfl) (by kernel_rfl) (by kernel_rfl) (fun _ _ _ h => h) (.inl ⟨by kernel_rfl, fun w' hS' => by kernel_rfl⟩) hS ?_
  refine wpAnyH_take (i := 1) (v := .slice a2 x.exps.length c2) rfl (by kernel_rfl) (by kernel_rfl) (by kernel_rfl) (fun _ _ _ h => h) (.inl ⟨by kernel_rfl, fun w' hS' => ldR (p := .pointer (some ⟨w.heap.size, 2, none⟩)) rfl (by kernel_rfl) (by obtain ⟨hbS, kS, q0, q1, q2, q3, q4, q5⟩ := hS'; simp [go_sem, q2])⟩) hS ?_
  refine wpAnyH_take (i := 2) (v := .pointer (some ⟨w.heap.size, 4, none⟩)) rfl (by kernel_rfl) (by kernel_rfl) (by kernel_rfl) (fun _ _ _ h => h) (.inl ⟨by kernel_rfl, fun w' hS' => by kernel_rfl⟩) hS ?_
  refine wpAnyH_take (i := 3) (v := .slice a4 x.defs.length c4) rfl (by kernel_rfl) (by kernel_rfl) (by kernel_rfl) (fun _ _ _ h => h) (.inl ⟨by kernel_rfl, fun w' hS' => ldR (p := .pointer (some ⟨w.heap.size, 4, none⟩)) rfl (by kernel_rfl) (by obtain ⟨hbS, kS, q0, q1, q2, q3, q4, q5⟩ := hS'; simp [go_sem, q4])⟩) hS ?_
  refine wpAnyH_eq (l' := #[true, true, true, true, false, false, false, false, false, false, false, false, false, false, false, false]) (a' := ⟨#[.agg #[.string x.name, .slice a1 x.imps.length c1, .slice a2 x.exps.length c2, .slice a3 x.types.length c3, .slice a4 x.defs.length c4, .slice a5 x.convs.length c5], .pointer (some ⟨w.heap.size, 0, none⟩), .bool false, .pointer (some ⟨w.heap.size, 2, none⟩), .slice a2 x.exps.length c2, .pointer (some ⟨w.heap.size, 4, none⟩), .slice a4 x.defs.length c4, undef, undef, undef, undef, undef, undef, undef, undef, undef, undef, undef], []⟩) (by kernel_rfl) (by kernel_rfl) ?_
  refine wpAnyH_all (rs := [4]) (by kernel_rfl) (by simp) fun j hj => ?_
  obtain rfl : j = 4 := by simpa using hj
  refine opw_call (f := 35) (args := #[.slice a4 x.defs.length c4]) rfl (by kernel_rfl) (by kernel_rfl) ((HN0.out _ (sb_dn hb0 _)).mono ?_)
  rintro e vA ⟨oa, oc, rfl, ho, hvA⟩
  have hvA : Below (w.alloc (Obj.cells #[.string x.name, .slice a1 x.imps.length c1, .slice a2 x.exps.length c2, .slice a3 x.types.length c3, .slice a4 x.defs.length c4, .slice a5 x.convs.length c5] 34)).heap.size (w.alloc (Obj.cells #[.string x.name, .slice a1 x.imps.length c1, .slice a2 x.exps.length c2, .slice a3 x.types.length c3, .slice a4 x.defs.length c4, .slice a5 x.convs.length c5] 34)) vA := ⟨hvA.os, hvA.tape, hvA.output, hvA.size, hvA.block⟩
  have hbA : Below w.heap.size w vA := hb0.trans (hvA.mono hb0.size)
  have kA := blk_keep k0 hvA (Array.getElem?_eq_some_iff.1 k0).1
  have hS := sb_of hbA kA
  refine ⟨_, rfl, hS, ?_⟩
  refine wpAnyH_eq (l' := #[true, true, true, true, true, false, false, false, false, false, false, false, false, false, false, false]) (a' := ⟨#[.agg #[.string x.name, .slice a1 x.imps.length c1, .slice a2 x.exps.length c2, .slice a3 x.types.length c3, .slice a4 x.defs.length c4, .slice a5 x.convs.length c5], .pointer (some ⟨w.heap.size, 0, none⟩), .bool false, .pointer (some ⟨w.heap.size, 2, none⟩), .slice a2 x.exps.length c2, .pointer (some ⟨w.heap.size, 4, none⟩), .slice a4 x.defs.length c4, .slice oa x.defs.length oc, undef, undef, undef, undef, undef, undef, undef, undef, undef, undef], []⟩) (by kernel_rfl) (by kernel_rfl) ?_
  refine wpAnyH_all (rs := [5]) (by kernel_rfl) (by simp) fun j hj => ?_
  obtain rfl : j = 5 := by simpa using hj
  refine opw_call (f := 91) (args := #[.slice a2 x.exps.length c2, .slice oa x.defs.length oc]) rfl (by kernel_rfl) (by kernel_rfl) ((HC0.out _ oa oc hbA ho).mono ?_)
  rintro e vB ⟨rfl, hvB⟩
  have hbB : Below w.heap.size w vB := hbA.trans (hvB.mono hbA.size)
  have kB := blk_keep kA hvB (Array.getElem?_eq_some_iff.1 kA).1
  have hS := sb_of hbB kB
  refine ⟨_, rfl, hS, ?_⟩
  refine wpAnyH_take (i := 6) (v := .bool false) rfl (by kernel_rfl) (by kernel_rfl) (by kernel_rfl) (fun _ _ _ h => h) (.inl ⟨by kernel_rfl, fun w' hS' => by kernel_rfl⟩) hS ?_
  refine wpAnyH_take (i := 7) (v := undef) rfl (by kernel_rfl) (by kernel_rfl) (by kernel_rfl) (fun _ _ _ h => h) (.inr ⟨by kernel_rfl, rfl⟩) hS ?_
  refine wpAnyH_take (i := 8) (v := undef) rfl (by kernel_rfl) (by kernel_rfl) (by kernel_rfl) (fun _ _ _ h => h) (.inr ⟨by kernel_rfl, rfl⟩) hS ?_
  refine wpAnyH_take (i := 9) (v := undef) rfl (by kernel_rfl) (by kernel_rfl) (by kernel_rfl) (fun _ _ _ h => h) (.inr ⟨by kernel_rfl, rfl⟩) hS ?_
  refine wpAnyH_take (i := 10) (v := undef) rfl (by kernel_rfl) (by kernel_rfl) (by kernel_rfl) (fun _ _ _ h => h) (.inr ⟨by kernel_rfl, rfl⟩) hS ?_
  refine wpAnyH_take (i := 11) (v := undef) rfl (by kernel_rfl) (by kernel_rfl) (by kernel_rfl) (fun _ _ _ h => h) (.inr ⟨by kernel_rfl, rfl⟩) hS ?_
  refine wpAnyH_take (i := 12) (v := undef) rfl (by kernel_rfl) (by kernel_rfl) (by kernel_rfl) (fun _ _ _ h => h) (.inr ⟨by kernel_rfl, rfl⟩) hS ?_
  refine wpAnyH_take (i := 13) (v := undef) rfl (by kernel_rfl) (by kernel_rfl) (by kernel_rfl) (fun _ _ _ h => h) (.inr ⟨by kernel_rfl, rfl⟩) hS ?_
  refine wpAnyH_take (i := 14) (v := .bool false) rfl (by kernel_rfl) (by kernel_rfl) (by kernel_rfl) (fun _ _ _ h => h) (.inl ⟨by kernel_rfl, fun w' hS' => by kernel_rfl⟩) hS ?_
  refine wpAnyH_take (i := 15) (v := .bool false) rfl (by kernel_rfl) (by kernel_rfl) (by kernel_rfl) (fun _ _ _ h => h) (.inl ⟨by kernel_rfl, fun w' hS' => by kernel_rfl⟩) hS ?_
  refine wpAnyH_eq (l' := #[true, true, true, true, true, true, true, true, true, true, true, true, true, true, true, true]) (a' := ⟨#[.agg #[.string x.name, .slice a1 x.imps.length c1, .slice a2 x.exps.length c2, .slice a3 x.types.length c3, .slice a4 x.defs.length c4, .slice a5 x.convs.length c5], .pointer (some ⟨w.heap.size, 0, none⟩), .bool false, .pointer (some ⟨w.heap.size, 2, none⟩), .slice a2 x.exps.length c2, .pointer (some ⟨w.heap.size, 4, none⟩), .slice a4 x.defs.length c4, .slice oa x.defs.length oc, .bool false, .bool false, undef, undef, undef, undef, undef, undef, undef, .bool false], []⟩) (by kernel_rfl) (by kernel_rfl) ?_
  refine wpAnyH_done (by kernel_rfl) ?_ _
  go_wp2
  go_ret
  exact ⟨by rw [HQ.out]; rfl, hbB⟩
 ·rw [h0] at HC0
  cases h1 : x.cns.all (hasS x.tns)
  ·rw [h1] at HC1
   have HQ : Hid (x.known = false) := by show _ = _; unfold Srx.known; rw [h0, h1]; rfl
   clear h0 h1
   go_enter Tryz.func64, Tryz.ntmps64
   go_wp2_with fail
   refine wp_region_held (S := (fun W => (Below w.heap.size w W) ∧ (W.heap[w.heap.size]? = some (Obj.cells #[.string x.name, .slice a1 x.imps.length c1, .slice a2 x.exps.length c2, .slice a3 x.types.length c3, .slice a4 x.defs.length c4, .slice a5 x.convs.length c5] 34)) ∧ (W.cell? ⟨w.heap.size, 0, none⟩ = some (.string x.name)) ∧ (W.cell? ⟨w.heap.size, 1, none⟩ = some (.slice a1 x.imps.length c1)) ∧ (W.cell? ⟨w.heap.size, 2, none⟩ = some (.slice a2 x.exps.length c2)) ∧ (W.cell? ⟨w.heap.size, 3, none⟩ = some (.slice a3 x.types.length c3)) ∧ (W.cell? ⟨w.heap.size, 4, none⟩ = some (.slice a4 x.defs.length c4)) ∧ (W.cell? ⟨w.heap.size, 5, none⟩ = some (.slice a5 x.convs.length c5)))) (by kernel_rfl) ?_
   have hS := sb_of (sb_dn hb0 1) k0
   refine wpAnyH_take (i := 0) (v := .pointer (some ⟨w.heap.size, 2, none⟩)) rfl (by kernel_rfl) (by kernel_rfl) (by kernel_rfl) (fun _ _ _ h => h) (.inl ⟨by kernel_rfl, fun w' hS' => by kernel_rfl⟩) hS ?_
   refine wpAnyH_take (i := 1) (v := .slice a2 x.exps.length c2) rfl (by kernel_rfl) (by kernel_rfl) (by kernel_rfl) (fun _ _ _ h => h) (.inl ⟨by kernel_rfl, fun w' hS' => ldR (p := .pointer (some ⟨w.heap.size, 2, none⟩)) rfl (by kernel_rfl) (by obtain ⟨hbS, kS, q0, q1, q2, q3, q4, q5⟩ := hS'; simp [go_sem, q2])⟩) hS ?_
   refine wpAnyH_take (i := 2) (v := .pointer (some ⟨w.heap.size, 4, none⟩)) rfl (by kernel_rfl) (by kernel_rfl) (by kernel_rfl) (fun _ _ _ h => h) (.inl ⟨by kernel_rfl, fun w' hS' => by kernel_rfl⟩) hS ?_
   refine wpAnyH_take (i := 3) (v := .slice a4 x.defs.length c4) rfl (by kernel_rfl) (by kernel_rfl) (by kernel_rfl) (fun _ _ _ h => h) (.inl ⟨by kernel_rfl, fun w' hS' => ldR (p := .pointer (some ⟨w.heap.size, 4, none⟩)) rfl (by kernel_rfl) (by obtain ⟨hbS, kS, q0, q1, q2, q3, q4, q5⟩ := hS'; simp [go_sem, q4])⟩) hS ?_
   refine wpAnyH_eq (l' := #[true, true, true, true, false, false, false, false, false, false, false, false, false, false, false, false]) (a' := ⟨#[.agg #[.string x.name, .slice a1 x.imps.length c1, .slice a2 x.exps.length c2, .slice a3 x.types.length c3, .slice a4 x.defs.length c4, .slice a5 x.convs.length c5], .pointer (some ⟨w.heap.size, 0, none⟩), .bool false, .pointer (some ⟨w.heap.size, 2, none⟩), .slice a2 x.exps.length c2, .pointer (some ⟨w.heap.size, 4, none⟩), .slice a4 x.defs.length c4, undef, undef, undef, undef, undef, undef, undef, undef, undef, undef, undef], []⟩) (by kernel_rfl) (by kernel_rfl) ?_
   refine wpAnyH_all (rs := [4]) (by kernel_rfl) (by simp) fun j hj => ?_
   obtain rfl : j = 4 := by simpa using hj
   refine opw_call (f := 35) (args := #[.slice a4 x.defs.length c4]) rfl (by kernel_rfl) (by kernel_rfl) ((HN0.out _ (sb_dn hb0 _)).mono ?_)
   rintro e vA ⟨oa, oc, rfl, ho, hvA⟩
   have hvA : Below (w.alloc (Obj.cells #[.string x.name, .slice a1 x.imps.length c1, .slice a2 x.exps.length c2, .slice a3 x.types.length c3, .slice a4 x.defs.length c4, .slice a5 x.convs.length c5] 34)).heap.size (w.alloc (Obj.cells #[.string x.name, .slice a1 x.imps.length c1, .slice a2 x.exps.length c2, .slice a3 x.types.length c3, .slice a4 x.defs.length c4, .slice a5 x.convs.length c5] 34)) vA := ⟨hvA.os, hvA.tape, hvA.output, hvA.size, hvA.block⟩
   have hbA : Below w.heap.size w vA := hb0.trans (hvA.mono hb0.size)
   have kA := blk_keep k0 hvA (Array.getElem?_eq_some_iff.1 k0).1
   have hS := sb_of hbA kA
   refine ⟨_, rfl, hS, ?_⟩
   refine wpAnyH_eq (l' := #[true, true, true, true, true, false, false, false, false, false, false, false, false, false, false, false]) (a' := ⟨#[.agg #[.string x.name, .slice a1 x.imps.length c1, .slice a2 x.exps.length c2, .slice a3 x.types.length c3, .slice a4 x.defs.length c4, .slice a5 x.convs.length c5], .pointer (some ⟨w.heap.size, 0, none⟩), .bool false, .pointer (some ⟨w.heap.size, 2, none⟩), .slice a2 x.exps.length c2, .pointer (some ⟨w.heap.size, 4, none⟩), .slice a4 x.defs.length c4, .slice oa x.defs.length oc, undef, undef, undef, undef, undef, undef, undef, undef, undef, undef], []⟩) (by kernel_rfl) (by kernel_rfl) ?_
   refine wpAnyH_all (rs := [5]) (by kernel_rfl) (by simp) fun j hj => ?_
   obtain rfl : j = 5 := by simpa using hj
   refine opw_call (f := 91) (args := #[.slice a2 x.exps.length c2, .slice oa x.defs.length oc]) rfl (by kernel_rfl) (by kernel_rfl) ((HC0.out _ oa oc hbA ho).mono ?_)
   rintro e vB ⟨rfl, hvB⟩
   have hbB : Below w.heap.size w vB := hbA.trans (hvB.mono hbA.size)
   have kB := blk_keep kA hvB (Array.getElem?_eq_some_iff.1 kA).1
   have hS := sb_of hbB kB
   refine ⟨_, rfl, hS, ?_⟩
   refine wpAnyH_take (i := 6) (v := .bool true) rfl (by kernel_rfl) (by kernel_rfl) (by kernel_rfl) (fun _ _ _ h => h) (.inl ⟨by kernel_rfl, fun w' hS' => by kernel_rfl⟩) hS ?_
   refine wpAnyH_take (i := 7) (v := .pointer (some ⟨w.heap.size, 5, none⟩)) rfl (by kernel_rfl) (by kernel_rfl) (by kernel_rfl) (fun _ _ _ h => h) (.inl ⟨by kernel_rfl, fun w' hS' => by kernel_rfl⟩) hS ?_
   refine wpAnyH_take (i := 8) (v := .slice a5 x.convs.length c5) rfl (by kernel_rfl) (by kernel_rfl) (by kernel_rfl) (fun _ _ _ h => h) (.inl ⟨by kernel_rfl, fun w' hS' => ldR (p := .pointer (some ⟨w.heap.size, 5, none⟩)) rfl (by kernel_rfl) (by obtain ⟨hbS, kS, q0, q1, q2, q3, q4, q5⟩ := hS'; simp [go_sem, q5])⟩) hS ?_
   refine wpAnyH_take (i := 10) (v := .pointer (some ⟨w.heap.size, 3, none⟩)) rfl (by kernel_rfl) (by kernel_rfl) (by kernel_rfl) (fun _ _ _ h => h) (.inl ⟨by kernel_rfl, fun w' hS' => by kernel_rfl⟩) hS ?_
   refine wpAnyH_take (i := 11) (v := .slice a3 x.types.length c3) rfl (by kernel_rfl) (by kernel_rfl) (by kernel_rfl) (fun _ _ _ h => h) (.inl ⟨by kernel_rfl, fun w' hS' => ldR (p := .pointer (some ⟨w.heap.size, 3, none⟩)) rfl (by kernel_rfl) (by obtain ⟨hbS, kS, q0, q1, q2, q3, q4, q5⟩ := hS'; simp [go_sem, q3])⟩) hS ?_
   refine wpAnyH_eq (l' := #[true, true, true, true, true, true, true, true, true, false, true, true, false, false, false, false]) (a' := ⟨#[.agg #[.string x.name, .slice a1 x.imps.length c1, .slice a2 x.exps.length c2, .slice a3 x.types.length c3, .slice a4 x.defs.length c4, .slice a5 x.convs.length c5], .pointer (some ⟨w.heap.size, 0, none⟩), .bool false, .pointer (some ⟨w.heap.size, 2, none⟩), .slice a2 x.exps.length c2, .pointer (some ⟨w.heap.size, 4, none⟩), .slice a4 x.defs.length c4, .slice oa x.defs.length oc, .bool true, .bool true, .pointer (some ⟨w.heap.size, 5, none⟩), .slice a5 x.convs.length c5, undef, .pointer (some ⟨w.heap.size, 3, none⟩), .slice a3 x.types.length c3, undef, undef, undef], []⟩) (by kernel_rfl) (by kernel_rfl) ?_
   refine wpAnyH_all (rs := [9]) (by kernel_rfl) (by simp) fun j hj => ?_
   obtain rfl : j = 9 := by simpa using hj
   refine opw_call (f := 35) (args := #[.slice a5 x.convs.length c5]) rfl (by kernel_rfl) (by kernel_rfl) ((HN1.out _ hbB).mono ?_)
   rintro e vC ⟨pa, pc, rfl, hp, hvC⟩
   have hbC : Below w.heap.size w vC := hbB.trans (hvC.mono hbB.size)
   have kC := blk_keep kB hvC (Array.getElem?_eq_some_iff.1 kB).1
   have hS := sb_of hbC kC
   refine ⟨_, rfl, hS, ?_⟩
   refine wpAnyH_eq (l' := #[true, true, true, true, true, true, true, true, true, true, true, true, false, false, false, false]) (a' := ⟨#[.agg #[.string x.name, .slice a1 x.imps.length c1, .slice a2 x.exps.length c2, .slice a3 x.types.length c3, .slice a4 x.defs.length c4, .slice a5 x.convs.length c5], .pointer (some ⟨w.heap.size, 0, none⟩), .bool false, .pointer (some ⟨w.heap.size, 2, none⟩), .slice a2 x.exps.length c2, .pointer (some ⟨w.heap.size, 4, none⟩), .slice a4 x.defs.length c4, .slice oa x.defs.length oc, .bool true, .bool true, .pointer (some ⟨w.heap.size, 5, none⟩), .slice a5 x.convs.length c5, .slice pa x.convs.length pc, .pointer (some ⟨w.heap.size, 3, none⟩), .slice a3 x.types.length c3, undef, undef, undef], []⟩) (by kernel_rfl) (by kernel_rfl) ?_
   refine wpAnyH_all (rs := [12]) (by kernel_rfl) (by simp) fun j hj => ?_
   obtain rfl : j = 12 := by simpa using hj
   refine opw_call (f := 77) (args := #[.slice a3 x.types.length c3]) rfl (by kernel_rfl) (by kernel_rfl) ((HN2.out _ hbC).mono ?_)
   rintro e vD ⟨qa, qc, rfl, hq, hvD⟩
   have hbD : Below w.heap.size w vD := hbC.trans (hvD.mono hbC.size)
   have kD := blk_keep kC hvD (Array.getElem?_eq_some_iff.1 kC).1
   have hS := sb_of hbD kD
   have hp := hp.keep hvD
   refine ⟨_, rfl, hS, ?_⟩
   refine wpAnyH_eq (l' := #[true, true, true, true, true, true, true, true, true, true, true, true, true, false, false, false]) (a' := ⟨#[.agg #[.string x.name, .slice a1 x.imps.length c1, .slice a2 x.exps.length c2, .slice a3 x.types.length c3, .slice a4 x.defs.length c4, .slice a5 x.convs.length c5], .pointer (some ⟨w.heap.size, 0, none⟩), .bool false, .pointer (some ⟨w.heap.size, 2, none⟩), .slice a2 x.exps.length c2, .pointer (some ⟨w.heap.size, 4, none⟩), .slice a4 x.defs.length c4, .slice oa x.defs.length oc, .bool true, .bool true, .pointer (some ⟨w.heap.size, 5, none⟩), .slice a5 x.convs.length c5, .slice pa x.convs.length pc, .pointer (some ⟨w.heap.size, 3, none⟩), .slice a3 x.types.length c3, .slice qa x.types.length qc, undef, undef], []⟩) (by kernel_rfl) (by kernel_rfl) ?_
   refine wpAnyH_all (rs := [13]) (by kernel_rfl) (by simp) fun j hj => ?_
   obtain rfl : j = 13 := by simpa using hj
   refine opw_call (f := 91) (args := #[.slice pa x.convs.length pc, .slice qa x.types.length qc]) rfl (by kernel_rfl) (by kernel_rfl) ((HC1.out _ pa qa pc qc hp hq).mono ?_)
   rintro e vE ⟨rfl, hvE⟩
   have hbE : Below w.heap.size w vE := hbD.trans (hvE.mono hbD.size)
   have kE := blk_keep kD hvE (Array.getElem?_eq_some_iff.1 kD).1
   have hS := sb_of hbE kE
   refine ⟨_, rfl, hS, ?_⟩
   refine wpAnyH_take (i := 14) (v := .bool false) rfl (by kernel_rfl) (by kernel_rfl) (by kernel_rfl) (fun _ _ _ h => h) (.inl ⟨by kernel_rfl, fun w' hS' => by kernel_rfl⟩) hS ?_
   refine wpAnyH_take (i := 15) (v := .bool false) rfl (by kernel_rfl) (by kernel_rfl) (by kernel_rfl) (fun _ _ _ h => h) (.inl ⟨by kernel_rfl, fun w' hS' => by kernel_rfl⟩) hS ?_
   refine wpAnyH_eq (l' := #[true, true, true, true, true, true, true, true, true, true, true, true, true, true, true, true]) (a' := ⟨#[.agg #[.string x.name, .slice a1 x.imps.length c1, .slice a2 x.exps.length c2, .slice a3 x.types.length c3, .slice a4 x.defs.length c4, .slice a5 x.convs.length c5], .pointer (some ⟨w.heap.size, 0, none⟩), .bool false, .pointer (some ⟨w.heap.size, 2, none⟩), .slice a2 x.exps.length c2, .pointer (some ⟨w.heap.size, 4, none⟩), .slice a4 x.defs.length c4, .slice oa x.defs.length oc, .bool true, .bool true, .pointer (some ⟨w.heap.size, 5, none⟩), .slice a5 x.convs.length c5, .slice pa x.convs.length pc, .pointer (some ⟨w.heap.size, 3, none⟩), .slice a3 x.types.length c3, .slice qa x.types.length qc, .bool false, .bool false], []⟩) (by kernel_rfl) (by kernel_rfl) ?_
   refine wpAnyH_done (by kernel_rfl) ?_ _
   go_wp2
   go_ret
   exact ⟨by rw [HQ.out]; rfl, hbE⟩
  ·rw [h1] at HC1
   have HQ : Hid (x.known = true) := by show _ = _; unfold Srx.known; rw [h0, h1]; rfl
   clear h0 h1
   go_enter Tryz.func64, Tryz.ntmps64
   go_wp2_with fail
   refine wp_region_held (S := (fun W => (Below w.heap.size w W) ∧ (W.heap[w.heap.size]? = some (Obj.cells #[.string x.name, .slice a1 x.imps.length c1, .slice a2 x.exps.length c2, .slice a3 x.types.length c3, .slice a4 x.defs.length c4, .slice a5 x.convs.length c5] 34)) ∧ (W.cell? ⟨w.heap.size, 0, none⟩ = some (.string x.name)) ∧ (W.cell? ⟨w.heap.size, 1, none⟩ = some (.slice a1 x.imps.length c1)) ∧ (W.cell? ⟨w.heap.size, 2, none⟩ = some (.slice a2 x.exps.length c2)) ∧ (W.cell? ⟨w.heap.size, 3, none⟩ = some (.slice a3 x.types.length c3)) ∧ (W.cell? ⟨w.heap.size, 4, none⟩ = some (.slice a4 x.defs.length c4)) ∧ (W.cell? ⟨w.heap.size, 5, none⟩ = some (.slice a5 x.convs.length c5)))) (by kernel_rfl) ?_
   have hS := sb_of (sb_dn hb0 1) k0
   refine wpAnyH_take (i := 0) (v := .pointer (some ⟨w.heap.size, 2, none⟩)) rfl (by kernel_rfl) (by kernel_rfl) (by kernel_rfl) (fun _ _ _ h => h) (.inl ⟨by kernel_rfl, fun w' hS' => by kernel_rfl⟩) hS ?_
   refine wpAnyH_take (i := 1) (v := .slice a2 x.exps.length c2) rfl (by kernel_rfl) (by kernel_rfl) (by kernel_rfl) (fun _ _ _ h => h) (.inl ⟨by kernel_rfl, fun w' hS' => ldR (p := .pointer (some ⟨w.heap.size, 2, none⟩)) rfl (by kernel_rfl) (by obtain ⟨hbS, kS, q0, q1, q2, q3, q4, q5⟩ := hS'; simp [go_sem, q2])⟩) hS ?_
   refine wpAnyH_take (i := 2) (v := .pointer (some ⟨w.heap.size, 4, none⟩)) rfl (by kernel_rfl) (by kernel_rfl) (by kernel_rfl) (fun _ _ _ h => h) (.inl ⟨by kernel_rfl, fun w' hS' => by kernel_rfl⟩) hS ?_
   refine wpAnyH_take (i := 3) (v := .slice a4 x.defs.length c4) rfl (by kernel_rfl) (by kernel_rfl) (by kernel_rfl) (fun _ _ _ h => h) (.inl ⟨by kernel_rfl, fun w' hS' => ldR (p := .pointer (some ⟨w.heap.size, 4, none⟩)) rfl (by kernel_rfl) (by obtain ⟨hbS, kS, q0, q1, q2, q3, q4, q5⟩ := hS'; simp [go_sem, q4])⟩) hS ?_
   refine wpAnyH_eq (l' := #[true, true, true, true, false, false, false, false, false, false, false, false, false, false, false, false]) (a' := ⟨#[.agg #[.string x.name, .slice a1 x.imps.length c1, .slice a2 x.exps.length c2, .slice a3 x.types.length c3, .slice a4 x.defs.length c4, .slice a5 x.convs.length c5], .pointer (some ⟨w.heap.size, 0, none⟩), .bool false, .pointer (some ⟨w.heap.size, 2, none⟩), .slice a2 x.exps.length c2, .pointer (some ⟨w.heap.size, 4, none⟩), .slice a4 x.defs.length c4, undef, undef, undef, undef, undef, undef, undef, undef, undef, undef, undef], []⟩) (by kernel_rfl) (by kernel_rfl) ?_
   refine wpAnyH_all (rs := [4]) (by kernel_rfl) (by simp) fun j hj => ?_
   obtain rfl : j = 4 := by simpa using hj
   refine opw_call (f := 35) (args := #[.slice a4 x.defs.length c4]) rfl (by kernel_rfl) (by kernel_rfl) ((HN0.out _ (sb_dn hb0 _)).mono ?_)
   rintro e vA ⟨oa, oc, rfl, ho, hvA⟩
   have hvA : Below (w.alloc (Obj.cells #[.string x.name, .slice a1 x.imps.length c1, .slice a2 x.exps.length c2, .slice a3 x.types.length c3, .slice a4 x.defs.length c4, .slice a5 x.convs.length c5] 34)).heap.size (w.alloc (Obj.cells #[.string x.name, .slice a1 x.imps.length c1, .slice a2 x.exps.length c2, .slice a3 x.types.length c3, .slice a4 x.defs.length c4, .slice a5 x.convs.length c5] 34)) vA := ⟨hvA.os, hvA.tape, hvA.output, hvA.size, hvA.block⟩
   have hbA : Below w.heap.size w vA := hb0.trans (hvA.mono hb0.size)
   have kA := blk_keep k0 hvA (Array.getElem?_eq_some_iff.1 k0).1
   have hS := sb_of hbA kA
   refine ⟨_, rfl, hS, ?_⟩
   refine wpAnyH_eq (l' := #[true, true, true, true, true, false, false, false, false, false, false, false, false, false, false, false]) (a' := ⟨#[.agg #[.string x.name, .slice a1 x.imps.length c1, .slice a2 x.exps.length c2, .slice a3 x.types.length c3, .slice a4 x.defs.length c4, .slice a5 x.convs.length c5], .pointer (some ⟨w.heap.size, 0, none⟩), .bool false, .pointer (some ⟨w.heap.size, 2, none⟩), .slice a2 x.exps.length c2, .pointer (some ⟨w.heap.size, 4, none⟩), .slice a4 x.defs.length c4, .slice oa x.defs.length oc, undef, undef, undef, undef, undef, undef, undef, undef, undef, undef], []⟩) (by kernel_rfl) (by kernel_rfl) ?_
   refine wpAnyH_all (rs := [5]) (by kernel_rfl) (by simp) fun j hj => ?_
   obtain rfl : j = 5 := by simpa using hj
   refine opw_call (f := 91) (args := #[.slice a2 x.exps.length c2, .slice oa x.defs.length oc]) rfl (by kernel_rfl) (by kernel_rfl) ((HC0.out _ oa oc hbA ho).mono ?_)
   rintro e vB ⟨rfl, hvB⟩
   have hbB : Below w.heap.size w vB := hbA.trans (hvB.mono hbA.size)
   have kB := blk_keep kA hvB (Array.getElem?_eq_some_iff.1 kA).1
   have hS := sb_of hbB kB
   refine ⟨_, rfl, hS, ?_⟩
   refine wpAnyH_take (i := 6) (v := .bool true) rfl (by kernel_rfl) (by kernel_rfl) (by kernel_rfl) (fun _ _ _ h => h) (.inl ⟨by kernel_rfl, fun w' hS' => by kernel_rfl⟩) hS ?_
   refine wpAnyH_take (i := 7) (v := .pointer (some ⟨w.heap.size, 5, none⟩)) rfl (by kernel_rfl) (by kernel_rfl) (by kernel_rfl) (fun _ _ _ h => h) (.inl ⟨by kernel_rfl, fun w' hS' => by kernel_rfl⟩) hS ?_
   refine wpAnyH_take (i := 8) (v := .slice a5 x.convs.length c5) rfl (by kernel_rfl) (by kernel_rfl) (by kernel_rfl) (fun _ _ _ h => h) (.inl ⟨by kernel_rfl, fun w' hS' => ldR (p := .pointer (some ⟨w.heap.size, 5, none⟩)) rfl (by kernel_rfl) (by obtain ⟨hbS, kS, q0, q1, q2, q3, q4, q5⟩ := hS'; simp [go_sem, q5])⟩) hS ?_
   refine wpAnyH_take (i := 10) (v := .pointer (some ⟨w.heap.size, 3, none⟩)) rfl (by kernel_rfl) (by kernel_rfl) (by kernel_rfl) (fun _ _ _ h => h) (.inl ⟨by kernel_rfl, fun w' hS' => by kernel_rfl⟩) hS ?_
   refine wpAnyH_take (i := 11) (v := .slice a3 x.types.length c3) rfl (by kernel_rfl) (by kernel_rfl) (by kernel_rfl) (fun _ _ _ h => h) (.inl ⟨by kernel_rfl, fun w' hS' => ldR (p := .pointer (some ⟨w.heap.size, 3, none⟩)) rfl (by kernel_rfl) (by obtain ⟨hbS, kS, q0, q1, q2, q3, q4, q5⟩ := hS'; simp [go_sem, q3])⟩) hS ?_
   refine wpAnyH_eq (l' := #[true, true, true, true, true, true, true, true, true, false, true, true, false, false, false, false]) (a' := ⟨#[.agg #[.string x.name, .slice a1 x.imps.length c1, .slice a2 x.exps.length c2, .slice a3 x.types.length c3, .slice a4 x.defs.length c4, .slice a5 x.convs.length c5], .pointer (some ⟨w.heap.size, 0, none⟩), .bool false, .pointer (some ⟨w.heap.size, 2, none⟩), .slice a2 x.exps.length c2, .pointer (some ⟨w.heap.size, 4, none⟩), .slice a4 x.defs.length c4, .slice oa x.defs.length oc, .bool true, .bool true, .pointer (some ⟨w.heap.size, 5, none⟩), .slice a5 x.convs.length c5, undef, .pointer (some ⟨w.heap.size, 3, none⟩), .slice a3 x.types.length c3, undef, undef, undef], []⟩) (by kernel_rfl) (by kernel_rfl) ?_
   refine wpAnyH_all (rs := [9]) (by kernel_rfl) (by simp) fun j hj => ?_
   obtain rfl : j = 9 := by simpa using hj
   refine opw_call (f := 35) (args := #[.slice a5 x.convs.length c5]) rfl (by kernel_rfl) (by kernel_rfl) ((HN1.out _ hbB).mono ?_)
   rintro e vC ⟨pa, pc, rfl, hp, hvC⟩
   have hbC : Below w.heap.size w vC := hbB.trans (hvC.mono hbB.size)
   have kC := blk_keep kB hvC (Array.getElem?_eq_some_iff.1 kB).1
   have hS := sb_of hbC kC
   refine ⟨_, rfl, hS, ?_⟩
   refine wpAnyH_eq (l' := #[true, true, true, true, true, true, true, true, true, true, true, true, false, false, false, false]) (a' := ⟨#[.agg #[.string x.name, .slice a1 x.imps.length c1, .slice a2 x.exps.length c2, .slice a3 x.types.length c3, .slice a4 x.defs.length c4, .slice a5 x.convs.length c5], .pointer (some ⟨w.heap.size, 0, none⟩), .bool false, .pointer (some ⟨w.heap.size, 2, none⟩), .slice a2 x.exps.length c2, .pointer (some ⟨w.heap.size, 4, none⟩), .slice a4 x.defs.length c4, .slice oa x.defs.length oc, .bool true, .bool true, .pointer (some ⟨w.heap.size, 5, none⟩), .slice a5 x.convs.length c5, .slice pa x.convs.length pc, .pointer (some ⟨w.heap.size, 3, none⟩), .slice a3 x.types.length c3, undef, undef, undef], []⟩) (by kernel_rfl) (by kernel_rfl) ?_
   refine wpAnyH_all (rs := [12]) (by kernel_rfl) (by simp) fun j hj => ?_
   obtain rfl : j = 12 := by simpa using hj
   refine opw_call (f := 77) (args := #[.slice a3 x.types.length c3]) rfl (by kernel_rfl) (by kernel_rfl) ((HN2.out _ hbC).mono ?_)
   rintro e vD ⟨qa, qc, rfl, hq, hvD⟩
   have hbD : Below w.heap.size w vD := hbC.trans (hvD.mono hbC.size)
   have kD := blk_keep kC hvD (Array.getElem?_eq_some_iff.1 kC).1
   have hS := sb_of hbD kD
   have hp := hp.keep hvD
   refine ⟨_, rfl, hS, ?_⟩
   refine wpAnyH_eq (l' := #[true, true, true, true, true, true, true, true, true, true, true, true, true, false, false, false]) (a' := ⟨#[.agg #[.string x.name, .slice a1 x.imps.length c1, .slice a2 x.exps.length c2, .slice a3 x.types.length c3, .slice a4 x.defs.length c4, .slice a5 x.convs.length c5], .pointer (some ⟨w.heap.size, 0, none⟩), .bool false, .pointer (some ⟨w.heap.size, 2, none⟩), .slice a2 x.exps.length c2, .pointer (some ⟨w.heap.size, 4, none⟩), .slice a4 x.defs.length c4, .slice oa x.defs.length oc, .bool true, .bool true, .pointer (some ⟨w.heap.size, 5, none⟩), .slice a5 x.convs.length c5, .slice pa x.convs.length pc, .pointer (some ⟨w.heap.size, 3, none⟩), .slice a3 x.types.length c3, .slice qa x.types.length qc, undef, undef], []⟩) (by kernel_rfl) (by kernel_rfl) ?_
   refine wpAnyH_all (rs := [13]) (by kernel_rfl) (by simp) fun j hj => ?_
   obtain rfl : j = 13 := by simpa using hj
   refine opw_call (f := 91) (args := #[.slice pa x.convs.length pc, .slice qa x.types.length qc]) rfl (by kernel_rfl) (by kernel_rfl) ((HC1.out _ pa qa pc qc hp hq).mono ?_)
   rintro e vE ⟨rfl, hvE⟩
   have hbE : Below w.heap.size w vE := hbD.trans (hvE.mono hbD.size)
   have kE := blk_keep kD hvE (Array.getElem?_eq_some_iff.1 kD).1
   have hS := sb_of hbE kE
   refine ⟨_, rfl, hS, ?_⟩
   refine wpAnyH_take (i := 14) (v := .bool true) rfl (by kernel_rfl) (by kernel_rfl) (by kernel_rfl) (fun _ _ _ h => h) (.inl ⟨by kernel_rfl, fun w' hS' => by kernel_rfl⟩) hS ?_
   refine wpAnyH_take (i := 15) (v := .bool true) rfl (by kernel_rfl) (by kernel_rfl) (by kernel_rfl) (fun _ _ _ h => h) (.inl ⟨by kernel_rfl, fun w' hS' => by kernel_rfl⟩) hS ?_
   refine wpAnyH_eq (l' := #[true, true, true, true, true, true, true, true, true, true, true, true, true, true, true, true]) (a' := ⟨#[.agg #[.string x.name, .slice a1 x.imps.length c1, .slice a2 x.exps.length c2, .slice a3 x.types.length c3, .slice a4 x.defs.length c4, .slice a5 x.convs.length c5], .pointer (some ⟨w.heap.size, 0, none⟩), .bool true, .pointer (some ⟨w.heap.size, 2, none⟩), .slice a2 x.exps.length c2, .pointer (some ⟨w.heap.size, 4, none⟩), .slice a4 x.defs.length c4, .slice oa x.defs.length oc, .bool true, .bool true, .pointer (some ⟨w.heap.size, 5, none⟩), .slice a5 x.convs.length c5, .slice pa x.convs.length pc, .pointer (some ⟨w.heap.size, 3, none⟩), .slice a3 x.types.length c3, .slice qa x.types.length qc, .bool true, .bool true], []⟩) (by kernel_rfl) (by kernel_rfl) ?_
   refine wpAnyH_done (by kernel_rfl) ?_ _
   go_wp2
   go_ret
   exact ⟨by rw [HQ.out]; rfl, hbE⟩
end Go.Proofs.YtamjofdgikifnaaGreat
