/- The model: an export that is no definition, a conversion that is of no type. -/
import Derived.Test.YtamjofdgikifnaaGreatSle
import Derived.Deep.RegionHeldLaw
import Derived.Deep.RegionHeld3
set_option linter.unusedVariables false
namespace Go.Proofs.YtamjofdgikifnaaGreat
open Go.ChangeShapes Go.WideShapes Go.ChangeAt Go.RowKit
theorem sbx_of {x : Srx} {a1 a2 a3 a4 a5 : Option Addr} {c1 c2 c3 c4 c5 : Nat} {w : World} {w' : World} {b o : Nat} {v : Value} (hb : Below w.heap.size w w') (k : w'.heap[w.heap.size]? = some (Obj.cells #[.string x.name, .slice a1 x.imps.length c1, .slice a2 x.exps.length c2, .slice a3 x.types.length c3, .slice a4 x.defs.length c4, .slice a5 x.convs.length c5] 34)) (e : w'.cell? ⟨b, o, none⟩ = some v) : Below w.heap.size w w' ∧ w'.heap[w.heap.size]? = some (Obj.cells #[.string x.name, .slice a1 x.imps.length c1, .slice a2 x.exps.length c2, .slice a3 x.types.length c3, .slice a4 x.defs.length c4, .slice a5 x.convs.length c5] 34) ∧ w'.cell? ⟨w.heap.size, 0, none⟩ = some (.string x.name) ∧ w'.cell? ⟨w.heap.size, 1, none⟩ = some (.slice a1 x.imps.length c1) ∧ w'.cell? ⟨w.heap.size, 2, none⟩ = some (.slice a2 x.exps.length c2) ∧ w'.cell? ⟨w.heap.size, 3, none⟩ = some (.slice a3 x.types.length c3) ∧ w'.cell? ⟨w.heap.size, 4, none⟩ = some (.slice a4 x.defs.length c4) ∧ w'.cell? ⟨w.heap.size, 5, none⟩ = some (.slice a5 x.convs.length c5) ∧ w'.cell? ⟨b, o, none⟩ = some v :=
 ⟨hb, k, cell_blk (j := 0) k rfl, cell_blk (j := 1) k rfl, cell_blk (j := 2) k rfl, cell_blk (j := 3) k rfl, cell_blk (j := 4) k rfl, cell_blk (j := 5) k rfl, e⟩
theorem known_eq (x : Srx) : x.known = (x.exps.all (hasS x.dns) && x.convs.all (fun d => hasS x.tns d.name)) := by
 unfold Srx.known Srx.cns
 rw [List.all_map]
 rfl
set_option maxRecDepth 100000 in
set_option maxHeartbeats 1000000 in
theorem l11Lacks_any (x : Srx) (a1 a2 a3 a4 a5 : Option Addr) (c1 c2 c3 c4 c5 : Nat) (w : World) (hs : x.small) (hr : SrxRows w (fun b => b < w.heap.size) a1 a2 a3 a4 a5 c1 c2 c3 c4 c5 x) :
  Calls Tryz.prog 54 #[.agg #[.string x.name, .slice a1 x.imps.length c1, .slice a2 x.exps.length c2, .slice a3 x.types.length c3, .slice a4 x.defs.length c4, .slice a5 x.convs.length c5]] w fun e w' => Ans w (.bool (!x.known)) e w' := by
 have S : Hid (SrxAt x a1 a2 a3 a4 a5 c1 c2 c3 c4 c5 w) := srxAt x a1 a2 a3 a4 a5 c1 c2 c3 c4 c5 w hs hr
 clear hs hr
 have hb0 : Below w.heap.size w (w.alloc (Obj.cells #[.string x.name, .slice a1 x.imps.length c1, .slice a2 x.exps.length c2, .slice a3 x.types.length c3, .slice a4 x.defs.length c4, .slice a5 x.convs.length c5] 34)) := (Below.refl _ _).alloc (Nat.le_refl _) _
 have k0 : (w.alloc (Obj.cells #[.string x.name, .slice a1 x.imps.length c1, .slice a2 x.exps.length c2, .slice a3 x.types.length c3, .slice a4 x.defs.length c4, .slice a5 x.convs.length c5] 34)).heap[w.heap.size]? = some (Obj.cells #[.string x.name, .slice a1 x.imps.length c1, .slice a2 x.exps.length c2, .slice a3 x.types.length c3, .slice a4 x.defs.length c4, .slice a5 x.convs.length c5] 34) := blk_at _ _ _ rfl
 have HN0 : Hid (∀ w2, Below w.heap.size w w2 → Calls Tryz.prog 24 #[.slice a4 x.defs.length c4] w2 fun e w' => NmP x.dns x.defs.length w2 e w') := fun w2 h2 => (l11DefNames_any a4 x.defs c4 w2 S.out.l4 (S.out.defs w2 h2)).mono fun e w' h => NmPost.to h
 have HN1 : Hid (∀ w2, Below w.heap.size w w2 → Calls Tryz.prog 56 #[.slice a3 x.types.length c3] w2 fun e w' => NmP x.tns x.types.length w2 e w') := fun w2 h2 => (l11TypeNames_any a3 x.types c3 w2 S.out.l3 (S.out.types w2 h2)).mono fun e w' h => NmPost.to h
 have HI0 : Hid (∀ d w2 a cap, NmsAt x.dns x.defs.length w2 a cap → Calls Tryz.prog 27 #[.slice a x.defs.length cap, .string d] w2 fun e w' => Ans w2 (.bool (hasS x.dns d)) e w') := fun d w2 a cap h => in_at d S.out.l4 h
 have HI1 : Hid (∀ d w2 a cap, NmsAt x.tns x.types.length w2 a cap → Calls Tryz.prog 27 #[.slice a x.types.length cap, .string d] w2 fun e w' => Ans w2 (.bool (hasS x.tns d)) e w') := fun d w2 a cap h => in_at d S.out.l3 h
 have HE : Hid (∀ w2, Below w.heap.size w w2 → RowS w2 w2.heap.size a2 x.exps) := fun w2 h2 => (S.out.exps w2 h2).2.2
 have HV : Hid (∀ w2, Below w.heap.size w w2 → rgD.Row w2 (fun b => b < w2.heap.size) a5 x.convs) := fun w2 h2 => S.out.convs w2 h2
 have s2 := S.out.l2
 have s5 := S.out.l5
 clear S
 have z0 : (w.alloc (Obj.cells #[.string x.name, .slice a1 x.imps.length c1, .slice a2 x.exps.length c2, .slice a3 x.types.length c3, .slice a4 x.defs.length c4, .slice a5 x.convs.length c5] 34)).heap.size = w.heap.size + 1 := by simp
 have Z : Hid (w.heap.size < (w.alloc (Obj.cells #[.string x.name, .slice a1 x.imps.length c1, .slice a2 x.exps.length c2, .slice a3 x.types.length c3, .slice a4 x.defs.length c4, .slice a5 x.convs.length c5] 34)).heap.size) := by show _ < _; omega
 rw [known_eq]
 go_enter Tryz.func54, Tryz.ntmps54
 go_wp2
 go_loopw [3] (fun o wr => ∃ i : Nat, i ≤ x.exps.length ∧ o = .int .i64 i ∧ (x.exps.take i).all (hasS x.dns) = true ∧ Below (w.alloc (Obj.cells #[.string x.name, .slice a1 x.imps.length c1, .slice a2 x.exps.length c2, .slice a3 x.types.length c3, .slice a4 x.defs.length c4, .slice a5 x.convs.length c5] 34)).heap.size (w.alloc (Obj.cells #[.string x.name, .slice a1 x.imps.length c1, .slice a2 x.exps.length c2, .slice a3 x.types.length c3, .slice a4 x.defs.length c4, .slice a5 x.convs.length c5] 34)) wr)
  (fun o _ => x.exps.length - (intOf o).toNat)
 case atStart => exact ⟨0, by omega, rfl, by simp, Below.refl _ _⟩
 case round =>
  obtain ⟨i, hi, rfl, hall, hbW⟩ := hrel
  have hb : Below w.heap.size w wr := hb0.trans (hbW.mono hb0.size)
  have hk := blk_keep k0 hbW Z.out
  have z2 := cell_blk (j := 2) hk rfl
  by_cases hlt : i < x.exps.length
  ·obtain ⟨d, hd⟩ : ∃ d, x.exps[i]? = some d := ⟨_, List.getElem?_eq_getElem hlt⟩
   have hdW : ∀ v, Below wr.heap.size wr v → Below (w.alloc (Obj.cells #[.string x.name, .slice a1 x.imps.length c1, .slice a2 x.exps.length c2, .slice a3 x.types.length c3, .slice a4 x.defs.length c4, .slice a5 x.convs.length c5] 34)).heap.size (w.alloc (Obj.cells #[.string x.name, .slice a1 x.imps.length c1, .slice a2 x.exps.length c2, .slice a3 x.types.length c3, .slice a4 x.defs.length c4, .slice a5 x.convs.length c5] 34)) v := fun v h => hbW.trans (h.mono hbW.size)
   obtain ⟨b1, o1, rfl, hbb, e0⟩ := (HE.out wr hb) i d hd
   have HI := HI0.out d
   have g1 : decide ((i : Int) < (x.exps.length : Int)) = true := by simp; omega
   cases hna : hasS x.dns d
   ·have HQ : Hid ((!(x.exps.all (hasS x.dns) && x.convs.all (fun d => hasS x.tns d.name))) = true) := by show _ = _; rw [all_of_bad _ hd hna]; rfl
    rw [hna] at HI
    replace HI : Hid _ := HI
    clear hna hd hall hdW
    go_wp2_with fail
    refine wp_region_held (S := (fun W => (Below w.heap.size w W) ∧ (W.heap[w.heap.size]? = some (Obj.cells #[.string x.name, .slice a1 x.imps.length c1, .slice (some ⟨b1, o1, none⟩) x.exps.length c2, .slice a3 x.types.length c3, .slice a4 x.defs.length c4, .slice a5 x.convs.length c5] 34)) ∧ (W.cell? ⟨w.heap.size, 0, none⟩ = some (.string x.name)) ∧ (W.cell? ⟨w.heap.size, 1, none⟩ = some (.slice a1 x.imps.length c1)) ∧ (W.cell? ⟨w.heap.size, 2, none⟩ = some (.slice (some ⟨b1, o1, none⟩) x.exps.length c2)) ∧ (W.cell? ⟨w.heap.size, 3, none⟩ = some (.slice a3 x.types.length c3)) ∧ (W.cell? ⟨w.heap.size, 4, none⟩ = some (.slice a4 x.defs.length c4)) ∧ (W.cell? ⟨w.heap.size, 5, none⟩ = some (.slice a5 x.convs.length c5)) ∧ (W.cell? ⟨b1, o1 + i, none⟩ = some (.string d)))) (by kernel_rfl) ?_
    have hS := sbx_of (sb_dn hb 1) hk e0
    refine wpAnyH_take (i := 0) (v := .pointer (some ⟨w.heap.size, 4, none⟩)) rfl (by kernel_rfl) (by kernel_rfl) (by kernel_rfl) (fun _ _ _ h => h) (.inl ⟨by kernel_rfl, fun w' hS' => by kernel_rfl⟩) hS ?_
    refine wpAnyH_take (i := 1) (v := .slice a4 x.defs.length c4) rfl (by kernel_rfl) (by kernel_rfl) (by kernel_rfl) (fun _ _ _ h => h) (.inl ⟨by kernel_rfl, fun w' hS' => ldR (p := .pointer (some ⟨w.heap.size, 4, none⟩)) rfl (by kernel_rfl) (by obtain ⟨hbS, kS, q0, q1, q2, q3, q4, q5, q9⟩ := hS'; simp [go_sem, q4])⟩) hS ?_
    refine wpAnyH_take (i := 3) (v := .pointer (some ⟨w.heap.size, 2, none⟩)) rfl (by kernel_rfl) (by kernel_rfl) (by kernel_rfl) (fun _ _ _ h => h) (.inl ⟨by kernel_rfl, fun w' hS' => by kernel_rfl⟩) hS ?_
    refine wpAnyH_take (i := 4) (v := .slice (some ⟨b1, o1, none⟩) x.exps.length c2) rfl (by kernel_rfl) (by kernel_rfl) (by kernel_rfl) (fun _ _ _ h => h) (.inl ⟨by kernel_rfl, fun w' hS' => ldR (p := .pointer (some ⟨w.heap.size, 2, none⟩)) rfl (by kernel_rfl) (by obtain ⟨hbS, kS, q0, q1, q2, q3, q4, q5, q9⟩ := hS'; simp [go_sem, q2])⟩) hS ?_
    refine wpAnyH_take (i := 5) (v := .int .i64 ↑i) rfl (by kernel_rfl) (by kernel_rfl) (by kernel_rfl) (fun _ _ _ h => h) (.inl ⟨by kernel_rfl, fun w' hS' => by kernel_rfl⟩) hS ?_
    refine wpAnyH_take (i := 6) (v := .pointer (some ⟨b1, o1 + i, none⟩)) rfl (by kernel_rfl) (by kernel_rfl) (by kernel_rfl) (fun _ _ _ h => h) (.inl ⟨by kernel_rfl, fun w' hS' => ixR (s := .slice (some ⟨b1, o1, none⟩) x.exps.length c2) (k := .int .i64 ↑i) rfl (by kernel_rfl) (by kernel_rfl) (by simp [go_sem] <;> omega)⟩) hS ?_
    refine wpAnyH_take (i := 7) (v := .string d) rfl (by kernel_rfl) (by kernel_rfl) (by kernel_rfl) (fun _ _ _ h => h) (.inl ⟨by kernel_rfl, fun w' hS' => ldR (p := .pointer (some ⟨b1, o1 + i, none⟩)) rfl (by kernel_rfl) (by obtain ⟨hbS, kS, q0, q1, q2, q3, q4, q5, q9⟩ := hS'; simp [go_sem, q9])⟩) hS ?_
    refine wpAnyH_eq (l' := #[true, true, false, true, true, true, true, true, false, false]) (a' := ⟨#[.agg #[.string x.name, .slice a1 x.imps.length c1, .slice (some ⟨b1, o1, none⟩) x.exps.length c2, .slice a3 x.types.length c3, .slice a4 x.defs.length c4, .slice a5 x.convs.length c5], .pointer (some ⟨w.heap.size, 0, none⟩), u2, .int .i64 ↑i, undef, .int .i64 ↑i, .pointer (some ⟨w.heap.size, 2, none⟩), .slice (some ⟨b1, o1, none⟩) x.exps.length c2, .int .i64 ↑x.exps.length, .bool true, u10, u11, .pointer (some ⟨w.heap.size, 4, none⟩), .slice a4 x.defs.length c4, u14, .pointer (some ⟨w.heap.size, 2, none⟩), .slice (some ⟨b1, o1, none⟩) x.exps.length c2, .int .i64 ↑i, .pointer (some ⟨b1, o1 + i, none⟩), .string d, u20, u21, undef, undef, undef, undef, undef, undef, undef, undef, undef, undef, undef, undef, undef, undef, undef, undef, undef, undef], []⟩) (by kernel_rfl) (by kernel_rfl) ?_
    refine wpAnyH_all (rs := [2]) (by kernel_rfl) (by simp) fun j hj => ?_
    obtain rfl : j = 2 := by simpa using hj
    refine opw_call (f := 24) (args := #[.slice a4 x.defs.length c4]) rfl (by kernel_rfl) (by kernel_rfl) ((HN0.out _ (sb_dn hb _)).mono ?_)
    rintro e vA ⟨oa, oc, rfl, ho, hvA⟩
    have hvA : Below wr.heap.size wr vA := ⟨hvA.os, hvA.tape, hvA.output, hvA.size, hvA.block⟩
    have hbA : Below w.heap.size w vA := hb.trans (hvA.mono hb.size)
    have kA := blk_keep hk hvA (Array.getElem?_eq_some_iff.1 hk).1
    have eA := cell_keep e0 hvA hbb
    have hS := sbx_of hbA kA eA
    refine ⟨_, rfl, hS, ?_⟩
    refine wpAnyH_eq (l' := #[true, true, true, true, true, true, true, true, false, false]) (a' := ⟨#[.agg #[.string x.name, .slice a1 x.imps.length c1, .slice (some ⟨b1, o1, none⟩) x.exps.length c2, .slice a3 x.types.length c3, .slice a4 x.defs.length c4, .slice a5 x.convs.length c5], .pointer (some ⟨w.heap.size, 0, none⟩), u2, .int .i64 ↑i, undef, .int .i64 ↑i, .pointer (some ⟨w.heap.size, 2, none⟩), .slice (some ⟨b1, o1, none⟩) x.exps.length c2, .int .i64 ↑x.exps.length, .bool true, u10, u11, .pointer (some ⟨w.heap.size, 4, none⟩), .slice a4 x.defs.length c4, .slice oa x.defs.length oc, .pointer (some ⟨w.heap.size, 2, none⟩), .slice (some ⟨b1, o1, none⟩) x.exps.length c2, .int .i64 ↑i, .pointer (some ⟨b1, o1 + i, none⟩), .string d, u20, u21, undef, undef, undef, undef, undef, undef, undef, undef, undef, undef, undef, undef, undef, undef, undef, undef, undef, undef], []⟩) (by kernel_rfl) (by kernel_rfl) ?_
    refine wpAnyH_all (rs := [8]) (by kernel_rfl) (by simp) fun j hj => ?_
    obtain rfl : j = 8 := by simpa using hj
    refine opw_call (f := 27) (args := #[.slice oa x.defs.length oc, .string d]) rfl (by kernel_rfl) (by kernel_rfl) ((HI.out vA oa oc ho).mono ?_)
    rintro e vB ⟨rfl, hvB⟩
    have hbB : Below w.heap.size w vB := hbA.trans (hvB.mono hbA.size)
    have kB := blk_keep kA hvB (Array.getElem?_eq_some_iff.1 kA).1
    have eB := cell_keep eA hvB (by have := hvA.size; omega)
    have hS := sbx_of hbB kB eB
    refine ⟨_, rfl, hS, ?_⟩
    refine wpAnyH_take (i := 9) (v := .bool true) rfl (by kernel_rfl) (by kernel_rfl) (by kernel_rfl) (fun _ _ _ h => h) (.inl ⟨by kernel_rfl, fun w' hS' => by kernel_rfl⟩) hS ?_
    refine wpAnyH_eq (l' := #[true, true, true, true, true, true, true, true, true, true]) (a' := ⟨#[.agg #[.string x.name, .slice a1 x.imps.length c1, .slice (some ⟨b1, o1, none⟩) x.exps.length c2, .slice a3 x.types.length c3, .slice a4 x.defs.length c4, .slice a5 x.convs.length c5], .pointer (some ⟨w.heap.size, 0, none⟩), u2, .int .i64 ↑i, undef, .int .i64 ↑i, .pointer (some ⟨w.heap.size, 2, none⟩), .slice (some ⟨b1, o1, none⟩) x.exps.length c2, .int .i64 ↑x.exps.length, .bool true, u10, u11, .pointer (some ⟨w.heap.size, 4, none⟩), .slice a4 x.defs.length c4, .slice oa x.defs.length oc, .pointer (some ⟨w.heap.size, 2, none⟩), .slice (some ⟨b1, o1, none⟩) x.exps.length c2, .int .i64 ↑i, .pointer (some ⟨b1, o1 + i, none⟩), .string d, .bool false, .bool true, undef, undef, undef, undef, undef, undef, undef, undef, undef, undef, undef, undef, undef, undef, undef, undef, undef, undef], []⟩) (by kernel_rfl) (by kernel_rfl) ?_
    refine wpAnyH_done (by kernel_rfl) ?_ _
    go_wp2
    go_ret
    exact ⟨by rw [HQ.out]; rfl, hbB⟩
   ·have HQ : Hid ((x.exps.take (i + 1)).all (hasS x.dns) = true) := by show _ = _; rw [all_take_succ _ hd, hall, hna]; rfl
    rw [hna] at HI
    replace HI : Hid _ := HI
    have HD : Hid _ := hdW
    clear hna hd hall hdW
    go_wp2_with fail
    refine wp_region_held (S := (fun W => (Below w.heap.size w W) ∧ (W.heap[w.heap.size]? = some (Obj.cells #[.string x.name, .slice a1 x.imps.length c1, .slice (some ⟨b1, o1, none⟩) x.exps.length c2, .slice a3 x.types.length c3, .slice a4 x.defs.length c4, .slice a5 x.convs.length c5] 34)) ∧ (W.cell? ⟨w.heap.size, 0, none⟩ = some (.string x.name)) ∧ (W.cell? ⟨w.heap.size, 1, none⟩ = some (.slice a1 x.imps.length c1)) ∧ (W.cell? ⟨w.heap.size, 2, none⟩ = some (.slice (some ⟨b1, o1, none⟩) x.exps.length c2)) ∧ (W.cell? ⟨w.heap.size, 3, none⟩ = some (.slice a3 x.types.length c3)) ∧ (W.cell? ⟨w.heap.size, 4, none⟩ = some (.slice a4 x.defs.length c4)) ∧ (W.cell? ⟨w.heap.size, 5, none⟩ = some (.slice a5 x.convs.length c5)) ∧ (W.cell? ⟨b1, o1 + i, none⟩ = some (.string d)))) (by kernel_rfl) ?_
    have hS := sbx_of (sb_dn hb 1) hk e0
    refine wpAnyH_take (i := 0) (v := .pointer (some ⟨w.heap.size, 4, none⟩)) rfl (by kernel_rfl) (by kernel_rfl) (by kernel_rfl) (fun _ _ _ h => h) (.inl ⟨by kernel_rfl, fun w' hS' => by kernel_rfl⟩) hS ?_
    refine wpAnyH_take (i := 1) (v := .slice a4 x.defs.length c4) rfl (by kernel_rfl) (by kernel_rfl) (by kernel_rfl) (fun _ _ _ h => h) (.inl ⟨by kernel_rfl, fun w' hS' => ldR (p := .pointer (some ⟨w.heap.size, 4, none⟩)) rfl (by kernel_rfl) (by obtain ⟨hbS, kS, q0, q1, q2, q3, q4, q5, q9⟩ := hS'; simp [go_sem, q4])⟩) hS ?_
    refine wpAnyH_take (i := 3) (v := .pointer (some ⟨w.heap.size, 2, none⟩)) rfl (by kernel_rfl) (by kernel_rfl) (by kernel_rfl) (fun _ _ _ h => h) (.inl ⟨by kernel_rfl, fun w' hS' => by kernel_rfl⟩) hS ?_
    refine wpAnyH_take (i := 4) (v := .slice (some ⟨b1, o1, none⟩) x.exps.length c2) rfl (by kernel_rfl) (by kernel_rfl) (by kernel_rfl) (fun _ _ _ h => h) (.inl ⟨by kernel_rfl, fun w' hS' => ldR (p := .pointer (some ⟨w.heap.size, 2, none⟩)) rfl (by kernel_rfl) (by obtain ⟨hbS, kS, q0, q1, q2, q3, q4, q5, q9⟩ := hS'; simp [go_sem, q2])⟩) hS ?_
    refine wpAnyH_take (i := 5) (v := .int .i64 ↑i) rfl (by kernel_rfl) (by kernel_rfl) (by kernel_rfl) (fun _ _ _ h => h) (.inl ⟨by kernel_rfl, fun w' hS' => by kernel_rfl⟩) hS ?_
    refine wpAnyH_take (i := 6) (v := .pointer (some ⟨b1, o1 + i, none⟩)) rfl (by kernel_rfl) (by kernel_rfl) (by kernel_rfl) (fun _ _ _ h => h) (.inl ⟨by kernel_rfl, fun w' hS' => ixR (s := .slice (some ⟨b1, o1, none⟩) x.exps.length c2) (k := .int .i64 ↑i) rfl (by kernel_rfl) (by kernel_rfl) (by simp [go_sem] <;> omega)⟩) hS ?_
    refine wpAnyH_take (i := 7) (v := .string d) rfl (by kernel_rfl) (by kernel_rfl) (by kernel_rfl) (fun _ _ _ h => h) (.inl ⟨by kernel_rfl, fun w' hS' => ldR (p := .pointer (some ⟨b1, o1 + i, none⟩)) rfl (by kernel_rfl) (by obtain ⟨hbS, kS, q0, q1, q2, q3, q4, q5, q9⟩ := hS'; simp [go_sem, q9])⟩) hS ?_
    refine wpAnyH_eq (l' := #[true, true, false, true, true, true, true, true, false, false]) (a' := ⟨#[.agg #[.string x.name, .slice a1 x.imps.length c1, .slice (some ⟨b1, o1, none⟩) x.exps.length c2, .slice a3 x.types.length c3, .slice a4 x.defs.length c4, .slice a5 x.convs.length c5], .pointer (some ⟨w.heap.size, 0, none⟩), u2, .int .i64 ↑i, undef, .int .i64 ↑i, .pointer (some ⟨w.heap.size, 2, none⟩), .slice (some ⟨b1, o1, none⟩) x.exps.length c2, .int .i64 ↑x.exps.length, .bool true, u10, u11, .pointer (some ⟨w.heap.size, 4, none⟩), .slice a4 x.defs.length c4, u14, .pointer (some ⟨w.heap.size, 2, none⟩), .slice (some ⟨b1, o1, none⟩) x.exps.length c2, .int .i64 ↑i, .pointer (some ⟨b1, o1 + i, none⟩), .string d, u20, u21, undef, undef, undef, undef, undef, undef, undef, undef, undef, undef, undef, undef, undef, undef, undef, undef, undef, undef], []⟩) (by kernel_rfl) (by kernel_rfl) ?_
    refine wpAnyH_all (rs := [2]) (by kernel_rfl) (by simp) fun j hj => ?_
    obtain rfl : j = 2 := by simpa using hj
    refine opw_call (f := 24) (args := #[.slice a4 x.defs.length c4]) rfl (by kernel_rfl) (by kernel_rfl) ((HN0.out _ (sb_dn hb _)).mono ?_)
    rintro e vA ⟨oa, oc, rfl, ho, hvA⟩
    have hvA : Below wr.heap.size wr vA := ⟨hvA.os, hvA.tape, hvA.output, hvA.size, hvA.block⟩
    have hbA : Below w.heap.size w vA := hb.trans (hvA.mono hb.size)
    have kA := blk_keep hk hvA (Array.getElem?_eq_some_iff.1 hk).1
    have eA := cell_keep e0 hvA hbb
    have hS := sbx_of hbA kA eA
    refine ⟨_, rfl, hS, ?_⟩
    refine wpAnyH_eq (l' := #[true, true, true, true, true, true, true, true, false, false]) (a' := ⟨#[.agg #[.string x.name, .slice a1 x.imps.length c1, .slice (some ⟨b1, o1, none⟩) x.exps.length c2, .slice a3 x.types.length c3, .slice a4 x.defs.length c4, .slice a5 x.convs.length c5], .pointer (some ⟨w.heap.size, 0, none⟩), u2, .int .i64 ↑i, undef, .int .i64 ↑i, .pointer (some ⟨w.heap.size, 2, none⟩), .slice (some ⟨b1, o1, none⟩) x.exps.length c2, .int .i64 ↑x.exps.length, .bool true, u10, u11, .pointer (some ⟨w.heap.size, 4, none⟩), .slice a4 x.defs.length c4, .slice oa x.defs.length oc, .pointer (some ⟨w.heap.size, 2, none⟩), .slice (some ⟨b1, o1, none⟩) x.exps.length c2, .int .i64 ↑i, .pointer (some ⟨b1, o1 + i, none⟩), .string d, u20, u21, undef, undef, undef, undef, undef, undef, undef, undef, undef, undef, undef, undef, undef, undef, undef, undef, undef, undef], []⟩) (by kernel_rfl) (by kernel_rfl) ?_
    refine wpAnyH_all (rs := [8]) (by kernel_rfl) (by simp) fun j hj => ?_
    obtain rfl : j = 8 := by simpa using hj
    refine opw_call (f := 27) (args := #[.slice oa x.defs.length oc, .string d]) rfl (by kernel_rfl) (by kernel_rfl) ((HI.out vA oa oc ho).mono ?_)
    rintro e vB ⟨rfl, hvB⟩
    have hbB : Below w.heap.size w vB := hbA.trans (hvB.mono hbA.size)
    have kB := blk_keep kA hvB (Array.getElem?_eq_some_iff.1 kA).1
    have eB := cell_keep eA hvB (by have := hvA.size; omega)
    have hS := sbx_of hbB kB eB
    refine ⟨_, rfl, hS, ?_⟩
    refine wpAnyH_take (i := 9) (v := .bool false) rfl (by kernel_rfl) (by kernel_rfl) (by kernel_rfl) (fun _ _ _ h => h) (.inl ⟨by kernel_rfl, fun w' hS' => by kernel_rfl⟩) hS ?_
    refine wpAnyH_eq (l' := #[true, true, true, true, true, true, true, true, true, true]) (a' := ⟨#[.agg #[.string x.name, .slice a1 x.imps.length c1, .slice (some ⟨b1, o1, none⟩) x.exps.length c2, .slice a3 x.types.length c3, .slice a4 x.defs.length c4, .slice a5 x.convs.length c5], .pointer (some ⟨w.heap.size, 0, none⟩), u2, .int .i64 ↑i, undef, .int .i64 ↑i, .pointer (some ⟨w.heap.size, 2, none⟩), .slice (some ⟨b1, o1, none⟩) x.exps.length c2, .int .i64 ↑x.exps.length, .bool true, u10, u11, .pointer (some ⟨w.heap.size, 4, none⟩), .slice a4 x.defs.length c4, .slice oa x.defs.length oc, .pointer (some ⟨w.heap.size, 2, none⟩), .slice (some ⟨b1, o1, none⟩) x.exps.length c2, .int .i64 ↑i, .pointer (some ⟨b1, o1 + i, none⟩), .string d, .bool true, .bool false, undef, undef, undef, undef, undef, undef, undef, undef, undef, undef, undef, undef, undef, undef, undef, undef, undef, undef], []⟩) (by kernel_rfl) (by kernel_rfl) ?_
    refine wpAnyH_done (by kernel_rfl) ?_ _
    go_wp2
    go_roundw
    case rel => exact ⟨i + 1, by omega, by go_num, HQ.out, (HD.out _ hvA).trans (hvB.mono (HD.out _ hvA).size)⟩
    case measure => simp [intOf]; omega
  ·have hlt' : decide ((i : Int) < (x.exps.length : Int)) = false := by simp; omega
   obtain rfl : i = x.exps.length := by omega
   rw [List.take_length] at hall
   have HQ0 : Hid ((!(x.exps.all (hasS x.dns) && x.convs.all (fun d => hasS x.tns d.name))) = !x.convs.all (fun d => hasS x.tns d.name)) := by show _ = _; rw [hall]; rfl
   clear hall hlt
   go_wp2
   go_loopw [4] (fun o wr => ∃ i : Nat, i ≤ x.convs.length ∧ o = .int .i64 i ∧ (x.convs.take i).all (fun d => hasS x.tns d.name) = true ∧ Below (w.alloc (Obj.cells #[.string x.name, .slice a1 x.imps.length c1, .slice a2 x.exps.length c2, .slice a3 x.types.length c3, .slice a4 x.defs.length c4, .slice a5 x.convs.length c5] 34)).heap.size (w.alloc (Obj.cells #[.string x.name, .slice a1 x.imps.length c1, .slice a2 x.exps.length c2, .slice a3 x.types.length c3, .slice a4 x.defs.length c4, .slice a5 x.convs.length c5] 34)) wr)
    (fun o _ => x.convs.length - (intOf o).toNat)
   case atStart => exact ⟨0, by omega, rfl, by simp, hbW⟩
   case round =>
    clear hb hk z2 hbW
    obtain ⟨i, hi, rfl, hall, hbW⟩ := hrel
    have hb : Below w.heap.size w wr := hb0.trans (hbW.mono hb0.size)
    have hk := blk_keep k0 hbW Z.out
    have z5 := cell_blk (j := 5) hk rfl
    by_cases hlt : i < x.convs.length
    ·obtain ⟨d, hd⟩ : ∃ d, x.convs[i]? = some d := ⟨_, List.getElem?_eq_getElem hlt⟩
     have hdW : ∀ v, Below wr.heap.size wr v → Below (w.alloc (Obj.cells #[.string x.name, .slice a1 x.imps.length c1, .slice a2 x.exps.length c2, .slice a3 x.types.length c3, .slice a4 x.defs.length c4, .slice a5 x.convs.length c5] 34)).heap.size (w.alloc (Obj.cells #[.string x.name, .slice a1 x.imps.length c1, .slice a2 x.exps.length c2, .slice a3 x.types.length c3, .slice a4 x.defs.length c4, .slice a5 x.convs.length c5] 34)) v := fun v h => hbW.trans (h.mono hbW.size)
     obtain ⟨b1, o1, cs, rfl, hbb, ⟨an, cn, rfl, _⟩, hl⟩ := (HV.out wr hb) i d hd
     have e0 : wr.cell? ⟨b1, o1 + i * 3, none⟩ = some (.string d.name) := hl 0 _ rfl
     have HI := HI1.out d.name
     have g1 : decide ((i : Int) < (x.convs.length : Int)) = true := by simp; omega
     cases hna : hasS x.tns d.name
     ·have HQ : Hid ((!(x.exps.all (hasS x.dns) && x.convs.all (fun d => hasS x.tns d.name))) = true) := by show _ = _; rw [HQ0.out, all_of_bad _ hd hna]; rfl
      rw [hna] at HI
      replace HI : Hid _ := HI
      clear hna hd hall hdW hl
      go_wp2_with fail
      refine wp_region_held (S := (fun W => (Below w.heap.size w W) ∧ (W.heap[w.heap.size]? = some (Obj.cells #[.string x.name, .slice a1 x.imps.length c1, .slice a2 x.exps.length c2, .slice a3 x.types.length c3, .slice a4 x.defs.length c4, .slice (some ⟨b1, o1, none⟩) x.convs.length c5] 34)) ∧ (W.cell? ⟨w.heap.size, 0, none⟩ = some (.string x.name)) ∧ (W.cell? ⟨w.heap.size, 1, none⟩ = some (.slice a1 x.imps.length c1)) ∧ (W.cell? ⟨w.heap.size, 2, none⟩ = some (.slice a2 x.exps.length c2)) ∧ (W.cell? ⟨w.heap.size, 3, none⟩ = some (.slice a3 x.types.length c3)) ∧ (W.cell? ⟨w.heap.size, 4, none⟩ = some (.slice a4 x.defs.length c4)) ∧ (W.cell? ⟨w.heap.size, 5, none⟩ = some (.slice (some ⟨b1, o1, none⟩) x.convs.length c5)) ∧ (W.cell? ⟨b1, o1 + i * 3, none⟩ = some (.string d.name)))) (by kernel_rfl) ?_
      have hS := sbx_of (sb_dn hb 1) hk e0
      refine wpAnyH_take (i := 0) (v := .pointer (some ⟨w.heap.size, 3, none⟩)) rfl (by kernel_rfl) (by kernel_rfl) (by kernel_rfl) (fun _ _ _ h => h) (.inl ⟨by kernel_rfl, fun w' hS' => by kernel_rfl⟩) hS ?_
      refine wpAnyH_take (i := 1) (v := .slice a3 x.types.length c3) rfl (by kernel_rfl) (by kernel_rfl) (by kernel_rfl) (fun _ _ _ h => h) (.inl ⟨by kernel_rfl, fun w' hS' => ldR (p := .pointer (some ⟨w.heap.size, 3, none⟩)) rfl (by kernel_rfl) (by obtain ⟨hbS, kS, q0, q1, q2, q3, q4, q5, q9⟩ := hS'; simp [go_sem, q3])⟩) hS ?_
      refine wpAnyH_take (i := 3) (v := .pointer (some ⟨w.heap.size, 5, none⟩)) rfl (by kernel_rfl) (by kernel_rfl) (by kernel_rfl) (fun _ _ _ h => h) (.inl ⟨by kernel_rfl, fun w' hS' => by kernel_rfl⟩) hS ?_
      refine wpAnyH_take (i := 4) (v := .slice (some ⟨b1, o1, none⟩) x.convs.length c5) rfl (by kernel_rfl) (by kernel_rfl) (by kernel_rfl) (fun _ _ _ h => h) (.inl ⟨by kernel_rfl, fun w' hS' => ldR (p := .pointer (some ⟨w.heap.size, 5, none⟩)) rfl (by kernel_rfl) (by obtain ⟨hbS, kS, q0, q1, q2, q3, q4, q5, q9⟩ := hS'; simp [go_sem, q5])⟩) hS ?_
      refine wpAnyH_take (i := 5) (v := .int .i64 ↑i) rfl (by kernel_rfl) (by kernel_rfl) (by kernel_rfl) (fun _ _ _ h => h) (.inl ⟨by kernel_rfl, fun w' hS' => by kernel_rfl⟩) hS ?_
      refine wpAnyH_take (i := 6) (v := .pointer (some ⟨b1, o1 + i * 3, none⟩)) rfl (by kernel_rfl) (by kernel_rfl) (by kernel_rfl) (fun _ _ _ h => h) (.inl ⟨by kernel_rfl, fun w' hS' => ixR (s := .slice (some ⟨b1, o1, none⟩) x.convs.length c5) (k := .int .i64 ↑i) rfl (by kernel_rfl) (by kernel_rfl) (by simp [go_sem] <;> omega)⟩) hS ?_
      refine wpAnyH_take (i := 7) (v := .pointer (some ⟨b1, o1 + i * 3, none⟩)) rfl (by kernel_rfl) (by kernel_rfl) (by kernel_rfl) (fun _ _ _ h => h) (.inl ⟨by kernel_rfl, fun w' hS' => by kernel_rfl⟩) hS ?_
      refine wpAnyH_take (i := 8) (v := .string d.name) rfl (by kernel_rfl) (by kernel_rfl) (by kernel_rfl) (fun _ _ _ h => h) (.inl ⟨by kernel_rfl, fun w' hS' => ldR (p := .pointer (some ⟨b1, o1 + i * 3, none⟩)) rfl (by kernel_rfl) (by obtain ⟨hbS, kS, q0, q1, q2, q3, q4, q5, q9⟩ := hS'; simp [go_sem, q9])⟩) hS ?_
      refine wpAnyH_eq (l' := #[true, true, false, true, true, true, true, true, true, false, false]) (a' := ⟨#[.agg #[.string x.name, .slice a1 x.imps.length c1, .slice a2 x.exps.length c2, .slice a3 x.types.length c3, .slice a4 x.defs.length c4, .slice (some ⟨b1, o1, none⟩) x.convs.length c5], .pointer (some ⟨w.heap.size, 0, none⟩), u2, .int .i64 ↑x.exps.length, .int .i64 ↑i, .int .i64 ↑x.exps.length, .pointer (some ⟨w.heap.size, 2, none⟩), .slice a2 x.exps.length c2, .int .i64 ↑x.exps.length, .bool false, u10, u11, u12, u13, u14, u15, u16, u17, u18, u19, u20, u21, .int .i64 ↑i, .pointer (some ⟨w.heap.size, 5, none⟩), .slice (some ⟨b1, o1, none⟩) x.convs.length c5, .int .i64 ↑x.convs.length, .bool true, u27, u28, .pointer (some ⟨w.heap.size, 3, none⟩), .slice a3 x.types.length c3, u31, .pointer (some ⟨w.heap.size, 5, none⟩), .slice (some ⟨b1, o1, none⟩) x.convs.length c5, .int .i64 ↑i, .pointer (some ⟨b1, o1 + i * 3, none⟩), .pointer (some ⟨b1, o1 + i * 3, none⟩), .string d.name, u38, u39], []⟩) (by kernel_rfl) (by kernel_rfl) ?_
      refine wpAnyH_all (rs := [2]) (by kernel_rfl) (by simp) fun j hj => ?_
      obtain rfl : j = 2 := by simpa using hj
      refine opw_call (f := 56) (args := #[.slice a3 x.types.length c3]) rfl (by kernel_rfl) (by kernel_rfl) ((HN1.out _ (sb_dn hb _)).mono ?_)
      rintro e vA ⟨oa, oc, rfl, ho, hvA⟩
      have hvA : Below wr.heap.size wr vA := ⟨hvA.os, hvA.tape, hvA.output, hvA.size, hvA.block⟩
      have hbA : Below w.heap.size w vA := hb.trans (hvA.mono hb.size)
      have kA := blk_keep hk hvA (Array.getElem?_eq_some_iff.1 hk).1
      have eA := cell_keep e0 hvA hbb
      have hS := sbx_of hbA kA eA
      refine ⟨_, rfl, hS, ?_⟩
      refine wpAnyH_eq (l' := #[true, true, true, true, true, true, true, true, true, false, false]) (a' := ⟨#[.agg #[.string x.name, .slice a1 x.imps.length c1, .slice a2 x.exps.length c2, .slice a3 x.types.length c3, .slice a4 x.defs.length c4, .slice (some ⟨b1, o1, none⟩) x.convs.length c5], .pointer (some ⟨w.heap.size, 0, none⟩), u2, .int .i64 ↑x.exps.length, .int .i64 ↑i, .int .i64 ↑x.exps.length, .pointer (some ⟨w.heap.size, 2, none⟩), .slice a2 x.exps.length c2, .int .i64 ↑x.exps.length, .bool false, u10, u11, u12, u13, u14, u15, u16, u17, u18, u19, u20, u21, .int .i64 ↑i, .pointer (some ⟨w.heap.size, 5, none⟩), .slice (some ⟨b1, o1, none⟩) x.convs.length c5, .int .i64 ↑x.convs.length, .bool true, u27, u28, .pointer (some ⟨w.heap.size, 3, none⟩), .slice a3 x.types.length c3, .slice oa x.types.length oc, .pointer (some ⟨w.heap.size, 5, none⟩), .slice (some ⟨b1, o1, none⟩) x.convs.length c5, .int .i64 ↑i, .pointer (some ⟨b1, o1 + i * 3, none⟩), .pointer (some ⟨b1, o1 + i * 3, none⟩), .string d.name, u38, u39], []⟩) (by kernel_rfl) (by kernel_rfl) ?_
      refine wpAnyH_all (rs := [9]) (by kernel_rfl) (by simp) fun j hj => ?_
      obtain rfl : j = 9 := by simpa using hj
      refine opw_call (f := 27) (args := #[.slice oa x.types.length oc, .string d.name]) rfl (by kernel_rfl) (by kernel_rfl) ((HI.out vA oa oc ho).mono ?_)
      rintro e vB ⟨rfl, hvB⟩
      have hbB : Below w.heap.size w vB := hbA.trans (hvB.mono hbA.size)
      have kB := blk_keep kA hvB (Array.getElem?_eq_some_iff.1 kA).1
      have eB := cell_keep eA hvB (by have := hvA.size; omega)
      have hS := sbx_of hbB kB eB
      refine ⟨_, rfl, hS, ?_⟩
      refine wpAnyH_take (i := 10) (v := .bool true) rfl (by kernel_rfl) (by kernel_rfl) (by kernel_rfl) (fun _ _ _ h => h) (.inl ⟨by kernel_rfl, fun w' hS' => by kernel_rfl⟩) hS ?_
      refine wpAnyH_eq (l' := #[true, true, true, true, true, true, true, true, true, true, true]) (a' := ⟨#[.agg #[.string x.name, .slice a1 x.imps.length c1, .slice a2 x.exps.length c2, .slice a3 x.types.length c3, .slice a4 x.defs.length c4, .slice (some ⟨b1, o1, none⟩) x.convs.length c5], .pointer (some ⟨w.heap.size, 0, none⟩), u2, .int .i64 ↑x.exps.length, .int .i64 ↑i, .int .i64 ↑x.exps.length, .pointer (some ⟨w.heap.size, 2, none⟩), .slice a2 x.exps.length c2, .int .i64 ↑x.exps.length, .bool false, u10, u11, u12, u13, u14, u15, u16, u17, u18, u19, u20, u21, .int .i64 ↑i, .pointer (some ⟨w.heap.size, 5, none⟩), .slice (some ⟨b1, o1, none⟩) x.convs.length c5, .int .i64 ↑x.convs.length, .bool true, u27, u28, .pointer (some ⟨w.heap.size, 3, none⟩), .slice a3 x.types.length c3, .slice oa x.types.length oc, .pointer (some ⟨w.heap.size, 5, none⟩), .slice (some ⟨b1, o1, none⟩) x.convs.length c5, .int .i64 ↑i, .pointer (some ⟨b1, o1 + i * 3, none⟩), .pointer (some ⟨b1, o1 + i * 3, none⟩), .string d.name, .bool false, .bool true], []⟩) (by kernel_rfl) (by kernel_rfl) ?_
      refine wpAnyH_done (by kernel_rfl) ?_ _
      go_wp2
      go_ret
      exact ⟨by rw [HQ.out]; rfl, hbB⟩
     ·have HQ : Hid ((x.convs.take (i + 1)).all (fun d => hasS x.tns d.name) = true) := by show _ = _; rw [all_take_succ _ hd, hall, hna]; rfl
      rw [hna] at HI
      replace HI : Hid _ := HI
      have HD : Hid _ := hdW
      clear hna hd hall hdW hl
      go_wp2_with fail
      refine wp_region_held (S := (fun W => (Below w.heap.size w W) ∧ (W.heap[w.heap.size]? = some (Obj.cells #[.string x.name, .slice a1 x.imps.length c1, .slice a2 x.exps.length c2, .slice a3 x.types.length c3, .slice a4 x.defs.length c4, .slice (some ⟨b1, o1, none⟩) x.convs.length c5] 34)) ∧ (W.cell? ⟨w.heap.size, 0, none⟩ = some (.string x.name)) ∧ (W.cell? ⟨w.heap.size, 1, none⟩ = some (.slice a1 x.imps.length c1)) ∧ (W.cell? ⟨w.heap.size, 2, none⟩ = some (.slice a2 x.exps.length c2)) ∧ (W.cell? ⟨w.heap.size, 3, none⟩ = some (.slice a3 x.types.length c3)) ∧ (W.cell? ⟨w.heap.size, 4, none⟩ = some (.slice a4 x.defs.length c4)) ∧ (W.cell? ⟨w.heap.size, 5, none⟩ = some (.slice (some ⟨b1, o1, none⟩) x.convs.length c5)) ∧ (W.cell? ⟨b1, o1 + i * 3, none⟩ = some (.string d.name)))) (by kernel_rfl) ?_
      have hS := sbx_of (sb_dn hb 1) hk e0
      refine wpAnyH_take (i := 0) (v := .pointer (some ⟨w.heap.size, 3, none⟩)) rfl (by kernel_rfl) (by kernel_rfl) (by kernel_rfl) (fun _ _ _ h => h) (.inl ⟨by kernel_rfl, fun w' hS' => by kernel_rfl⟩) hS ?_
      refine wpAnyH_take (i := 1) (v := .slice a3 x.types.length c3) rfl (by kernel_rfl) (by kernel_rfl) (by kernel_rfl) (fun _ _ _ h => h) (.inl ⟨by kernel_rfl, fun w' hS' => ldR (p := .pointer (some ⟨w.heap.size, 3, none⟩)) rfl (by kernel_rfl) (by obtain ⟨hbS, kS, q0, q1, q2, q3, q4, q5, q9⟩ := hS'; simp [go_sem, q3])⟩) hS ?_
      refine wpAnyH_take (i := 3) (v := .pointer (some ⟨w.heap.size, 5, none⟩)) rfl (by kernel_rfl) (by kernel_rfl) (by kernel_rfl) (fun _ _ _ h => h) (.inl ⟨by kernel_rfl, fun w' hS' => by kernel_rfl⟩) hS ?_
      refine wpAnyH_take (i := 4) (v := .slice (some ⟨b1, o1, none⟩) x.convs.length c5) rfl (by kernel_rfl) (by kernel_rfl) (by kernel_rfl) (fun _ _ _ h => h) (.inl ⟨by kernel_rfl, fun w' hS' => ldR (p := .pointer (some ⟨w.heap.size, 5, none⟩)) rfl (by kernel_rfl) (by obtain ⟨hbS, kS, q0, q1, q2, q3, q4, q5, q9⟩ := hS'; simp [go_sem, q5])⟩) hS ?_
      refine wpAnyH_take (i := 5) (v := .int .i64 ↑i) rfl (by kernel_rfl) (by kernel_rfl) (by kernel_rfl) (fun _ _ _ h => h) (.inl ⟨by kernel_rfl, fun w' hS' => by kernel_rfl⟩) hS ?_
      refine wpAnyH_take (i := 6) (v := .pointer (some ⟨b1, o1 + i * 3, none⟩)) rfl (by kernel_rfl) (by kernel_rfl) (by kernel_rfl) (fun _ _ _ h => h) (.inl ⟨by kernel_rfl, fun w' hS' => ixR (s := .slice (some ⟨b1, o1, none⟩) x.convs.length c5) (k := .int .i64 ↑i) rfl (by kernel_rfl) (by kernel_rfl) (by simp [go_sem] <;> omega)⟩) hS ?_
      refine wpAnyH_take (i := 7) (v := .pointer (some ⟨b1, o1 + i * 3, none⟩)) rfl (by kernel_rfl) (by kernel_rfl) (by kernel_rfl) (fun _ _ _ h => h) (.inl ⟨by kernel_rfl, fun w' hS' => by kernel_rfl⟩) hS ?_
      refine wpAnyH_take (i := 8) (v := .string d.name) rfl (by kernel_rfl) (by kernel_rfl) (by kernel_rfl) (fun _ _ _ h => h) (.inl ⟨by kernel_rfl, fun w' hS' => ldR (p := .pointer (some ⟨b1, o1 + i * 3, none⟩)) rfl (by kernel_rfl) (by obtain ⟨hbS, kS, q0, q1, q2, q3, q4, q5, q9⟩ := hS'; simp [go_sem, q9])⟩) hS ?_
      refine wpAnyH_eq (l' := #[true, true, false, true, true, true, true, true, true, false, false]) (a' := ⟨#[.agg #[.string x.name, .slice a1 x.imps.length c1, .slice a2 x.exps.length c2, .slice a3 x.types.length c3, .slice a4 x.defs.length c4, .slice (some ⟨b1, o1, none⟩) x.convs.length c5], .pointer (some ⟨w.heap.size, 0, none⟩), u2, .int .i64 ↑x.exps.length, .int .i64 ↑i, .int .i64 ↑x.exps.length, .pointer (some ⟨w.heap.size, 2, none⟩), .slice a2 x.exps.length c2, .int .i64 ↑x.exps.length, .bool false, u10, u11, u12, u13, u14, u15, u16, u17, u18, u19, u20, u21, .int .i64 ↑i, .pointer (some ⟨w.heap.size, 5, none⟩), .slice (some ⟨b1, o1, none⟩) x.convs.length c5, .int .i64 ↑x.convs.length, .bool true, u27, u28, .pointer (some ⟨w.heap.size, 3, none⟩), .slice a3 x.types.length c3, u31, .pointer (some ⟨w.heap.size, 5, none⟩), .slice (some ⟨b1, o1, none⟩) x.convs.length c5, .int .i64 ↑i, .pointer (some ⟨b1, o1 + i * 3, none⟩), .pointer (some ⟨b1, o1 + i * 3, none⟩), .string d.name, u38, u39], []⟩) (by kernel_rfl) (by kernel_rfl) ?_
      refine wpAnyH_all (rs := [2]) (by kernel_rfl) (by simp) fun j hj => ?_
      obtain rfl : j = 2 := by simpa using hj
      refine opw_call (f := 56) (args := #[.slice a3 x.types.length c3]) rfl (by kernel_rfl) (by kernel_rfl) ((HN1.out _ (sb_dn hb _)).mono ?_)
      rintro e vA ⟨oa, oc, rfl, ho, hvA⟩
      have hvA : Below wr.heap.size wr vA := ⟨hvA.os, hvA.tape, hvA.output, hvA.size, hvA.block⟩
      have hbA : Below w.heap.size w vA := hb.trans (hvA.mono hb.size)
      have kA := blk_keep hk hvA (Array.getElem?_eq_some_iff.1 hk).1
      have eA := cell_keep e0 hvA hbb
      have hS := sbx_of hbA kA eA
      refine ⟨_, rfl, hS, ?_⟩
      refine wpAnyH_eq (l' := #[true, true, true, true, true, true, true, true, true, false, false]) (a' := ⟨#[.agg #[.string x.name, .slice a1 x.imps.length c1, .slice a2 x.exps.length c2, .slice a3 x.types.length c3, .slice a4 x.defs.length c4, .slice (some ⟨b1, o1, none⟩) x.convs.length c5], .pointer (some ⟨w.heap.size, 0, none⟩), u2, .int .i64 ↑x.exps.length, .int .i64 ↑i, .int .i64 ↑x.exps.length, .pointer (some ⟨w.heap.size, 2, none⟩), .slice a2 x.exps.length c2, .int .i64 ↑x.exps.length, .bool false, u10, u11, u12, u13, u14, u15, u16, u17, u18, u19, u20, u21, .int .i64 ↑i, .pointer (some ⟨w.heap.size, 5, none⟩), .slice (some ⟨b1, o1, none⟩) x.convs.length c5, .int .i64 ↑x.convs.length, .bool true, u27, u28, .pointer (some ⟨w.heap.size, 3, none⟩), .slice a3 x.types.length c3, .slice oa x.types.length oc, .pointer (some ⟨w.heap.size, 5, none⟩), .slice (some ⟨b1, o1, none⟩) x.convs.length c5, .int .i64 ↑i, .pointer (some ⟨b1, o1 + i * 3, none⟩), .pointer (some ⟨b1, o1 + i * 3, none⟩), .string d.name, u38, u39], []⟩) (by kernel_rfl) (by kernel_rfl) ?_
      refine wpAnyH_all (rs := [9]) (by kernel_rfl) (by simp) fun j hj => ?_
      obtain rfl : j = 9 := by simpa using hj
      refine opw_call (f := 27) (args := #[.slice oa x.types.length oc, .string d.name]) rfl (by kernel_rfl) (by kernel_rfl) ((HI.out vA oa oc ho).mono ?_)
      rintro e vB ⟨rfl, hvB⟩
      have hbB : Below w.heap.size w vB := hbA.trans (hvB.mono hbA.size)
      have kB := blk_keep kA hvB (Array.getElem?_eq_some_iff.1 kA).1
      have eB := cell_keep eA hvB (by have := hvA.size; omega)
      have hS := sbx_of hbB kB eB
      refine ⟨_, rfl, hS, ?_⟩
      refine wpAnyH_take (i := 10) (v := .bool false) rfl (by kernel_rfl) (by kernel_rfl) (by kernel_rfl) (fun _ _ _ h => h) (.inl ⟨by kernel_rfl, fun w' hS' => by kernel_rfl⟩) hS ?_
      refine wpAnyH_eq (l' := #[true, true, true, true, true, true, true, true, true, true, true]) (a' := ⟨#[.agg #[.string x.name, .slice a1 x.imps.length c1, .slice a2 x.exps.length c2, .slice a3 x.types.length c3, .slice a4 x.defs.length c4, .slice (some ⟨b1, o1, none⟩) x.convs.length c5], .pointer (some ⟨w.heap.size, 0, none⟩), u2, .int .i64 ↑x.exps.length, .int .i64 ↑i, .int .i64 ↑x.exps.length, .pointer (some ⟨w.heap.size, 2, none⟩), .slice a2 x.exps.length c2, .int .i64 ↑x.exps.length, .bool false, u10, u11, u12, u13, u14, u15, u16, u17, u18, u19, u20, u21, .int .i64 ↑i, .pointer (some ⟨w.heap.size, 5, none⟩), .slice (some ⟨b1, o1, none⟩) x.convs.length c5, .int .i64 ↑x.convs.length, .bool true, u27, u28, .pointer (some ⟨w.heap.size, 3, none⟩), .slice a3 x.types.length c3, .slice oa x.types.length oc, .pointer (some ⟨w.heap.size, 5, none⟩), .slice (some ⟨b1, o1, none⟩) x.convs.length c5, .int .i64 ↑i, .pointer (some ⟨b1, o1 + i * 3, none⟩), .pointer (some ⟨b1, o1 + i * 3, none⟩), .string d.name, .bool true, .bool false], []⟩) (by kernel_rfl) (by kernel_rfl) ?_
      refine wpAnyH_done (by kernel_rfl) ?_ _
      go_wp2
      go_roundw
      case rel => exact ⟨i + 1, by omega, by go_num, HQ.out, (HD.out _ hvA).trans (hvB.mono (HD.out _ hvA).size)⟩
      case measure => simp [intOf]; omega
    ·have hlt' : decide ((i : Int) < (x.convs.length : Int)) = false := by simp; omega
     obtain rfl : i = x.convs.length := by omega
     rw [List.take_length] at hall
     have HQ : Hid ((!(x.exps.all (hasS x.dns) && x.convs.all (fun d => hasS x.tns d.name))) = false) := by show _ = _; rw [HQ0.out, hall]; rfl
     clear hall
     go_wp2
     go_ret
     exact ⟨by rw [HQ.out]; rfl, hb⟩
end Go.Proofs.YtamjofdgikifnaaGreat
