/- The law's marks of one source. -/
import Derived.Test.YtamjofdgikifnaaGreatFtr
import Derived.Test.YtamjofdgikifnaaGreatSyu
set_option linter.unusedVariables false
namespace Go.Proofs.YtamjofdgikifnaaGreat
open Go.ChangeShapes Go.WideShapes Go.ChangeAt Go.RowKit
def c_SrcE (x : Srx) : Nat := cnt c_string x.imps + cnt c_string x.exps + cnt c_Type x.types + cnt c_Def x.defs + cnt c_Def x.convs
structure FitX (B C : Nat) (w : World) (x : Srx) (a1 a2 a3 a4 a5 : Option Addr) (c1 c2 c3 c4 c5 : Nat) : Prop where
 f1 : Fits B C w (.r 1 (x.imps.map sh_string)) (.slice a1 x.imps.length c1)
 f2 : Fits B C w (.r 1 (x.exps.map sh_string)) (.slice a2 x.exps.length c2)
 f3 : Fits B C w (.r 2 (x.types.map sh_Type)) (.slice a3 x.types.length c3)
 f4 : Fits B C w (.r 3 (x.defs.map sh_Def)) (.slice a4 x.defs.length c4)
 f5 : Fits B C w (.r 3 (x.convs.map sh_Def)) (.slice a5 x.convs.length c5)
theorem FitX.ks {B C : Nat} {w w' : World} {x : Srx} {a1 a2 a3 a4 a5 : Option Addr} {c1 c2 c3 c4 c5 : Nat} (h : FitX B C w x a1 a2 a3 a4 a5 c1 c2 c3 c4 c5) (k : Ks B C w w') : FitX B C w' x a1 a2 a3 a4 a5 c1 c2 c3 c4 c5 :=
 ⟨h.f1.ks k _ (.same _), h.f2.ks k _ (.same _), h.f3.ks k _ (.same _), h.f4.ks k _ (.same _), h.f5.ks k _ (.same _)⟩
theorem fitX_of {B C : Nat} {w : World} {x : Srx} {a1 a2 a3 a4 a5 : Option Addr} {c1 c2 c3 c4 c5 : Nat} (h : SrxRows w (fun b => B ≤ b ∧ b < C ∧ Unf w b) a1 a2 a3 a4 a5 c1 c2 c3 c4 c5 x) : FitX B C w x a1 a2 a3 a4 a5 c1 c2 c3 c4 c5 := by
 obtain ⟨⟨r1, _⟩, ⟨r2, _⟩, ⟨r3, _⟩, ⟨r4, _⟩, ⟨r5, _⟩⟩ := h
 exact ⟨fits_string _ r1, fits_string _ r2, fits_Type _ r3, fits_Def _ r4, fits_Def _ r5⟩
set_option maxRecDepth 100000 in
set_option maxHeartbeats 2000000 in
theorem markSrc_any (B C : Nat) (x : Srx) (a1 a2 a3 a4 a5 : Option Addr) (c1 c2 c3 c4 c5 k : Nat) (w : World) (hs : x.small) (h : FitX B C w x a1 a2 a3 a4 a5 c1 c2 c3 c4 c5) (hC : C ≤ w.heap.size) (hk1 : 1 ≤ k) (hk : k + c_SrcE x ≤ 9000000) :
  Calls Tryz.prog 14 #[.agg #[.string x.name, .slice a1 x.imps.length c1, .slice a2 x.exps.length c2, .slice a3 x.types.length c3, .slice a4 x.defs.length c4, .slice a5 x.convs.length c5], .int .i64 (k : Int)] w fun e w' => Mk B C w k (c_SrcE x) e w' := by
 obtain ⟨s0, ⟨s1, s1'⟩, ⟨s2, s2'⟩, ⟨s3, s3'⟩, ⟨s4, s4'⟩, ⟨s5, s5'⟩⟩ := hs
 obtain ⟨w0, hw0⟩ : ∃ w0, w0 = w.alloc (Obj.cells #[.string x.name, .slice a1 x.imps.length c1, .slice a2 x.exps.length c2, .slice a3 x.types.length c3, .slice a4 x.defs.length c4, .slice a5 x.convs.length c5] 34) := ⟨_, rfl⟩
 have HW : Hid (w0 = _) := hw0
 have hb0 : Below w.heap.size w w0 := by rw [hw0]; exact (Below.refl _ _).alloc (Nat.le_refl _) _
 have HK0 : Hid (Ks B C w w0) := Ks.of_below hb0
 have k0 : w0.heap[w.heap.size]? = some (Obj.cells #[.string x.name, .slice a1 x.imps.length c1, .slice a2 x.exps.length c2, .slice a3 x.types.length c3, .slice a4 x.defs.length c4, .slice a5 x.convs.length c5] 34) := by rw [hw0]; exact blk_at _ _ _ rfl
 have hsz0 : w.heap.size < w0.heap.size := (Array.getElem?_eq_some_iff.1 k0).1
 have KB : Hid (∀ W, Ks B C w0 W → W.heap[w.heap.size]? = some (Obj.cells #[.string x.name, .slice a1 x.imps.length c1, .slice a2 x.exps.length c2, .slice a3 x.types.length c3, .slice a4 x.defs.length c4, .slice a5 x.convs.length c5] 34)) := fun W hW => (hW.same _ hsz0 (.inr hC)).trans k0
 have hx : c_SrcE x = cnt c_string x.imps + cnt c_string x.exps + cnt c_Type x.types + cnt c_Def x.defs + cnt c_Def x.convs := rfl
 rw [hx] at hk ⊢
 have h' := h.ks HK0.out
 have H1 : Hid (∀ W m, Ks B C w0 W → 1 ≤ m → m + cnt c_string x.imps ≤ 9000000 → Calls Tryz.prog 15 #[.slice a1 x.imps.length c1, .int .i64 (m : Int)] W fun e w' => e = .returned (.int .i64 ((m + cnt c_string x.imps : Nat) : Int)) ∧ Ks B C w0 w') := fun W m hq h1 h2 => (mark_string B C a1 x.imps c1 m W (h'.f1.ks hq _ (.same _)) s1 h1 h2).mono fun e w' g => ⟨g.1, hq.trans g.2⟩
 have H2 : Hid (∀ W m, Ks B C w0 W → 1 ≤ m → m + cnt c_string x.exps ≤ 9000000 → Calls Tryz.prog 15 #[.slice a2 x.exps.length c2, .int .i64 (m : Int)] W fun e w' => e = .returned (.int .i64 ((m + cnt c_string x.exps : Nat) : Int)) ∧ Ks B C w0 w') := fun W m hq h1 h2 => (mark_string B C a2 x.exps c2 m W (h'.f2.ks hq _ (.same _)) s2 h1 h2).mono fun e w' g => ⟨g.1, hq.trans g.2⟩
 have H3 : Hid (∀ W m, Ks B C w0 W → 1 ≤ m → m + cnt c_Type x.types ≤ 9000000 → Calls Tryz.prog 42 #[.slice a3 x.types.length c3, .int .i64 (m : Int)] W fun e w' => e = .returned (.int .i64 ((m + cnt c_Type x.types : Nat) : Int)) ∧ Ks B C w0 w') := fun W m hq h1 h2 => (mark_Type B C a3 x.types c3 m W (h'.f3.ks hq _ (.same _)) s3 h1 h2).mono fun e w' g => ⟨g.1, hq.trans g.2⟩
 have H4 : Hid (∀ W m, Ks B C w0 W → 1 ≤ m → m + cnt c_Def x.defs ≤ 9000000 → Calls Tryz.prog 43 #[.slice a4 x.defs.length c4, .int .i64 (m : Int)] W fun e w' => e = .returned (.int .i64 ((m + cnt c_Def x.defs : Nat) : Int)) ∧ Ks B C w0 w') := fun W m hq h1 h2 => (mark_Def B C a4 x.defs c4 m W (h'.f4.ks hq _ (.same _)) s4 s4' h1 h2).mono fun e w' g => ⟨g.1, hq.trans g.2⟩
 have H5 : Hid (∀ W m, Ks B C w0 W → 1 ≤ m → m + cnt c_Def x.convs ≤ 9000000 → Calls Tryz.prog 43 #[.slice a5 x.convs.length c5, .int .i64 (m : Int)] W fun e w' => e = .returned (.int .i64 ((m + cnt c_Def x.convs : Nat) : Int)) ∧ Ks B C w0 w') := fun W m hq h1 h2 => (mark_Def B C a5 x.convs c5 m W (h'.f5.ks hq _ (.same _)) s5 s5' h1 h2).mono fun e w' g => ⟨g.1, hq.trans g.2⟩
 clear h h' s0 s1 s2 s3 s4 s5 s1' s2' s3' s4' s5' hb0 hw0 hx hC
 have e1 := cell_blk (j := 1) k0 rfl
 clear k0
 generalize cnt c_string x.imps = n1 at *
 generalize cnt c_string x.exps = n2 at *
 generalize cnt c_Type x.types = n3 at *
 generalize cnt c_Def x.defs = n4 at *
 generalize cnt c_Def x.convs = n5 at *
 rw [HW.out] at e1
 go_enter Tryz.func14, Tryz.ntmps14
 go_wp2_with fail
 rw [← HW.out]
 refine (H1.out _ _ (Ks.refl _ _ _) hk1 (by omega)).mono ?_
 rintro e w1 ⟨rfl, q1⟩
 have HQ1 : Hid _ := q1
 have e2 := cell_blk (j := 2) (KB.out _ q1) rfl
 clear q1 e1 HW
 go_wp2_with fail
 refine (H2.out _ _ HQ1.out (by omega) (by omega)).mono ?_
 rintro e w2 ⟨rfl, q2⟩
 have HQ2 : Hid _ := q2
 have e3 := cell_blk (j := 3) (KB.out _ q2) rfl
 clear q2 e2
 go_wp2_with fail
 refine (H3.out _ _ HQ2.out (by omega) (by omega)).mono ?_
 rintro e w3 ⟨rfl, q3⟩
 have HQ3 : Hid _ := q3
 have e4 := cell_blk (j := 4) (KB.out _ q3) rfl
 clear q3 e3
 go_wp2_with fail
 refine (H4.out _ _ HQ3.out (by omega) (by omega)).mono ?_
 rintro e w4 ⟨rfl, q4⟩
 have HQ4 : Hid _ := q4
 have e5 := cell_blk (j := 5) (KB.out _ q4) rfl
 clear q4 e4
 go_wp2_with fail
 refine (H5.out _ _ HQ4.out (by omega) (by omega)).mono ?_
 rintro e w5 ⟨rfl, q5⟩
 have HQ5 : Hid (Ks B C w w5) := HK0.out.trans q5
 clear q5 e5
 go_wp2
 go_ret
 exact ⟨by go_num, HQ5.out⟩
end Go.Proofs.YtamjofdgikifnaaGreat
