/- Rows that were copied may be marked; a whole system marked. What Start tells: the model and the program. -/
import Derived.Test.YtmnkomgdcebniaaGreatMrx
import Derived.Test.YtmnkomgdcebniaaGreatSux
import Derived.Test.YtmnkomgdcebniaaGreatSyp
import Derived.Test.YtmnkomgdcebniaaGreatMcp
import Derived.Test.YtmnkomgdcebniaaGreatMce
import Derived.Test.YtmnkomgdcebniaaGreatSie
import Derived.Test.YtmnkomgdcebniaaGreatSsd
import Derived.Deep.RegionWith
set_option linter.unusedVariables false
namespace Go.Proofs.YtmnkomgdcebniaaGreat
open Go.ChangeShapes Go.WideShapes Go.ChangeAt Go.RowKit
theorem fits_row {α : Type} {B C : Nat} {w : World} (R : Rd α) (sh : α → List Sh) (hlen : ∀ x, (sh x).length = R.n)
  (each : ∀ cs x, R.At w (fun b => B ≤ b ∧ b < C ∧ Unf w b) cs x → ∀ (j : Nat) (f : Sh), (sh x)[j]? = some f → ∃ v, cs[j]? = some v ∧ Fits B C w f v)
  {a : Option Addr} {l : List α} (cap : Nat) (h : R.Row w (fun b => B ≤ b ∧ b < C ∧ Unf w b) a l) : Fits B C w (.r R.n (l.map sh)) (.slice a l.length cap) := by
 have hlm : l.length = (l.map sh).length := by simp
 rw [hlm]
 match l, h with
 | [], h => exact .r R.n [] a cap 0 0 #[] 0 (fun _ _ => undef) (fun h => absurd rfl h) (fun i fs j f h => by simp at h) (fun i fs j f h => by simp at h)
 | x0 :: t, h =>
  obtain ⟨b, o, cs0, rfl, ⟨hB, hC, X, ty, hX⟩, hat0, hl0⟩ := h 0 x0 rfl
  have key : ∀ i fs j f, ((x0 :: t).map sh)[i]? = some fs → fs[j]? = some f → ∃ v, X[o + i * R.n + j]? = some v ∧ Fits B C w f v := by
   intro i fs j f hi hj
   rw [List.getElem?_map] at hi
   cases hx : (x0 :: t)[i]? with
   | none => rw [hx] at hi; cases hi
   | some x =>
    rw [hx] at hi
    obtain rfl := Option.some.inj hi
    obtain ⟨b', o', cs, hax, _, hat, hl⟩ := h i x hx
    obtain ⟨rfl, rfl⟩ : b = b' ∧ o = o' := by simpa using hax
    obtain ⟨v, hv, hf⟩ := each cs x hat j f hj
    refine ⟨v, ?_, hf⟩
    have := hl j v hv
    rw [cell_of_row w b _ X ty (0, 0) hX] at this
    exact this
  refine .r R.n _ _ cap b o X ty (fun i j => (X[o + i * R.n + j]?).getD undef) (fun _ => ⟨rfl, hB, hC, hX⟩) (fun i fs j f hi hj => ?_) (fun i fs j f hi hj => ?_)
  ·obtain ⟨v, hv, _⟩ := key i fs j f hi hj
   rw [hv]; rfl
  ·obtain ⟨v, hv, hf⟩ := key i fs j f hi hj
   rw [hv]
   exact hf
section
variable {B C : Nat} {w : World}
theorem fits_string {a : Option Addr} {l : List ByteArray} (cap : Nat) (h : rgS.Row w (fun b => B ≤ b ∧ b < C ∧ Unf w b) a l) : Fits B C w (.r 1 (l.map sh_string)) (.slice a l.length cap) := by
 refine fits_row rgS sh_string (fun _ => rfl) (fun cs x hat j f hj => ?_) cap h
 obtain rfl := hat
 match j, hj with
 | 0, hj => obtain rfl := Option.some.inj hj; exact ⟨_, rfl, .s _⟩
 | _ + 1, hj => simp [sh_string] at hj
theorem fits_int {a : Option Addr} {l : List Int} (cap : Nat) (h : rgJ.Row w (fun b => B ≤ b ∧ b < C ∧ Unf w b) a l) : Fits B C w (.r 1 (l.map sh_int)) (.slice a l.length cap) := by
 refine fits_row rgJ sh_int (fun _ => rfl) (fun cs x hat j f hj => ?_) cap h
 obtain rfl := hat
 match j, hj with
 | 0, hj => obtain rfl := Option.some.inj hj; exact ⟨_, rfl, .i _⟩
 | _ + 1, hj => simp [sh_int] at hj
theorem fits_Value {a : Option Addr} {l : List Val} (cap : Nat) (h : rgV.Row w (fun b => B ≤ b ∧ b < C ∧ Unf w b) a l) : Fits B C w (.r 3 (l.map sh_Value)) (.slice a l.length cap) := by
 refine fits_row rgV sh_Value (fun _ => rfl) (fun cs x hat j f hj => ?_) cap h
 obtain rfl := hat
 match j, hj with
 | 0, hj => obtain rfl := Option.some.inj hj; exact ⟨_, rfl, .i _⟩
 | 1, hj => obtain rfl := Option.some.inj hj; exact ⟨_, rfl, .i _⟩
 | 2, hj => obtain rfl := Option.some.inj hj; exact ⟨_, rfl, .s _⟩
 | _ + 3, hj => simp [sh_Value] at hj
theorem fits_Link {a : Option Addr} {l : List Lnk} (cap : Nat) (h : rgL.Row w (fun b => B ≤ b ∧ b < C ∧ Unf w b) a l) : Fits B C w (.r 3 (l.map sh_Link)) (.slice a l.length cap) := by
 refine fits_row rgL sh_Link (fun _ => rfl) (fun cs x hat j f hj => ?_) cap h
 obtain rfl := hat
 match j, hj with
 | 0, hj => obtain rfl := Option.some.inj hj; exact ⟨_, rfl, .s _⟩
 | 1, hj => obtain rfl := Option.some.inj hj; exact ⟨_, rfl, .i _⟩
 | 2, hj => obtain rfl := Option.some.inj hj; exact ⟨_, rfl, .s _⟩
 | _ + 3, hj => simp [sh_Link] at hj
theorem fits_Type {a : Option Addr} {l : List Typ} (cap : Nat) (h : rgT.Row w (fun b => B ≤ b ∧ b < C ∧ Unf w b) a l) : Fits B C w (.r 2 (l.map sh_Type)) (.slice a l.length cap) := by
 refine fits_row rgT sh_Type (fun _ => rfl) (fun cs x hat j f hj => ?_) cap h
 obtain rfl := hat
 match j, hj with
 | 0, hj => obtain rfl := Option.some.inj hj; exact ⟨_, rfl, .s _⟩
 | 1, hj => obtain rfl := Option.some.inj hj; exact ⟨_, rfl, .i _⟩
 | _ + 2, hj => simp [sh_Type] at hj
theorem fits_Node {a : Option Addr} {l : List Nod} (cap : Nat) (h : rgN.Row w (fun b => B ≤ b ∧ b < C ∧ Unf w b) a l) : Fits B C w (.r 5 (l.map sh_Node)) (.slice a l.length cap) := by
 refine fits_row rgN sh_Node (fun _ => rfl) (fun cs x hat j f hj => ?_) cap h
 obtain ⟨a1, c1, a2, c2, rfl, g1, g2, _, _⟩ := hat
 match j, hj with
 | 0, hj => obtain rfl := Option.some.inj hj; exact ⟨_, rfl, .i _⟩
 | 1, hj => obtain rfl := Option.some.inj hj; exact ⟨_, rfl, .i _⟩
 | 2, hj => obtain rfl := Option.some.inj hj; exact ⟨_, rfl, .s _⟩
 | 3, hj => obtain rfl := Option.some.inj hj; exact ⟨_, rfl, fits_string _ (rowSP_iff.2 g1)⟩
 | 4, hj => obtain rfl := Option.some.inj hj; exact ⟨_, rfl, fits_int _ (rowIP_iff.2 g2)⟩
 | _ + 5, hj => simp [sh_Node] at hj
theorem fits_Cell {a : Option Addr} {l : List Cel} (cap : Nat) (h : rgC.Row w (fun b => B ≤ b ∧ b < C ∧ Unf w b) a l) : Fits B C w (.r 6 (l.map sh_Cell)) (.slice a l.length cap) := by
 refine fits_row rgC sh_Cell (fun _ => rfl) (fun cs x hat j f hj => ?_) cap h
 obtain ⟨a1, c1, a2, c2, rfl, g1, g2, _, _⟩ := hat
 match j, hj with
 | 0, hj => obtain rfl := Option.some.inj hj; exact ⟨_, rfl, .i _⟩
 | 1, hj => obtain rfl := Option.some.inj hj; exact ⟨_, rfl, .s _⟩
 | 2, hj => obtain rfl := Option.some.inj hj; exact ⟨_, rfl, .i _⟩
 | 3, hj => obtain rfl := Option.some.inj hj; exact ⟨_, rfl, .i _⟩
 | 4, hj => obtain rfl := Option.some.inj hj; exact ⟨_, rfl, fits_string _ (rowSP_iff.2 g1)⟩
 | 5, hj => obtain rfl := Option.some.inj hj; exact ⟨_, rfl, fits_Value _ (rowVP_iff.2 g2)⟩
 | _ + 6, hj => simp [sh_Cell] at hj
theorem fits_Inst {a : Option Addr} {l : List Ins} (cap : Nat) (h : rgX.Row w (fun b => B ≤ b ∧ b < C ∧ Unf w b) a l) : Fits B C w (.r 6 (l.map sh_Inst)) (.slice a l.length cap) := by
 refine fits_row rgX sh_Inst (fun _ => rfl) (fun cs x hat j f hj => ?_) cap h
 obtain ⟨a1, a2, a3, a4, c1, c2, c3, c4, rfl, hrs⟩ := hat
 obtain ⟨⟨g1, _⟩, ⟨g2, _⟩, ⟨g3, _⟩, ⟨g4, _⟩⟩ := hrs
 match j, hj with
 | 0, hj => obtain rfl := Option.some.inj hj; exact ⟨_, rfl, .s _⟩
 | 1, hj => obtain rfl := Option.some.inj hj; exact ⟨_, rfl, .i _⟩
 | 2, hj => obtain rfl := Option.some.inj hj; exact ⟨_, rfl, fits_string _ (g1)⟩
 | 3, hj => obtain rfl := Option.some.inj hj; exact ⟨_, rfl, fits_Value _ (g2)⟩
 | 4, hj => obtain rfl := Option.some.inj hj; exact ⟨_, rfl, fits_Link _ (g3)⟩
 | 5, hj => obtain rfl := Option.some.inj hj; exact ⟨_, rfl, fits_Type _ (g4)⟩
 | _ + 6, hj => simp [sh_Inst] at hj
theorem fits_Unit {a : Option Addr} {l : List Unt} (cap : Nat) (h : rgU.Row w (fun b => B ≤ b ∧ b < C ∧ Unf w b) a l) : Fits B C w (.r 3 (l.map sh_Unit)) (.slice a l.length cap) := by
 refine fits_row rgU sh_Unit (fun _ => rfl) (fun cs x hat j f hj => ?_) cap h
 obtain ⟨a1, c1, rfl, hrs⟩ := hat
 obtain ⟨g1, _⟩ := hrs
 match j, hj with
 | 0, hj => obtain rfl := Option.some.inj hj; exact ⟨_, rfl, .i _⟩
 | 1, hj => obtain rfl := Option.some.inj hj; exact ⟨_, rfl, fits_Node _ (g1)⟩
 | 2, hj => obtain rfl := Option.some.inj hj; exact ⟨_, rfl, .i _⟩
 | _ + 3, hj => simp [sh_Unit] at hj
end
def c_Sys (y : Sy) : Nat := cnt c_Cell y.heap + cnt c_Inst y.insts + cnt c_Unit y.units + cnt c_string y.out
set_option maxRecDepth 100000 in
set_option maxHeartbeats 2000000 in
theorem mark_Sys (B C : Nat) (y : Sy) (y1 y2 y3 y4 : Option Addr) (d1 d2 d3 d4 : Nat) (k : Nat) (w : World) (hs : y.small) (hr : SyRows w (fun b => B ≤ b ∧ b < C ∧ Unf w b) y1 y2 y3 y4 d1 d2 d3 d4 y) (hC : C ≤ w.heap.size) (hk1 : 1 ≤ k) (hk : k + c_Sys y ≤ 9000000) :
  Calls Tryz.prog 21 #[.agg #[.slice y1 y.heap.length d1, .slice y2 y.insts.length d2, .slice y3 y.units.length d3, .slice y4 y.out.length d4], .int .i64 (k : Int)] w fun e w' => Mk B C w k (c_Sys y) e w' := by
 obtain ⟨⟨s1, s1'⟩, ⟨s2, s2'⟩, ⟨s3, s3'⟩, ⟨s4, s4'⟩⟩ := hs
 obtain ⟨⟨r1, t1⟩, ⟨r2, t2⟩, ⟨r3, t3⟩, ⟨r4, t4⟩⟩ := hr
 have F1 := fits_Cell d1 r1
 have F2 := fits_Inst d2 r2
 have F3 := fits_Unit d3 r3
 have F4 := fits_string d4 r4
 have hc : c_Sys y = cnt c_Cell y.heap + cnt c_Inst y.insts + cnt c_Unit y.units + cnt c_string y.out := rfl
 have k0 : (w.alloc (Obj.cells #[.slice y1 y.heap.length d1, .slice y2 y.insts.length d2, .slice y3 y.units.length d3, .slice y4 y.out.length d4] 34)).heap[w.heap.size]? = some (Obj.cells #[.slice y1 y.heap.length d1, .slice y2 y.insts.length d2, .slice y3 y.units.length d3, .slice y4 y.out.length d4] 34) := blk_at _ _ _ rfl
 have q0 : Ks B C w (w.alloc (Obj.cells #[.slice y1 y.heap.length d1, .slice y2 y.insts.length d2, .slice y3 y.units.length d3, .slice y4 y.out.length d4] 34)) := Ks.of_below ((Below.refl _ _).alloc (Nat.le_refl _) _)
 have HM1 : Hid (∀ w1 k1, Ks B C w w1 → 1 ≤ k1 → k1 + cnt c_Cell y.heap ≤ 9000000 → Calls Tryz.prog 53 #[.slice y1 y.heap.length d1, .int .i64 ((k1 : Nat) : Int)] w1 fun e w' => Mk B C w1 k1 (cnt c_Cell y.heap) e w') := fun w1 k1 hq h1 h2 => mark_Cell B C y1 y.heap d1 k1 w1 (F1.ks hq _ (.same _)) s1 s1' h1 h2
 have HM2 : Hid (∀ w1 k1, Ks B C w w1 → 1 ≤ k1 → k1 + cnt c_Inst y.insts ≤ 9000000 → Calls Tryz.prog 54 #[.slice y2 y.insts.length d2, .int .i64 ((k1 : Nat) : Int)] w1 fun e w' => Mk B C w1 k1 (cnt c_Inst y.insts) e w') := fun w1 k1 hq h1 h2 => mark_Inst B C y2 y.insts d2 k1 w1 (F2.ks hq _ (.same _)) s2 s2' h1 h2
 have HM3 : Hid (∀ w1 k1, Ks B C w w1 → 1 ≤ k1 → k1 + cnt c_Unit y.units ≤ 9000000 → Calls Tryz.prog 55 #[.slice y3 y.units.length d3, .int .i64 ((k1 : Nat) : Int)] w1 fun e w' => Mk B C w1 k1 (cnt c_Unit y.units) e w') := fun w1 k1 hq h1 h2 => mark_Unit B C y3 y.units d3 k1 w1 (F3.ks hq _ (.same _)) s3 s3' h1 h2
 have HM4 : Hid (∀ w1 k1, Ks B C w w1 → 1 ≤ k1 → k1 + cnt c_string y.out ≤ 9000000 → Calls Tryz.prog 56 #[.slice y4 y.out.length d4, .int .i64 ((k1 : Nat) : Int)] w1 fun e w' => Mk B C w1 k1 (cnt c_string y.out) e w') := fun w1 k1 hq h1 h2 => mark_string B C y4 y.out d4 k1 w1 (F4.ks hq _ (.same _)) s4 h1 h2
 have HCC : Hid (c_Sys y = cnt c_Cell y.heap + cnt c_Inst y.insts + cnt c_Unit y.units + cnt c_string y.out) := hc
 rw [hc] at hk
 clear F1 F2 F3 F4 r1 r2 r3 r4 s1' s2' s3' s4' hc
 go_enter Tryz.func21, Tryz.ntmps21
 go_wp2_with fail
 refine (HM1.out _ (k) q0 (by omega) (by omega)).mono ?_
 rintro e v1 ⟨rfl, hv1⟩
 have q1 := q0.trans hv1
 have p1 : v1.heap[w.heap.size]? = some (Obj.cells #[.slice y1 y.heap.length d1, .slice y2 y.insts.length d2, .slice y3 y.units.length d3, .slice y4 y.out.length d4] 34) := (hv1.same _ (Array.getElem?_eq_some_iff.1 k0).1 (.inr hC)).trans k0
 have e1_0 := cell_blk (j := 0) p1 rfl
 have e1_1 := cell_blk (j := 1) p1 rfl
 have e1_2 := cell_blk (j := 2) p1 rfl
 have e1_3 := cell_blk (j := 3) p1 rfl
 clear hv1
 go_wp2_with fail
 refine (HM2.out _ (k + cnt c_Cell y.heap) q1 (by omega) (by omega)).mono ?_
 rintro e v2 ⟨rfl, hv2⟩
 have q2 := q1.trans hv2
 have p2 : v2.heap[w.heap.size]? = some (Obj.cells #[.slice y1 y.heap.length d1, .slice y2 y.insts.length d2, .slice y3 y.units.length d3, .slice y4 y.out.length d4] 34) := (hv2.same _ (Array.getElem?_eq_some_iff.1 p1).1 (.inr hC)).trans p1
 have e2_0 := cell_blk (j := 0) p2 rfl
 have e2_1 := cell_blk (j := 1) p2 rfl
 have e2_2 := cell_blk (j := 2) p2 rfl
 have e2_3 := cell_blk (j := 3) p2 rfl
 clear hv2
 go_wp2_with fail
 refine (HM3.out _ (k + cnt c_Cell y.heap + cnt c_Inst y.insts) q2 (by omega) (by omega)).mono ?_
 rintro e v3 ⟨rfl, hv3⟩
 have q3 := q2.trans hv3
 have p3 : v3.heap[w.heap.size]? = some (Obj.cells #[.slice y1 y.heap.length d1, .slice y2 y.insts.length d2, .slice y3 y.units.length d3, .slice y4 y.out.length d4] 34) := (hv3.same _ (Array.getElem?_eq_some_iff.1 p2).1 (.inr hC)).trans p2
 have e3_0 := cell_blk (j := 0) p3 rfl
 have e3_1 := cell_blk (j := 1) p3 rfl
 have e3_2 := cell_blk (j := 2) p3 rfl
 have e3_3 := cell_blk (j := 3) p3 rfl
 clear hv3
 go_wp2_with fail
 refine (HM4.out _ (k + cnt c_Cell y.heap + cnt c_Inst y.insts + cnt c_Unit y.units) q3 (by omega) (by omega)).mono ?_
 rintro e v4 ⟨rfl, hv4⟩
 have q4 := q3.trans hv4
 have p4 : v4.heap[w.heap.size]? = some (Obj.cells #[.slice y1 y.heap.length d1, .slice y2 y.insts.length d2, .slice y3 y.units.length d3, .slice y4 y.out.length d4] 34) := (hv4.same _ (Array.getElem?_eq_some_iff.1 p3).1 (.inr hC)).trans p3
 have e4_0 := cell_blk (j := 0) p4 rfl
 have e4_1 := cell_blk (j := 1) p4 rfl
 have e4_2 := cell_blk (j := 2) p4 rfl
 have e4_3 := cell_blk (j := 3) p4 rfl
 clear hv4
 go_wp2
 go_ret
 have HE : (k : Int) + (cnt c_Cell y.heap : Nat) + (cnt c_Inst y.insts : Nat) + (cnt c_Unit y.units : Nat) + (cnt c_string y.out : Nat) = ((k + c_Sys y : Nat) : Int) := by rw [HCC.out]; omega
 exact ⟨congrArg (fun z => Ending.returned (Value.int .i64 z)) HE, q4⟩
end Go.Proofs.YtmnkomgdcebniaaGreat
set_option linter.unusedVariables false
namespace Go.Proofs.YtmnkomgdcebniaaGreat
open Go.ChangeShapes Go.WideShapes Go.ChangeAt Go.RowKit
theorem res_mt {fn : Func} {p u : Tmp} (h : fn.results = #[.cell p 48, .tmp u]) (tmps : Array Value) (w : World) (g : Nat) (v0 v1 v2 v3 v4 v5 v6 v7 v8 : Value)
  (hp : tmps.getD p undef = .pointer (some ⟨g, 0, none⟩)) (hg : w.heap[g]? = some (.cells #[v0, v1, v2, v3, v4, v5, v6, v7, v8] 48 (0, 0))) :
  (results fn tmps).run Tryz.prog w = .ok (.tuple #[.agg #[v0, v1, v2, v3, v4, v5, v6, v7, v8], tmps.getD u undef]) w := by
 have hp' : tmps[p]?.getD undef = .pointer (some ⟨g, 0, none⟩) := by simpa using hp
 simp [results, h, hp', asAddr, run_loadVar_row w g 48 48 #[v0, v1, v2, v3, v4, v5, v6, v7, v8] (0, 0) _ hg Tryz.underlying48 rfl (by kernel_rfl)]
theorem put9 {w : World} {g : Nat} {x0 x1 x2 x3 x4 x5 x6 x7 x8 : Value} {t : TypeId} (v0 v1 v2 v3 v4 v5 v6 v7 v8 : Value) (h : w.heap[g]? = some (.cells #[x0, x1, x2, x3, x4, x5, x6, x7, x8] t (0, 0))) : (((((((((w.setCell ⟨g, 0, none⟩ v0).setCell ⟨g, 1, none⟩ v1).setCell ⟨g, 2, none⟩ v2).setCell ⟨g, 3, none⟩ v3).setCell ⟨g, 4, none⟩ v4).setCell ⟨g, 5, none⟩ v5).setCell ⟨g, 6, none⟩ v6).setCell ⟨g, 7, none⟩ v7).setCell ⟨g, 8, none⟩ v8).heap[g]? = some (.cells #[v0, v1, v2, v3, v4, v5, v6, v7, v8] t (0, 0)) := by
 have h1 : (w.setCell ⟨g, 0, none⟩ v0).heap[g]? = some (.cells #[v0, x1, x2, x3, x4, x5, x6, x7, x8] t (0, 0)) := heap_setCell_same _ _ _ _ _ _ h
 have h2 : ((w.setCell ⟨g, 0, none⟩ v0).setCell ⟨g, 1, none⟩ v1).heap[g]? = some (.cells #[v0, v1, x2, x3, x4, x5, x6, x7, x8] t (0, 0)) := heap_setCell_same _ _ _ _ _ _ h1
 have h3 : (((w.setCell ⟨g, 0, none⟩ v0).setCell ⟨g, 1, none⟩ v1).setCell ⟨g, 2, none⟩ v2).heap[g]? = some (.cells #[v0, v1, v2, x3, x4, x5, x6, x7, x8] t (0, 0)) := heap_setCell_same _ _ _ _ _ _ h2
 have h4 : ((((w.setCell ⟨g, 0, none⟩ v0).setCell ⟨g, 1, none⟩ v1).setCell ⟨g, 2, none⟩ v2).setCell ⟨g, 3, none⟩ v3).heap[g]? = some (.cells #[v0, v1, v2, v3, x4, x5, x6, x7, x8] t (0, 0)) := heap_setCell_same _ _ _ _ _ _ h3
 have h5 : (((((w.setCell ⟨g, 0, none⟩ v0).setCell ⟨g, 1, none⟩ v1).setCell ⟨g, 2, none⟩ v2).setCell ⟨g, 3, none⟩ v3).setCell ⟨g, 4, none⟩ v4).heap[g]? = some (.cells #[v0, v1, v2, v3, v4, x5, x6, x7, x8] t (0, 0)) := heap_setCell_same _ _ _ _ _ _ h4
 have h6 : ((((((w.setCell ⟨g, 0, none⟩ v0).setCell ⟨g, 1, none⟩ v1).setCell ⟨g, 2, none⟩ v2).setCell ⟨g, 3, none⟩ v3).setCell ⟨g, 4, none⟩ v4).setCell ⟨g, 5, none⟩ v5).heap[g]? = some (.cells #[v0, v1, v2, v3, v4, v5, x6, x7, x8] t (0, 0)) := heap_setCell_same _ _ _ _ _ _ h5
 have h7 : (((((((w.setCell ⟨g, 0, none⟩ v0).setCell ⟨g, 1, none⟩ v1).setCell ⟨g, 2, none⟩ v2).setCell ⟨g, 3, none⟩ v3).setCell ⟨g, 4, none⟩ v4).setCell ⟨g, 5, none⟩ v5).setCell ⟨g, 6, none⟩ v6).heap[g]? = some (.cells #[v0, v1, v2, v3, v4, v5, v6, x7, x8] t (0, 0)) := heap_setCell_same _ _ _ _ _ _ h6
 have h8 : ((((((((w.setCell ⟨g, 0, none⟩ v0).setCell ⟨g, 1, none⟩ v1).setCell ⟨g, 2, none⟩ v2).setCell ⟨g, 3, none⟩ v3).setCell ⟨g, 4, none⟩ v4).setCell ⟨g, 5, none⟩ v5).setCell ⟨g, 6, none⟩ v6).setCell ⟨g, 7, none⟩ v7).heap[g]? = some (.cells #[v0, v1, v2, v3, v4, v5, v6, v7, x8] t (0, 0)) := heap_setCell_same _ _ _ _ _ _ h7
 have h9 : (((((((((w.setCell ⟨g, 0, none⟩ v0).setCell ⟨g, 1, none⟩ v1).setCell ⟨g, 2, none⟩ v2).setCell ⟨g, 3, none⟩ v3).setCell ⟨g, 4, none⟩ v4).setCell ⟨g, 5, none⟩ v5).setCell ⟨g, 6, none⟩ v6).setCell ⟨g, 7, none⟩ v7).setCell ⟨g, 8, none⟩ v8).heap[g]? = some (.cells #[v0, v1, v2, v3, v4, v5, v6, v7, v8] t (0, 0)) := heap_setCell_same _ _ _ _ _ _ h8
 exact h9
theorem put9_below {B g : Nat} {w0 w : World} (h : Below B w0 w) (hg : B ≤ g) (v0 v1 v2 v3 v4 v5 v6 v7 v8 : Value) : Below B w0 (((((((((w.setCell ⟨g, 0, none⟩ v0).setCell ⟨g, 1, none⟩ v1).setCell ⟨g, 2, none⟩ v2).setCell ⟨g, 3, none⟩ v3).setCell ⟨g, 4, none⟩ v4).setCell ⟨g, 5, none⟩ v5).setCell ⟨g, 6, none⟩ v6).setCell ⟨g, 7, none⟩ v7).setCell ⟨g, 8, none⟩ v8) :=
 (((((((((h.setCell (p := ⟨g, _, none⟩) hg _).setCell (p := ⟨g, _, none⟩) hg _).setCell (p := ⟨g, _, none⟩) hg _).setCell (p := ⟨g, _, none⟩) hg _).setCell (p := ⟨g, _, none⟩) hg _).setCell (p := ⟨g, _, none⟩) hg _).setCell (p := ⟨g, _, none⟩) hg _).setCell (p := ⟨g, _, none⟩) hg _).setCell (p := ⟨g, _, none⟩) hg _)
noncomputable def stB (y : Sy) (u : Int) : Bool := y.ok && (decide (0 ≤ u) && decide (u < (y.units.length : Int)))
def stR (y : Sy) (u : Int) : Int := match y.units[u.toNat]? with
 | none => 0
 | some x => x.prog.root
noncomputable def stP (y : Sy) (u : Int) : Int × Int × Int := if stB y u then (1, u, stR y u) else (0, 0, 0)
theorem stP_no {y : Sy} {u : Int} (h : stB y u = false) : stP y u = (0, 0, 0) := by unfold stP; rw [h]; rfl
theorem stP_yes {y : Sy} {u : Int} (h : stB y u = true) : stP y u = (1, u, stR y u) := by unfold stP; rw [h]; rfl
set_option maxRecDepth 100000 in
set_option maxHeartbeats 4000000 in
theorem specStart_any (y : Sy) (y1 y2 y3 y4 : Option Addr) (d1 d2 d3 d4 : Nat) (u : Int) (w : World) (hs : y.small) (hr : SyRows w (fun b => b < w.heap.size) y1 y2 y3 y4 d1 d2 d3 d4 y) (hfl : ∀ u ∈ y.units, (flat u.prog.nodes).length ≤ 1048576) :
  Calls Tryz.prog 18 #[.agg #[.slice y1 y.heap.length d1, .slice y2 y.insts.length d2, .slice y3 y.units.length d3, .slice y4 y.out.length d4], .int .i64 u] w fun e w' => Ans w (.tuple #[.agg #[.int .i64 (stP y u).1, .int .i64 (stP y u).2.1, .int .i64 (stP y u).2.2, .slice none 0 0, .int .i64 0, .int .i64 0, .string ⟨#[]⟩, .slice none 0 0, .int .i64 0], .bool (stB y u)]) e w' := by
 have hb0 : Below w.heap.size w ((w.alloc (Obj.cells #[.slice y1 y.heap.length d1, .slice y2 y.insts.length d2, .slice y3 y.units.length d3, .slice y4 y.out.length d4] 34)).alloc (Obj.cells #[.int .i64 0, .int .i64 0, .int .i64 0, .slice none 0 0, .int .i64 0, .int .i64 0, .string ⟨#[]⟩, .slice none 0 0, .int .i64 0] 48)) := ((Below.refl _ _).alloc (Nat.le_refl _) _).alloc (by simp) _
 have k0 : ((w.alloc (Obj.cells #[.slice y1 y.heap.length d1, .slice y2 y.insts.length d2, .slice y3 y.units.length d3, .slice y4 y.out.length d4] 34)).alloc (Obj.cells #[.int .i64 0, .int .i64 0, .int .i64 0, .slice none 0 0, .int .i64 0, .int .i64 0, .string ⟨#[]⟩, .slice none 0 0, .int .i64 0] 48)).heap[w.heap.size]? = some (Obj.cells #[.slice y1 y.heap.length d1, .slice y2 y.insts.length d2, .slice y3 y.units.length d3, .slice y4 y.out.length d4] 34) := blk_past (blk_at _ _ _ rfl)
 have k1 : ((w.alloc (Obj.cells #[.slice y1 y.heap.length d1, .slice y2 y.insts.length d2, .slice y3 y.units.length d3, .slice y4 y.out.length d4] 34)).alloc (Obj.cells #[.int .i64 0, .int .i64 0, .int .i64 0, .slice none 0 0, .int .i64 0, .int .i64 0, .string ⟨#[]⟩, .slice none 0 0, .int .i64 0] 48)).heap[w.heap.size + 1]? = some (Obj.cells #[.int .i64 0, .int .i64 0, .int .i64 0, .slice none 0 0, .int .i64 0, .int .i64 0, .string ⟨#[]⟩, .slice none 0 0, .int .i64 0] 48) := blk_at _ _ _ (by simp)
 have HSY : Hid (∀ w1, Below w.heap.size w w1 → Calls Tryz.prog 9 #[.agg #[.slice y1 y.heap.length d1, .slice y2 y.insts.length d2, .slice y3 y.units.length d3, .slice y4 y.out.length d4]] w1 fun e w' => Ans w1 (.bool y.ok) e w') := fun w1 h1 => specSys_any y y1 y2 y3 y4 d1 d2 d3 d4 w1 hs (hr.keep fun b hb => ⟨Nat.lt_of_lt_of_le hb h1.size, h1.block b hb⟩) hfl
 obtain ⟨_, _, ⟨s3, s3'⟩, _⟩ := hs
 obtain ⟨_, _, ⟨r3, t3⟩, _⟩ := hr
 have hsb : stB y u = (y.ok && (decide (0 ≤ u) && decide (u < (y.units.length : Int)))) := rfl
 cases hy : y.ok with
 | false =>
  rw [hy] at HSY
  have hno : stB y u = false := by rw [hsb, hy]; rfl
  have HB : Hid (stB y u = false) := hno
  have HP : Hid (stP y u = (0, 0, 0)) := stP_no hno
  clear hno hsb r3 s3'
  go_enter Tryz.func18, Tryz.ntmps18
  go_wp2_with fail
  refine (HSY.out _ hb0).mono ?_
  rintro e v1 ⟨rfl, hv⟩
  have hb1 := hb0.trans (hv.mono hb0.size)
  have kY := blk_keep k0 hv (Array.getElem?_eq_some_iff.1 k0).1
  have kR := blk_keep k1 hv (Array.getElem?_eq_some_iff.1 k1).1
  have e2 := cell_blk (j := 2) kY rfl
  have hrl : w.heap.size + 1 < v1.heap.size := (Array.getElem?_eq_some_iff.1 kR).1
  have r0 := cell_blk (j := 0) kR rfl
  have s0 := frozen_blk kR 0
  have r1 := cell_blk (j := 1) kR rfl
  have s1 := frozen_blk kR 1
  have r2 := cell_blk (j := 2) kR rfl
  have s2 := frozen_blk kR 2
  have r3 := cell_blk (j := 3) kR rfl
  have s3 := frozen_blk kR 3
  have r4 := cell_blk (j := 4) kR rfl
  have s4 := frozen_blk kR 4
  have r5 := cell_blk (j := 5) kR rfl
  have s5 := frozen_blk kR 5
  have r6 := cell_blk (j := 6) kR rfl
  have s6 := frozen_blk kR 6
  have r7 := cell_blk (j := 7) kR rfl
  have s7 := frozen_blk kR 7
  have r8 := cell_blk (j := 8) kR rfl
  have s8 := frozen_blk kR 8
  go_wp2_with fail
  refine bodyPost_ret (res_mt rfl _ _ (w.heap.size + 1) _ _ _ _ _ _ _ _ _ rfl (put9 _ _ _ _ _ _ _ _ _ kR)) rfl ?_
  exact ⟨by rw [HP.out, HB.out]; rfl, put9_below hb1 (by omega) _ _ _ _ _ _ _ _ _⟩
 | true =>
  rw [hy] at HSY
  by_cases h1 : 0 ≤ u
  ·have g1 : decide (u < 0) = false := decide_eq_false (by omega)
   by_cases h2 : u < (y.units.length : Int)
   ·have g2 : decide ((y.units.length : Int) ≤ u) = false := decide_eq_false (by omega)
    obtain ⟨i, rfl⟩ : ∃ i : Nat, u = (i : Int) := ⟨u.toNat, by omega⟩
    obtain ⟨x, hx⟩ : ∃ x, y.units[i]? = some x := ⟨_, List.getElem?_eq_getElem (by omega)⟩
    obtain ⟨b1, o1, cs, rfl, hbb, ⟨an, cn, rfl, hrn, hcn⟩, hl⟩ := r3 i x hx
    have c2 : w.cell? ⟨b1, o1 + i * 3 + 2, none⟩ = some (.int .i64 x.prog.root) := hl 2 _ rfl
    have hyes : stB y i = true := by rw [hsb, hy, decide_eq_true h1, decide_eq_true h2]; rfl
    have HB : Hid (stB y i = true) := hyes
    have HP : Hid (stP y i = (1, (i : Int), x.prog.root)) := by
     show _ = _
     rw [stP_yes hyes]
     unfold stR
     rw [Int.toNat_natCast, hx]
    have hil : (i : Int) < (y.units.length : Int) := h2
    clear hsb hrn hl hyes hx r3 s3'
    go_enter Tryz.func18, Tryz.ntmps18
    go_wp2_with fail
    refine (HSY.out _ hb0).mono ?_
    rintro e v1 ⟨rfl, hv⟩
    have hb1 := hb0.trans (hv.mono hb0.size)
    have kY := blk_keep k0 hv (Array.getElem?_eq_some_iff.1 k0).1
    have kR := blk_keep k1 hv (Array.getElem?_eq_some_iff.1 k1).1
    have e2 := cell_blk (j := 2) kY rfl
    have hrl : w.heap.size + 1 < v1.heap.size := (Array.getElem?_eq_some_iff.1 kR).1
    have r0 := cell_blk (j := 0) kR rfl
    have s0 := frozen_blk kR 0
    have r1 := cell_blk (j := 1) kR rfl
    have s1 := frozen_blk kR 1
    have r2 := cell_blk (j := 2) kR rfl
    have s2 := frozen_blk kR 2
    have r3 := cell_blk (j := 3) kR rfl
    have s3 := frozen_blk kR 3
    have r4 := cell_blk (j := 4) kR rfl
    have s4 := frozen_blk kR 4
    have r5 := cell_blk (j := 5) kR rfl
    have s5 := frozen_blk kR 5
    have r6 := cell_blk (j := 6) kR rfl
    have s6 := frozen_blk kR 6
    have r7 := cell_blk (j := 7) kR rfl
    have s7 := frozen_blk kR 7
    have r8 := cell_blk (j := 8) kR rfl
    have s8 := frozen_blk kR 8
    have c3 : v1.cell? ⟨b1, o1 + i * 3 + 2, none⟩ = some (.int .i64 x.prog.root) := cell_keep c2 hb1 hbb
    have c4 : b1 < w.heap.size + 1 := by omega
    go_wp2_with fail
    refine bodyPost_ret (res_mt rfl _ _ (w.heap.size + 1) _ _ _ _ _ _ _ _ _ rfl (put9 _ _ _ _ _ _ _ _ _ kR)) rfl ?_
    exact ⟨by rw [HP.out, HB.out]; rfl, put9_below hb1 (by omega) _ _ _ _ _ _ _ _ _⟩
   ·have g2 : decide ((y.units.length : Int) ≤ u) = true := decide_eq_true (by omega)
    have hno : stB y u = false := by rw [hsb, decide_eq_false h2]; simp
    have HB : Hid (stB y u = false) := hno
    have HP : Hid (stP y u = (0, 0, 0)) := stP_no hno
    clear hno hsb r3 s3'
    go_enter Tryz.func18, Tryz.ntmps18
    go_wp2_with fail
    refine (HSY.out _ hb0).mono ?_
    rintro e v1 ⟨rfl, hv⟩
    have hb1 := hb0.trans (hv.mono hb0.size)
    have kY := blk_keep k0 hv (Array.getElem?_eq_some_iff.1 k0).1
    have kR := blk_keep k1 hv (Array.getElem?_eq_some_iff.1 k1).1
    have e2 := cell_blk (j := 2) kY rfl
    have hrl : w.heap.size + 1 < v1.heap.size := (Array.getElem?_eq_some_iff.1 kR).1
    have r0 := cell_blk (j := 0) kR rfl
    have s0 := frozen_blk kR 0
    have r1 := cell_blk (j := 1) kR rfl
    have s1 := frozen_blk kR 1
    have r2 := cell_blk (j := 2) kR rfl
    have s2 := frozen_blk kR 2
    have r3 := cell_blk (j := 3) kR rfl
    have s3 := frozen_blk kR 3
    have r4 := cell_blk (j := 4) kR rfl
    have s4 := frozen_blk kR 4
    have r5 := cell_blk (j := 5) kR rfl
    have s5 := frozen_blk kR 5
    have r6 := cell_blk (j := 6) kR rfl
    have s6 := frozen_blk kR 6
    have r7 := cell_blk (j := 7) kR rfl
    have s7 := frozen_blk kR 7
    have r8 := cell_blk (j := 8) kR rfl
    have s8 := frozen_blk kR 8
    go_wp2_with fail
    refine bodyPost_ret (res_mt rfl _ _ (w.heap.size + 1) _ _ _ _ _ _ _ _ _ rfl (put9 _ _ _ _ _ _ _ _ _ kR)) rfl ?_
    exact ⟨by rw [HP.out, HB.out]; rfl, put9_below hb1 (by omega) _ _ _ _ _ _ _ _ _⟩
  ·have g1 : decide (u < 0) = true := decide_eq_true (by omega)
   have hno : stB y u = false := by rw [hsb, decide_eq_false h1]; simp
   have HB : Hid (stB y u = false) := hno
   have HP : Hid (stP y u = (0, 0, 0)) := stP_no hno
   clear hno hsb r3 s3'
   go_enter Tryz.func18, Tryz.ntmps18
   go_wp2_with fail
   refine (HSY.out _ hb0).mono ?_
   rintro e v1 ⟨rfl, hv⟩
   have hb1 := hb0.trans (hv.mono hb0.size)
   have kY := blk_keep k0 hv (Array.getElem?_eq_some_iff.1 k0).1
   have kR := blk_keep k1 hv (Array.getElem?_eq_some_iff.1 k1).1
   have e2 := cell_blk (j := 2) kY rfl
   have hrl : w.heap.size + 1 < v1.heap.size := (Array.getElem?_eq_some_iff.1 kR).1
   have r0 := cell_blk (j := 0) kR rfl
   have s0 := frozen_blk kR 0
   have r1 := cell_blk (j := 1) kR rfl
   have s1 := frozen_blk kR 1
   have r2 := cell_blk (j := 2) kR rfl
   have s2 := frozen_blk kR 2
   have r3 := cell_blk (j := 3) kR rfl
   have s3 := frozen_blk kR 3
   have r4 := cell_blk (j := 4) kR rfl
   have s4 := frozen_blk kR 4
   have r5 := cell_blk (j := 5) kR rfl
   have s5 := frozen_blk kR 5
   have r6 := cell_blk (j := 6) kR rfl
   have s6 := frozen_blk kR 6
   have r7 := cell_blk (j := 7) kR rfl
   have s7 := frozen_blk kR 7
   have r8 := cell_blk (j := 8) kR rfl
   have s8 := frozen_blk kR 8
   go_wp2_with fail
   refine bodyPost_ret (res_mt rfl _ _ (w.heap.size + 1) _ _ _ _ _ _ _ _ _ rfl (put9 _ _ _ _ _ _ _ _ _ kR)) rfl ?_
   exact ⟨by rw [HP.out, HB.out]; rfl, put9_below hb1 (by omega) _ _ _ _ _ _ _ _ _⟩
set_option maxRecDepth 100000 in
set_option maxHeartbeats 4000000 in
theorem implStart_any (y : Sy) (y1 y2 y3 y4 : Option Addr) (d1 d2 d3 d4 : Nat) (u : Int) (w : World) (hs : y.small) (hr : SyRows w (fun b => b < w.heap.size) y1 y2 y3 y4 d1 d2 d3 d4 y) :
  Calls Tryz.prog 19 #[.agg #[.slice y1 y.heap.length d1, .slice y2 y.insts.length d2, .slice y3 y.units.length d3, .slice y4 y.out.length d4], .int .i64 u] w fun e w' => Ans w (.tuple #[.agg #[.int .i64 (stP y u).1, .int .i64 (stP y u).2.1, .int .i64 (stP y u).2.2, .slice none 0 0, .int .i64 0, .int .i64 0, .string ⟨#[]⟩, .slice none 0 0, .int .i64 0], .bool (stB y u)]) e w' := by
 have hb0 : Below w.heap.size w ((w.alloc (Obj.cells #[.slice y1 y.heap.length d1, .slice y2 y.insts.length d2, .slice y3 y.units.length d3, .slice y4 y.out.length d4] 34)).alloc (Obj.cells #[.int .i64 0, .int .i64 0, .int .i64 0, .slice none 0 0, .int .i64 0, .int .i64 0, .string ⟨#[]⟩, .slice none 0 0, .int .i64 0] 48)) := ((Below.refl _ _).alloc (Nat.le_refl _) _).alloc (by simp) _
 have k0 : ((w.alloc (Obj.cells #[.slice y1 y.heap.length d1, .slice y2 y.insts.length d2, .slice y3 y.units.length d3, .slice y4 y.out.length d4] 34)).alloc (Obj.cells #[.int .i64 0, .int .i64 0, .int .i64 0, .slice none 0 0, .int .i64 0, .int .i64 0, .string ⟨#[]⟩, .slice none 0 0, .int .i64 0] 48)).heap[w.heap.size]? = some (Obj.cells #[.slice y1 y.heap.length d1, .slice y2 y.insts.length d2, .slice y3 y.units.length d3, .slice y4 y.out.length d4] 34) := blk_past (blk_at _ _ _ rfl)
 have k1 : ((w.alloc (Obj.cells #[.slice y1 y.heap.length d1, .slice y2 y.insts.length d2, .slice y3 y.units.length d3, .slice y4 y.out.length d4] 34)).alloc (Obj.cells #[.int .i64 0, .int .i64 0, .int .i64 0, .slice none 0 0, .int .i64 0, .int .i64 0, .string ⟨#[]⟩, .slice none 0 0, .int .i64 0] 48)).heap[w.heap.size + 1]? = some (Obj.cells #[.int .i64 0, .int .i64 0, .int .i64 0, .slice none 0 0, .int .i64 0, .int .i64 0, .string ⟨#[]⟩, .slice none 0 0, .int .i64 0] 48) := blk_at _ _ _ (by simp)
 have HSY : Hid (∀ w1, Below w.heap.size w w1 → Calls Tryz.prog 11 #[.agg #[.slice y1 y.heap.length d1, .slice y2 y.insts.length d2, .slice y3 y.units.length d3, .slice y4 y.out.length d4]] w1 fun e w' => Ans w1 (.bool y.ok) e w') := fun w1 h1 => implSys_any y y1 y2 y3 y4 d1 d2 d3 d4 w1 hs (hr.keep fun b hb => ⟨Nat.lt_of_lt_of_le hb h1.size, h1.block b hb⟩)
 obtain ⟨_, _, ⟨s3, s3'⟩, _⟩ := hs
 obtain ⟨_, _, ⟨r3, t3⟩, _⟩ := hr
 have hsb : stB y u = (y.ok && (decide (0 ≤ u) && decide (u < (y.units.length : Int)))) := rfl
 by_cases h1 : 0 ≤ u
 ·have g1 : decide (u < 0) = false := decide_eq_false (by omega)
  by_cases h2 : u < (y.units.length : Int)
  ·have g2 : decide ((y.units.length : Int) ≤ u) = false := decide_eq_false (by omega)
   cases hy : y.ok with
   | false =>
    rw [hy] at HSY
    have hno : stB y u = false := by rw [hsb, hy]; rfl
    have HB : Hid (stB y u = false) := hno
    have HP : Hid (stP y u = (0, 0, 0)) := stP_no hno
    clear hno hsb r3 s3'
    go_enter Tryz.func19, Tryz.ntmps19
    go_wp2_with fail
    refine (HSY.out _ hb0).mono ?_
    rintro e v1 ⟨rfl, hv⟩
    have hb1 := hb0.trans (hv.mono hb0.size)
    have kY := blk_keep k0 hv (Array.getElem?_eq_some_iff.1 k0).1
    have kR := blk_keep k1 hv (Array.getElem?_eq_some_iff.1 k1).1
    have e2 := cell_blk (j := 2) kY rfl
    have hrl : w.heap.size + 1 < v1.heap.size := (Array.getElem?_eq_some_iff.1 kR).1
    have r0 := cell_blk (j := 0) kR rfl
    have s0 := frozen_blk kR 0
    have r1 := cell_blk (j := 1) kR rfl
    have s1 := frozen_blk kR 1
    have r2 := cell_blk (j := 2) kR rfl
    have s2 := frozen_blk kR 2
    have r3 := cell_blk (j := 3) kR rfl
    have s3 := frozen_blk kR 3
    have r4 := cell_blk (j := 4) kR rfl
    have s4 := frozen_blk kR 4
    have r5 := cell_blk (j := 5) kR rfl
    have s5 := frozen_blk kR 5
    have r6 := cell_blk (j := 6) kR rfl
    have s6 := frozen_blk kR 6
    have r7 := cell_blk (j := 7) kR rfl
    have s7 := frozen_blk kR 7
    have r8 := cell_blk (j := 8) kR rfl
    have s8 := frozen_blk kR 8
    go_wp2_with fail
    refine bodyPost_ret (res_mt rfl _ _ (w.heap.size + 1) _ _ _ _ _ _ _ _ _ rfl (put9 _ _ _ _ _ _ _ _ _ kR)) rfl ?_
    exact ⟨by rw [HP.out, HB.out]; rfl, put9_below hb1 (by omega) _ _ _ _ _ _ _ _ _⟩
   | true =>
    rw [hy] at HSY
    obtain ⟨i, rfl⟩ : ∃ i : Nat, u = (i : Int) := ⟨u.toNat, by omega⟩
    obtain ⟨x, hx⟩ : ∃ x, y.units[i]? = some x := ⟨_, List.getElem?_eq_getElem (by omega)⟩
    obtain ⟨b1, o1, cs, rfl, hbb, ⟨an, cn, rfl, hrn, hcn⟩, hl⟩ := r3 i x hx
    have c2 : w.cell? ⟨b1, o1 + i * 3 + 2, none⟩ = some (.int .i64 x.prog.root) := hl 2 _ rfl
    have hyes : stB y i = true := by rw [hsb, hy, decide_eq_true h1, decide_eq_true h2]; rfl
    have HB : Hid (stB y i = true) := hyes
    have HP : Hid (stP y i = (1, (i : Int), x.prog.root)) := by
     show _ = _
     rw [stP_yes hyes]
     unfold stR
     rw [Int.toNat_natCast, hx]
    have hil : (i : Int) < (y.units.length : Int) := h2
    clear hsb hrn hl hyes hx r3 s3'
    go_enter Tryz.func19, Tryz.ntmps19
    go_wp2_with fail
    refine (HSY.out _ hb0).mono ?_
    rintro e v1 ⟨rfl, hv⟩
    have hb1 := hb0.trans (hv.mono hb0.size)
    have kY := blk_keep k0 hv (Array.getElem?_eq_some_iff.1 k0).1
    have kR := blk_keep k1 hv (Array.getElem?_eq_some_iff.1 k1).1
    have e2 := cell_blk (j := 2) kY rfl
    have hrl : w.heap.size + 1 < v1.heap.size := (Array.getElem?_eq_some_iff.1 kR).1
    have r0 := cell_blk (j := 0) kR rfl
    have s0 := frozen_blk kR 0
    have r1 := cell_blk (j := 1) kR rfl
    have s1 := frozen_blk kR 1
    have r2 := cell_blk (j := 2) kR rfl
    have s2 := frozen_blk kR 2
    have r3 := cell_blk (j := 3) kR rfl
    have s3 := frozen_blk kR 3
    have r4 := cell_blk (j := 4) kR rfl
    have s4 := frozen_blk kR 4
    have r5 := cell_blk (j := 5) kR rfl
    have s5 := frozen_blk kR 5
    have r6 := cell_blk (j := 6) kR rfl
    have s6 := frozen_blk kR 6
    have r7 := cell_blk (j := 7) kR rfl
    have s7 := frozen_blk kR 7
    have r8 := cell_blk (j := 8) kR rfl
    have s8 := frozen_blk kR 8
    have c3 : v1.cell? ⟨b1, o1 + i * 3 + 2, none⟩ = some (.int .i64 x.prog.root) := cell_keep c2 hb1 hbb
    have c4 : b1 < w.heap.size + 1 := by omega
    go_wp2_with fail
    refine bodyPost_ret (res_mt rfl _ _ (w.heap.size + 1) _ _ _ _ _ _ _ _ _ rfl (put9 _ _ _ _ _ _ _ _ _ kR)) rfl ?_
    exact ⟨by rw [HP.out, HB.out]; rfl, put9_below hb1 (by omega) _ _ _ _ _ _ _ _ _⟩
  ·have g2 : decide ((y.units.length : Int) ≤ u) = true := decide_eq_true (by omega)
   have hno : stB y u = false := by rw [hsb, decide_eq_false h2]; simp
   have HB : Hid (stB y u = false) := hno
   have HP : Hid (stP y u = (0, 0, 0)) := stP_no hno
   clear hno hsb r3 s3'
   go_enter Tryz.func19, Tryz.ntmps19
   go_wp2_with fail
   refine bodyPost_ret (res_mt rfl _ _ (w.heap.size + 1) _ _ _ _ _ _ _ _ _ rfl (blk_at _ _ _ (by simp))) rfl ?_
   exact ⟨by rw [HP.out, HB.out]; rfl, hb0⟩
 ·have g1 : decide (u < 0) = true := decide_eq_true (by omega)
  have hno : stB y u = false := by rw [hsb, decide_eq_false h1]; simp
  have HB : Hid (stB y u = false) := hno
  have HP : Hid (stP y u = (0, 0, 0)) := stP_no hno
  clear hno hsb r3 s3'
  go_enter Tryz.func19, Tryz.ntmps19
  go_wp2_with fail
  refine bodyPost_ret (res_mt rfl _ _ (w.heap.size + 1) _ _ _ _ _ _ _ _ _ rfl (blk_at _ _ _ (by simp))) rfl ?_
  exact ⟨by rw [HP.out, HB.out]; rfl, hb0⟩
set_option maxRecDepth 100000 in
set_option maxHeartbeats 1000000 in
theorem mkB_nil (k : Nat) (w : World) (hk : k ≤ 9000000) : Calls Tryz.prog 57 #[.slice none 0 0, .int .i64 (k : Int)] w fun e w' => Ans w (.int .i64 (k : Int)) e w' := by
 go_enter Tryz.func57, Tryz.ntmps57
 go_wp2
 go_loopw [1, 5] (fun kv o wr => kv = .int .i64 (k : Int) ∧ o = .int .i64 0 ∧ wr = w) (fun _ _ _ => 0)
 case atStart => exact ⟨rfl, rfl, rfl⟩
 case round =>
  obtain ⟨rfl, rfl, rfl⟩ := hrel
  go_wp2
  go_ret
  exact ⟨rfl, Below.refl _ _⟩
set_option maxRecDepth 100000 in
set_option maxHeartbeats 1000000 in
theorem mkF_nil (k : Nat) (w : World) (hk : k ≤ 9000000) : Calls Tryz.prog 58 #[.slice none 0 0, .int .i64 (k : Int)] w fun e w' => Ans w (.int .i64 (k : Int)) e w' := by
 go_enter Tryz.func58, Tryz.ntmps58
 go_wp2
 go_loopw [1, 5] (fun kv o wr => kv = .int .i64 (k : Int) ∧ o = .int .i64 0 ∧ wr = w) (fun _ _ _ => 0)
 case atStart => exact ⟨rfl, rfl, rfl⟩
 case round =>
  obtain ⟨rfl, rfl, rfl⟩ := hrel
  go_wp2
  go_ret
  exact ⟨rfl, Below.refl _ _⟩
set_option maxRecDepth 100000 in
set_option maxHeartbeats 1000000 in
theorem hdB_nil (k : Nat) (w : World) (hk : k ≤ 9000000) : Calls Tryz.prog 59 #[.slice none 0 0, .int .i64 (k : Int)] w fun e w' => Ans w (.int .i64 (k : Int)) e w' := by
 go_enter Tryz.func59, Tryz.ntmps59
 go_wp2
 go_loopw [1, 5] (fun kv o wr => kv = .int .i64 (k : Int) ∧ o = .int .i64 0 ∧ wr = w) (fun _ _ _ => 0)
 case atStart => exact ⟨rfl, rfl, rfl⟩
 case round =>
  obtain ⟨rfl, rfl, rfl⟩ := hrel
  go_wp2
  go_ret
  exact ⟨rfl, Below.refl _ _⟩
set_option maxRecDepth 100000 in
set_option maxHeartbeats 1000000 in
theorem hdF_nil (k : Nat) (w : World) (hk : k ≤ 9000000) : Calls Tryz.prog 60 #[.slice none 0 0, .int .i64 (k : Int)] w fun e w' => Ans w (.int .i64 (k : Int)) e w' := by
 go_enter Tryz.func60, Tryz.ntmps60
 go_wp2
 go_loopw [1, 5] (fun kv o wr => kv = .int .i64 (k : Int) ∧ o = .int .i64 0 ∧ wr = w) (fun _ _ _ => 0)
 case atStart => exact ⟨rfl, rfl, rfl⟩
 case round =>
  obtain ⟨rfl, rfl, rfl⟩ := hrel
  go_wp2
  go_ret
  exact ⟨rfl, Below.refl _ _⟩
set_option maxRecDepth 100000 in
set_option maxHeartbeats 1000000 in
theorem mkM_nil (p q r : Int) (k : Nat) (w : World) (hk : k ≤ 9000000) : Calls Tryz.prog 22 #[.agg #[.int .i64 p, .int .i64 q, .int .i64 r, .slice none 0 0, .int .i64 0, .int .i64 0, .string ⟨#[]⟩, .slice none 0 0, .int .i64 0], .int .i64 (k : Int)] w fun e w' => Ans w (.int .i64 (k : Int)) e w' := by
 have hb0 : Below w.heap.size w (w.alloc (Obj.cells #[.int .i64 p, .int .i64 q, .int .i64 r, .slice none 0 0, .int .i64 0, .int .i64 0, .string ⟨#[]⟩, .slice none 0 0, .int .i64 0] 48)) := (Below.refl _ _).alloc (Nat.le_refl _) _
 have k0 : (w.alloc (Obj.cells #[.int .i64 p, .int .i64 q, .int .i64 r, .slice none 0 0, .int .i64 0, .int .i64 0, .string ⟨#[]⟩, .slice none 0 0, .int .i64 0] 48)).heap[w.heap.size]? = some (Obj.cells #[.int .i64 p, .int .i64 q, .int .i64 r, .slice none 0 0, .int .i64 0, .int .i64 0, .string ⟨#[]⟩, .slice none 0 0, .int .i64 0] 48) := blk_at _ _ _ rfl
 have H1 : Hid (∀ w1, Calls Tryz.prog 57 #[.slice none 0 0, .int .i64 (k : Int)] w1 fun e w' => Ans w1 (.int .i64 (k : Int)) e w') := fun w1 => mkB_nil k w1 hk
 have H2 : Hid (∀ w1, Calls Tryz.prog 58 #[.slice none 0 0, .int .i64 (k : Int)] w1 fun e w' => Ans w1 (.int .i64 (k : Int)) e w') := fun w1 => mkF_nil k w1 hk
 have g0 : decide ((k : Int) < 0) = false := by simp
 go_enter Tryz.func22, Tryz.ntmps22
 go_wp2_with fail
 refine (H1.out _).mono ?_
 rintro e v1 ⟨rfl, hv1⟩
 have hb1 := hb0.trans (hv1.mono hb0.size)
 have k1 := blk_keep k0 hv1 (Array.getElem?_eq_some_iff.1 k0).1
 have e7 := cell_blk (j := 7) k1 rfl
 go_wp2_with fail
 refine (H2.out _).mono ?_
 rintro e v2 ⟨rfl, hv2⟩
 go_wp2
 go_ret
 exact ⟨rfl, hb1.trans (hv2.mono hb1.size)⟩
set_option maxRecDepth 100000 in
set_option maxHeartbeats 1000000 in
theorem hdM_nil (p q r : Int) (k : Nat) (w : World) (hk : k ≤ 9000000) : Calls Tryz.prog 23 #[.agg #[.int .i64 p, .int .i64 q, .int .i64 r, .slice none 0 0, .int .i64 0, .int .i64 0, .string ⟨#[]⟩, .slice none 0 0, .int .i64 0], .int .i64 (k : Int)] w fun e w' => Ans w (.int .i64 (k : Int)) e w' := by
 have hb0 : Below w.heap.size w (w.alloc (Obj.cells #[.int .i64 p, .int .i64 q, .int .i64 r, .slice none 0 0, .int .i64 0, .int .i64 0, .string ⟨#[]⟩, .slice none 0 0, .int .i64 0] 48)) := (Below.refl _ _).alloc (Nat.le_refl _) _
 have k0 : (w.alloc (Obj.cells #[.int .i64 p, .int .i64 q, .int .i64 r, .slice none 0 0, .int .i64 0, .int .i64 0, .string ⟨#[]⟩, .slice none 0 0, .int .i64 0] 48)).heap[w.heap.size]? = some (Obj.cells #[.int .i64 p, .int .i64 q, .int .i64 r, .slice none 0 0, .int .i64 0, .int .i64 0, .string ⟨#[]⟩, .slice none 0 0, .int .i64 0] 48) := blk_at _ _ _ rfl
 have H1 : Hid (∀ w1, Calls Tryz.prog 59 #[.slice none 0 0, .int .i64 (k : Int)] w1 fun e w' => Ans w1 (.int .i64 (k : Int)) e w') := fun w1 => hdB_nil k w1 hk
 have H2 : Hid (∀ w1, Calls Tryz.prog 60 #[.slice none 0 0, .int .i64 (k : Int)] w1 fun e w' => Ans w1 (.int .i64 (k : Int)) e w') := fun w1 => hdF_nil k w1 hk
 have g0 : decide ((k : Int) < 0) = false := by simp
 go_enter Tryz.func23, Tryz.ntmps23
 go_wp2_with fail
 refine (H1.out _).mono ?_
 rintro e v1 ⟨rfl, hv1⟩
 have hb1 := hb0.trans (hv1.mono hb0.size)
 have k1 := blk_keep k0 hv1 (Array.getElem?_eq_some_iff.1 k0).1
 have e7 := cell_blk (j := 7) k1 rfl
 go_wp2_with fail
 refine (H2.out _).mono ?_
 rintro e v2 ⟨rfl, hv2⟩
 go_wp2
 go_ret
 exact ⟨rfl, hb1.trans (hv2.mono hb1.size)⟩
end Go.Proofs.YtmnkomgdcebniaaGreat
