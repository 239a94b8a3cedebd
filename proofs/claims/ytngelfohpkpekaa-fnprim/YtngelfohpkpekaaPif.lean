/- The program's primitives, whichever it is. -/
import Derived.Test.YtngelfohpkpekaaPic
import Derived.Test.YtngelfohpkpekaaPid
import Derived.Test.YtngelfohpkpekaaPie
import Derived.Test.YtngelfohpkpekaaTbl
import Derived.Test.YtngelfohpkpekaaPsp
set_option linter.unusedVariables false
namespace Go.Proofs.Ytngelfohpkpekaa
open Go.ChangeShapes Go.WideShapes Go.ChangeAt Go.RowKit
/-- What a primitive, or do, leaves of the primer and its heap. -/
def DoP (B T bp : Nat) (av : Value) (r : List Cel × Val × Int) (w : World) (e : Ending) (w' : World) : Prop :=
  e = .returned (.tuple #[.agg #[.int .i64 r.2.1.k, .int .i64 r.2.1.n, .string r.2.1.s], .int .i64 r.2.2]) ∧ ∃ hv, w'.heap[bp]? = some (.cells #[hv, av] 52 (0, 0)) ∧
    OwnH w' B w'.heap.size hv r.1 ∧ (∀ b, UsesH w' hv r.1 b → b < T ∨ w.heap.size < b) ∧ (∀ b, T ≤ b → b < w.heap.size → b ≠ bp → w'.heap[b]? = w.heap[b]?) ∧ Below B w w'
theorem dop_of_vc {B T bp : Nat} {hv av : Value} {h : List Cel} {r : List Cel × Val × Int} {w w' : World} {e : Ending} (hP : w.heap[bp]? = some (.cells #[hv, av] 52 (0, 0))) (ho : OwnH w B T hv h) (hT : T ≤ bp) (hBT : B ≤ T) (hr : r.1 = h) (hv' : VcPost r.2 w e w') : DoP B T bp av r w e w' := by
  obtain ⟨rfl, hb⟩ := hv'
  have hbp : bp < w.heap.size := (Array.getElem?_eq_some_iff.1 hP).1
  have hk : ∀ b, b < T → w'.heap[b]? = w.heap[b]? := fun b hb' => hb.block b (by omega)
  refine ⟨rfl, hv, (hb.block bp hbp).trans hP, ?_, fun b hu => .inl ?_, fun b _ h2 _ => hb.block b h2, hb.mono (by omega)⟩
  · rw [hr]
    exact (ho.keep fun b _ hb' _ => hk b hb').weak (Nat.le_refl _) (by have := hb.size; omega)
  · rw [hr] at hu
    exact (ho.uses (hu.of_same fun g hg => hk g (ho.lt hg).2.1)).2
theorem meth_0 (B T bp : Nat) (ah : Option Addr) (ch : Nat) (aa : Option Addr) (ca : Nat) (h : List Cel) (s : ByteArray) (a : List Val) (w : World) (hP : w.heap[bp]? = some (.cells #[.slice ah h.length ch, .slice aa a.length ca] 52 (0, 0))) (hr : RowV w w.heap.size aa a) (hsm : ∀ d ∈ h, d.small) (has : ∀ v ∈ a, v.small) (ho : OwnH w B T (.slice ah h.length ch) h) (hT : T ≤ bp) (hBT : B ≤ T) (hg : GoodP 0 h s a) : Calls Try.prog 56 #[.pointer (some ⟨bp, 0, none⟩)] w fun e w' => DoP B T bp (.slice aa a.length ca) (primP 0 h a) w e w' := by
  obtain ⟨-, hH, hl, hok⟩ := hg
  have hbp : bp < w.heap.size := (Array.getElem?_eq_some_iff.1 hP).1
  have hrh : RowC w w.heap.size ah h := ho.row
  match a, hl with
  | [x, y], _ =>
    have hx := hok x (by simp)
    have hy := hok y (by simp)
    refine (add_any bp _ aa ca h x y w hP hr hx hy).mono fun e w' hv => dop_of_vc (r := primP 0 h [x, y]) hP ho hT hBT ?_ hv
    simp only [primP, prim2]
    rw [if_pos (by omega)]
    split <;> rfl
theorem meth_1 (B T bp : Nat) (ah : Option Addr) (ch : Nat) (aa : Option Addr) (ca : Nat) (h : List Cel) (s : ByteArray) (a : List Val) (w : World) (hP : w.heap[bp]? = some (.cells #[.slice ah h.length ch, .slice aa a.length ca] 52 (0, 0))) (hr : RowV w w.heap.size aa a) (hsm : ∀ d ∈ h, d.small) (has : ∀ v ∈ a, v.small) (ho : OwnH w B T (.slice ah h.length ch) h) (hT : T ≤ bp) (hBT : B ≤ T) (hg : GoodP 1 h s a) : Calls Try.prog 57 #[.pointer (some ⟨bp, 0, none⟩)] w fun e w' => DoP B T bp (.slice aa a.length ca) (primP 1 h a) w e w' := by
  obtain ⟨-, hH, hl, hok⟩ := hg
  have hbp : bp < w.heap.size := (Array.getElem?_eq_some_iff.1 hP).1
  have hrh : RowC w w.heap.size ah h := ho.row
  match a, hl with
  | [x, y], _ =>
    have hx := hok x (by simp)
    have hy := hok y (by simp)
    refine (subtract_any bp _ aa ca h x y w hP hr hx hy).mono fun e w' hv => dop_of_vc (r := primP 1 h [x, y]) hP ho hT hBT ?_ hv
    simp only [primP, prim2]
    rw [if_pos (by omega)]
    split <;> rfl
theorem meth_2 (B T bp : Nat) (ah : Option Addr) (ch : Nat) (aa : Option Addr) (ca : Nat) (h : List Cel) (s : ByteArray) (a : List Val) (w : World) (hP : w.heap[bp]? = some (.cells #[.slice ah h.length ch, .slice aa a.length ca] 52 (0, 0))) (hr : RowV w w.heap.size aa a) (hsm : ∀ d ∈ h, d.small) (has : ∀ v ∈ a, v.small) (ho : OwnH w B T (.slice ah h.length ch) h) (hT : T ≤ bp) (hBT : B ≤ T) (hg : GoodP 2 h s a) : Calls Try.prog 58 #[.pointer (some ⟨bp, 0, none⟩)] w fun e w' => DoP B T bp (.slice aa a.length ca) (primP 2 h a) w e w' := by
  obtain ⟨-, hH, hl, hok⟩ := hg
  have hbp : bp < w.heap.size := (Array.getElem?_eq_some_iff.1 hP).1
  have hrh : RowC w w.heap.size ah h := ho.row
  match a, hl with
  | [x, y], _ =>
    have hx := hok x (by simp)
    have hy := hok y (by simp)
    refine (multiply_any bp _ aa ca h x y w hP hr hx hy).mono fun e w' hv => dop_of_vc (r := primP 2 h [x, y]) hP ho hT hBT ?_ hv
    simp only [primP, prim2]
    rw [if_pos (by omega)]
    split <;> rfl
theorem meth_3 (B T bp : Nat) (ah : Option Addr) (ch : Nat) (aa : Option Addr) (ca : Nat) (h : List Cel) (s : ByteArray) (a : List Val) (w : World) (hP : w.heap[bp]? = some (.cells #[.slice ah h.length ch, .slice aa a.length ca] 52 (0, 0))) (hr : RowV w w.heap.size aa a) (hsm : ∀ d ∈ h, d.small) (has : ∀ v ∈ a, v.small) (ho : OwnH w B T (.slice ah h.length ch) h) (hT : T ≤ bp) (hBT : B ≤ T) (hg : GoodP 3 h s a) : Calls Try.prog 59 #[.pointer (some ⟨bp, 0, none⟩)] w fun e w' => DoP B T bp (.slice aa a.length ca) (primP 3 h a) w e w' := by
  obtain ⟨-, hH, hl, hok⟩ := hg
  have hbp : bp < w.heap.size := (Array.getElem?_eq_some_iff.1 hP).1
  have hrh : RowC w w.heap.size ah h := ho.row
  match a, hl with
  | [x, y], _ =>
    have hx := hok x (by simp)
    have hy := hok y (by simp)
    refine (less_any bp _ aa ca h x y w hP hr hx hy).mono fun e w' hv => dop_of_vc (r := primP 3 h [x, y]) hP ho hT hBT ?_ hv
    simp only [primP, prim2]
    rw [if_pos (by omega)]
    split <;> rfl
theorem meth_4 (B T bp : Nat) (ah : Option Addr) (ch : Nat) (aa : Option Addr) (ca : Nat) (h : List Cel) (s : ByteArray) (a : List Val) (w : World) (hP : w.heap[bp]? = some (.cells #[.slice ah h.length ch, .slice aa a.length ca] 52 (0, 0))) (hr : RowV w w.heap.size aa a) (hsm : ∀ d ∈ h, d.small) (has : ∀ v ∈ a, v.small) (ho : OwnH w B T (.slice ah h.length ch) h) (hT : T ≤ bp) (hBT : B ≤ T) (hg : GoodP 4 h s a) : Calls Try.prog 60 #[.pointer (some ⟨bp, 0, none⟩)] w fun e w' => DoP B T bp (.slice aa a.length ca) (primP 4 h a) w e w' := by
  obtain ⟨-, hH, hl, hok⟩ := hg
  have hbp : bp < w.heap.size := (Array.getElem?_eq_some_iff.1 hP).1
  have hrh : RowC w w.heap.size ah h := ho.row
  match a, hl with
  | [x, y], _ =>
    have hx := hok x (by simp)
    have hy := hok y (by simp)
    refine (equal_any bp _ aa ca h x y w hP hr hx hy).mono fun e w' hv => dop_of_vc (r := primP 4 h [x, y]) hP ho hT hBT ?_ hv
    simp only [primP, prim2]
    rw [if_pos (by omega)]
    split <;> rfl
theorem meth_5 (B T bp : Nat) (ah : Option Addr) (ch : Nat) (aa : Option Addr) (ca : Nat) (h : List Cel) (s : ByteArray) (a : List Val) (w : World) (hP : w.heap[bp]? = some (.cells #[.slice ah h.length ch, .slice aa a.length ca] 52 (0, 0))) (hr : RowV w w.heap.size aa a) (hsm : ∀ d ∈ h, d.small) (has : ∀ v ∈ a, v.small) (ho : OwnH w B T (.slice ah h.length ch) h) (hT : T ≤ bp) (hBT : B ≤ T) (hg : GoodP 5 h s a) : Calls Try.prog 61 #[.pointer (some ⟨bp, 0, none⟩)] w fun e w' => DoP B T bp (.slice aa a.length ca) (primP 5 h a) w e w' := by
  obtain ⟨-, hH, hl, hok⟩ := hg
  have hbp : bp < w.heap.size := (Array.getElem?_eq_some_iff.1 hP).1
  have hrh : RowC w w.heap.size ah h := ho.row
  match a, hl with
  | [x, y], _ =>
    have hx := hok x (by simp)
    have hy := hok y (by simp)
    exact (same_any bp _ aa ca h x y w hP hr).mono fun e w' hv => dop_of_vc (r := primP 5 h [x, y]) hP ho hT hBT (by simp [primP, prim2]) hv
theorem meth_6 (B T bp : Nat) (ah : Option Addr) (ch : Nat) (aa : Option Addr) (ca : Nat) (h : List Cel) (s : ByteArray) (a : List Val) (w : World) (hP : w.heap[bp]? = some (.cells #[.slice ah h.length ch, .slice aa a.length ca] 52 (0, 0))) (hr : RowV w w.heap.size aa a) (hsm : ∀ d ∈ h, d.small) (has : ∀ v ∈ a, v.small) (ho : OwnH w B T (.slice ah h.length ch) h) (hT : T ≤ bp) (hBT : B ≤ T) (hg : GoodP 6 h s a) : Calls Try.prog 62 #[.pointer (some ⟨bp, 0, none⟩)] w fun e w' => DoP B T bp (.slice aa a.length ca) (primP 6 h a) w e w' := by
  obtain ⟨-, hH, hl, hok⟩ := hg
  have hbp : bp < w.heap.size := (Array.getElem?_eq_some_iff.1 hP).1
  have hrh : RowC w w.heap.size ah h := ho.row
  match a, hl with
  | [x, y], _ =>
    have hx := hok x (by simp)
    have hy := hok y (by simp)
    by_cases hf : h.length = 300
    · have e : primP 6 h [x, y] = (h, zv, 7) := by simp [primP, prim2, hf]
      rw [e]
      exact (cons_full B T bp ah ch aa ca h x y w hP hr hf).mono fun e w' hv => dop_of_vc (r := (h, zv, 7)) hP ho hT hBT rfl hv
    · have hlt : h.length < 300 := by have := hH.1; omega
      have e : primP 6 h [x, y] = (h ++ [consC x y], ⟨5, h.length, ⟨#[]⟩⟩, 0) := by simp [primP, prim2]; omega
      rw [e]
      refine (cons_any B T bp ah ch aa ca h x y w hP hr hlt (has x (by simp)).2.2 (has y (by simp)).2.2 ho hT hBT).mono fun e w' hc => ?_
      obtain ⟨rfl, ah', ch', h1, h2, h3, h4, h5⟩ := hc
      exact ⟨rfl, _, h1, h2, h3, h4, h5⟩
theorem meth_7 (B T bp : Nat) (ah : Option Addr) (ch : Nat) (aa : Option Addr) (ca : Nat) (h : List Cel) (s : ByteArray) (a : List Val) (w : World) (hP : w.heap[bp]? = some (.cells #[.slice ah h.length ch, .slice aa a.length ca] 52 (0, 0))) (hr : RowV w w.heap.size aa a) (hsm : ∀ d ∈ h, d.small) (has : ∀ v ∈ a, v.small) (ho : OwnH w B T (.slice ah h.length ch) h) (hT : T ≤ bp) (hBT : B ≤ T) (hg : GoodP 7 h s a) : Calls Try.prog 63 #[.pointer (some ⟨bp, 0, none⟩)] w fun e w' => DoP B T bp (.slice aa a.length ca) (primP 7 h a) w e w' := by
  obtain ⟨-, hH, hl, hok⟩ := hg
  have hbp : bp < w.heap.size := (Array.getElem?_eq_some_iff.1 hP).1
  have hrh : RowC w w.heap.size ah h := ho.row
  match a, hl with
  | [x], _ =>
    have hx := hok x (by simp)
    refine (car_any bp ah ch aa ca h x w hP hr hH hsm hx hrh).mono fun e w' hv => dop_of_vc (r := primP 7 h [x]) hP ho hT hBT ?_ hv
    show (prim1 7 h x).1 = h
    unfold prim1
    repeat' split
    all_goals rfl
theorem meth_8 (B T bp : Nat) (ah : Option Addr) (ch : Nat) (aa : Option Addr) (ca : Nat) (h : List Cel) (s : ByteArray) (a : List Val) (w : World) (hP : w.heap[bp]? = some (.cells #[.slice ah h.length ch, .slice aa a.length ca] 52 (0, 0))) (hr : RowV w w.heap.size aa a) (hsm : ∀ d ∈ h, d.small) (has : ∀ v ∈ a, v.small) (ho : OwnH w B T (.slice ah h.length ch) h) (hT : T ≤ bp) (hBT : B ≤ T) (hg : GoodP 8 h s a) : Calls Try.prog 64 #[.pointer (some ⟨bp, 0, none⟩)] w fun e w' => DoP B T bp (.slice aa a.length ca) (primP 8 h a) w e w' := by
  obtain ⟨-, hH, hl, hok⟩ := hg
  have hbp : bp < w.heap.size := (Array.getElem?_eq_some_iff.1 hP).1
  have hrh : RowC w w.heap.size ah h := ho.row
  match a, hl with
  | [x], _ =>
    have hx := hok x (by simp)
    refine (cdr_any bp ah ch aa ca h x w hP hr hH hsm hx hrh).mono fun e w' hv => dop_of_vc (r := primP 8 h [x]) hP ho hT hBT ?_ hv
    show (prim1 8 h x).1 = h
    unfold prim1
    repeat' split
    all_goals rfl
theorem meth_9 (B T bp : Nat) (ah : Option Addr) (ch : Nat) (aa : Option Addr) (ca : Nat) (h : List Cel) (s : ByteArray) (a : List Val) (w : World) (hP : w.heap[bp]? = some (.cells #[.slice ah h.length ch, .slice aa a.length ca] 52 (0, 0))) (hr : RowV w w.heap.size aa a) (hsm : ∀ d ∈ h, d.small) (has : ∀ v ∈ a, v.small) (ho : OwnH w B T (.slice ah h.length ch) h) (hT : T ≤ bp) (hBT : B ≤ T) (hg : GoodP 9 h s a) : Calls Try.prog 65 #[.pointer (some ⟨bp, 0, none⟩)] w fun e w' => DoP B T bp (.slice aa a.length ca) (primP 9 h a) w e w' := by
  obtain ⟨-, hH, hl, hok⟩ := hg
  have hbp : bp < w.heap.size := (Array.getElem?_eq_some_iff.1 hP).1
  have hrh : RowC w w.heap.size ah h := ho.row
  match a, hl with
  | [x], _ =>
    have hx := hok x (by simp)
    exact (isNil_any bp _ aa ca h x w hP hr).mono fun e w' hv => dop_of_vc (r := primP 9 h [x]) hP ho hT hBT (by simp [primP, prim1]) hv
theorem meth_10 (B T bp : Nat) (ah : Option Addr) (ch : Nat) (aa : Option Addr) (ca : Nat) (h : List Cel) (s : ByteArray) (a : List Val) (w : World) (hP : w.heap[bp]? = some (.cells #[.slice ah h.length ch, .slice aa a.length ca] 52 (0, 0))) (hr : RowV w w.heap.size aa a) (hsm : ∀ d ∈ h, d.small) (has : ∀ v ∈ a, v.small) (ho : OwnH w B T (.slice ah h.length ch) h) (hT : T ≤ bp) (hBT : B ≤ T) (hg : GoodP 10 h s a) : Calls Try.prog 66 #[.pointer (some ⟨bp, 0, none⟩)] w fun e w' => DoP B T bp (.slice aa a.length ca) (primP 10 h a) w e w' := by
  obtain ⟨-, hH, hl, hok⟩ := hg
  have hbp : bp < w.heap.size := (Array.getElem?_eq_some_iff.1 hP).1
  have hrh : RowC w w.heap.size ah h := ho.row
  match a, hl with
  | [x], _ =>
    have hx := hok x (by simp)
    exact (isPair_any bp _ aa ca h x w hP hr).mono fun e w' hv => dop_of_vc (r := primP 10 h [x]) hP ho hT hBT (by simp [primP, prim1]) hv
theorem meth_11 (B T bp : Nat) (ah : Option Addr) (ch : Nat) (aa : Option Addr) (ca : Nat) (h : List Cel) (s : ByteArray) (a : List Val) (w : World) (hP : w.heap[bp]? = some (.cells #[.slice ah h.length ch, .slice aa a.length ca] 52 (0, 0))) (hr : RowV w w.heap.size aa a) (hsm : ∀ d ∈ h, d.small) (has : ∀ v ∈ a, v.small) (ho : OwnH w B T (.slice ah h.length ch) h) (hT : T ≤ bp) (hBT : B ≤ T) (hg : GoodP 11 h s a) : Calls Try.prog 67 #[.pointer (some ⟨bp, 0, none⟩)] w fun e w' => DoP B T bp (.slice aa a.length ca) (primP 11 h a) w e w' := by
  obtain ⟨-, hH, hl, hok⟩ := hg
  have hbp : bp < w.heap.size := (Array.getElem?_eq_some_iff.1 hP).1
  have hrh : RowC w w.heap.size ah h := ho.row
  match a, hl with
  | [x], _ =>
    have hx := hok x (by simp)
    exact (not_any bp _ aa ca h x w hP hr).mono fun e w' hv => dop_of_vc (r := primP 11 h [x]) hP ho hT hBT (by simp [primP, prim1]) hv
end Go.Proofs.Ytngelfohpkpekaa
