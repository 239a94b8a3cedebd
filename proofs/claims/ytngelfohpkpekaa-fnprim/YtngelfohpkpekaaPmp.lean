/- What primitives do, as plain functions; the model's numbers. -/
import Derived.Test.YtngelfohpkpekaaCpa
import Derived.Test.YtngelfohpkpekaaTru
import Derived.Test.YtngelfohpkpekaaAra
set_option linter.unusedVariables false
namespace Go.Proofs.Ytngelfohpkpekaa
open Go.ChangeShapes Go.WideShapes Go.ChangeAt Go.RowKit
/-- VaNone; a VaBool; what comes of two numbers. -/
def zv : Val := ⟨0, 0, ⟨#[]⟩⟩
def bvN (b : Bool) : Int := if b then 1 else 0
def bv (b : Bool) : Val := ⟨2, bvN b, ⟨#[]⟩⟩
def inW (n : Int) : Bool := decide (-1000000 ≤ n) && decide (n ≤ 1000000)
def numR (n : Int) : Val × Int := if inW n = true then (⟨1, n, ⟨#[]⟩⟩, 0) else (zv, 3)
def numsP : Nat → Int → Int → Val × Int
  | 0, x, y => numR (x + y)
  | 1, x, y => numR (x - y)
  | 2, x, y => numR (x * y)
  | 3, x, y => (bv (decide (x < y)), 0)
  | _, x, y => (bv (decide (x = y)), 0)
def sameV (x y : Val) : Bool := decide (x.k = y.k) && decide (x.n = y.n) && decide (x.s.toList = y.s.toList)
def consC (x y : Val) : Cel := ⟨1, ⟨#[]⟩, 0, 0, [], [x, y]⟩
def partP (h : List Cel) (x : Val) (i : Nat) : Val := ((h[x.n.toNat]?).bind fun c => c.vals[i]?).getD zv
/-- A primitive of two, of one, of as many as there are. -/
def prim2 (p : Nat) (h : List Cel) (x y : Val) : List Cel × Val × Int :=
  if p < 5 then (if x.k = 1 ∧ y.k = 1 then (h, numsP p x.n y.n) else (h, zv, 2))
  else if p = 5 then (h, bv (sameV x y), 0)
  else if 300 ≤ h.length then (h, zv, 7) else (h ++ [consC x y], ⟨5, h.length, ⟨#[]⟩⟩, 0)
def prim1 (p : Nat) (h : List Cel) (x : Val) : List Cel × Val × Int :=
  if p = 7 ∨ p = 8 then (if x.k = 5 then (h, partP h x (p - 7), 0) else (h, zv, 2))
  else if p = 9 then (h, bv (decide (x.k = 3)), 0)
  else if p = 10 then (h, bv (decide (x.k = 5)), 0)
  else (h, bv (!x.truth), 0)
def primP (p : Nat) (h : List Cel) (a : List Val) : List Cel × Val × Int :=
  match a with
  | [x] => prim1 p h x
  | [x, y] => prim2 p h x y
  | _ => (h, zv, 2)
/-- The words of the primitives. -/
def wdP : List (List UInt8) := [[43], [45], [42], [60], [61], [101, 113, 63], [99, 111, 110, 115], [99, 97, 114], [99, 100, 114], [110, 117, 108, 108, 63], [112, 97, 105, 114, 63], [110, 111, 116]]
def arP (p : Nat) : Nat := if p < 7 then 2 else 1
/-- A result of a value and a number, of a row, a value and a number. -/
theorem res_ct {fn : Func} {p u : Tmp} (h : fn.results = #[.cell p 29, .tmp u]) (tmps : Array Value) (w : World) (g : Nat) (v0 v1 v2 : Value)
    (hp : tmps.getD p undef = .pointer (some ⟨g, 0, none⟩)) (hg : w.heap[g]? = some (.cells #[v0, v1, v2] 29 (0, 0))) :
    (results fn tmps).run Try.prog w = .ok (.tuple #[.agg #[v0, v1, v2], tmps.getD u undef]) w := by
  have hp' : tmps[p]?.getD undef = .pointer (some ⟨g, 0, none⟩) := by simpa using hp
  simp [results, h, hp', asAddr, run_loadVar_row w g 29 29 #[v0, v1, v2] (0, 0) _ hg Try.underlying29 rfl (by kernel_rfl)]
theorem res_tct {fn : Func} {t p u : Tmp} (h : fn.results = #[.tmp t, .cell p 29, .tmp u]) (tmps : Array Value) (w : World) (g : Nat) (v0 v1 v2 : Value)
    (hp : tmps.getD p undef = .pointer (some ⟨g, 0, none⟩)) (hg : w.heap[g]? = some (.cells #[v0, v1, v2] 29 (0, 0))) :
    (results fn tmps).run Try.prog w = .ok (.tuple #[tmps.getD t undef, .agg #[v0, v1, v2], tmps.getD u undef]) w := by
  have hp' : tmps[p]?.getD undef = .pointer (some ⟨g, 0, none⟩) := by simpa using hp
  simp [results, h, hp', asAddr, run_loadVar_row w g 29 29 #[v0, v1, v2] (0, 0) _ hg Try.underlying29 rfl (by kernel_rfl)]
theorem put_blk {w : World} {g : Nat} {x0 x1 x2 : Value} (v0 v1 v2 : Value) (h : w.heap[g]? = some (.cells #[x0, x1, x2] 29 (0, 0))) : (((w.setCell ⟨g, 0, none⟩ v0).setCell ⟨g, 1, none⟩ v1).setCell ⟨g, 2, none⟩ v2).heap[g]? = some (.cells #[v0, v1, v2] 29 (0, 0)) :=
  heap_setCell_same _ _ _ _ _ _ (heap_setCell_same _ _ _ _ _ _ (heap_setCell_same _ _ _ _ _ _ h))
theorem put_below {B g : Nat} {w0 w : World} (h : Below B w0 w) (hg : B ≤ g) (v0 v1 v2 : Value) : Below B w0 (((w.setCell ⟨g, 0, none⟩ v0).setCell ⟨g, 1, none⟩ v1).setCell ⟨g, 2, none⟩ v2) :=
  ((h.setCell (p := ⟨g, _, none⟩) hg _).setCell (p := ⟨g, _, none⟩) hg _).setCell (p := ⟨g, _, none⟩) hg _
set_option maxRecDepth 100000 in
theorem l7Bool_any (b : Bool) (w : World) : Calls Try.prog 43 #[.bool b] w fun e w' => Ans w (.agg #[.int .i64 2, .int .i64 (bvN b), .string ⟨#[]⟩]) e w' := by
  have hb : Below w.heap.size w (w.alloc (Obj.cells #[.int .i64 0, .int .i64 0, .string ⟨#[]⟩] 29)) := (Below.refl _ _).alloc (Nat.le_refl _) _
  have hk : (w.alloc (Obj.cells #[.int .i64 0, .int .i64 0, .string ⟨#[]⟩] 29)).heap[w.heap.size]? = some (.cells #[.int .i64 0, .int .i64 0, .string ⟨#[]⟩] 29 (0, 0)) := blk_at _ _ _ rfl
  cases b
  · go_enter Try.func43, Try.ntmps43
    go_wp2
    refine bodyPost_ret (results_cell_row rfl _ _ w.heap.size 29 #[.int .i64 2, .int .i64 0, .string ⟨#[]⟩] (0, 0) _ rfl (blk_at _ _ _ rfl) Try.underlying29 rfl (by kernel_rfl)) rfl ?_
    exact ⟨rfl, (Below.refl _ _).alloc (Nat.le_refl _) _⟩
  · go_enter Try.func43, Try.ntmps43
    go_wp2
    refine bodyPost_ret (results_cell_row rfl _ _ w.heap.size 29 #[.int .i64 2, .int .i64 1, .string ⟨#[]⟩] (0, 0) _ rfl (blk_at _ _ _ rfl) Try.underlying29 rfl (by kernel_rfl)) rfl ?_
    exact ⟨rfl, (Below.refl _ _).alloc (Nat.le_refl _) _⟩
/-- What a call that tells a value and a number leaves. -/
def VcPost (r : Val × Int) (w : World) (e : Ending) (w' : World) : Prop := e = .returned (.tuple #[.agg #[.int .i64 r.1.k, .int .i64 r.1.n, .string r.1.s], .int .i64 r.2]) ∧ Below w.heap.size w w'
set_option maxRecDepth 100000 in
set_option maxHeartbeats 1000000 in
theorem l7Nums_0 (s : ByteArray) (x y : Int) (w : World) (hs : s.toList = [43]) (hx : -1000000 ≤ x ∧ x ≤ 1000000) (hy : -1000000 ≤ y ∧ y ≤ 1000000) :
    Calls Try.prog 42 #[.string s, .int .i64 x, .int .i64 y] w fun e w' => VcPost (numsP 0 x y) w e w' := by
  have e0 : (s.toList == [45]) = false := by rw [hs]; rfl
  have e1 : (s.toList == [42]) = false := by rw [hs]; rfl
  have e2 : (s.toList == [60]) = false := by rw [hs]; rfl
  have e3 : (s.toList == [61]) = false := by rw [hs]; rfl
  clear hs
  obtain ⟨hx1, hx2⟩ := hx
  obtain ⟨hy1, hy2⟩ := hy
  have HB : Hid (∀ b w, Calls Try.prog 43 #[.bool b] w fun e w' => Ans w (.agg #[.int .i64 2, .int .i64 (bvN b), .string ⟨#[]⟩]) e w') := fun b w => l7Bool_any b w
  have hb0 : Below w.heap.size w (w.alloc (Obj.cells #[.int .i64 0, .int .i64 0, .string ⟨#[]⟩] 29)) := (Below.refl _ _).alloc (Nat.le_refl _) _
  have hk0 : (w.alloc (Obj.cells #[.int .i64 0, .int .i64 0, .string ⟨#[]⟩] 29)).heap[w.heap.size]? = some (.cells #[.int .i64 0, .int .i64 0, .string ⟨#[]⟩] 29 (0, 0)) := blk_at _ _ _ rfl
  have HN : Hid (numsP 0 x y = numR (x + y)) := rfl
  by_cases h1 : -1000000 ≤ x + y
  · by_cases h2 : x + y ≤ 1000000
    · have HR : Hid (numsP 0 x y = (⟨1, x + y, ⟨#[]⟩⟩, 0)) := by rw [HN.out]; unfold numR inW; rw [if_pos (by simp [h1, h2])]; rfl
      have d1 : decide (-1000000 ≤ x + y) = true := by simpa using h1
      have d2 : decide (x + y ≤ 1000000) = true := by simpa using h2
      go_enter Try.func42, Try.ntmps42
      go_wp2
      refine bodyPost_ret (res_ct rfl _ _ w.heap.size (.int .i64 1) (.int .i64 (x + y)) (.string ⟨#[]⟩) rfl (by first | exact blk_at _ _ _ rfl | exact put_blk _ _ _ hk0)) rfl ?_
      rw [VcPost, HR.out]
      exact ⟨rfl, by first | exact (Below.refl _ _).alloc (Nat.le_refl _) _ | exact put_below hb0 (Nat.le_refl _) _ _ _⟩
    · have HR : Hid (numsP 0 x y = (zv, 3)) := by rw [HN.out]; unfold numR inW; rw [if_neg (by simp; omega)]; rfl
      have d1 : decide (-1000000 ≤ x + y) = true := by simpa using h1
      have d2 : decide (x + y ≤ 1000000) = false := by simpa using h2
      go_enter Try.func42, Try.ntmps42
      go_wp2
      refine bodyPost_ret (res_ct rfl _ _ w.heap.size (.int .i64 0) (.int .i64 0) (.string ⟨#[]⟩) rfl (by first | exact blk_at _ _ _ rfl | exact put_blk _ _ _ hk0)) rfl ?_
      rw [VcPost, HR.out]
      exact ⟨rfl, by first | exact (Below.refl _ _).alloc (Nat.le_refl _) _ | exact put_below hb0 (Nat.le_refl _) _ _ _⟩
  · have HR : Hid (numsP 0 x y = (zv, 3)) := by rw [HN.out]; unfold numR inW; rw [if_neg (by simp; omega)]; rfl
    have d1 : decide (-1000000 ≤ x + y) = false := by simpa using h1
    go_enter Try.func42, Try.ntmps42
    go_wp2
    refine bodyPost_ret (res_ct rfl _ _ w.heap.size (.int .i64 0) (.int .i64 0) (.string ⟨#[]⟩) rfl (by first | exact blk_at _ _ _ rfl | exact put_blk _ _ _ hk0)) rfl ?_
    rw [VcPost, HR.out]
    exact ⟨rfl, by first | exact (Below.refl _ _).alloc (Nat.le_refl _) _ | exact put_below hb0 (Nat.le_refl _) _ _ _⟩
set_option maxRecDepth 100000 in
set_option maxHeartbeats 1000000 in
theorem l7Nums_1 (s : ByteArray) (x y : Int) (w : World) (hs : s.toList = [45]) (hx : -1000000 ≤ x ∧ x ≤ 1000000) (hy : -1000000 ≤ y ∧ y ≤ 1000000) :
    Calls Try.prog 42 #[.string s, .int .i64 x, .int .i64 y] w fun e w' => VcPost (numsP 1 x y) w e w' := by
  have e0 : (s.toList == [45]) = true := by rw [hs]; rfl
  have e1 : (s.toList == [42]) = false := by rw [hs]; rfl
  have e2 : (s.toList == [60]) = false := by rw [hs]; rfl
  have e3 : (s.toList == [61]) = false := by rw [hs]; rfl
  clear hs
  obtain ⟨hx1, hx2⟩ := hx
  obtain ⟨hy1, hy2⟩ := hy
  have HB : Hid (∀ b w, Calls Try.prog 43 #[.bool b] w fun e w' => Ans w (.agg #[.int .i64 2, .int .i64 (bvN b), .string ⟨#[]⟩]) e w') := fun b w => l7Bool_any b w
  have hb0 : Below w.heap.size w (w.alloc (Obj.cells #[.int .i64 0, .int .i64 0, .string ⟨#[]⟩] 29)) := (Below.refl _ _).alloc (Nat.le_refl _) _
  have hk0 : (w.alloc (Obj.cells #[.int .i64 0, .int .i64 0, .string ⟨#[]⟩] 29)).heap[w.heap.size]? = some (.cells #[.int .i64 0, .int .i64 0, .string ⟨#[]⟩] 29 (0, 0)) := blk_at _ _ _ rfl
  have HN : Hid (numsP 1 x y = numR (x - y)) := rfl
  by_cases h1 : -1000000 ≤ x - y
  · by_cases h2 : x - y ≤ 1000000
    · have HR : Hid (numsP 1 x y = (⟨1, x - y, ⟨#[]⟩⟩, 0)) := by rw [HN.out]; unfold numR inW; rw [if_pos (by simp [h1, h2])]; rfl
      have d1 : decide (-1000000 ≤ x - y) = true := by simpa using h1
      have d2 : decide (x - y ≤ 1000000) = true := by simpa using h2
      go_enter Try.func42, Try.ntmps42
      go_wp2
      refine bodyPost_ret (res_ct rfl _ _ w.heap.size (.int .i64 1) (.int .i64 (x - y)) (.string ⟨#[]⟩) rfl (by first | exact blk_at _ _ _ rfl | exact put_blk _ _ _ hk0)) rfl ?_
      rw [VcPost, HR.out]
      exact ⟨rfl, by first | exact (Below.refl _ _).alloc (Nat.le_refl _) _ | exact put_below hb0 (Nat.le_refl _) _ _ _⟩
    · have HR : Hid (numsP 1 x y = (zv, 3)) := by rw [HN.out]; unfold numR inW; rw [if_neg (by simp; omega)]; rfl
      have d1 : decide (-1000000 ≤ x - y) = true := by simpa using h1
      have d2 : decide (x - y ≤ 1000000) = false := by simpa using h2
      go_enter Try.func42, Try.ntmps42
      go_wp2
      refine bodyPost_ret (res_ct rfl _ _ w.heap.size (.int .i64 0) (.int .i64 0) (.string ⟨#[]⟩) rfl (by first | exact blk_at _ _ _ rfl | exact put_blk _ _ _ hk0)) rfl ?_
      rw [VcPost, HR.out]
      exact ⟨rfl, by first | exact (Below.refl _ _).alloc (Nat.le_refl _) _ | exact put_below hb0 (Nat.le_refl _) _ _ _⟩
  · have HR : Hid (numsP 1 x y = (zv, 3)) := by rw [HN.out]; unfold numR inW; rw [if_neg (by simp; omega)]; rfl
    have d1 : decide (-1000000 ≤ x - y) = false := by simpa using h1
    go_enter Try.func42, Try.ntmps42
    go_wp2
    refine bodyPost_ret (res_ct rfl _ _ w.heap.size (.int .i64 0) (.int .i64 0) (.string ⟨#[]⟩) rfl (by first | exact blk_at _ _ _ rfl | exact put_blk _ _ _ hk0)) rfl ?_
    rw [VcPost, HR.out]
    exact ⟨rfl, by first | exact (Below.refl _ _).alloc (Nat.le_refl _) _ | exact put_below hb0 (Nat.le_refl _) _ _ _⟩
set_option maxRecDepth 100000 in
set_option maxHeartbeats 1000000 in
theorem l7Nums_2 (s : ByteArray) (x y : Int) (w : World) (hs : s.toList = [42]) (hx : -1000000 ≤ x ∧ x ≤ 1000000) (hy : -1000000 ≤ y ∧ y ≤ 1000000) :
    Calls Try.prog 42 #[.string s, .int .i64 x, .int .i64 y] w fun e w' => VcPost (numsP 2 x y) w e w' := by
  have e0 : (s.toList == [45]) = false := by rw [hs]; rfl
  have e1 : (s.toList == [42]) = true := by rw [hs]; rfl
  have e2 : (s.toList == [60]) = false := by rw [hs]; rfl
  have e3 : (s.toList == [61]) = false := by rw [hs]; rfl
  clear hs
  obtain ⟨hx1, hx2⟩ := hx
  obtain ⟨hy1, hy2⟩ := hy
  have HB : Hid (∀ b w, Calls Try.prog 43 #[.bool b] w fun e w' => Ans w (.agg #[.int .i64 2, .int .i64 (bvN b), .string ⟨#[]⟩]) e w') := fun b w => l7Bool_any b w
  have hb0 : Below w.heap.size w (w.alloc (Obj.cells #[.int .i64 0, .int .i64 0, .string ⟨#[]⟩] 29)) := (Below.refl _ _).alloc (Nat.le_refl _) _
  have hk0 : (w.alloc (Obj.cells #[.int .i64 0, .int .i64 0, .string ⟨#[]⟩] 29)).heap[w.heap.size]? = some (.cells #[.int .i64 0, .int .i64 0, .string ⟨#[]⟩] 29 (0, 0)) := blk_at _ _ _ rfl
  have hm1 : x * y ≤ 1000000000000 := by
    have : x.natAbs * y.natAbs ≤ 1000000 * 1000000 := Nat.mul_le_mul (by omega) (by omega)
    have h2 := Int.natAbs_mul x y
    omega
  have hm2 : -1000000000000 ≤ x * y := by
    have : x.natAbs * y.natAbs ≤ 1000000 * 1000000 := Nat.mul_le_mul (by omega) (by omega)
    have h2 := Int.natAbs_mul x y
    omega
  have HN : Hid (numsP 2 x y = numR (x * y)) := rfl
  by_cases h1 : -1000000 ≤ x * y
  · by_cases h2 : x * y ≤ 1000000
    · have HR : Hid (numsP 2 x y = (⟨1, x * y, ⟨#[]⟩⟩, 0)) := by rw [HN.out]; unfold numR inW; rw [if_pos (by simp [h1, h2])]; rfl
      have d1 : decide (-1000000 ≤ x * y) = true := by simpa using h1
      have d2 : decide (x * y ≤ 1000000) = true := by simpa using h2
      go_enter Try.func42, Try.ntmps42
      go_wp2
      refine bodyPost_ret (res_ct rfl _ _ w.heap.size (.int .i64 1) (.int .i64 (x * y)) (.string ⟨#[]⟩) rfl (by first | exact blk_at _ _ _ rfl | exact put_blk _ _ _ hk0)) rfl ?_
      rw [VcPost, HR.out]
      exact ⟨rfl, by first | exact (Below.refl _ _).alloc (Nat.le_refl _) _ | exact put_below hb0 (Nat.le_refl _) _ _ _⟩
    · have HR : Hid (numsP 2 x y = (zv, 3)) := by rw [HN.out]; unfold numR inW; rw [if_neg (by simp; omega)]; rfl
      have d1 : decide (-1000000 ≤ x * y) = true := by simpa using h1
      have d2 : decide (x * y ≤ 1000000) = false := by simpa using h2
      go_enter Try.func42, Try.ntmps42
      go_wp2
      refine bodyPost_ret (res_ct rfl _ _ w.heap.size (.int .i64 0) (.int .i64 0) (.string ⟨#[]⟩) rfl (by first | exact blk_at _ _ _ rfl | exact put_blk _ _ _ hk0)) rfl ?_
      rw [VcPost, HR.out]
      exact ⟨rfl, by first | exact (Below.refl _ _).alloc (Nat.le_refl _) _ | exact put_below hb0 (Nat.le_refl _) _ _ _⟩
  · have HR : Hid (numsP 2 x y = (zv, 3)) := by rw [HN.out]; unfold numR inW; rw [if_neg (by simp; omega)]; rfl
    have d1 : decide (-1000000 ≤ x * y) = false := by simpa using h1
    go_enter Try.func42, Try.ntmps42
    go_wp2
    refine bodyPost_ret (res_ct rfl _ _ w.heap.size (.int .i64 0) (.int .i64 0) (.string ⟨#[]⟩) rfl (by first | exact blk_at _ _ _ rfl | exact put_blk _ _ _ hk0)) rfl ?_
    rw [VcPost, HR.out]
    exact ⟨rfl, by first | exact (Below.refl _ _).alloc (Nat.le_refl _) _ | exact put_below hb0 (Nat.le_refl _) _ _ _⟩
set_option maxRecDepth 100000 in
set_option maxHeartbeats 1000000 in
theorem l7Nums_3 (s : ByteArray) (x y : Int) (w : World) (hs : s.toList = [60]) (hx : -1000000 ≤ x ∧ x ≤ 1000000) (hy : -1000000 ≤ y ∧ y ≤ 1000000) :
    Calls Try.prog 42 #[.string s, .int .i64 x, .int .i64 y] w fun e w' => VcPost (numsP 3 x y) w e w' := by
  have e0 : (s.toList == [45]) = false := by rw [hs]; rfl
  have e1 : (s.toList == [42]) = false := by rw [hs]; rfl
  have e2 : (s.toList == [60]) = true := by rw [hs]; rfl
  have e3 : (s.toList == [61]) = false := by rw [hs]; rfl
  clear hs
  obtain ⟨hx1, hx2⟩ := hx
  obtain ⟨hy1, hy2⟩ := hy
  have HB : Hid (∀ b w, Calls Try.prog 43 #[.bool b] w fun e w' => Ans w (.agg #[.int .i64 2, .int .i64 (bvN b), .string ⟨#[]⟩]) e w') := fun b w => l7Bool_any b w
  have hb0 : Below w.heap.size w (w.alloc (Obj.cells #[.int .i64 0, .int .i64 0, .string ⟨#[]⟩] 29)) := (Below.refl _ _).alloc (Nat.le_refl _) _
  have hk0 : (w.alloc (Obj.cells #[.int .i64 0, .int .i64 0, .string ⟨#[]⟩] 29)).heap[w.heap.size]? = some (.cells #[.int .i64 0, .int .i64 0, .string ⟨#[]⟩] 29 (0, 0)) := blk_at _ _ _ rfl
  have HR : Hid (numsP 3 x y = (bv (decide (x < y)), 0)) := rfl
  have hq : (x == y) = decide (x = y) := by by_cases h : x = y <;> simp [h]
  rw [HR.out]
  go_enter Try.func42, Try.ntmps42
  go_wp2_with fail
  refine (HB.out _ _).mono ?_
  rintro e w1 ⟨rfl, hb1⟩
  have hb2 := hb0.trans (hb1.mono hb0.size)
  have k1 := blk_keep hk0 hb1 (by simp)
  have K1 : Hid (w1.heap[w.heap.size]? = some (.cells #[.int .i64 0, .int .i64 0, .string ⟨#[]⟩] 29 (0, 0))) := k1
  have c0 := cell_blk (j := 0) k1 rfl
  have c1 := cell_blk (j := 1) k1 rfl
  have c2 := cell_blk (j := 2) k1 rfl
  have f0 := frozen_blk k1 0
  have f1 := frozen_blk k1 1
  have f2 := frozen_blk k1 2
  clear k1 hb1
  go_wp2
  refine bodyPost_ret (res_ct rfl _ _ w.heap.size _ _ _ rfl (put_blk _ _ _ K1.out)) rfl ?_
  exact ⟨by first | rfl | (rw [hq]; rfl), put_below hb2 (Nat.le_refl _) _ _ _⟩
set_option maxRecDepth 100000 in
set_option maxHeartbeats 1000000 in
theorem l7Nums_4 (s : ByteArray) (x y : Int) (w : World) (hs : s.toList = [61]) (hx : -1000000 ≤ x ∧ x ≤ 1000000) (hy : -1000000 ≤ y ∧ y ≤ 1000000) :
    Calls Try.prog 42 #[.string s, .int .i64 x, .int .i64 y] w fun e w' => VcPost (numsP 4 x y) w e w' := by
  have e0 : (s.toList == [45]) = false := by rw [hs]; rfl
  have e1 : (s.toList == [42]) = false := by rw [hs]; rfl
  have e2 : (s.toList == [60]) = false := by rw [hs]; rfl
  have e3 : (s.toList == [61]) = true := by rw [hs]; rfl
  clear hs
  obtain ⟨hx1, hx2⟩ := hx
  obtain ⟨hy1, hy2⟩ := hy
  have HB : Hid (∀ b w, Calls Try.prog 43 #[.bool b] w fun e w' => Ans w (.agg #[.int .i64 2, .int .i64 (bvN b), .string ⟨#[]⟩]) e w') := fun b w => l7Bool_any b w
  have hb0 : Below w.heap.size w (w.alloc (Obj.cells #[.int .i64 0, .int .i64 0, .string ⟨#[]⟩] 29)) := (Below.refl _ _).alloc (Nat.le_refl _) _
  have hk0 : (w.alloc (Obj.cells #[.int .i64 0, .int .i64 0, .string ⟨#[]⟩] 29)).heap[w.heap.size]? = some (.cells #[.int .i64 0, .int .i64 0, .string ⟨#[]⟩] 29 (0, 0)) := blk_at _ _ _ rfl
  have HR : Hid (numsP 4 x y = (bv (decide (x = y)), 0)) := rfl
  have hq : (x == y) = decide (x = y) := by by_cases h : x = y <;> simp [h]
  rw [HR.out]
  go_enter Try.func42, Try.ntmps42
  go_wp2_with fail
  refine (HB.out _ _).mono ?_
  rintro e w1 ⟨rfl, hb1⟩
  have hb2 := hb0.trans (hb1.mono hb0.size)
  have k1 := blk_keep hk0 hb1 (by simp)
  have K1 : Hid (w1.heap[w.heap.size]? = some (.cells #[.int .i64 0, .int .i64 0, .string ⟨#[]⟩] 29 (0, 0))) := k1
  have c0 := cell_blk (j := 0) k1 rfl
  have c1 := cell_blk (j := 1) k1 rfl
  have c2 := cell_blk (j := 2) k1 rfl
  have f0 := frozen_blk k1 0
  have f1 := frozen_blk k1 1
  have f2 := frozen_blk k1 2
  clear k1 hb1
  go_wp2
  refine bodyPost_ret (res_ct rfl _ _ w.heap.size _ _ _ rfl (put_blk _ _ _ K1.out)) rfl ?_
  exact ⟨by first | rfl | (rw [hq]; rfl), put_below hb2 (Nat.le_refl _) _ _ _⟩
end Go.Proofs.Ytngelfohpkpekaa
