/- The model's reader: the pairs of a list. -/
import Derived.Test.YtgfkmppkeolckaaDoorSpb
import Derived.Test.YtgfkmppkeolckaaDoorDra
set_option linter.unusedVariables false
namespace Go.Proofs.YtgfkmppkeolckaaDoor
open Go.ChangeShapes Go.WideShapes Go.ChangeAt Go.RowKit
/-- The cells of the model's reader say what the plain reading says. -/
def RepF (s : ByteArray) (B : Nat) (r : Except Nat St) (i : Nat) (la bd : Int) (ao : Option Addr) (n ca : Nat) (w : World) : Prop :=
  i ≤ s.size ∧ n ≤ 1000 ∧ match r with
  | .ok st => i = st.nx ∧ la = (st.la : Int) ∧ bd = -1 ∧ n = st.cs.length ∧ w.ownsRow B 67 5 (.slice ao n ca) n (flatD st.cs)
  | .error p => bd = (p : Int)
/-- The model's reader says what the plain reading says. -/
def RepS (s : ByteArray) (bo : Option Addr) (m cb B : Nat) (r : Except Nat St) (v : Value) (w : World) : Prop :=
  ∃ (i : Nat) (la bd : Int) (ao : Option Addr) (n ca : Nat), v = .agg #[.string s, .int .i64 i, .int .i64 la, .int .i64 bd, .slice ao n ca, .slice bo m cb] ∧ RepF s B r i la bd ao n ca w
/-- What a call of the model's reader leaves. -/
def SpPost (s : ByteArray) (bo : Option Addr) (m cb B : Nat) (r : Except Nat St) (w : World) (e : Ending) (w' : World) : Prop := ∃ v, e = .returned v ∧ RepS s bo m cb B r v w' ∧ Below B w w' ∧ Lib.OthersKept 67 none w w'
set_option maxRecDepth 100000 in
set_option maxHeartbeats 1000000 in
theorem l2List_bad (s : ByteArray) (i la bd : Int) (ao bo pa : Option Addr) (n ca m cb k pc : Nat) (w : World) (hbd : 0 ≤ bd) (hk : k ≤ 33554432) :
    Calls Tryd.prog 61 #[.agg #[.string s, .int .i64 i, .int .i64 la, .int .i64 bd, .slice ao n ca, .slice bo m cb], .slice pa k pc] w fun e w' => Ans w (.agg #[.string s, .int .i64 i, .int .i64 la, .int .i64 bd, .slice ao n ca, .slice bo m cb]) e w' := by
  have q : decide (bd < 0) = false := by simp; omega
  go_enter Tryd.func61, Tryd.ntmps61
  go_wp2
  go_loopw [5] (fun o wr => o = .int .i64 ((k : Int) - 1) ∧ wr = ((w.alloc (rb s i la bd (.slice ao n ca) (.slice bo m cb))).alloc rz)) (fun _ _ => 0)
  case atStart => exact ⟨rfl, rfl⟩
  case round =>
    obtain ⟨rfl, rfl⟩ := hrel
    have hb0 : Below w.heap.size w ((w.alloc (rb s i la bd (.slice ao n ca) (.slice bo m cb))).alloc rz) := ((Below.refl _ _).alloc (Nat.le_refl _) _).alloc (by simp) _
    have k0 : ((w.alloc (rb s i la bd (.slice ao n ca) (.slice bo m cb))).alloc rz).heap[w.heap.size]? = some (rb s i la bd (.slice ao n ca) (.slice bo m cb)) := blk_past (blk_at _ _ _ rfl)
    have k1 : ((w.alloc (rb s i la bd (.slice ao n ca) (.slice bo m cb))).alloc rz).heap[w.heap.size + 1]? = some rz := blk_at _ _ _ (by simp)
    generalize (w.alloc (rb s i la bd (.slice ao n ca) (.slice bo m cb))).alloc rz = wA at *
    have x0 := cell_blk (j := 0) k0 rfl
    have x1 := cell_blk (j := 1) k0 rfl
    have x2 := cell_blk (j := 2) k0 rfl
    have x3 := cell_blk (j := 3) k0 rfl
    have x4 := cell_blk (j := 4) k0 rfl
    have x5 := cell_blk (j := 5) k0 rfl
    have z0 := cell_blk (j := 0) k1 rfl
    have z1 := cell_blk (j := 1) k1 rfl
    have z2 := cell_blk (j := 2) k1 rfl
    have z3 := cell_blk (j := 3) k1 rfl
    have z4 := cell_blk (j := 4) k1 rfl
    have z5 := cell_blk (j := 5) k1 rfl
    have y0 := frozen_blk k1 0
    have y1 := frozen_blk k1 1
    have y2 := frozen_blk k1 2
    have y3 := frozen_blk k1 3
    have y4 := frozen_blk k1 4
    have y5 := frozen_blk k1 5
    have K1 : Hid (wA.heap[w.heap.size + 1]? = some rz) := k1
    clear k0 k1
    by_cases h0 : k = 0
    · subst h0
      go_wp2
      refine bodyPost_ret (ret6 rfl rfl (.string s) (.int .i64 i) (.int .i64 la) (.int .i64 bd) (.slice ao n ca) (.slice bo m cb) K1.out) rfl ?_
      exact ⟨rfl, put6_below hb0 (by omega) _ _ _ _ _ _⟩
    · have q0 : decide ((0 : Int) ≤ (k : Int) - 1) = true := by simp; omega
      go_wp2
      refine bodyPost_ret (ret6 rfl rfl (.string s) (.int .i64 i) (.int .i64 la) (.int .i64 bd) (.slice ao n ca) (.slice bo m cb) K1.out) rfl ?_
      exact ⟨rfl, put6_below hb0 (by omega) _ _ _ _ _ _⟩
end Go.Proofs.YtgfkmppkeolckaaDoor
