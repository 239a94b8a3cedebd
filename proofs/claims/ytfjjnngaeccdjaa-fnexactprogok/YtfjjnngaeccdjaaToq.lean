/- A program copied whole; like programs are told alike. -/
import Derived.Test.YtfjjnngaeccdjaaTop
import Derived.Deep.RegionWith
namespace Go.Proofs.Ytfjjnngaeccdjaa
open Go.ChangeShapes Go.WideShapes Go.ChangeAt Go.RowKit
/-- What toProg leaves. -/
def TpPost (cs : List Nod) (root : Int) (w : World) (e : Ending) (w' : World) : Prop := ∃ g, e = .returned (.agg #[.slice (some ⟨g, 0, none⟩) cs.length cs.length, .int .i64 root]) ∧ RowN w' w'.heap.size (some ⟨g, 0, none⟩) cs ∧ Below w.heap.size w w'
set_option maxRecDepth 100000 in
set_option maxHeartbeats 1000000 in
theorem toProg_any (a : Option Addr) (cs : List Nod) (cap : Nat) (root : Int) (w : World) (hn : cs.length ≤ 1048576) (hr : RowN w w.heap.size a cs) (hsm : ∀ d ∈ cs, d.small) :
    Calls Try.prog 8 #[.agg #[.slice a cs.length cap, .int .i64 root]] w fun e w' => TpPost cs root w e w' := by
  have HS : Hid (∀ w1, Below w.heap.size w w1 → Calls Try.prog 18 #[.slice a cs.length cap] w1 fun e w' => ∃ g, e = .returned (.slice (some ⟨g, 0, none⟩) cs.length cs.length) ∧ w1.heap.size ≤ g ∧ g < w'.heap.size ∧ (∀ (j : Nat) (d : Nod), cs[j]? = some d → NodAt w' (fun b => w1.heap.size < b ∧ b < w'.heap.size) g (j * 5) d) ∧ Below w1.heap.size w1 w') := fun w1 h => toNodeS_any a cs cap w1 hn ((hr.below h).mono h.size) hsm
  clear hr hsm
  go_enter Try.func8, Try.ntmps8
  go_wp2_with fail
  have hbA : Below w.heap.size w (((w.alloc (Obj.cells #[.slice a cs.length cap, .int .i64 root] 24)).alloc (Obj.cells #[.slice none 0 0, .int .i64 0] 29)).alloc (Obj.cells #[.slice none 0 0, .int .i64 0] 29)) := (((Below.refl _ _).alloc (Nat.le_refl _) _).alloc (by simp) _).alloc (by simp; omega) _
  have k0 : (((w.alloc (Obj.cells #[.slice a cs.length cap, .int .i64 root] 24)).alloc (Obj.cells #[.slice none 0 0, .int .i64 0] 29)).alloc (Obj.cells #[.slice none 0 0, .int .i64 0] 29)).heap[w.heap.size]? = some (Obj.cells #[.slice a cs.length cap, .int .i64 root] 24) := blk_past (blk_past (blk_at _ _ _ rfl))
  have k1 : (((w.alloc (Obj.cells #[.slice a cs.length cap, .int .i64 root] 24)).alloc (Obj.cells #[.slice none 0 0, .int .i64 0] 29)).alloc (Obj.cells #[.slice none 0 0, .int .i64 0] 29)).heap[w.heap.size + 1]? = some (Obj.cells #[.slice none 0 0, .int .i64 0] 29) := blk_past (blk_at _ _ _ (by simp))
  have k2 : (((w.alloc (Obj.cells #[.slice a cs.length cap, .int .i64 root] 24)).alloc (Obj.cells #[.slice none 0 0, .int .i64 0] 29)).alloc (Obj.cells #[.slice none 0 0, .int .i64 0] 29)).heap[w.heap.size + 1 + 1]? = some (Obj.cells #[.slice none 0 0, .int .i64 0] 29) := blk_at _ _ _ (by simp)
  have hsA : (((w.alloc (Obj.cells #[.slice a cs.length cap, .int .i64 root] 24)).alloc (Obj.cells #[.slice none 0 0, .int .i64 0] 29)).alloc (Obj.cells #[.slice none 0 0, .int .i64 0] 29)).heap.size = w.heap.size + 3 := by simp
  generalize (((w.alloc (Obj.cells #[.slice a cs.length cap, .int .i64 root] 24)).alloc (Obj.cells #[.slice none 0 0, .int .i64 0] 29)).alloc (Obj.cells #[.slice none 0 0, .int .i64 0] 29)) = wA at *
  refine (HS.out _ hbA).mono ?_
  rintro e w1 ⟨g, rfl, hg1, hg2, hrw, hb1⟩
  have hb2 : Below w.heap.size w w1 := hbA.trans (hb1.mono hbA.size)
  have k0 := blk_keep k0 hb1 (by omega)
  have k1 := blk_keep k1 hb1 (by omega)
  have k2 := blk_keep k2 hb1 (by omega)
  have q1 := cell_blk (j := 1) k0 rfl
  have p0 := cell_blk (j := 0) k1 rfl
  have p1 := cell_blk (j := 1) k1 rfl
  have r0 := cell_blk (j := 0) k2 rfl
  have r1 := cell_blk (j := 1) k2 rfl
  have f0 := frozen_blk k1 0
  have f1 := frozen_blk k1 1
  have g0 := frozen_blk k2 0
  have g1 := frozen_blk k2 1
  have hs1 := hb1.size
  have K1 : Hid (w1.heap[w.heap.size + 1]? = some (Obj.cells #[.slice none 0 0, .int .i64 0] 29)) := k1
  have HRW : Hid (∀ (j : Nat) (d : Nod), cs[j]? = some d → NodAt w1 (fun b => wA.heap.size < b ∧ b < w1.heap.size) g (j * 5) d) := hrw
  clear k0 k1 k2 hbA hb1 hrw
  go_wp2
  have K3 : ((w1.setCell ⟨w.heap.size + 1 + 1, 0, none⟩ (.slice (some ⟨g, 0, none⟩) cs.length cs.length)).setCell ⟨w.heap.size + 1 + 1, 1, none⟩ (.int .i64 root)).heap[w.heap.size + 1]? = some (Obj.cells #[.slice none 0 0, .int .i64 0] 29) := by
    rw [heap_setCell_other _ _ _ _ (by simp), heap_setCell_other _ _ _ _ (by simp)]; exact K1.out
  refine bodyPost_ret (results_cell_row rfl _ _ (w.heap.size + 1) 29 #[(.slice (some ⟨g, 0, none⟩) cs.length cs.length), .int .i64 root] (0, 0) _ rfl (heap_setCell_same _ _ _ _ _ _ (heap_setCell_same _ _ _ _ _ _ K3)) Try.underlying29 rfl (by kernel_rfl)) rfl ?_
  have hoth : ∀ b, b ≠ w.heap.size + 1 → b ≠ w.heap.size + 1 + 1 → ((((w1.setCell ⟨w.heap.size + 1 + 1, 0, none⟩ (.slice (some ⟨g, 0, none⟩) cs.length cs.length)).setCell ⟨w.heap.size + 1 + 1, 1, none⟩ (.int .i64 root)).setCell ⟨w.heap.size + 1, 0, none⟩ (.slice (some ⟨g, 0, none⟩) cs.length cs.length)).setCell ⟨w.heap.size + 1, 1, none⟩ (.int .i64 root)).heap[b]? = w1.heap[b]? := by
    intro b h1 h2
    rw [heap_setCell_other _ _ _ _ (by simpa using h1), heap_setCell_other _ _ _ _ (by simpa using h1), heap_setCell_other _ _ _ _ (by simpa using h2), heap_setCell_other _ _ _ _ (by simpa using h2)]
  refine ⟨g, rfl, fun i d hi => ?_, (((hb2.setCell (p := ⟨_, _, none⟩) (by simp; omega) _).setCell (p := ⟨_, _, none⟩) (by simp; omega) _).setCell (p := ⟨_, _, none⟩) (by simp) _).setCell (p := ⟨_, _, none⟩) (by simp) _⟩
  refine ⟨g, 0, rfl, by simp; omega, ?_⟩
  rw [Nat.zero_add]
  exact (HRW.out i d hi).keep (hoth g (by omega) (by omega)) fun b hb' => by
    have hb' : wA.heap.size < b ∧ b < w1.heap.size := hb'
    exact ⟨by simp; omega, hoth b (by omega) (by omega)⟩
end Go.Proofs.Ytfjjnngaeccdjaa
