/- The program's reader: where it is, how it fails, how it takes a cell. -/
import Derived.Test.YtilaonjjpfebgaaDat
import Derived.Lib.OthersKept
import Derived.Recover
import Derived.Deep.AppendLies
import Derived.Deep.RegionHeldLaw
import Derived.Deep.RegionLaw
import Derived.Deep.RegionHeld3
set_option linter.unusedVariables false
namespace Go.Proofs.Ytilaonjjpfebgaa
open Go.ChangeShapes Go.WideShapes Go.ChangeAt Go.RowKit
/-- The reader's block. -/
def RdB (t : ByteArray) (beg nxt deep : Nat) (v : Value) : Obj := .cells #[.string t, .int .i64 (beg : Int), .int .i64 (nxt : Int), .int .i64 (deep : Int), v] 38 (0, 0)
/-- The panic at a place. -/
def bad (p : Nat) : Ending := .panicked [{ v := .iface 35 (.int .i64 (p : Int)), recovered := false }]
theorem fail_any (R : Nat) (t : ByteArray) (beg nxt deep : Nat) (v : Value) (w : World) (hR : w.heap[R]? = some (RdB t beg nxt deep v)) :
    Calls Try.prog 28 #[.pointer (some ⟨R, 0, none⟩)] w fun e w' => e = bad beg ∧ w' = w := by
  have c1 := cell_blk (j := 1) hR rfl
  go_enter Try.func28, Try.ntmps28
  go_wp2
  exact ⟨rfl, rfl, rfl⟩
/-- The cells of data, one behind the other. -/
def flatD (cs : List Dat) : List Value := cs.flatMap fun d => [.int .i64 d.k, .int .i64 d.n, .string d.s, .int .i64 d.l, .int .i64 d.r]
theorem flatD_length (cs : List Dat) : (flatD cs).length = cs.length * 5 := by
  induction cs with
  | nil => rfl
  | cons d cs ih => simp [flatD] at *; omega
theorem flatD_snoc (cs : List Dat) (d : Dat) : flatD (cs ++ [d]) = flatD cs ++ [.int .i64 d.k, .int .i64 d.n, .string d.s, .int .i64 d.l, .int .i64 d.r] := by simp [flatD]
set_option maxRecDepth 100000 in
set_option maxHeartbeats 2000000 in
theorem add_full (R B : Nat) (t : ByteArray) (beg nxt deep : Nat) (v : Value) (cs : List Dat) (d : Dat) (w : World) (hR : w.heap[R]? = some (RdB t beg nxt deep v)) (hown : w.ownsRow B 49 5 v cs.length (flatD cs)) (hn : cs.length = 1000) :
    Calls Try.prog 41 #[.pointer (some ⟨R, 0, none⟩), .agg #[.int .i64 d.k, .int .i64 d.n, .string d.s, .int .i64 d.l, .int .i64 d.r]] w fun e w' => e = bad beg ∧ Below w.heap.size w w' := by
  obtain ⟨ao, cap, rfl⟩ : ∃ ao cap, v = .slice ao cs.length cap := by
    rcases hown.2 with ⟨hv, h0⟩ | ⟨g, cap, cur, hv, _⟩
    · exact ⟨none, 0, by rw [hv, h0]⟩
    · exact ⟨_, _, hv⟩
  have hRl : R < w.heap.size := (Array.getElem?_eq_some_iff.1 hR).1
  have c4 := cell_blk (j := 4) hR rfl
  have HR : Hid (w.heap[R]? = some (RdB t beg nxt deep (.slice ao cs.length cap))) := hR
  clear hown hR
  go_enter Try.func41, Try.ntmps41
  go_wp2_with fail
  refine (fail_any R t beg nxt deep _ _ (blk_past HR.out)).mono ?_
  rintro e w1 ⟨rfl, rfl⟩
  simp only [bad]
  go_wp2
  exact ⟨rfl, rfl, (Below.refl _ _).alloc (Nat.le_refl _) _⟩
theorem grownBy_setCell'' (a : World) (k j : Nat) (v : Value) : a.grownBy (a.setCell ⟨k, j, none⟩ v) (some k) :=
  ⟨rfl, rfl, rfl, by simp, fun i _ hn => heap_setCell_other a ⟨k, j, none⟩ i v (fun e => hn (by simp [e]))⟩
def Sx (R X : Nat) (v : Value) (d : Dat) (w : World) : Prop :=
  w.cell? ⟨R, 4, none⟩ = some v ∧ w.frozen? ⟨R, 4, none⟩ = false ∧ w.cell? ⟨X, 0, none⟩ = some (.int .i64 d.k) ∧ w.cell? ⟨X, 1, none⟩ = some (.int .i64 d.n) ∧ w.cell? ⟨X, 2, none⟩ = some (.string d.s) ∧ w.cell? ⟨X, 3, none⟩ = some (.int .i64 d.l) ∧ w.cell? ⟨X, 4, none⟩ = some (.int .i64 d.r)
theorem Sx.keep {R X : Nat} {v : Value} {d : Dat} {w w' : World} (h : Sx R X v d w) (h1 : w'.heap[R]? = w.heap[R]?) (h2 : w'.heap[X]? = w.heap[X]?) : Sx R X v d w' := by
  obtain ⟨a, b, c, e, f, g, i⟩ := h
  exact ⟨(World.cell?_of_block (a := ⟨R, _, none⟩) h1).trans a, (World.frozen?_of_block (a := ⟨R, _, none⟩) h1).trans b, (World.cell?_of_block (a := ⟨X, _, none⟩) h2).trans c, (World.cell?_of_block (a := ⟨X, _, none⟩) h2).trans e, (World.cell?_of_block (a := ⟨X, _, none⟩) h2).trans f, (World.cell?_of_block (a := ⟨X, _, none⟩) h2).trans g, (World.cell?_of_block (a := ⟨X, _, none⟩) h2).trans i⟩
theorem heap_alloc_lt (w : World) (o : Obj) (k : Nat) (h : k < w.heap.size) : (w.alloc o).drew.heap[k]? = w.heap[k]? := by
  show (w.heap.push o)[k]? = w.heap[k]?
  rw [Array.getElem?_push_lt h, Array.getElem?_eq_getElem h]
theorem bldInfo49 : (Try.prog.info? 49).map (fun i => (i.zero, i.size, i.bytes)) = some (some (.agg #[.int .i64 0, .int .i64 0, .string ⟨#[]⟩, .int .i64 0, .int .i64 0]), 5, 48) := by kernel_rfl
set_option maxRecDepth 100000 in
set_option maxHeartbeats 2000000 in
theorem add_ok (R B : Nat) (t : ByteArray) (beg nxt deep : Nat) (v : Value) (cs : List Dat) (d : Dat) (w : World) (hR : w.heap[R]? = some (RdB t beg nxt deep v)) (hown : w.ownsRow B 49 5 v cs.length (flatD cs)) (hn : cs.length < 1000) (hB : B ≤ R) :
    Calls Try.prog 41 #[.pointer (some ⟨R, 0, none⟩), .agg #[.int .i64 d.k, .int .i64 d.n, .string d.s, .int .i64 d.l, .int .i64 d.r]] w fun e w' => e = .returned (.int .i64 (cs.length : Int)) ∧ ∃ v', w'.heap[R]? = some (RdB t beg nxt deep v') ∧ w'.ownsRow B 49 5 v' (cs ++ [d]).length (flatD (cs ++ [d])) ∧ Below B w w' ∧ Lib.OthersKept 49 (some R) w w' := by
  obtain ⟨i0, hi, hz0, hz1, hz2⟩ := info_parts bldInfo49
  have hRl : R < w.heap.size := (Array.getElem?_eq_some_iff.1 hR).1
  obtain ⟨ao, cap, rfl⟩ : ∃ ao cap, v = .slice ao cs.length cap := by
    rcases hown.2 with ⟨hv, h0⟩ | ⟨g, cap, cur, hv, _⟩
    · exact ⟨none, 0, by rw [hv, h0]⟩
    · exact ⟨_, _, hv⟩
  have c4 := cell_blk (j := 4) hR rfl
  have HR : Hid (w.heap[R]? = some (RdB t beg nxt deep (.slice ao cs.length cap))) := hR
  have HO : Hid (w.ownsRow B 49 5 (.slice ao cs.length cap) cs.length (flatD cs)) := hown
  have hd : ((cs.length : Int) == 1000) = false := by rw [beq_eq_false_iff_ne]; omega
  clear hown hR
  go_enter Try.func41, Try.ntmps41
  go_wp2
  have hv1 : (Value.slice ao cs.length cap).ownBlock ≠ some R := by
    intro e
    rcases HO.out.2 with ⟨hv, h0⟩ | ⟨g, cap', cur, hv, _, hg, _⟩
    · rw [hv] at e; cases e
    · rw [hv] at e
      simp only [Value.ownBlock, Option.some.injEq] at e
      subst e
      have := hg.symm.trans HR.out
      simp [RdB] at this
  have hv2 : (Value.slice ao cs.length cap).ownBlock ≠ some w.heap.size := by
    intro e
    have := (HO.out.lt _ e).2
    omega
  have k0 : (w.alloc (Obj.cells #[Value.int .i64 d.k, Value.int .i64 d.n, Value.string d.s, Value.int .i64 d.l, Value.int .i64 d.r] 49)).heap[R]? = some (RdB t beg nxt deep (.slice ao cs.length cap)) := blk_past HR.out
  have k1 : (w.alloc (Obj.cells #[Value.int .i64 d.k, Value.int .i64 d.n, Value.string d.s, Value.int .i64 d.l, Value.int .i64 d.r] 49)).heap[w.heap.size]? = some (Obj.cells #[Value.int .i64 d.k, Value.int .i64 d.n, Value.string d.s, Value.int .i64 d.l, Value.int .i64 d.r] 49) := blk_alloc _ _
  have hs0 : (w.alloc (Obj.cells #[Value.int .i64 d.k, Value.int .i64 d.n, Value.string d.s, Value.int .i64 d.l, Value.int .i64 d.r] 49)).heap.size = w.heap.size + 1 := by simp
  have ho0 := HO.out.alloc (Obj.cells #[Value.int .i64 d.k, Value.int .i64 d.n, Value.string d.s, Value.int .i64 d.l, Value.int .i64 d.r] 49)
  have hb0 : Below w.heap.size w (w.alloc (Obj.cells #[Value.int .i64 d.k, Value.int .i64 d.n, Value.string d.s, Value.int .i64 d.l, Value.int .i64 d.r] 49)) := (Below.refl _ _).alloc (Nat.le_refl _) _
  generalize w.alloc (Obj.cells #[Value.int .i64 d.k, Value.int .i64 d.n, Value.string d.s, Value.int .i64 d.l, Value.int .i64 d.r] 49) = w0 at *
  have f4 := frozen_blk k0 4
  have r4 := cell_blk (j := 4) k0 rfl
  have x0 := cell_blk (j := 0) k1 rfl
  have x1 := cell_blk (j := 1) k1 rfl
  have x2 := cell_blk (j := 2) k1 rfl
  have x3 := cell_blk (j := 3) k1 rfl
  have x4 := cell_blk (j := 4) k1 rfl
  have HK0 : Hid _ := k0
  have HO0 : Hid (w0.ownsRow B 49 5 (.slice ao cs.length cap) cs.length (flatD cs)) := ho0
  have hR0 : R < w0.heap.size := by omega
  have hW0 : w.heap.size < w0.heap.size := by omega
  clear k0 k1 ho0 c4
  have hS0 : Sx R w.heap.size (.slice ao cs.length cap) d w0 := ⟨r4, f4, x0, x1, x2, x3, x4⟩
  have HS0 : Hid (Sx R w.heap.size (.slice ao cs.length cap) d w0) := hS0
  clear hS0
  go_region_law
    ((refine step_append_lies _ (by rfl) _ _ _ (by rfl) B 49 i0 _ 5 48 Try.underlying22 hi hz0 hz1 hz2 rfl (by omega) (.slice ao cs.length cap) cs.length (flatD cs) (by rfl) (HO0.out.alloc _) ⟨w.heap.size + 1, 0, none⟩ 1 1 [.int .i64 d.k, .int .i64 d.n, .string d.s, .int .i64 d.l, .int .i64 d.r] (by rfl) (by rfl) (World.news_of_block (blk_at _ _ _ hs0.symm)) (by intro u hu; simp at hu; rcases hu with rfl | rfl | rfl | rfl | rfl <;> rfl) (by omega) (by simp [maxLen]; omega) (by omega) (by simp; omega) (w.heap.size + 1 + 1) (by simp; omega) ?_; intro g cap' w1 hown1 hgrow hat hlt; have hsx := Sx.keep HS0.out ((hgrow.block R (by simp; omega) (Ne.symm hv1)).trans (heap_alloc_lt w0 _ R hR0)) ((hgrow.block w.heap.size (by simp; omega) (Ne.symm hv2)).trans (heap_alloc_lt w0 _ _ hW0)); have z4 := hsx.1; have zf := hsx.2.1))
  all_goals
    have hk1 : w1.heap[R]? = some (RdB t beg nxt deep (.slice ao cs.length cap)) := ((hgrow.block R (by simp; omega) (Ne.symm hv1)).trans (heap_alloc_lt w0 _ R hR0)).trans HK0.out
    have hb1 : Below B w w1 := by
      refine ⟨hgrow.os.trans hb0.os, hgrow.tape.trans hb0.tape, hgrow.output.trans hb0.output, Nat.le_trans hb0.size (Nat.le_trans (by simp) hgrow.size), fun k hk => ?_⟩
      have hkw : k < w.heap.size := by omega
      rw [hgrow.block k (by simp; omega) (fun e => by have := (HO.out.lt k e.symm).1; omega)]
      exact (heap_alloc_lt w0 _ k (by omega)).trans (hb0.block k hkw)
    have hok : Lib.OthersKept 49 (some R) w w1 := by
      intro k o hk hkR ho
      have hkw := (Array.getElem?_eq_some_iff.1 hk).1
      have hne : some k ≠ (Value.slice ao cs.length cap).ownBlock := by
        intro e
        rcases HO.out.2 with ⟨hv, _⟩ | ⟨g', cap'', cur, hv, _, hg, _⟩
        · rw [hv] at e; cases e
        · rw [hv] at e
          simp only [Value.ownBlock, Option.some.injEq] at e
          subst e
          exact ho _ _ (Option.some.inj (hk.symm.trans hg))
      rw [hgrow.block k (by simp; omega) hne]
      exact ((heap_alloc_lt w0 _ k (by omega)).trans (hb0.block k hkw)).trans hk
    have hk2 : (w1.setCell ⟨R, 4, none⟩ (.slice (some ⟨g, 0, none⟩) (cs.length + 1) cap')).heap[R]? = some (RdB t beg nxt deep (.slice (some ⟨g, 0, none⟩) (cs.length + 1) cap')) := heap_setCell_same _ _ _ _ _ _ hk1
    have hgR : g ≠ R := by
      intro e
      rcases hown1.2 with ⟨hv, _⟩ | ⟨g', cap'', cur, hv, _, hg, _⟩
      · cases hv
      · simp only [Value.slice.injEq, Option.some.injEq, Addr.mk.injEq] at hv
        obtain ⟨⟨rfl, _⟩, _⟩ := hv
        subst e
        have := hg.symm.trans hk1
        simp [RdB] at this
    have ho2 : (w1.setCell ⟨R, 4, none⟩ (.slice (some ⟨g, 0, none⟩) (cs.length + 1) cap')).ownsRow B 49 5 (.slice (some ⟨g, 0, none⟩) (cs.length + 1) cap') (cs ++ [d]).length (flatD (cs ++ [d])) := by
      rw [flatD_snoc, List.length_append, List.length_cons, List.length_nil]
      exact hown1.kept (grownBy_setCell'' w1 R 4 _) (.inr (by simp only [Value.ownBlock]; intro e; exact hgR (Option.some.inj e)))
    have r5 := cell_blk (j := 4) hk2 rfl
    have HK2 : Hid _ := hk2
    have HO2 : Hid _ := ho2
    have HB1 : Hid (Below B w (w1.setCell ⟨R, 4, none⟩ (.slice (some ⟨g, 0, none⟩) (cs.length + 1) cap'))) := hb1.setCell (p := ⟨R, 4, none⟩) hB _
    have HOK : Hid (Lib.OthersKept 49 (some R) w (w1.setCell ⟨R, 4, none⟩ (.slice (some ⟨g, 0, none⟩) (cs.length + 1) cap'))) := hok.setCell ⟨R, 4, none⟩ rfl _
    clear hk1 hb1 hok hk2 ho2 hown1 hgrow hsx z4 zf
    go_wp2
    go_ret
    exact ⟨by simp, _, HK2.out, HO2.out, HB1.out, HOK.out⟩
end Go.Proofs.Ytilaonjjpfebgaa
