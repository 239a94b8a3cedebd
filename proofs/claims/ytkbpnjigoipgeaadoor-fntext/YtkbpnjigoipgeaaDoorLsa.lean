/- AsList, the model's and the program's. -/
import Derived.Test.YtkbpnjigoipgeaaDoorLss
import Derived.Test.YtkbpnjigoipgeaaDoorLsi
import Derived.Test.YtkbpnjigoipgeaaDoorHox
set_option linter.unusedVariables false
namespace Go.Proofs.YtkbpnjigoipgeaaDoor
open Go.ChangeShapes Go.WideShapes Go.ChangeAt Go.RowKit
/-- What AsList is to tell. -/
def AsR (h : List Cel) (v : Val) (L : List Val) (bz : Bool) : Prop :=
  (HeapP h ∧ v.ok h = true ∧ ∃ z, Lst h v L z ∧ bz = decide (z.k = 3)) ∨ (¬ (HeapP h ∧ v.ok h = true) ∧ L = [] ∧ bz = false)
theorem asR_any (h : List Cel) (v : Val) (hsm : ∀ d ∈ h, d.small) : ∃ L bz, AsR h v L bz ∧ L.length ≤ 300 ∧ ∀ x ∈ L, x.small := by
  by_cases hg : HeapP h ∧ v.ok h = true
  · obtain ⟨L, z, hl, hn, hs⟩ := lst_of hg.1 hg.2 hsm
    exact ⟨L, _, .inl ⟨hg.1, hg.2, z, hl, rfl⟩, hn, hs⟩
  · exact ⟨[], false, .inr ⟨hg, rfl, rfl⟩, Nat.zero_le _, fun x hx => by cases hx⟩
theorem HpPost.ans {h : List Cel} {w w' : World} {e : Ending} {b : Bool} (hb : b = true ↔ HeapP h) (hp : HpPost h w e w') : Ans w (.bool b) e w' := by
  obtain ⟨c, rfl, hc, hbl⟩ := hp
  have : c = b := by
    cases c <;> cases b <;> simp_all
  subst this
  exact ⟨rfl, hbl⟩
/-- The same, the row named. -/
def AsP (R : List Val) (b : Bool) (w : World) (e : Ending) (w' : World) : Prop := ∃ v, e = .returned (.tuple #[v, .bool b]) ∧ OwnV w' w.heap.size v R ∧ Below w.heap.size w w'
theorem LsPost.grow {L : List Val} {bz : Bool} {w w1 w2 : World} {e : Ending} (hb : Below w.heap.size w w1) (hp : LsPost L bz w1 e w2) : LsPost L bz w e w2 := by
  obtain ⟨v, rfl, ho, hbl⟩ := hp
  exact ⟨v, rfl, ho.weak hb.size, hb.trans (hbl.mono hb.size)⟩
set_option maxRecDepth 100000 in
set_option maxHeartbeats 1000000 in
theorem specList_any (v : Val) (a : Option Addr) (h : List Cel) (ca : Nat) (L : List Val) (bz : Bool) (w : World) (hl : h.length ≤ 1048576) (hsm : ∀ d ∈ h, d.small) (hv : v.s.size ≤ 1048576) (hR : AsR h v L bz) (hLl : L.length ≤ 300) (hr : RowC w w.heap.size a h) :
    Calls Tryd.prog 12 #[.slice a h.length ca, .agg #[.int .i64 v.k, .int .i64 v.n, .string v.s]] w fun e w' => LsPost L bz w e w' := by
  obtain ⟨hp, hhp⟩ : ∃ hp : Bool, hp = true ↔ HeapP h := by
    by_cases q : HeapP h
    · exact ⟨true, ⟨fun _ => q, fun _ => rfl⟩⟩
    · exact ⟨false, ⟨fun e => Bool.noConfusion e, fun e => absurd e q⟩⟩
  have HH : Hid (∀ (w1 : World), Below w.heap.size w w1 → Calls Tryd.prog 8 #[.slice a h.length ca] w1 fun e w' => Ans w1 (.bool hp) e w') := fun w1 hb => (specHeap_any a h ca w1 hl hsm ((hr.below hb).mono hb.size)).mono fun e w' q => q.ans hhp
  have HV : Hid (∀ (w1 : World), Below w.heap.size w w1 → Calls Tryd.prog 9 #[.slice a h.length ca, .agg #[.int .i64 v.k, .int .i64 v.n, .string v.s]] w1 fun e w' => Ans w1 (.bool (v.ok h)) e w') := fun w1 hb => specVal_any v a h ca w1 hl hv ((hr.below hb).mono hb.size)
  have hb0 : Below w.heap.size w (w.alloc (Obj.cells #[.int .i64 v.k, .int .i64 v.n, .string v.s] 26)) := (Below.refl _ _).alloc (Nat.le_refl _) _
  have hk0 : (w.alloc (Obj.cells #[.int .i64 v.k, .int .i64 v.n, .string v.s] 26)).heap[w.heap.size]? = some (Obj.cells #[.int .i64 v.k, .int .i64 v.n, .string v.s] 26) := blk_at _ _ _ rfl
  have hs0 : (w.alloc (Obj.cells #[.int .i64 v.k, .int .i64 v.n, .string v.s] 26)).heap.size = w.heap.size + 1 := by simp
  rcases hR with ⟨h1, h2, z, hz, hbz⟩ | ⟨hn, rfl, rfl⟩
  · obtain rfl : hp = true := hhp.2 h1
    rw [h2] at HV
    have HL : Hid (∀ (w1 : World), Below w.heap.size w w1 → Calls Tryd.prog 29 #[.slice a h.length ca, .agg #[.int .i64 v.k, .int .i64 v.n, .string v.s]] w1 fun e w' => LsPost L bz w1 e w') := fun w1 hb => l14List_any v a h ca L z w1 hl hLl hz bz hbz ((hr.below hb).mono hb.size)
    clear hr hsm hhp hbz hz h1 h2
    go_enter Tryd.func12, Tryd.ntmps12
    go_wp2_with fail
    refine (HH.out _ hb0).mono ?_
    rintro e w1 ⟨rfl, hb1⟩
    have k1 := blk_keep hk0 hb1 (by omega)
    have hb2 := hb0.trans (hb1.mono hb0.size)
    have hs1 := hb1.size
    have e0 := cell_blk (j := 0) k1 rfl
    have e1 := cell_blk (j := 1) k1 rfl
    have e2 := cell_blk (j := 2) k1 rfl
    go_wp2_with fail
    refine (HV.out _ hb2).mono ?_
    rintro e w2 ⟨rfl, hb3⟩
    have k2 := blk_keep k1 hb3 (by omega)
    have hb4 := hb2.trans (hb3.mono hb2.size)
    clear e0 e1 e2
    have e0 := cell_blk (j := 0) k2 rfl
    have e1 := cell_blk (j := 1) k2 rfl
    have e2 := cell_blk (j := 2) k2 rfl
    go_wp2_with fail
    refine (HL.out _ hb4).mono ?_
    rintro e w3 ⟨r, rfl, ho, hb5⟩
    go_wp2
    go_ret2
    exact LsPost.grow hb4 ⟨r, rfl, ho, hb5⟩
  · cases hp with
    | false =>
      clear hr hsm hhp hn
      go_enter Tryd.func12, Tryd.ntmps12
      go_wp2_with fail
      refine (HH.out _ hb0).mono ?_
      rintro e w1 ⟨rfl, hb1⟩
      have hb2 := hb0.trans (hb1.mono hb0.size)
      go_wp2
      go_ret2
      exact LsPost.mk' rfl (OwnV.of (l := []) (own_empty (blk_at _ _ _ rfl) hb2.size)) (hb2.alloc hb2.size _)
    | true =>
      have h2 : v.ok h = false := by
        cases q : v.ok h
        · rfl
        · exact absurd ⟨hhp.1 rfl, q⟩ hn
      rw [h2] at HV
      clear hr hsm hhp hn h2
      go_enter Tryd.func12, Tryd.ntmps12
      go_wp2_with fail
      refine (HH.out _ hb0).mono ?_
      rintro e w1 ⟨rfl, hb1⟩
      have k1 := blk_keep hk0 hb1 (by omega)
      have hb2 := hb0.trans (hb1.mono hb0.size)
      have e0 := cell_blk (j := 0) k1 rfl
      have e1 := cell_blk (j := 1) k1 rfl
      have e2 := cell_blk (j := 2) k1 rfl
      go_wp2_with fail
      refine (HV.out _ hb2).mono ?_
      rintro e w2 ⟨rfl, hb3⟩
      have hb4 := hb2.trans (hb3.mono hb2.size)
      go_wp2
      go_ret2
      exact LsPost.mk' rfl (OwnV.of (l := []) (own_empty (blk_at _ _ _ rfl) hb4.size)) (hb4.alloc hb4.size _)
set_option maxRecDepth 100000 in
set_option maxHeartbeats 1000000 in
theorem implList_any (v : Val) (a : Option Addr) (h : List Cel) (ca : Nat) (L : List Val) (bz : Bool) (w : World) (hl : h.length ≤ 1048576) (hca : h.length ≤ ca) (hsm : ∀ d ∈ h, d.small) (hv : v.s.size ≤ 1048576) (hR : AsR h v L bz) (hLl : L.length ≤ 300) (hLs : ∀ x ∈ L, x.small) (hr : RowC w w.heap.size a h) :
    Calls Tryd.prog 11 #[.slice a h.length ca, .agg #[.int .i64 v.k, .int .i64 v.n, .string v.s]] w fun e w' => LsPost L bz w e w' := by
  obtain ⟨hp, hhp⟩ : ∃ hp : Bool, hp = true ↔ HeapP h := by
    by_cases q : HeapP h
    · exact ⟨true, ⟨fun _ => q, fun _ => rfl⟩⟩
    · exact ⟨false, ⟨fun e => Bool.noConfusion e, fun e => absurd e q⟩⟩
  have HH : Hid (∀ (w1 : World), Below w.heap.size w w1 → Calls Tryd.prog 19 #[.slice a h.length ca] w1 fun e w' => Ans w1 (.bool hp) e w') := fun w1 hb => (implHeap_any a h ca w1 hl hca hsm ((hr.below hb).mono hb.size)).mono fun e w' q => q.ans hhp
  have HV : Hid (∀ (w1 : World), Below w.heap.size w w1 → Calls Tryd.prog 18 #[.slice a h.length ca, .agg #[.int .i64 v.k, .int .i64 v.n, .string v.s]] w1 fun e w' => Ans w1 (.bool (v.ok h)) e w') := fun w1 hb => implVal_any v a h ca w1 hl hv ((hr.below hb).mono hb.size)
  have hb0 : Below w.heap.size w (w.alloc (Obj.cells #[.int .i64 v.k, .int .i64 v.n, .string v.s] 26)) := (Below.refl _ _).alloc (Nat.le_refl _) _
  have hk0 : (w.alloc (Obj.cells #[.int .i64 v.k, .int .i64 v.n, .string v.s] 26)).heap[w.heap.size]? = some (Obj.cells #[.int .i64 v.k, .int .i64 v.n, .string v.s] 26) := blk_at _ _ _ rfl
  have hs0 : (w.alloc (Obj.cells #[.int .i64 v.k, .int .i64 v.n, .string v.s] 26)).heap.size = w.heap.size + 1 := by simp
  rcases hR with ⟨h1, h2, z, hz, hbz⟩ | ⟨hn, rfl, rfl⟩
  · obtain rfl : hp = true := hhp.2 h1
    rw [h2] at HV
    have HL : Hid (∀ (w1 : World), Below w.heap.size w w1 → Calls Tryd.prog 28 #[.slice a h.length ca, .agg #[.int .i64 v.k, .int .i64 v.n, .string v.s]] w1 fun e w' => LsPost L bz w1 e w') := fun w1 hb => listOf_any v a h ca L z w1 hl hLl (fun x hx => (hLs x hx).2.2) hz bz hbz ((hr.below hb).mono hb.size)
    clear hr hsm hhp hbz hz h1 h2 hLs
    go_enter Tryd.func11, Tryd.ntmps11
    go_wp2_with fail
    refine (HV.out _ hb0).mono ?_
    rintro e w1 ⟨rfl, hb1⟩
    have k1 := blk_keep hk0 hb1 (by omega)
    have hb2 := hb0.trans (hb1.mono hb0.size)
    have hs1 := hb1.size
    go_wp2_with fail
    refine (HH.out _ hb2).mono ?_
    rintro e w2 ⟨rfl, hb3⟩
    have k2 := blk_keep k1 hb3 (by omega)
    have hb4 := hb2.trans (hb3.mono hb2.size)
    have e0 := cell_blk (j := 0) k2 rfl
    have e1 := cell_blk (j := 1) k2 rfl
    have e2 := cell_blk (j := 2) k2 rfl
    go_wp2_with fail
    refine (HL.out _ hb4).mono ?_
    rintro e w3 ⟨r, rfl, ho, hb5⟩
    go_wp2
    go_ret2
    exact LsPost.grow hb4 ⟨r, rfl, ho, hb5⟩
  · cases hq : v.ok h with
    | false =>
      rw [hq] at HV
      clear hr hsm hhp hn hq hLs
      go_enter Tryd.func11, Tryd.ntmps11
      go_wp2_with fail
      refine (HV.out _ hb0).mono ?_
      rintro e w1 ⟨rfl, hb1⟩
      have hb2 := hb0.trans (hb1.mono hb0.size)
      go_wp2
      go_ret2
      exact LsPost.mk' rfl (OwnV.of (l := []) own_none) hb2
    | true =>
      obtain rfl : hp = false := by
        cases hp
        · rfl
        · exact absurd ⟨hhp.1 rfl, hq⟩ hn
      rw [hq] at HV
      clear hr hsm hhp hn hq hLs
      go_enter Tryd.func11, Tryd.ntmps11
      go_wp2_with fail
      refine (HV.out _ hb0).mono ?_
      rintro e w1 ⟨rfl, hb1⟩
      have hb2 := hb0.trans (hb1.mono hb0.size)
      go_wp2_with fail
      refine (HH.out _ hb2).mono ?_
      rintro e w2 ⟨rfl, hb3⟩
      have hb4 := hb2.trans (hb3.mono hb2.size)
      go_wp2
      go_ret2
      exact LsPost.mk' rfl (OwnV.of (l := []) own_none) hb4
end Go.Proofs.YtkbpnjigoipgeaaDoor
