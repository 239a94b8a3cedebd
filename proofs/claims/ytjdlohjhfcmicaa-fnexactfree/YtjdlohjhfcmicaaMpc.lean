/- A map by a name and a way, its elements numbers: what it says, key by key. -/
import Derived.Test.YtjdlohjhfcmicaaKmp
import Derived.Test.YtjdlohjhfcmicaaFrp
import Derived.DeepKeys4
namespace Go.Proofs.Ytjdlohjhfcmicaa
open Go.ChangeShapes Go.WideShapes Go.ChangeAt Go.RowKit
open Go.Maps (Keyed has)
theorem Try.laidOut1 : laidOutB Try.prog = true := by kernel_rfl
theorem Try.row50 : (50 : Nat) < Try.prog.types.size := by
  have h : Try.prog.types.size = 112 := by kernel_rfl
  rw [h]
  omega
theorem Try.law50 : Keyed Try.prog 50 := Keyed.of_law (deep_law_laid Try.laidOut1 (m := 2) (by omega) Try.row50 (by kernel_rfl) (by kernel_rfl))
theorem Try.keyType50 : Try.prog.keyType 50 = true := by kernel_rfl
theorem Try.cells50 : Try.prog.cellsOf 50 = 2 := by kernel_rfl
theorem Try.cells9 : Try.prog.cellsOf 9 = 1 := by kernel_rfl
theorem Try.cells3 : Try.prog.cellsOf 3 = 1 := by kernel_rfl
/-- A key. -/
def Ks (s : ByteArray) (h : Int) : Value := .agg #[.string s, .int .i64 h]
/-- What a key reads as. -/
def ksl (s : ByteArray) (h : Int) : Lit := .string (keyBytes [.string s.data.toList, .int .i64 h])
theorem keyOf_S {s : ByteArray} {h : Int} (hs : s.size ≤ 1048576) (hh : i64B h) : keyOf Try.prog 50 (Ks s h) = some (ksl s h) := by
  have wb := lit_wf hh
  have wa : s.size ≤ maxLen := by simp [maxLen]; omega
  obtain ⟨m, hm⟩ := Try.size99
  unfold keyOf Ks ksl
  simp only [Try.underlying50]
  rw [if_pos (by simp [Try.keyType50, Value.formed, Try.underlying50, Try.cells50]), hm]
  unfold Program.keyLits
  simp only [Try.underlying50, Value.cells]
  rw [if_pos (by rw [Try.cells50]; exact ⟨rfl, by simp⟩)]
  simp [List.mapM_cons, Try.cells9, Try.cells3, Program.keyLits, Try.underlying3, Try.underlying9, wa, wb]
theorem ksl_inj {s s' : ByteArray} {h h' : Int} (hs : s.size ≤ 1048576) (hs' : s'.size ≤ 1048576) (hh : i64B h) (hh' : i64B h') (e : ksl s h = ksl s' h') : s = s' ∧ h = h' := by
  have h1 := keyOf_S hs hh
  have h2 := keyOf_S hs' hh'
  rw [← e] at h2
  have := Try.law50.inj h1 h2
  simpa [Ks] using this
/-- How an element reads. -/
def ReI (v : Value) : Option (DataW Unit × List MemPlace) :=
  match v with
  | .int .i64 n => some (.lit (.int .i64 n), [])
  | _ => none
theorem ReI_mk (n : Int) : ReI (.int .i64 n) = some (.lit (.int .i64 n), []) := rfl
theorem ReI_inv {v : Value} {n : Int} {ps : List MemPlace} (e : ReI v = some (.lit (.int .i64 n), ps)) : v = .int .i64 n := by
  unfold ReI at e
  split at e
  · simp at e
    rw [e.1]
  · cases e
theorem ksl_key (s : ByteArray) (h : Int) : WideAt.IsKeyLit (ksl s h) := trivial
/-- The map in a block counts F; its keys are among L. -/
def MapC (w : World) (m : Nat) (L : List Value) (F : ByteArray → Int → Int) : Prop :=
  ∃ D : DataW Unit, w.ownsMap Try.prog 50 ReI m L.length D ∧ (∀ es clock, w.heap[m]? = some (.map es clock) → ∀ x ∈ es.toList, x.key ∈ L) ∧ ∀ s h, s.size ≤ 1048576 → i64B h → D.atKey (ksl s h) (.lit (.int .i64 0)) = .lit (.int .i64 (F s h))
/-- One key another. -/
def updC (F : ByteArray → Int → Int) (s0 : ByteArray) (h0 v : Int) : ByteArray → Int → Int := fun s h => if s = s0 ∧ h = h0 then v else F s h
theorem MapC.made (w : World) (L : List Value) : MapC (w.alloc (.map #[] 0)) w.heap.size L (fun _ _ => 0) := by
  obtain ⟨es, clock, h1, h2, h3, h4⟩ := World.ownsMap_made w Try.prog 50 ReI
  refine ⟨_, ⟨es, clock, h1, h2, Nat.le_trans h3 (Nat.zero_le _), h4⟩, fun es' clock' h x hx => ?_, fun _ _ _ _ => rfl⟩
  have e : (w.alloc (.map #[] 0)).heap[w.heap.size]? = some (.map #[] 0) := blk_at _ _ _ rfl
  have := e.symm.trans h
  simp at this
  rw [this.1] at hx
  simp at hx
theorem MapC.same {w w' : World} {m : Nat} {L : List Value} {F : ByteArray → Int → Int} (h : MapC w m L F) (hb : w'.heap[m]? = w.heap[m]?) : MapC w' m L F := by
  obtain ⟨D, ⟨es, clock, h1, h2⟩, hk, hD⟩ := h
  exact ⟨D, ⟨es, clock, hb.trans h1, h2⟩, fun es' clock' h => hk es' clock' (hb.symm.trans h), hD⟩
theorem MapC.lt {w : World} {m : Nat} {L : List Value} {F : ByteArray → Int → Int} (h : MapC w m L F) : m < w.heap.size := by
  obtain ⟨D, ho, _⟩ := h
  exact ho.lt
theorem MapC.eq {w : World} {m : Nat} {L : List Value} {F G : ByteArray → Int → Int} (h : MapC w m L F) (e : ∀ s k, F s k = G s k) : MapC w m L G := by
  have : F = G := funext fun s => funext fun k => e s k
  exact this ▸ h
theorem MapC.store {w : World} {m : Nat} {L : List Value} {F : ByteArray → Int → Int} (h : MapC w m L F) (hn : L.length < maxLen) {s0 : ByteArray} {h0 : Int} (hs : s0.size ≤ 1048576) (hh : i64B h0) (hL : Ks s0 h0 ∈ L) (v : Int) :
    ∃ w', (Instr.mapUpdate 44 (.map (some m)) (Ks s0 h0) (.int .i64 v)).run Try.prog w = .ok () w' ∧ MapC w' m L (updC F s0 h0 v) ∧ w.grownBy w' (some m) := by
  obtain ⟨D, ho, hkeys, hD⟩ := h
  have hm := ho.isMap
  obtain ⟨es, clock, hb, F0, hsz, hDe⟩ := id ho
  obtain ⟨w', hr, ho', hg⟩ := ho.update Try.law50 Try.underlying44 hn (keyOf_S hs hh) (ReI_mk v)
  obtain ⟨es', clock', hrun, _, _, _, _, hwho⟩ := Maps.fit_store (R' := ReI) Try.law50 Try.underlying44 hb F0 (Nat.lt_of_le_of_lt hsz hn) (fun _ _ _ _ hz => hz) (keyOf_S hs hh) (ReI_mk v)
  have hw : w' = ChangeMaps.setBlock w m (.map es' clock') := by rw [hr] at hrun; simpa using hrun
  have hb' : w'.heap[m]? = some (.map es' clock') := by rw [hw]; exact ChangeMaps.heap_setBlock_same hb _
  obtain ⟨es2, clock2, hb2, F2, hsz2, hD2⟩ := ho'
  obtain ⟨rfl, rfl⟩ : es2 = es' ∧ clock2 = clock' := by have := hb2.symm.trans hb'; simpa using this
  have hk2 : ∀ x ∈ es2.toList, x.key ∈ L := by
    intro x hx
    rcases hwho x hx with ⟨h1, _⟩ | ⟨h1, _⟩
    · exact hkeys es clock hb x h1
    · rw [h1]; exact hL
  have hlen : es2.size ≤ L.length := by
    letI : DecidableEq Value := fun a b => Classical.propDecidable (a = b)
    have := nodup_le (es2.toList.map (·.key)) L (List.pairwise_map.2 ((MapKept.stamped_iff es2 clock2).1 F2.stamped).2.2) (fun y hy => by
      obtain ⟨x, hx, rfl⟩ := List.mem_map.1 hy
      exact hk2 x hx)
    simpa using this
  refine ⟨w', hr, ⟨_, ⟨es2, clock2, hb2, F2, hlen, hD2⟩, fun es3 clock3 h3 x hx => ?_, fun s k hs' hk' => ?_⟩, hg⟩
  · obtain ⟨rfl, rfl⟩ : es3 = es2 ∧ clock3 = clock2 := by have := h3.symm.trans hb2; simpa using this
    exact hk2 x hx
  · by_cases he : s = s0 ∧ k = h0
    · obtain ⟨rfl, rfl⟩ := he
      rw [show updC F s k v s k = v from if_pos ⟨rfl, rfl⟩]
      exact Maps.atKey_put_same hm (ksl_key _ _) _ _
    · rw [show updC F s0 h0 v s k = F s k from if_neg he]
      have hne : ksl s k ≠ ksl s0 h0 := fun e => he (ksl_inj hs' hs hk' hh e)
      rw [Maps.atKey_put_other hne]
      exact hD s k hs' hk'
theorem Try.zero3 (w : World) : (zeroValue 3).run Try.prog w = .ok (.int .i64 0) w := by kernel_rfl
theorem MapC.look {w : World} {m : Nat} {L : List Value} {F : ByteArray → Int → Int} (h : MapC w m L F) {s : ByteArray} {k : Int} (hs : s.size ≤ 1048576) (hh : i64B k) :
    (Instr.lookup 44 (.map (some m)) (Ks s k) false).run Try.prog w = .ok (.int .i64 (F s k)) w := by
  obtain ⟨D, ho, _, hD⟩ := h
  obtain ⟨v, ps, hr, hv⟩ := ho.lookup Try.law50 Try.underlying44 (Try.zero3 w) (ReI_mk 0) (keyOf_S hs hh)
  rw [hD s k hs hh] at hv
  rw [ReI_inv hv] at hr
  exact hr
end Go.Proofs.Ytjdlohjhfcmicaa
