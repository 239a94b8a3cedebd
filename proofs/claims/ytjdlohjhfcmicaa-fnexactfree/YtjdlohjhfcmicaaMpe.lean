/- A key of the map counted up or down: its entry, and what is stored there. -/
import Derived.Test.YtjdlohjhfcmicaaFbp
import Derived.WideKeyEntry
namespace Go.Proofs.Ytjdlohjhfcmicaa
open Go.ChangeShapes Go.WideShapes Go.ChangeAt Go.RowKit
open Go.ChangeMaps (setBlock)
theorem Try.klaw50 : WideMaps.KeyLaw Try.prog 50 := deep_law_laid Try.laidOut1 (m := 2) (by omega) Try.row50 (by kernel_rfl) (by kernel_rfl)
/-- Whoever asks for an entry, looks, or stores what stands there already, meets the same. -/
theorem entry_all {w : World} {m : Nat} {es : Array MapEntry} {clock : Nat} (hb : w.heap[m]? = some (.map es clock)) (F : WideElems.Fit Try.prog 50 ReI es clock) {key : Value} {kl : Lit} (hkey : keyOf Try.prog 50 key = some kl) :
    ∃ (v0 : Value) (st : Nat) (w1 : World), (Instr.mapEntry 44 (.map (some m)) key).run Try.prog w = .ok (.tuple #[v0, goInt st]) w1 ∧ (Instr.mapUpdate 44 (.map (some m)) key v0).run Try.prog w = .ok () w1 ∧ (Instr.lookup 44 (.map (some m)) key false).run Try.prog w = .ok v0 w := by
  have K := Try.klaw50
  have g1 := MapKept.run_getObj_map (P := Try.prog) hb
  have g2 := fun o => MapKept.run_setObj_map (P := Try.prog) o hb
  have c1 := K.check w false hkey
  have c2 := K.check w es.isEmpty hkey
  rcases K.find w hkey es.toList F.keys with ⟨h1, _⟩ | ⟨j, e0, h1, h2, h3⟩
  · refine ⟨.int .i64 0, clock, setBlock w m (.map (es.push ⟨key, .int .i64 0, clock⟩) (clock + 1)), ?_, ?_, ?_⟩
    · simp [Instr.mapEntry, run_underlying Try.underlying44, g1, c1, h1, g2, Result.andThen, setBlock]
    · simp [Instr.mapUpdate, run_underlying Try.underlying44, g1, c1, h1, g2, Result.andThen, setBlock]
    · simp [Instr.lookup, run_underlying Try.underlying44, g1, c2, h1]
  · have hj : es[j]? = some e0 := by simpa using h2
    have hm : ∀ (f : MapEntry → MapEntry), f e0 = e0 → es.modify j f = es := by
      intro f hf
      apply Array.ext'
      rw [Array.toList_modify]
      apply List.ext_getElem?
      intro i
      rw [List.getElem?_modify]
      by_cases hij : j = i
      · subst hij
        simp [h2, hf]
      · simp [hij]
    have hst := K.stays w hkey
    refine ⟨e0.val, e0.born, setBlock w m (.map es clock), ?_, ?_, ?_⟩
    · simp [Instr.mapEntry, run_underlying Try.underlying44, g1, c1, h1, hj, h3, hst, g2, Result.andThen, setBlock]
      rw [hm _ (by rw [← h3])]
    · simp [Instr.mapUpdate, run_underlying Try.underlying44, g1, c1, h1, hj, h3, hst, g2, Result.andThen, setBlock]
      rw [hm _ (by rw [← h3])]
    · simp [Instr.lookup, run_underlying Try.underlying44, g1, c2, h1]
theorem MapC.entry {w : World} {m : Nat} {L : List Value} {F : ByteArray → Int → Int} (h : MapC w m L F) (hn : L.length < maxLen) {s : ByteArray} {k : Int} (hs : s.size ≤ 1048576) (hh : i64B k) (hL : Ks s k ∈ L) :
    ∃ (st : Nat) (w1 : World), (Instr.mapEntry 44 (.map (some m)) (Ks s k)).run Try.prog w = .ok (.tuple #[.int .i64 (F s k), goInt st]) w1 ∧ MapC w1 m L F ∧ w.grownBy w1 (some m) ∧
      ∀ (w2 : World) (v : Int), w2.heap[m]? = w1.heap[m]? → ∃ w3, (Instr.entryStore 44 (.map (some m)) (goInt st) (.int .i64 v)).run Try.prog w2 = .ok () w3 ∧ MapC w3 m L (updC F s k v) ∧ w2.grownBy w3 (some m) := by
  obtain ⟨D, ho, hkeys, hD⟩ := id h
  obtain ⟨es, clock, hb, F0, hsz, hDe⟩ := id ho
  obtain ⟨v0, st, w1, r1, r2, r3⟩ := entry_all hb F0 (keyOf_S hs hh)
  obtain rfl : v0 = .int .i64 (F s k) := by
    have := (h.look hs hh).symm.trans r3
    simpa using this.symm
  obtain ⟨v0', st', es1, clock1, hrun, _, hst⟩ := WideElems.entry_then_store Try.klaw50 Try.underlying44 Try.zero3 hb F0 (keyOf_S hs hh)
  have heq := r1.symm.trans hrun
  simp only [Result.ok.injEq, Value.tuple.injEq] at heq
  obtain ⟨hv, hw1⟩ := heq
  have hg : goInt st' = goInt st := by
    have := congrArg (fun (xs : Array Value) => xs[1]?) hv
    simpa using this.symm
  obtain ⟨w', hr, hm', hgr⟩ := h.store hn hs hh hL (F s k)
  obtain rfl : w' = w1 := by
    have := hr.symm.trans r2
    simpa using this
  refine ⟨st, w', r1, hm'.eq (fun s' k' => ?_), hgr, fun w2 v hw2 => ?_⟩
  · unfold updC
    split
    · rename_i he
      rw [he.1, he.2]
    · rfl
  · have hb1 : w'.heap[m]? = some (.map es1 clock1) := by rw [hw1]; exact ChangeMaps.heap_setBlock_same hb _
    obtain ⟨es', clock', q1, q2⟩ := hst w2 (.int .i64 v) (hw2.trans hb1)
    obtain ⟨w'', hr2, hm2, _⟩ := h.store hn hs hh hL v
    obtain rfl : w'' = setBlock w m (.map es' clock') := by
      have := hr2.symm.trans q2
      simpa using this
    rw [hg] at q1
    have hb2 := hw2.trans hb1
    refine ⟨_, q1, hm2.same ?_, ⟨rfl, rfl, rfl, by simp [setBlock], fun i _ hi => ChangeMaps.heap_setBlock_other hb2 _ (fun e => hi (by rw [e]))⟩⟩
    rw [ChangeMaps.heap_setBlock_same hb2 _, ChangeMaps.heap_setBlock_same hb _]
end Go.Proofs.Ytjdlohjhfcmicaa
