/- A map by keys of one kind, its elements numbers: what it says, key by key; cleared, it says none. -/
import Derived.Test.YtamjofdgikifnaaGreatKmp
import Derived.Test.YtamjofdgikifnaaGreatApw
import Derived.DeepKeys4
import Derived.WideKeyEntry
set_option linter.unusedVariables false
namespace Go.Proofs.YtamjofdgikifnaaGreat
open Go.ChangeShapes Go.WideShapes Go.ChangeAt Go.RowKit
open Go.Maps (Keyed has)
open Go.ChangeMaps (setBlock)
theorem nodup_le {α : Type} [DecidableEq α] : ∀ (l m : List α), l.Nodup → (∀ x ∈ l, x ∈ m) → l.length ≤ m.length
 | [], _, _, _ => by simp
 | x :: l, m, hn, hs => by
  rw [List.nodup_cons] at hn
  have hx := hs x (by simp)
  have := nodup_le l (m.erase x) hn.2 fun y hy => (List.mem_erase_of_ne (by rintro rfl; exact hn.1 hy)).2 (hs y (by simp [hy]))
  rw [List.length_erase_of_mem hx] at this
  have := List.length_pos_of_mem hx
  simp only [List.length_cons]
  omega
structure KT (mt kt : TypeId) {α : Type} (kv : α → Value) (ok : α → Prop) : Prop where
 law : Keyed Tryz.prog kt
 wlaw : WideMaps.KeyLaw Tryz.prog kt
 und : Tryz.prog.underlying mt = some (.map kt 3)
 key : ∀ x, ok x → ∃ l, keyOf Tryz.prog kt (kv x) = some l ∧ WideAt.IsKeyLit l
 inj : ∀ x y, kv x = kv y → x = y
def ReI (v : Value) : Option (DataW Unit × List MemPlace) :=
 match v with
 | .int .i64 n => some (.lit (.int .i64 n), [])
 | _ => none
theorem ReI_mk (n : Int) : ReI (.int .i64 n) = some (.lit (.int .i64 n), []) := rfl
theorem ReI_inv {v : Value} {n : Int} {ps : List MemPlace} (e : ReI v = some (.lit (.int .i64 n), ps)) : v = .int .i64 n := by
 unfold ReI at e
 split at e
 ·simp at e
  rw [e.1]
 ·cases e
def MapG (kt : TypeId) {α : Type} (kv : α → Value) (ok : α → Prop) (w : World) (m : Nat) (L : List Value) (F : α → Int) : Prop :=
 ∃ D : DataW Unit, w.ownsMap Tryz.prog kt ReI m L.length D ∧ (∀ es clock, w.heap[m]? = some (.map es clock) → ∀ x ∈ es.toList, x.key ∈ L) ∧ ∀ x l, ok x → keyOf Tryz.prog kt (kv x) = some l → D.atKey l (.lit (.int .i64 0)) = .lit (.int .i64 (F x))
noncomputable def updG {α : Type} (F : α → Int) (y : α) (v : Int) : α → Int := fun x => @ite _ (x = y) (Classical.propDecidable _) v (F x)
def MapE (w : World) (m : Nat) : Prop := ∃ clock, w.heap[m]? = some (.map #[] clock)
theorem MapE.made (w : World) : MapE (w.alloc (.map #[] 0)) w.heap.size := ⟨0, blk_at _ _ _ rfl⟩
theorem MapE.lt {w : World} {m : Nat} (h : MapE w m) : m < w.heap.size := (Array.getElem?_eq_some_iff.1 h.choose_spec).1
theorem MapE.same {w w' : World} {m : Nat} (h : MapE w m) (hb : w'.heap[m]? = w.heap[m]?) : MapE w' m := ⟨h.choose, hb.trans h.choose_spec⟩
section
variable {mt kt : TypeId} {α : Type} {kv : α → Value} {ok : α → Prop} {w w' : World} {m : Nat} {L : List Value} {F G : α → Int}
theorem MapE.to (h : MapE w m) (kt : TypeId) (kv : α → Value) (ok : α → Prop) (L : List Value) : MapG kt kv ok w m L (fun _ => 0) := by
 obtain ⟨clock, hb⟩ := h
 refine ⟨.map [], ⟨#[], clock, hb, ⟨by simp, MapKept.stamped_empty clock, by simp⟩, Nat.zero_le _, rfl⟩, fun es' clock' h x hx => ?_, fun _ _ _ _ => rfl⟩
 have := hb.symm.trans h
 simp at this
 rw [this.1] at hx
 simp at hx
theorem MapG.same (h : MapG kt kv ok w m L F) (hb : w'.heap[m]? = w.heap[m]?) : MapG kt kv ok w' m L F := by
 obtain ⟨D, ⟨es, clock, h1, h2⟩, hk, hD⟩ := h
 exact ⟨D, ⟨es, clock, hb.trans h1, h2⟩, fun es' clock' h => hk es' clock' (hb.symm.trans h), hD⟩
theorem MapG.lt (h : MapG kt kv ok w m L F) : m < w.heap.size := by
 obtain ⟨D, ho, _⟩ := h
 exact ho.lt
theorem MapG.eq (h : MapG kt kv ok w m L F) (e : ∀ x, F x = G x) : MapG kt kv ok w m L G := by
 have : F = G := funext e
 exact this ▸ h
theorem MapG.clear (K : KT mt kt kv ok) (h : MapG kt kv ok w m L F) :
  ∃ w', (Builtin.clear_ #[mt] 0 #[.map (some m)]).run Tryz.prog w = .ok (.tuple #[]) w' ∧ MapE w' m ∧ w.grownBy w' (some m) := by
 obtain ⟨D, ⟨es, clock, hb, _⟩, _⟩ := h
 refine ⟨setBlock w m (.map #[] clock), ?_, ⟨clock, ChangeMaps.heap_setBlock_same hb _⟩, ⟨rfl, rfl, rfl, by simp [setBlock], fun i _ hi => ChangeMaps.heap_setBlock_other hb _ (fun e => hi (by rw [e]))⟩⟩
 simp [Builtin.clear_, run_underlying K.und, MapKept.run_getObj_map hb, MapKept.run_setObj_map _ hb, Result.andThen, setBlock]
theorem MapG.store (K : KT mt kt kv ok) (h : MapG kt kv ok w m L F) (hn : L.length < maxLen) {y : α} (hy : ok y) (hL : kv y ∈ L) (v : Int) :
  ∃ w', (Instr.mapUpdate mt (.map (some m)) (kv y) (.int .i64 v)).run Tryz.prog w = .ok () w' ∧ MapG kt kv ok w' m L (updG F y v) ∧ w.grownBy w' (some m) := by
 obtain ⟨D, ho, hkeys, hD⟩ := h
 obtain ⟨kl, hkl, hlit⟩ := K.key y hy
 have hm := ho.isMap
 obtain ⟨es, clock, hb, F0, hsz, hDe⟩ := id ho
 obtain ⟨w', hr, ho', hg⟩ := ho.update K.law K.und hn hkl (ReI_mk v)
 obtain ⟨es', clock', hrun, _, _, _, _, hwho⟩ := Maps.fit_store (R' := ReI) K.law K.und hb F0 (Nat.lt_of_le_of_lt hsz hn) (fun _ _ _ _ hz => hz) hkl (ReI_mk v)
 have hw : w' = setBlock w m (.map es' clock') := by rw [hr] at hrun; simpa using hrun
 have hb' : w'.heap[m]? = some (.map es' clock') := by rw [hw]; exact ChangeMaps.heap_setBlock_same hb _
 obtain ⟨es2, clock2, hb2, F2, hsz2, hD2⟩ := ho'
 obtain ⟨rfl, rfl⟩ : es2 = es' ∧ clock2 = clock' := by have := hb2.symm.trans hb'; simpa using this
 have hk2 : ∀ x ∈ es2.toList, x.key ∈ L := by
  intro x hx
  rcases hwho x hx with ⟨h1, _⟩ | ⟨h1, _⟩
  ·exact hkeys es clock hb x h1
  ·rw [h1]; exact hL
 have hlen : es2.size ≤ L.length := by
  letI : DecidableEq Value := fun a b => Classical.propDecidable (a = b)
  have := nodup_le (es2.toList.map (·.key)) L (List.pairwise_map.2 ((MapKept.stamped_iff es2 clock2).1 F2.stamped).2.2) (fun y hy => by
   obtain ⟨x, hx, rfl⟩ := List.mem_map.1 hy
   exact hk2 x hx)
  simpa using this
 refine ⟨w', hr, ⟨_, ⟨es2, clock2, hb2, F2, hlen, hD2⟩, fun es3 clock3 h3 x hx => ?_, fun x l hx hl => ?_⟩, hg⟩
 ·obtain ⟨rfl, rfl⟩ : es3 = es2 ∧ clock3 = clock2 := by have := h3.symm.trans hb2; simpa using this
  exact hk2 x hx
 ·unfold updG
  split
  ·rename_i he
   subst he
   obtain rfl := Option.some.inj (hkl.symm.trans hl)
   exact Maps.atKey_put_same hm hlit _ _
  ·rename_i he
   have hne : l ≠ kl := fun e => he (K.inj _ _ (K.law.inj hl (e ▸ hkl)))
   rw [Maps.atKey_put_other hne]
   exact hD x l hx hl
theorem Tryz.zero3 (w : World) : (zeroValue 3).run Tryz.prog w = .ok (.int .i64 0) w := by kernel_rfl
theorem MapG.look (K : KT mt kt kv ok) (h : MapG kt kv ok w m L F) {y : α} (hy : ok y) :
  (Instr.lookup mt (.map (some m)) (kv y) false).run Tryz.prog w = .ok (.int .i64 (F y)) w := by
 obtain ⟨D, ho, _, hD⟩ := h
 obtain ⟨kl, hkl, _⟩ := K.key y hy
 obtain ⟨v, ps, hr, hv⟩ := ho.lookup K.law K.und (Tryz.zero3 w) (ReI_mk 0) hkl
 rw [hD y kl hy hkl] at hv
 rw [ReI_inv hv] at hr
 exact hr
theorem entry_all (K : KT mt kt kv ok) {es : Array MapEntry} {clock : Nat} (hb : w.heap[m]? = some (.map es clock)) (F : WideElems.Fit Tryz.prog kt ReI es clock) {key : Value} {kl : Lit} (hkey : keyOf Tryz.prog kt key = some kl) :
  ∃ (v0 : Value) (st : Nat) (w1 : World), (Instr.mapEntry mt (.map (some m)) key).run Tryz.prog w = .ok (.tuple #[v0, goInt st]) w1 ∧ (Instr.mapUpdate mt (.map (some m)) key v0).run Tryz.prog w = .ok () w1 ∧ (Instr.lookup mt (.map (some m)) key false).run Tryz.prog w = .ok v0 w := by
 have KL := K.wlaw
 have g1 := MapKept.run_getObj_map (P := Tryz.prog) hb
 have g2 := fun o => MapKept.run_setObj_map (P := Tryz.prog) o hb
 have c1 := KL.check w false hkey
 have c2 := KL.check w es.isEmpty hkey
 rcases KL.find w hkey es.toList F.keys with ⟨h1, _⟩ | ⟨j, e0, h1, h2, h3⟩
 ·refine ⟨.int .i64 0, clock, setBlock w m (.map (es.push ⟨key, .int .i64 0, clock⟩) (clock + 1)), ?_, ?_, ?_⟩
  ·simp [Instr.mapEntry, run_underlying K.und, g1, c1, h1, g2, Result.andThen, setBlock]
  ·simp [Instr.mapUpdate, run_underlying K.und, g1, c1, h1, g2, Result.andThen, setBlock]
  ·simp [Instr.lookup, run_underlying K.und, g1, c2, h1]
 ·have hj : es[j]? = some e0 := by simpa using h2
  have hm : ∀ (f : MapEntry → MapEntry), f e0 = e0 → es.modify j f = es := by
   intro f hf
   apply Array.ext'
   rw [Array.toList_modify]
   apply List.ext_getElem?
   intro i
   rw [List.getElem?_modify]
   by_cases hij : j = i
   ·subst hij
    simp [h2, hf]
   ·simp [hij]
  have hst := KL.stays w hkey
  refine ⟨e0.val, e0.born, setBlock w m (.map es clock), ?_, ?_, ?_⟩
  ·simp [Instr.mapEntry, run_underlying K.und, g1, c1, h1, hj, h3, hst, g2, Result.andThen, setBlock]
   rw [hm _ (by rw [← h3])]
  ·simp [Instr.mapUpdate, run_underlying K.und, g1, c1, h1, hj, h3, hst, g2, Result.andThen, setBlock]
   rw [hm _ (by rw [← h3])]
  ·simp [Instr.lookup, run_underlying K.und, g1, c2, h1]
theorem MapG.entry (K : KT mt kt kv ok) (h : MapG kt kv ok w m L F) (hn : L.length < maxLen) {y : α} (hy : ok y) (hL : kv y ∈ L) :
  ∃ (st : Nat) (w1 : World), (Instr.mapEntry mt (.map (some m)) (kv y)).run Tryz.prog w = .ok (.tuple #[.int .i64 (F y), goInt st]) w1 ∧ MapG kt kv ok w1 m L F ∧ w.grownBy w1 (some m) ∧
   ∀ (w2 : World) (v : Int), w2.heap[m]? = w1.heap[m]? → ∃ w3, (Instr.entryStore mt (.map (some m)) (goInt st) (.int .i64 v)).run Tryz.prog w2 = .ok () w3 ∧ MapG kt kv ok w3 m L (updG F y v) ∧ w2.grownBy w3 (some m) := by
 obtain ⟨D, ho, hkeys, hD⟩ := id h
 obtain ⟨kl, hkl, _⟩ := K.key y hy
 obtain ⟨es, clock, hb, F0, hsz, hDe⟩ := id ho
 obtain ⟨v0, st, w1, r1, r2, r3⟩ := entry_all K hb F0 hkl
 obtain rfl : v0 = .int .i64 (F y) := by
  have := (h.look K hy).symm.trans r3
  simpa using this.symm
 obtain ⟨v0', st', es1, clock1, hrun, _, hst⟩ := WideElems.entry_then_store K.wlaw K.und Tryz.zero3 hb F0 hkl
 have heq := r1.symm.trans hrun
 simp only [Result.ok.injEq, Value.tuple.injEq] at heq
 obtain ⟨hv, hw1⟩ := heq
 have hg : goInt st' = goInt st := by
  have := congrArg (fun (xs : Array Value) => xs[1]?) hv
  simpa using this.symm
 obtain ⟨w', hr, hm', hgr⟩ := h.store K hn hy hL (F y)
 obtain rfl : w' = w1 := by
  have := hr.symm.trans r2
  simpa using this
 refine ⟨st, w', r1, hm'.eq (fun x => ?_), hgr, fun w2 v hw2 => ?_⟩
 ·unfold updG
  split
  ·rename_i he
   rw [he]
  ·rfl
 ·have hb1 : w'.heap[m]? = some (.map es1 clock1) := by rw [hw1]; exact ChangeMaps.heap_setBlock_same hb _
  obtain ⟨es', clock', q1, q2⟩ := hst w2 (.int .i64 v) (hw2.trans hb1)
  obtain ⟨w'', hr2, hm2, _⟩ := h.store K hn hy hL v
  obtain rfl : w'' = setBlock w m (.map es' clock') := by
   have := hr2.symm.trans q2
   simpa using this
  rw [hg] at q1
  have hb2 := hw2.trans hb1
  refine ⟨_, q1, hm2.same ?_, ⟨rfl, rfl, rfl, by simp [setBlock], fun i _ hi => ChangeMaps.heap_setBlock_other hb2 _ (fun e => hi (by rw [e]))⟩⟩
  rw [ChangeMaps.heap_setBlock_same hb2 _, ChangeMaps.heap_setBlock_same hb _]
theorem MapG.bump (K : KT mt kt kv ok) (h : MapG kt kv ok w m L F) (hn : L.length < maxLen) {y : α} (hy : ok y) (hL : kv y ∈ L) (val : Int) (he : ∀ x, updG F y val x = G x) :
  ∃ (st : Nat) (w1 w3 : World), (Instr.mapEntry mt (.map (some m)) (kv y)).run Tryz.prog w.drew = .ok (.tuple #[.int .i64 (F y), .int .i64 (st : Int)]) w1 ∧
   (Instr.lookup mt (.map (some m)) (kv y) false).run Tryz.prog w1 = .ok (.int .i64 (F y)) w1 ∧
   (Instr.entryStore mt (.map (some m)) (.int .i64 (st : Int)) (.int .i64 val)).run Tryz.prog w1 = .ok () w3 ∧
   MapG kt kv ok w3 m L G ∧ w.grownBy w3 (some m) := by
 have hmd : MapG kt kv ok w.drew m L F := h.same rfl
 obtain ⟨st, w1, r1, m1, g1, r2⟩ := hmd.entry K hn hy hL
 obtain ⟨w3, r3, m3, g3⟩ := r2 w1 val rfl
 exact ⟨st, w1, w3, r1, m1.look K hy, r3, m3.eq he, ⟨g3.os.trans g1.os, g3.tape.trans g1.tape, g3.output.trans g1.output, Nat.le_trans g1.size g3.size, fun i hi hne => (g3.block i (Nat.lt_of_lt_of_le hi g1.size) hne).trans (g1.block i hi hne)⟩⟩
end
theorem ktS : KT 65 9 Value.string smS where
 law := Maps.string_keyed Tryz.underlying9
 wlaw := WideMaps.string_law Tryz.underlying9
 und := Tryz.underlying65
 key x hx := ⟨.string x.data.toList, by
  have : x.size ≤ maxLen := by have h : x.size ≤ 1048576 := hx; simp [maxLen]; omega
  simp [keyOf_string Tryz.underlying9, mapKey, Tryz.underlying9, this], trivial⟩
 inj x y h := by simpa using h
def tyV (t : Typ) : Value := .agg #[.string t.name, .int .i64 t.size]
theorem Tryz.laidOut1 : laidOutB Tryz.prog = true := by kernel_rfl
theorem Tryz.row77 : (77 : Nat) < Tryz.prog.types.size := by
 have h : Tryz.prog.types.size = 178 := by kernel_rfl
 rw [h]
 omega
theorem Tryz.klaw77 : WideMaps.KeyLaw Tryz.prog 77 := deep_law_laid Tryz.laidOut1 (m := 2) (by omega) Tryz.row77 (by kernel_rfl) (by kernel_rfl)
theorem Tryz.keyType77 : Tryz.prog.keyType 77 = true := by kernel_rfl
theorem Tryz.cellsT77 : Tryz.prog.cellsOf 77 = 2 := by kernel_rfl
theorem Tryz.cellsT9 : Tryz.prog.cellsOf 9 = 1 := by kernel_rfl
theorem Tryz.cellsT3 : Tryz.prog.cellsOf 3 = 1 := by kernel_rfl
theorem keyOf_T {t : Typ} (h : Typ.small t) : keyOf Tryz.prog 77 (tyV t) = some (.string (keyBytes [.string t.name.data.toList, .int .i64 t.size])) := by
 have wb := lit_wf h.2
 have wa : t.name.size ≤ maxLen := by have := h.1; simp [maxLen]; omega
 obtain ⟨m, hm⟩ := Tryz.size99
 unfold keyOf tyV
 simp only [Tryz.underlying77]
 rw [if_pos (by simp [Tryz.keyType77, Value.formed, Tryz.underlying77, Tryz.cellsT77]), hm]
 unfold Program.keyLits
 simp only [Tryz.underlying77, Value.cells]
 rw [if_pos (by rw [Tryz.cellsT77]; exact ⟨rfl, by simp⟩)]
 simp [List.mapM_cons, Tryz.cellsT9, Tryz.cellsT3, Program.keyLits, Tryz.underlying3, Tryz.underlying9, wa, wb]
theorem ktT : KT 116 77 tyV Typ.small where
 law := Keyed.of_law Tryz.klaw77
 wlaw := Tryz.klaw77
 und := Tryz.underlying116
 key x hx := ⟨_, keyOf_T hx, trivial⟩
 inj x y h := by
  cases x
  cases y
  simp [tyV] at h
  obtain ⟨rfl, rfl⟩ := h
  rfl
end Go.Proofs.YtamjofdgikifnaaGreat
