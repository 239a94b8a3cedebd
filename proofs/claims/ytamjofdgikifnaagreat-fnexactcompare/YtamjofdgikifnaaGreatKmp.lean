/- A map by an array of four numbers, its elements three numbers: what it says, key by key. -/
import Derived.Test.YtamjofdgikifnaaGreatMem
import Derived.Maps.OwnSet
import Derived.WideKeyArr
namespace Go.Proofs.YtamjofdgikifnaaGreat
open Go.ChangeShapes Go.WideShapes Go.ChangeAt Go.RowKit
open Go.Maps (Keyed has)
theorem Tryz.cells77 : Tryz.prog.cellsOf 137 = 4 := by kernel_rfl
theorem Tryz.arr77 : WideMaps.ArrKey Tryz.prog 137 3 4 := ⟨Tryz.underlying137, by kernel_rfl, by kernel_rfl, Tryz.cells77⟩
theorem Tryz.law77 : Keyed Tryz.prog 137 := Keyed.of_law Tryz.arr77.law
theorem Tryz.size99 : ∃ m, Tryz.prog.types.size = m + 1 := ⟨177, by kernel_rfl⟩
/-- A key. -/
def Kv (a b c d : Int) : Value := .agg #[.int .i64 a, .int .i64 b, .int .i64 c, .int .i64 d]
/-- An element. -/
def Rv (l h t : Int) : Value := .agg #[.int .i64 l, .int .i64 h, .int .i64 t]
/-- What a key reads as. -/
def kl (a b c d : Int) : Lit := .string (keyBytes [.int .i64 a, .int .i64 b, .int .i64 c, .int .i64 d])
/-- What an element reads as. -/
def dR (l h t : Int) : DataW Unit := .agg [.lit (.int .i64 l), .lit (.int .i64 h), .lit (.int .i64 t)]
theorem lit_wf {x : Int} (h : i64B x) : (Lit.int .i64 x).wf = true := by
  obtain ⟨h1, h2⟩ := h
  exact WalkArith.wf_i64 (by omega)
theorem keyOf_K {a b c d : Int} (ha : i64B a) (hb : i64B b) (hc : i64B c) (hd : i64B d) : keyOf Tryz.prog 137 (Kv a b c d) = some (kl a b c d) := by
  have wa := lit_wf ha
  have wb := lit_wf hb
  have wc := lit_wf hc
  have wd := lit_wf hd
  have hkt := Tryz.arr77.keyType Tryz.size99
  obtain ⟨m, hm⟩ := Tryz.size99
  unfold keyOf Kv kl
  simp only [Tryz.arr77.hu]
  rw [if_pos (by simp [hkt, Value.formed, Tryz.arr77.hu, Tryz.arr77.size]), hm]
  unfold Program.keyLits
  simp only [Tryz.arr77.hu, Value.cells]
  rw [if_pos (by rw [Tryz.arr77.size]; rfl), show List.range 4 = [0, 1, 2, 3] from rfl, List.mapM_cons, List.mapM_cons, List.mapM_cons, List.mapM_cons, List.mapM_nil]
  simp [Tryz.arr77.one, Program.keyLits, Tryz.underlying3, wa, wb, wc, wd]
theorem kl_inj {a b c d a' b' c' d' : Int} (ha : i64B a) (hb : i64B b) (hc : i64B c) (hd : i64B d) (ha' : i64B a') (hb' : i64B b') (hc' : i64B c') (hd' : i64B d') (h : kl a b c d = kl a' b' c' d') : a = a' ∧ b = b' ∧ c = c' ∧ d = d' := by
  have h1 := keyOf_K ha hb hc hd
  have h2 := keyOf_K ha' hb' hc' hd'
  rw [← h] at h2
  have := Tryz.law77.inj h1 h2
  simpa [Kv] using this
/-- How an element reads. -/
def Re (v : Value) : Option (DataW Unit × List MemPlace) :=
  match v with
  | .agg cs => match cs.toList with
    | [.int .i64 l, .int .i64 h, .int .i64 t] => some (dR l h t, [])
    | _ => none
  | _ => none
theorem Re_mk (l h t : Int) : Re (Rv l h t) = some (dR l h t, []) := rfl
theorem Re_inv {v : Value} {l h t : Int} {ps : List MemPlace} (e : Re v = some (dR l h t, ps)) : v = Rv l h t := by
  unfold Re at e
  split at e
  · rename_i cs
    split at e
    · rename_i l' h' t' hl
      simp [dR] at e
      obtain ⟨⟨rfl, rfl, rfl⟩, _⟩ := e
      unfold Rv
      congr 1
      rw [← Array.toArray_toList (xs := cs), hl]
    · cases e
  · cases e
theorem kl_key (a b c d : Int) : WideAt.IsKeyLit (kl a b c d) := trivial
/-- What a map says. -/
abbrev Says := Int → Int → Int → Int → Option (Int × Int × Int)
/-- The map in a block says F. -/
def MapIs (w : World) (m n : Nat) (F : Says) : Prop :=
  ∃ D : DataW Unit, w.ownsMap Tryz.prog 137 Re m n D ∧ ∀ a b c d, i64B a → i64B b → i64B c → i64B d →
    (F a b c d = none → has D (kl a b c d) = false) ∧ ∀ l h t, F a b c d = some (l, h, t) → has D (kl a b c d) = true ∧ ∀ z, D.atKey (kl a b c d) z = dR l h t
/-- One key more. -/
def upd (F : Says) (a0 b0 c0 d0 : Int) (v : Int × Int × Int) : Says := fun a b c d => if a = a0 ∧ b = b0 ∧ c = c0 ∧ d = d0 then some v else F a b c d
theorem MapIs.made (w : World) : MapIs (w.alloc (.map #[] 0)) w.heap.size 0 (fun _ _ _ _ => none) :=
  ⟨_, World.ownsMap_made w _ _ _, fun _ _ _ _ _ _ _ _ => ⟨fun _ => rfl, fun _ _ _ h => by cases h⟩⟩
theorem MapIs.keep {w w' : World} {m n B : Nat} {F : Says} (h : MapIs w m n F) (hb : Below B w w') (hm : m < B) : MapIs w' m n F := by
  obtain ⟨D, ⟨es, clock, h1, h2⟩, hD⟩ := h
  exact ⟨D, ⟨es, clock, (hb.block m hm).trans h1, h2⟩, hD⟩
theorem MapIs.lt {w : World} {m n : Nat} {F : Says} (h : MapIs w m n F) : m < w.heap.size := by
  obtain ⟨D, ho, _⟩ := h
  exact ho.lt
theorem MapIs.congr {w : World} {m n : Nat} {F G : Says} (h : MapIs w m n F) (e : F = G) : MapIs w m n G := e ▸ h
theorem MapIs.store {w : World} {m n : Nat} {F : Says} (h : MapIs w m n F) (hn : n < maxLen) {a0 b0 c0 d0 : Int} (ha : i64B a0) (hb : i64B b0) (hc : i64B c0) (hd : i64B d0) (l hi t : Int) :
    ∃ w', (Instr.mapUpdate 122 (.map (some m)) (Kv a0 b0 c0 d0) (Rv l hi t)).run Tryz.prog w = .ok () w' ∧ MapIs w' m (n + 1) (upd F a0 b0 c0 d0 (l, hi, t)) ∧ w.grownBy w' (some m) := by
  obtain ⟨D, ho, hD⟩ := h
  have hm := ho.isMap
  obtain ⟨w', hr, ho', hg⟩ := ho.update Tryz.law77 Tryz.underlying122 hn (keyOf_K ha hb hc hd) (Re_mk l hi t)
  refine ⟨w', hr, ⟨_, ho', fun a b c d ha' hb' hc' hd' => ?_⟩, hg⟩
  by_cases he : a = a0 ∧ b = b0 ∧ c = c0 ∧ d = d0
  · obtain ⟨rfl, rfl, rfl, rfl⟩ := he
    have e : upd F a b c d (l, hi, t) a b c d = some (l, hi, t) := if_pos ⟨rfl, rfl, rfl, rfl⟩
    rw [e]
    refine ⟨fun h => (by cases h), fun l' h' t' h => ?_⟩
    injection h with h
    simp at h
    obtain ⟨rfl, rfl, rfl⟩ := h
    exact ⟨Maps.has_put_same hm (kl_key _ _ _ _) _, fun z => Maps.atKey_put_same hm (kl_key _ _ _ _) _ z⟩
  · have e : upd F a0 b0 c0 d0 (l, hi, t) a b c d = F a b c d := if_neg he
    have hne : kl a b c d ≠ kl a0 b0 c0 d0 := fun h => he (kl_inj ha' hb' hc' hd' ha hb hc hd h)
    rw [e, Maps.has_put_other hne]
    obtain ⟨h1, h2⟩ := hD a b c d ha' hb' hc' hd'
    exact ⟨h1, fun l' h' t' h => ⟨(h2 l' h' t' h).1, fun z => by rw [Maps.atKey_put_other hne]; exact (h2 l' h' t' h).2 z⟩⟩
theorem Tryz.zero79 (w : World) : (zeroValue 139).run Tryz.prog w = .ok (Rv 0 0 0) w := by kernel_rfl
theorem MapIs.look_some {w : World} {m n : Nat} {F : Says} (h : MapIs w m n F) {a b c d : Int} (ha : i64B a) (hb : i64B b) (hc : i64B c) (hd : i64B d) {l hi t : Int} (hF : F a b c d = some (l, hi, t)) :
    (Instr.lookup 122 (.map (some m)) (Kv a b c d) true).run Tryz.prog w = .ok (.tuple #[Rv l hi t, .bool true]) w := by
  obtain ⟨D, ho, hD⟩ := h
  obtain ⟨v, ps, hr, hv⟩ := ho.look_ok Tryz.law77 Tryz.underlying122 (Tryz.zero79 w) (Re_mk 0 0 0) (keyOf_K ha hb hc hd)
  obtain ⟨h1, h2⟩ := (hD a b c d ha hb hc hd).2 l hi t hF
  rw [h2] at hv
  rw [h1, Re_inv hv] at hr
  exact hr
theorem MapIs.look_none {w : World} {m n : Nat} {F : Says} (h : MapIs w m n F) {a b c d : Int} (ha : i64B a) (hb : i64B b) (hc : i64B c) (hd : i64B d) (hF : F a b c d = none) :
    (Instr.lookup 122 (.map (some m)) (Kv a b c d) true).run Tryz.prog w = .ok (.tuple #[Rv 0 0 0, .bool false]) w := by
  obtain ⟨D, ho, hD⟩ := h
  obtain ⟨v, ps, hr, hv⟩ := ho.look_ok Tryz.law77 Tryz.underlying122 (Tryz.zero79 w) (Re_mk 0 0 0) (keyOf_K ha hb hc hd)
  have h1 := (hD a b c d ha hb hc hd).1 hF
  rw [Maps.atKey_of_not_has h1] at hv
  rw [h1, Re_inv hv] at hr
  exact hr
end Go.Proofs.YtamjofdgikifnaaGreat
