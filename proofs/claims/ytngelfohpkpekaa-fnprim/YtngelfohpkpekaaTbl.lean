/- The program's table of primitives: a map of method values. -/
import Derived.Test.YtngelfohpkpekaaPmp
import Derived.Maps.OwnSet
import Derived.StringKeys
set_option linter.unusedVariables false
namespace Go.Proofs.Ytngelfohpkpekaa
open Go.ChangeShapes Go.WideShapes Go.ChangeAt Go.RowKit
open Go.Maps (Keyed has)
/-- How an element reads: as itself. -/
def Rh (v : Value) : Option (DataW Value × List MemPlace) := some (.held v, [])
theorem keyS (s : ByteArray) (hs : s.size ≤ 1048576) : keyOf Try.prog 9 (.string s) = some (.string s.data.toList) := WideMaps.keyOf_string_mk Try.underlying9 (by unfold maxLen; omega)
theorem keyedS : Keyed Try.prog 9 := Maps.string_keyed Try.underlying9
/-- The map in a block says F, key by key. -/
def MapT (w : World) (m n : Nat) (F : List UInt8 → Option Value) : Prop :=
  ∃ D : DataW Value, w.ownsMap Try.prog 9 Rh m n D ∧ ∀ s : List UInt8, (F s = none → has D (.string s) = false) ∧ ∀ v, F s = some v → has D (.string s) = true ∧ ∀ z, D.atKey (.string s) z = .held v
def updT (F : List UInt8 → Option Value) (k : List UInt8) (v : Value) : List UInt8 → Option Value := fun l => if l = k then some v else F l
theorem MapT.made (w : World) : MapT (w.alloc (.map #[] 0)) w.heap.size 0 (fun _ => none) :=
  ⟨_, World.ownsMap_made w _ _ _, fun _ => ⟨fun _ => rfl, fun _ h => by cases h⟩⟩
theorem MapT.lt {w : World} {m n : Nat} {F : List UInt8 → Option Value} (h : MapT w m n F) : m < w.heap.size := by
  obtain ⟨D, ho, _⟩ := h
  exact ho.lt
theorem MapT.store {w : World} {m n : Nat} {F : List UInt8 → Option Value} (h : MapT w m n F) (hn : n < 1000) (s : ByteArray) (hs : s.size ≤ 1048576) (v : Value) :
    ∃ w', (Instr.mapUpdate 69 (.map (some m)) (.string s) v).run Try.prog w = .ok () w' ∧ MapT w' m (n + 1) (updT F s.data.toList v) ∧ w.grownBy w' (some m) := by
  obtain ⟨D, ho, hD⟩ := h
  have hm := ho.isMap
  obtain ⟨w', hr, ho', hg⟩ := ho.update keyedS Try.underlying69 (by unfold maxLen; omega) (keyS s hs) (rfl : Rh v = some (.held v, []))
  have hk : WideAt.IsKeyLit (.string s.data.toList) := trivial
  refine ⟨w', hr, ⟨_, ho', fun l => ?_⟩, hg⟩
  by_cases he : l = s.data.toList
  · subst he
    have e : updT F s.data.toList v s.data.toList = some v := if_pos rfl
    rw [e]
    refine ⟨fun h => (by cases h), fun v' h => ?_⟩
    obtain rfl := Option.some.inj h
    exact ⟨Maps.has_put_same hm hk _, fun z => Maps.atKey_put_same hm hk _ z⟩
  · have e : updT F s.data.toList v l = F l := if_neg he
    have hne : Lit.string l ≠ .string s.data.toList := fun h => he (by injection h)
    rw [e, Maps.has_put_other hne]
    obtain ⟨h1, h2⟩ := hD l
    exact ⟨h1, fun v' h => ⟨(h2 v' h).1, fun z => by rw [Maps.atKey_put_other hne]; exact (h2 v' h).2 z⟩⟩
theorem Try.zero74 (w : World) : (zeroValue 67).run Try.prog w = .ok .nilFunc w := by kernel_rfl
theorem MapT.look_some {w : World} {m n : Nat} {F : List UInt8 → Option Value} (h : MapT w m n F) (s : ByteArray) (hs : s.size ≤ 1048576) {v : Value} (hF : F s.data.toList = some v) :
    (Instr.lookup 69 (.map (some m)) (.string s) true).run Try.prog w = .ok (.tuple #[v, .bool true]) w := by
  obtain ⟨D, ho, hD⟩ := h
  obtain ⟨u, ps, hr, hv⟩ := ho.look_ok keyedS Try.underlying69 (Try.zero74 w) (rfl : Rh .nilFunc = some (.held .nilFunc, [])) (keyS s hs)
  obtain ⟨h1, h2⟩ := (hD s.data.toList).2 v hF
  rw [h2] at hv
  have e : u = v := by
    have : Rh u = some (.held u, []) := rfl
    rw [this] at hv
    simp at hv
    exact hv.1
  rw [h1, e] at hr
  exact hr
theorem MapT.look_none {w : World} {m n : Nat} {F : List UInt8 → Option Value} (h : MapT w m n F) (s : ByteArray) (hs : s.size ≤ 1048576) (hF : F s.data.toList = none) :
    (Instr.lookup 69 (.map (some m)) (.string s) true).run Try.prog w = .ok (.tuple #[.nilFunc, .bool false]) w := by
  obtain ⟨D, ho, hD⟩ := h
  obtain ⟨u, ps, hr, hv⟩ := ho.look_ok keyedS Try.underlying69 (Try.zero74 w) (rfl : Rh .nilFunc = some (.held .nilFunc, [])) (keyS s hs)
  have h1 := (hD s.data.toList).1 hF
  rw [Maps.atKey_of_not_has h1] at hv
  have e : u = .nilFunc := by
    have : Rh u = some (.held u, []) := rfl
    rw [this] at hv
    simp at hv
    exact hv.1
  rw [h1, e] at hr
  exact hr
/-- The method value of the primitive p. -/
def mvF (P : Value) (p : Nat) : Value := .func (.func (56 + p)) #[P] #[]
/-- What the table says. -/
def tblF (P : Value) : List UInt8 → Option Value := updT (updT (updT (updT (updT (updT (updT (updT (updT (updT (updT (updT ((fun _ => none)) [43] (.func (.func 56) #[P] #[])) [45] (.func (.func 57) #[P] #[])) [42] (.func (.func 58) #[P] #[])) [60] (.func (.func 59) #[P] #[])) [61] (.func (.func 60) #[P] #[])) [101, 113, 63] (.func (.func 61) #[P] #[])) [99, 111, 110, 115] (.func (.func 62) #[P] #[])) [99, 97, 114] (.func (.func 63) #[P] #[])) [99, 100, 114] (.func (.func 64) #[P] #[])) [110, 117, 108, 108, 63] (.func (.func 65) #[P] #[])) [112, 97, 105, 114, 63] (.func (.func 66) #[P] #[])) [110, 111, 116] (.func (.func 67) #[P] #[])
theorem tblF_some (P : Value) {p : Nat} {l : List UInt8} (h : wdP[p]? = some l) : tblF P l = some (mvF P p) := by
  have hp : p < 12 := (List.getElem?_eq_some_iff.1 h).1
  match p, hp, h with
  | 0, _, h => obtain rfl := Option.some.inj h; rfl
  | 1, _, h => obtain rfl := Option.some.inj h; rfl
  | 2, _, h => obtain rfl := Option.some.inj h; rfl
  | 3, _, h => obtain rfl := Option.some.inj h; rfl
  | 4, _, h => obtain rfl := Option.some.inj h; rfl
  | 5, _, h => obtain rfl := Option.some.inj h; rfl
  | 6, _, h => obtain rfl := Option.some.inj h; rfl
  | 7, _, h => obtain rfl := Option.some.inj h; rfl
  | 8, _, h => obtain rfl := Option.some.inj h; rfl
  | 9, _, h => obtain rfl := Option.some.inj h; rfl
  | 10, _, h => obtain rfl := Option.some.inj h; rfl
  | 11, _, h => obtain rfl := Option.some.inj h; rfl
theorem tblF_none (P : Value) {l : List UInt8} (h : ∀ p : Nat, wdP[p]? ≠ some l) : tblF P l = none := by
  have n0 : l ≠ [43] := fun e => h 0 (by rw [e]; rfl)
  have n1 : l ≠ [45] := fun e => h 1 (by rw [e]; rfl)
  have n2 : l ≠ [42] := fun e => h 2 (by rw [e]; rfl)
  have n3 : l ≠ [60] := fun e => h 3 (by rw [e]; rfl)
  have n4 : l ≠ [61] := fun e => h 4 (by rw [e]; rfl)
  have n5 : l ≠ [101, 113, 63] := fun e => h 5 (by rw [e]; rfl)
  have n6 : l ≠ [99, 111, 110, 115] := fun e => h 6 (by rw [e]; rfl)
  have n7 : l ≠ [99, 97, 114] := fun e => h 7 (by rw [e]; rfl)
  have n8 : l ≠ [99, 100, 114] := fun e => h 8 (by rw [e]; rfl)
  have n9 : l ≠ [110, 117, 108, 108, 63] := fun e => h 9 (by rw [e]; rfl)
  have n10 : l ≠ [112, 97, 105, 114, 63] := fun e => h 10 (by rw [e]; rfl)
  have n11 : l ≠ [110, 111, 116] := fun e => h 11 (by rw [e]; rfl)
  unfold tblF updT
  rw [if_neg n11, if_neg n10, if_neg n9, if_neg n8, if_neg n7, if_neg n6, if_neg n5, if_neg n4, if_neg n3, if_neg n2, if_neg n1, if_neg n0]
/-- What table leaves. -/
def TbPost (P : Value) (w : World) (e : Ending) (w' : World) : Prop := ∃ m, e = .returned (.map (some m)) ∧ MapT w' m 12 (tblF P) ∧ w.heap.size ≤ m ∧ Below w.heap.size w w'
set_option maxRecDepth 100000 in
set_option maxHeartbeats 2000000 in
theorem table_any (P : Value) (w : World) : Calls Try.prog 40 #[P] w fun e w' => TbPost P w e w' := by
  have hM0 := MapT.made w
  have hb0 : Below w.heap.size w (w.alloc (.map #[] 0)) := (Below.refl _ _).alloc (Nat.le_refl _) _
  obtain ⟨w1, r1, hM1, hg1⟩ := hM0.store (by omega) ⟨#[43]⟩ (by decide) (.func (.func 56) #[P] #[])
  have hb1 : Below w.heap.size w w1 := hb0.grown hg1 (by simp) fun k hk => by cases hk; exact Nat.le_refl _
  obtain ⟨w2, r2, hM2, hg2⟩ := hM1.store (by omega) ⟨#[45]⟩ (by decide) (.func (.func 57) #[P] #[])
  have hb2 : Below w.heap.size w w2 := hb1.grown hg2 hb1.size fun k hk => by cases hk; exact Nat.le_refl _
  obtain ⟨w3, r3, hM3, hg3⟩ := hM2.store (by omega) ⟨#[42]⟩ (by decide) (.func (.func 58) #[P] #[])
  have hb3 : Below w.heap.size w w3 := hb2.grown hg3 hb2.size fun k hk => by cases hk; exact Nat.le_refl _
  obtain ⟨w4, r4, hM4, hg4⟩ := hM3.store (by omega) ⟨#[60]⟩ (by decide) (.func (.func 59) #[P] #[])
  have hb4 : Below w.heap.size w w4 := hb3.grown hg4 hb3.size fun k hk => by cases hk; exact Nat.le_refl _
  obtain ⟨w5, r5, hM5, hg5⟩ := hM4.store (by omega) ⟨#[61]⟩ (by decide) (.func (.func 60) #[P] #[])
  have hb5 : Below w.heap.size w w5 := hb4.grown hg5 hb4.size fun k hk => by cases hk; exact Nat.le_refl _
  obtain ⟨w6, r6, hM6, hg6⟩ := hM5.store (by omega) ⟨#[101, 113, 63]⟩ (by decide) (.func (.func 61) #[P] #[])
  have hb6 : Below w.heap.size w w6 := hb5.grown hg6 hb5.size fun k hk => by cases hk; exact Nat.le_refl _
  obtain ⟨w7, r7, hM7, hg7⟩ := hM6.store (by omega) ⟨#[99, 111, 110, 115]⟩ (by decide) (.func (.func 62) #[P] #[])
  have hb7 : Below w.heap.size w w7 := hb6.grown hg7 hb6.size fun k hk => by cases hk; exact Nat.le_refl _
  obtain ⟨w8, r8, hM8, hg8⟩ := hM7.store (by omega) ⟨#[99, 97, 114]⟩ (by decide) (.func (.func 63) #[P] #[])
  have hb8 : Below w.heap.size w w8 := hb7.grown hg8 hb7.size fun k hk => by cases hk; exact Nat.le_refl _
  obtain ⟨w9, r9, hM9, hg9⟩ := hM8.store (by omega) ⟨#[99, 100, 114]⟩ (by decide) (.func (.func 64) #[P] #[])
  have hb9 : Below w.heap.size w w9 := hb8.grown hg9 hb8.size fun k hk => by cases hk; exact Nat.le_refl _
  obtain ⟨w10, r10, hM10, hg10⟩ := hM9.store (by omega) ⟨#[110, 117, 108, 108, 63]⟩ (by decide) (.func (.func 65) #[P] #[])
  have hb10 : Below w.heap.size w w10 := hb9.grown hg10 hb9.size fun k hk => by cases hk; exact Nat.le_refl _
  obtain ⟨w11, r11, hM11, hg11⟩ := hM10.store (by omega) ⟨#[112, 97, 105, 114, 63]⟩ (by decide) (.func (.func 66) #[P] #[])
  have hb11 : Below w.heap.size w w11 := hb10.grown hg11 hb10.size fun k hk => by cases hk; exact Nat.le_refl _
  obtain ⟨w12, r12, hM12, hg12⟩ := hM11.store (by omega) ⟨#[110, 111, 116]⟩ (by decide) (.func (.func 67) #[P] #[])
  have hb12 : Below w.heap.size w w12 := hb11.grown hg12 hb11.size fun k hk => by cases hk; exact Nat.le_refl _
  have HM : Hid (MapT w12 w.heap.size 12 (tblF P)) := hM12
  have HB : Hid (Below w.heap.size w w12) := hb12
  clear hM0 hb0 hM1 hb1 hM2 hb2 hM3 hb3 hM4 hb4 hM5 hb5 hM6 hb6 hM7 hb7 hM8 hb8 hM9 hb9 hM10 hb10 hM11 hb11 hM12 hb12 hg1 hg2 hg3 hg4 hg5 hg6 hg7 hg8 hg9 hg10 hg11 hg12
  have hmk : (Instr.makeMap 69 none).run Try.prog w = .ok (.map (some w.heap.size)) (w.alloc (.map #[] 0)) := rfl
  go_enter Try.func40, Try.ntmps40
  go_wp2
  go_ret
  exact ⟨_, rfl, HM.out, Nat.le_refl _, HB.out⟩
end Go.Proofs.Ytngelfohpkpekaa
