/- Plain facts on rows of bytes that a call has made: one byte more, and the text that they are. Rows of texts and of ints in memory. A map by an array of four numbers, its elements three numbers: what it says, key by key. -/
import Derived.Test.YtamjofdgikifnaaGreatRows
import Derived.WalkKit
import Derived.ProofKit
import Derived.Below
import Derived.Outline
import Derived.WalkSpells
import Derived.WalkLawsBesides
import Derived.Laws.IdiomStrings
import Derived.OpenShut
import Derived.Deep.QuietTactic
import Derived.Deep.RegionWith
import Derived.BigQuiet
import Derived.Laws.Rows
import Derived.Maps.OwnSet
import Derived.WideKeyArr
namespace Go.Proofs.YtamjofdgikifnaaGreat
open Go.ChangeShapes Go.WideShapes Go.ChangeAt Go.RowKit
end Go.Proofs.YtamjofdgikifnaaGreat
namespace Go.Proofs.YtamjofdgikifnaaGreat
open Go.ChangeShapes Go.WideShapes Go.ChangeAt Go.RowKit
def i64B (x : Int) : Prop := -9223372036854775808 ≤ x ∧ x ≤ 9223372036854775807
def RowI (w : World) (B : Nat) (a : Option Addr) (ts : List Int) : Prop :=
 ∀ i x, ts[i]? = some x → ∃ b o, a = some ⟨b, o, none⟩ ∧ b < B ∧ w.cell? ⟨b, o + i, none⟩ = some (.int .i64 x)
def RowS (w : World) (B : Nat) (a : Option Addr) (ts : List ByteArray) : Prop :=
 ∀ i x, ts[i]? = some x → ∃ b o, a = some ⟨b, o, none⟩ ∧ b < B ∧ w.cell? ⟨b, o + i, none⟩ = some (.string x)
theorem RowI.keep {w w' : World} {B : Nat} {a : Option Addr} {ts : List Int} (h : RowI w B a ts) (hk : ∀ b, b < B → w'.heap[b]? = w.heap[b]?) : RowI w' B a ts := by
 intro i d hi
 obtain ⟨b, o, ha, hb, hd⟩ := h i d hi
 exact ⟨b, o, ha, hb, (World.cell?_of_block (w := w) (a := ⟨b, _, none⟩) (hk b hb)).trans hd⟩
theorem RowS.keep {w w' : World} {B : Nat} {a : Option Addr} {ts : List ByteArray} (h : RowS w B a ts) (hk : ∀ b, b < B → w'.heap[b]? = w.heap[b]?) : RowS w' B a ts := by
 intro i d hi
 obtain ⟨b, o, ha, hb, hd⟩ := h i d hi
 exact ⟨b, o, ha, hb, (World.cell?_of_block (w := w) (a := ⟨b, _, none⟩) (hk b hb)).trans hd⟩
theorem RowI.below {w w' : World} {B : Nat} {a : Option Addr} {ts : List Int} (h : RowI w B a ts) (hb : Below B w w') : RowI w' B a ts := h.keep hb.block
theorem RowS.below {w w' : World} {B : Nat} {a : Option Addr} {ts : List ByteArray} (h : RowS w B a ts) (hb : Below B w w') : RowS w' B a ts := h.keep hb.block
theorem RowI.mono {w : World} {B B' : Nat} {a : Option Addr} {cs : List Int} (h : RowI w B a cs) (hb : B ≤ B') : RowI w B' a cs := by
 intro i d hi
 obtain ⟨b, o, ha, hb, hd⟩ := h i d hi
 exact ⟨b, o, ha, by omega, hd⟩
theorem RowS.mono {w : World} {B B' : Nat} {a : Option Addr} {cs : List ByteArray} (h : RowS w B a cs) (hb : B ≤ B') : RowS w B' a cs := by
 intro i d hi
 obtain ⟨b, o, ha, hb, hd⟩ := h i d hi
 exact ⟨b, o, ha, by omega, hd⟩
theorem RowS.take {w : World} {B : Nat} {a : Option Addr} {cs : List ByteArray} (h : RowS w B a cs) (n : Nat) : RowS w B a (cs.take n) := by
 intro i d hi
 rw [List.getElem?_take] at hi
 split at hi
 ·exact h i d hi
 ·cases hi
def Ans (w : World) (v : Value) (e : Ending) (w' : World) : Prop := e = .returned v ∧ Below w.heap.size w w'
theorem blk_alloc (w : World) (o : Obj) : (w.alloc o).heap[w.heap.size]? = some o := by show (w.heap.push o)[w.heap.size]? = some o; simp
theorem blk_at (w : World) (o : Obj) (n : Nat) (h : n = w.heap.size) : (w.alloc o).heap[n]? = some o := by subst h; exact blk_alloc w o
theorem blk_past {w : World} {o o' : Obj} {b : Nat} (h : w.heap[b]? = some o') : (w.alloc o).heap[b]? = some o' := by
 have hl := (Array.getElem?_eq_some_iff.1 h).1
 show (w.heap.push o)[b]? = some o'
 rw [Array.getElem?_push_lt hl, ← h, Array.getElem?_eq_getElem hl]
theorem blk_keep {B b : Nat} {w w' : World} {o : Obj} (h : w.heap[b]? = some o) (hb : Below B w w') (hlt : b < B) : w'.heap[b]? = some o := (hb.block b hlt).trans h
theorem cell_blk {w : World} {b j : Nat} {xs : Array Value} {t : TypeId} {v : Value} (h : w.heap[b]? = some (.cells xs t)) (hj : xs[j]? = some v) : w.cell? ⟨b, j, none⟩ = some v := by
 simp [World.cell?, h, hj]
theorem cell_blk' {w : World} {b : Nat} {xs : Array Value} {t : TypeId} (h : w.heap[b]? = some (.cells xs t)) (j : Nat) (hj : j < xs.size) : ∃ v, w.cell? ⟨b, j, none⟩ = some v := by
 simp [World.cell?, h, hj]
theorem frozen_blk {w : World} {b : Nat} {xs : Array Value} {t : TypeId} (h : w.heap[b]? = some (.cells xs t)) (j : Nat) : w.frozen? ⟨b, j, none⟩ = false := by
 simp [World.frozen?, h]
def hasS (ts : List ByteArray) (s : ByteArray) : Bool := ts.any fun t => t.toList == s.toList
theorem hasS_take {ts : List ByteArray} {s t : ByteArray} {k : Nat} (h : ts[k]? = some t) : hasS (ts.take (k + 1)) s = (hasS (ts.take k) s || t.toList == s.toList) := by
 unfold hasS
 rw [List.take_add_one, h]
 simp
theorem hasS_of {ts : List ByteArray} {s t : ByteArray} {k : Nat} (h : ts[k]? = some t) (he : (t.toList == s.toList) = true) : hasS ts s = true :=
 List.any_eq_true.2 ⟨t, List.mem_of_getElem? h, he⟩
theorem l3In_any (a : Option Addr) (ts : List ByteArray) (cap : Nat) (s : ByteArray) (w : World) (hn : ts.length ≤ 1048576) (hr : RowS w w.heap.size a ts) :
  Calls Tryz.prog 27 #[.slice a ts.length cap, .string s] w fun e w' => Ans w (.bool (hasS ts s)) e w' := by
 have HR : Hid (RowS w w.heap.size a ts) := hr
 clear hr
 go_enter Tryz.func27, Tryz.ntmps27
 go_wp2
 go_loopw [5] (fun o wr => ∃ (i : Nat), i ≤ ts.length ∧ o = .int .i64 i ∧ hasS (ts.take i) s = false ∧ Below w.heap.size w wr)
  (fun o _ => ts.length - (intOf o).toNat)
 case atStart => exact ⟨0, by omega, rfl, by simp [hasS], Below.refl _ _⟩
 case round =>
  obtain ⟨i, hi, rfl, hno, hb⟩ := hrel
  by_cases hlt : i < ts.length
  ·obtain ⟨d, hd⟩ : ∃ d, ts[i]? = some d := ⟨_, List.getElem?_eq_getElem hlt⟩
   obtain ⟨b1, o1, rfl, hbb, c0⟩ := (HR.out.below hb) i d hd
   by_cases he : (d.toList == s.toList) = true
   ·have HQ : Hid (hasS ts s = true) := hasS_of hd he
    clear hno
    go_wp2
    all_goals (try go_quiet (fail))
    all_goals (try go_wp2)
    all_goals
     go_ret
     exact ⟨by rw [HQ.out]; rfl, by first | exact hb | exact below_drewN hb _⟩
   ·have he : (d.toList == s.toList) = false := by simpa using he
    have HQ : Hid (hasS (ts.take (i + 1)) s = false) := by show _ = _; rw [hasS_take hd, hno, he]; rfl
    clear hno
    go_wp2
    all_goals (try go_quiet (fail))
    all_goals (try go_wp2)
    all_goals
     go_roundw
     case rel => exact ⟨i + 1, by omega, by go_num, HQ.out, by first | exact hb | exact below_drewN hb _⟩
     case measure => simp [intOf]; omega
  ·have hlt' : decide ((i : Int) < (ts.length : Int)) = false := by simp; omega
   obtain rfl : i = ts.length := by omega
   rw [List.take_length] at hno
   have HQ : Hid (hasS ts s = false) := hno
   clear hno
   go_wp2
   go_ret
   exact ⟨by rw [HQ.out]; rfl, hb⟩
end Go.Proofs.YtamjofdgikifnaaGreat
namespace Go.Proofs.YtamjofdgikifnaaGreat
open Go.ChangeShapes Go.WideShapes Go.ChangeAt Go.RowKit
open Go.Maps (Keyed has)
theorem Tryz.cells77 : Tryz.prog.cellsOf 137 = 4 := by kernel_rfl
theorem Tryz.arr77 : WideMaps.ArrKey Tryz.prog 137 3 4 := ⟨Tryz.underlying137, by kernel_rfl, by kernel_rfl, Tryz.cells77⟩
theorem Tryz.law77 : Keyed Tryz.prog 137 := Keyed.of_law Tryz.arr77.law
theorem Tryz.size99 : ∃ m, Tryz.prog.types.size = m + 1 := ⟨177, by kernel_rfl⟩
def Kv (a b c d : Int) : Value := .agg #[.int .i64 a, .int .i64 b, .int .i64 c, .int .i64 d]
def Rv (l h t : Int) : Value := .agg #[.int .i64 l, .int .i64 h, .int .i64 t]
def kl (a b c d : Int) : Lit := .string (keyBytes [.int .i64 a, .int .i64 b, .int .i64 c, .int .i64 d])
def dR (l h t : Int) : DataW Unit := .agg [.lit (.int .i64 l), .lit (.int .i64 h), .lit (.int .i64 t)]
theorem lit_wf {x : Int} (h : i64B x) : (Lit.int .i64 x).wf = true := by
 obtain ⟨h1, h2⟩ := h
 exact WalkArith.wf_i64 (by omega)
theorem keyOf_K {a b c d : Int} (ha : i64B a) (hb : i64B b) (hc : i64B c) (hd : i64B d) : keyOf Tryz.prog 137 (Kv a b c d) = some (kl a b c d) := by
 have wa := lit_wf ha
 have wb := lit_wf hb
 have wc := lit_wf hc
 have wd := lit_wf hd
 have hkt := Tryz.arr77.keyType Tryz.size99
 obtain ⟨m, hm⟩ := Tryz.size99
 unfold keyOf Kv kl
 simp only [Tryz.arr77.hu]
 rw [if_pos (by simp [hkt, Value.formed, Tryz.arr77.hu, Tryz.arr77.size]), hm]
 unfold Program.keyLits
 simp only [Tryz.arr77.hu, Value.cells]
 rw [if_pos (by rw [Tryz.arr77.size]; rfl), show List.range 4 = [0, 1, 2, 3] from rfl, List.mapM_cons, List.mapM_cons, List.mapM_cons, List.mapM_cons, List.mapM_nil]
 simp [Tryz.arr77.one, Program.keyLits, Tryz.underlying3, wa, wb, wc, wd]
theorem kl_inj {a b c d a' b' c' d' : Int} (ha : i64B a) (hb : i64B b) (hc : i64B c) (hd : i64B d) (ha' : i64B a') (hb' : i64B b') (hc' : i64B c') (hd' : i64B d') (h : kl a b c d = kl a' b' c' d') : a = a' ∧ b = b' ∧ c = c' ∧ d = d' := by
 have h1 := keyOf_K ha hb hc hd
 have h2 := keyOf_K ha' hb' hc' hd'
 rw [← h] at h2
 have := Tryz.law77.inj h1 h2
 simpa [Kv] using this
def Re (v : Value) : Option (DataW Unit × List MemPlace) :=
 match v with
 | .agg cs => match cs.toList with
  | [.int .i64 l, .int .i64 h, .int .i64 t] => some (dR l h t, [])
  | _ => none
 | _ => none
theorem Re_mk (l h t : Int) : Re (Rv l h t) = some (dR l h t, []) := rfl
theorem Re_inv {v : Value} {l h t : Int} {ps : List MemPlace} (e : Re v = some (dR l h t, ps)) : v = Rv l h t := by
 unfold Re at e
 split at e
 ·rename_i cs
  split at e
  ·rename_i l' h' t' hl
   simp [dR] at e
   obtain ⟨⟨rfl, rfl, rfl⟩, _⟩ := e
   unfold Rv
   congr 1
   rw [← Array.toArray_toList (xs := cs), hl]
  ·cases e
 ·cases e
theorem kl_key (a b c d : Int) : WideAt.IsKeyLit (kl a b c d) := trivial
abbrev Says := Int → Int → Int → Int → Option (Int × Int × Int)
def MapIs (w : World) (m n : Nat) (F : Says) : Prop :=
 ∃ D : DataW Unit, w.ownsMap Tryz.prog 137 Re m n D ∧ ∀ a b c d, i64B a → i64B b → i64B c → i64B d →
  (F a b c d = none → has D (kl a b c d) = false) ∧ ∀ l h t, F a b c d = some (l, h, t) → has D (kl a b c d) = true ∧ ∀ z, D.atKey (kl a b c d) z = dR l h t
def upd (F : Says) (a0 b0 c0 d0 : Int) (v : Int × Int × Int) : Says := fun a b c d => if a = a0 ∧ b = b0 ∧ c = c0 ∧ d = d0 then some v else F a b c d
theorem MapIs.made (w : World) : MapIs (w.alloc (.map #[] 0)) w.heap.size 0 (fun _ _ _ _ => none) :=
 ⟨_, World.ownsMap_made w _ _ _, fun _ _ _ _ _ _ _ _ => ⟨fun _ => rfl, fun _ _ _ h => by cases h⟩⟩
theorem MapIs.keep {w w' : World} {m n B : Nat} {F : Says} (h : MapIs w m n F) (hb : Below B w w') (hm : m < B) : MapIs w' m n F := by
 obtain ⟨D, ⟨es, clock, h1, h2⟩, hD⟩ := h
 exact ⟨D, ⟨es, clock, (hb.block m hm).trans h1, h2⟩, hD⟩
theorem MapIs.lt {w : World} {m n : Nat} {F : Says} (h : MapIs w m n F) : m < w.heap.size := by
 obtain ⟨D, ho, _⟩ := h
 exact ho.lt
theorem MapIs.congr {w : World} {m n : Nat} {F G : Says} (h : MapIs w m n F) (e : F = G) : MapIs w m n G := e ▸ h
theorem MapIs.store {w : World} {m n : Nat} {F : Says} (h : MapIs w m n F) (hn : n < maxLen) {a0 b0 c0 d0 : Int} (ha : i64B a0) (hb : i64B b0) (hc : i64B c0) (hd : i64B d0) (l hi t : Int) :
  ∃ w', (Instr.mapUpdate 122 (.map (some m)) (Kv a0 b0 c0 d0) (Rv l hi t)).run Tryz.prog w = .ok () w' ∧ MapIs w' m (n + 1) (upd F a0 b0 c0 d0 (l, hi, t)) ∧ w.grownBy w' (some m) := by
 obtain ⟨D, ho, hD⟩ := h
 have hm := ho.isMap
 obtain ⟨w', hr, ho', hg⟩ := ho.update Tryz.law77 Tryz.underlying122 hn (keyOf_K ha hb hc hd) (Re_mk l hi t)
 refine ⟨w', hr, ⟨_, ho', fun a b c d ha' hb' hc' hd' => ?_⟩, hg⟩
 by_cases he : a = a0 ∧ b = b0 ∧ c = c0 ∧ d = d0
 ·obtain ⟨rfl, rfl, rfl, rfl⟩ := he
  have e : upd F a b c d (l, hi, t) a b c d = some (l, hi, t) := if_pos ⟨rfl, rfl, rfl, rfl⟩
  rw [e]
  refine ⟨fun h => (by cases h), fun l' h' t' h => ?_⟩
  injection h with h
  simp at h
  obtain ⟨rfl, rfl, rfl⟩ := h
  exact ⟨Maps.has_put_same hm (kl_key _ _ _ _) _, fun z => Maps.atKey_put_same hm (kl_key _ _ _ _) _ z⟩
 ·have e : upd F a0 b0 c0 d0 (l, hi, t) a b c d = F a b c d := if_neg he
  have hne : kl a b c d ≠ kl a0 b0 c0 d0 := fun h => he (kl_inj ha' hb' hc' hd' ha hb hc hd h)
  rw [e, Maps.has_put_other hne]
  obtain ⟨h1, h2⟩ := hD a b c d ha' hb' hc' hd'
  exact ⟨h1, fun l' h' t' h => ⟨(h2 l' h' t' h).1, fun z => by rw [Maps.atKey_put_other hne]; exact (h2 l' h' t' h).2 z⟩⟩
theorem Tryz.zero79 (w : World) : (zeroValue 139).run Tryz.prog w = .ok (Rv 0 0 0) w := by kernel_rfl
theorem MapIs.look_some {w : World} {m n : Nat} {F : Says} (h : MapIs w m n F) {a b c d : Int} (ha : i64B a) (hb : i64B b) (hc : i64B c) (hd : i64B d) {l hi t : Int} (hF : F a b c d = some (l, hi, t)) :
  (Instr.lookup 122 (.map (some m)) (Kv a b c d) true).run Tryz.prog w = .ok (.tuple #[Rv l hi t, .bool true]) w := by
 obtain ⟨D, ho, hD⟩ := h
 obtain ⟨v, ps, hr, hv⟩ := ho.look_ok Tryz.law77 Tryz.underlying122 (Tryz.zero79 w) (Re_mk 0 0 0) (keyOf_K ha hb hc hd)
 obtain ⟨h1, h2⟩ := (hD a b c d ha hb hc hd).2 l hi t hF
 rw [h2] at hv
 rw [h1, Re_inv hv] at hr
 exact hr
theorem MapIs.look_none {w : World} {m n : Nat} {F : Says} (h : MapIs w m n F) {a b c d : Int} (ha : i64B a) (hb : i64B b) (hc : i64B c) (hd : i64B d) (hF : F a b c d = none) :
  (Instr.lookup 122 (.map (some m)) (Kv a b c d) true).run Tryz.prog w = .ok (.tuple #[Rv 0 0 0, .bool false]) w := by
 obtain ⟨D, ho, hD⟩ := h
 obtain ⟨v, ps, hr, hv⟩ := ho.look_ok Tryz.law77 Tryz.underlying122 (Tryz.zero79 w) (Re_mk 0 0 0) (keyOf_K ha hb hc hd)
 have h1 := (hD a b c d ha hb hc hd).1 hF
 rw [Maps.atKey_of_not_has h1] at hv
 rw [h1, Re_inv hv] at hr
 exact hr
end Go.Proofs.YtamjofdgikifnaaGreat
