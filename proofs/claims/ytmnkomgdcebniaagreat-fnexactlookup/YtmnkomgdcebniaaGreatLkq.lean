/- A range over a closure, that goes to its end, in a frame that has other marks; and a frame's way out over its marks. slices.Backward's iterator over a row of links, for a body that goes to its end. What the map of holdings says while it is filled: library by library, link by link from the last, name by name. A region that draws its order, inside of a round of a range over a function: gone through as one outside of it. The program's map of holdings. -/
import Derived.Test.YtmnkomgdcebniaaGreatLkr
import Derived.RangeFuncNested
import Derived.RangeFuncBox
import Derived.RangeFuncLeaves
import Derived.RangeFuncCalls
import Derived.Shelf.Abstract
import Derived.WalkKit
import Derived.OwnWalkIn
import Derived.TacticsInMore
import Derived.LoopNIn
import Derived.LoopIn
import Derived.Test.YtmnkomgdcebniaaGreatProg
import Derived.OrdersIn
import Derived.OrdersHeld
import Derived.ControlIn
import Derived.TacticsIn
import Derived.Test.YtmnkomgdcebniaaGreatDra
import Derived.RegionIn
set_option linter.unusedVariables false
namespace Go.Proofs.YtmnkomgdcebniaaGreat
open Go Go.RowKit Go.Shelf
/-- A mark. -/
def mkD (D : Nat) : Deferred := { target := .collected D, args := #[] }
theorem wpIn_rangeClosure {P : Program} {n : Nat} {g : Operand} {ps : Array Tmp} {assign body : Code} {Q : Exit → Act → World → Prop} {a : Act} {w : World} {gf : Nat} {lb : Array Value} (hg : a.eval g = .func (.func gf) #[] lb) (eg : ∀ args w, (callFunc gf args).run P w = .ok (.enter gf args) w)
    (h : ∀ fn, CallsIn Fence.wide (n - 1) P gf (#[.func (.yield (w.heap.size + 1)) #[] #[]] ++ lb) ((w.alloc (.deferred (some []))).alloc (.loop { state := .ready, pending := none, fn, tmps := a.tmps, params := ps, assign, body, defers := w.heap.size })) fun e w₃ =>
        ∃ v, e = .returned v ∧ ∃ w₄, (Instr.endLoop (w.heap.size + 1)).run P w₃ = .ok none w₄ ∧ Q .normal { a with defers := mkD w.heap.size :: a.defers } w₄) :
    (Code.rangeFunc g ps assign body).wpIn Fence.wide n P Q a w := by
  refine wpIn_rangeFunc ?_
  intro fn hfn
  obtain ⟨W1, hW1⟩ : ∃ W1, W1 = (w.alloc (.deferred (some []))).alloc (.loop { state := .ready, pending := none, fn, tmps := a.tmps, params := ps, assign, body, defers := w.heap.size }) := ⟨_, rfl⟩
  have hc := h fn
  rw [← hW1] at hc
  refine ⟨w.heap.size + 1, [mkD w.heap.size], W1, { target := .fn (.func gf) lb, args := #[.func (.yield (w.heap.size + 1)) #[] #[]] }, W1, gf, #[.func (.yield (w.heap.size + 1)) #[] #[]] ++ lb, W1, ?_, ?_, ?_, ?_, ?_, ?_⟩
  · rw [hW1]; exact run_enterLoop_outer _ _ _ _ _
  · simp only [resolve, hg]
    simp [go_sem]
  · intro f' _; trivial
  · simp [invoke, eg]
  · intro h; cases h
  · refine hc.mono ?_
    rintro e w3 ⟨v, rfl, w4, h4, hq⟩
    exact ⟨none, w4, h4, hq⟩
theorem leaves_marks {F : Fence} {n : Nat} {P : Program} {fn : Func} {tmps : Array Value} {R : Ending → World → Prop} {B : Nat} : ∀ (ds : List Nat) (w : World), ds.Nodup → (∀ d ∈ ds, B ≤ d ∧ w.heap[d]? = some (.deferred (some []))) →
    (∀ w', (∀ k, k ∉ ds → w'.heap[k]? = w.heap[k]?) → Below B w w' → LeavesIn F n P fn tmps R [] .returning w') → LeavesInM F n P fn tmps R (ds.map mkD) .returning w
  | [], w, _, _, h => h w (fun _ _ => rfl) (Below.refl _ _)
  | d :: ds, w, hn, hd, h => by
    obtain ⟨hdn, hn'⟩ := List.nodup_cons.1 hn
    obtain ⟨hB, hw⟩ := hd d (List.mem_cons_self ..)
    refine ⟨by simp, .inl ⟨d, _, rfl, run_takeDeferred hw, ?_⟩⟩
    have ot : ∀ j, j ≠ d → (w.putObj d (.deferred none)).heap[j]? = w.heap[j]? := fun j hj => World.putObj_heap_other hj
    have hb1 : Below B w (w.putObj d (.deferred none)) := ⟨rfl, rfl, rfl, (grownBy_putObj' w d _).size, fun k hk => World.putObj_heap_other (by omega)⟩
    refine leaves_marks (B := B) ds _ hn' (fun x hx => ?_) (fun w' hk hb => ?_)
    · obtain ⟨h1, h2⟩ := hd x (List.mem_cons_of_mem _ hx)
      exact ⟨h1, (ot x (fun e => hdn (e ▸ hx))).trans h2⟩
    · refine h w' (fun k hk' => ?_) (hb1.trans hb)
      rw [hk k (fun e => hk' (List.mem_cons_of_mem _ e))]
      exact ot k (fun e => hk' (e ▸ List.mem_cons_self ..))
end Go.Proofs.YtmnkomgdcebniaaGreat
set_option linter.unusedVariables false
namespace Go.Proofs.YtmnkomgdcebniaaGreat
open Go Go.RowKit Go.Shelf
attribute [local go_sem] Oper.semAt_some
theorem back_any (a : Option Addr) (n c : Nat) (w : World) :
    Calls Tryz.prog 141 #[.slice a n c] w fun e w' => e = .returned (.func (.func 165) #[] #[.pointer (some ⟨w.heap.size, 0, none⟩)]) ∧ w' = w.alloc (.cells #[.slice a n c] 134) := by
  have hmf : ∀ (fn : Fn) (first cap : Array Value) (w : World), (Instr.makeFunc fn first cap).run Tryz.prog w = .ok (.func fn first cap) w := fun _ _ _ _ => rfl
  go_enter Tryz.func141, Tryz.ntmps141
  go_wp2
  go_ret
  exact ⟨rfl, rfl⟩
/-- A link as a value. -/
def lnkV (x : Lnk) : Value := .agg #[.string x.name, .int .i64 x.inst, .string x.at_]
set_option maxRecDepth 100000 in
set_option maxHeartbeats 2000000 in
theorem back_in (n l Bp cap : Nat) (a : Option Addr) (ps : List Lnk) (J : Nat → World → Prop) (hps : ps.length ≤ 1048576)
    (hJ : ∀ k W, J k W → W.cell? ⟨Bp, 0, none⟩ = some (.slice a ps.length cap) ∧ ∀ i x, ps[i]? = some x → ∃ b o, a = some ⟨b, o, none⟩ ∧ W.cell? ⟨b, o + i * 3, none⟩ = some (.string x.name) ∧ W.cell? ⟨b, o + i * 3 + 1, none⟩ = some (.int .i64 x.inst) ∧ W.cell? ⟨b, o + i * 3 + 2, none⟩ = some (.string x.at_))
    (hY : ∀ k i x W, J k W → k + i + 1 = ps.length → ps[i]? = some x → YieldAt Fence.wide n Tryz.prog l #[.int .i64 (i : Int), lnkV x] W fun e W' =>
      e = .returned (.bool true) ∧ J (k + 1) W')
    (W : World) (h0 : J 0 W) :
    CallsIn Fence.wide (n + 1) Tryz.prog 165 #[.func (.yield l) #[] #[], .pointer (some ⟨Bp, 0, none⟩)] W fun e W' => (∃ v, e = .returned v) ∧ J ps.length W' := by
  refine callsIn_of_wp Tryz.func165 rfl trivial ?_ rfl
  simp only [Tryz.ntmps165, List.size_toArray, List.length_cons, List.length_nil, Nat.reduceAdd, Nat.reduceSub, Array.replicate_succ, Array.replicate_zero, List.push_toArray, List.append_toArray, List.nil_append, List.cons_append]
  have hc0 := (hJ 0 W h0).1
  gi_wp2
  gi_loopw [3] (fun i wr => ∃ k : Nat, k ≤ ps.length ∧ i = .int .i64 ((ps.length : Int) - 1 - (k : Int)) ∧ J k wr)
    (fun i _ => (intOf i + 1).toNat)
  case atStart => exact ⟨0, Nat.zero_le _, by simp, h0⟩
  case round =>
    clear hc0
    obtain ⟨k, hk, rfl, hJs⟩ := hrel
    obtain ⟨hc1, hcells⟩ := hJ k wr hJs
    by_cases hlt : k < ps.length
    · obtain ⟨i, hi⟩ : ∃ i : Nat, k + i + 1 = ps.length := ⟨ps.length - 1 - k, by omega⟩
      obtain ⟨x, hx⟩ : ∃ x, ps[i]? = some x := ⟨_, List.getElem?_eq_getElem (by omega)⟩
      obtain ⟨b, o, rfl, hcx, hcy, hcz⟩ := hcells i x hx
      have hii : (ps.length : Int) - 1 - (k : Int) = (i : Int) := by omega
      obtain ⟨fn, tmps, assign, body, hy, hR⟩ := hY k i x wr hJs hi hx
      unfold lnkV at hy
      have i1 : (i : Int) < (ps.length : Int) := by omega
      rw [hii]
      gi_wp2
      refine hR.mono ?_
      rintro e W3 ⟨rfl, hJ3⟩
      gi_wp2
      go_roundw
      case rel => exact ⟨k + 1, by omega, by simp; omega, hJ3⟩
      case measure => simp [intOf]
    · obtain rfl : k = ps.length := by omega
      have d1 : decide ((0 : Int) ≤ (ps.length : Int) - 1 - (ps.length : Int)) = false := by simp; omega
      gi_wp2
      go_end0
      exact ⟨⟨_, rfl⟩, hJs⟩
end Go.Proofs.YtmnkomgdcebniaaGreat
set_option linter.unusedVariables false
namespace Go.Proofs.YtmnkomgdcebniaaGreat
open Go Go.RowKit
/-- Cells and collectors stay. -/
def KC (w w' : World) : Prop := ∀ (k : Nat) (o : Obj), w.heap[k]? = some o → (o.isCells = true ∨ ∃ ds, o = .deferred ds) → w'.heap[k]? = some o
theorem KC.refl (w : World) : KC w w := fun _ _ h _ => h
theorem KC.trans {a b c : World} (h : KC a b) (g : KC b c) : KC a c := fun k o hk ho => g k o (h k o hk ho) ho
theorem KC.alloc (w : World) (o : Obj) : KC w (w.alloc o) := fun k o' h _ => by
  have hk := (Array.getElem?_eq_some_iff.1 h).1
  rw [Below.heap_alloc _ _ _ hk]; exact h
theorem KC.put {w : World} {r : Nat} {o : Obj} (o' : Obj) (h : w.heap[r]? = some o) (hc : o.isCells = false) (hd : ∀ ds, o ≠ .deferred ds) : KC w (w.putObj r o') := fun k o1 h1 h2 => by
  by_cases e : k = r
  · subst e
    rw [h] at h1
    obtain rfl := Option.some.inj h1
    rcases h2 with h2 | ⟨ds, h2⟩
    · rw [hc] at h2; cases h2
    · exact (hd ds h2).elim
  · rw [World.putObj_heap_other e]; exact h1
theorem KC.grown {w w' : World} {r : Nat} {o : Obj} (hg : w.grownBy w' (some r)) (h : w.heap[r]? = some o) (hc : o.isCells = false) (hd : ∀ ds, o ≠ .deferred ds) : KC w w' := fun k o1 h1 h2 => by
  have hk := (Array.getElem?_eq_some_iff.1 h1).1
  by_cases e : k = r
  · subst e
    rw [h] at h1
    obtain rfl := Option.some.inj h1
    rcases h2 with h2 | ⟨ds, h2⟩
    · rw [hc] at h2; cases h2
    · exact (hd ds h2).elim
  · rw [hg.block k hk (fun e' => e (Option.some.inj e'))]; exact h1
theorem KC.cell {w w' : World} (h : KC w w') {a : Addr} {v : Value} (hc : w.cell? a = some v) : w'.cell? a = some v := by
  unfold World.cell? at hc ⊢
  split at hc
  · rename_i c t z hb
    rw [h _ _ hb (.inl rfl)]
    exact hc
  · cases hc
theorem bl_inj {s t : ByteArray} (h : s.toList = t.toList) : s = t := by
  rw [ByteArray.toList_eq, ByteArray.toList_eq] at h
  obtain ⟨⟨s⟩⟩ := s
  obtain ⟨⟨t⟩⟩ := t
  simp only at h
  rw [h]
theorem bl_ne {s t : ByteArray} (h : s ≠ t) : (s.toList == t.toList) = false := by
  cases e : (s.toList == t.toList) with
  | false => rfl
  | true => exact (h (bl_inj (by simpa using e))).elim
/-- A pointer to a value of the library's own. -/
def OwnE (W : World) (B : Nat) (x : Ins) (k : Nat) (r : Option Value) : Prop :=
  ∃ v h b o, x.vals[k]? = some v ∧ r = some (.pointer (some ⟨h, 0, none⟩)) ∧ W.heap[h]? = some (.cells #[.pointer (some ⟨b, o, none⟩), .pointer none] 166 (0, 0)) ∧ b < B ∧ ValAt W b o v
/-- A pointer to a link. -/
def LnkE (W : World) (B : Nat) (d : Lnk) (r : Option Value) : Prop :=
  ∃ h b o, r = some (.pointer (some ⟨h, 0, none⟩)) ∧ W.heap[h]? = some (.cells #[.pointer none, .pointer (some ⟨b, o, none⟩)] 166 (0, 0)) ∧ b < B ∧ W.cell? ⟨b, o, none⟩ = some (.string d.name) ∧ W.cell? ⟨b, o + 1, none⟩ = some (.int .i64 d.inst) ∧ W.cell? ⟨b, o + 2, none⟩ = some (.string d.at_)
theorem OwnE.keep {W W' : World} {B : Nat} {x : Ins} {k : Nat} {r : Option Value} (h : OwnE W B x k r) (hk : KC W W') (hb : Below B W W') : OwnE W' B x k r := by
  obtain ⟨v, h, b, o, h1, h2, h3, h4, h5⟩ := h
  exact ⟨v, h, b, o, h1, h2, hk _ _ h3 (.inl rfl), h4, h5.keep (hb.block b h4)⟩
theorem LnkE.keep {W W' : World} {B : Nat} {d : Lnk} {r : Option Value} (h : LnkE W B d r) (hk : KC W W') : LnkE W' B d r := by
  obtain ⟨h, b, o, h2, h3, h4, h5, h6, h7⟩ := h
  exact ⟨h, b, o, h2, hk _ _ h3 (.inl rfl), h4, hk.cell h5, hk.cell h6, hk.cell h7⟩
/-- What is under a name of one library, its links ls and its first ns names stored. -/
def One (W : World) (B : Nat) (x : Ins) (ls : List Lnk) (ns : Nat) (s : ByteArray) (r : Option Value) : Prop :=
  (∃ k, k < ns ∧ x.names[k]? = some s ∧ OwnE W B x k r) ∨
  ((∀ k, k < ns → x.names[k]? ≠ some s) ∧ ((∃ d, ls.find? (fun l => l.name.toList == s.toList) = some d ∧ LnkE W B d r) ∨ (ls.find? (fun l => l.name.toList == s.toList) = none ∧ r = none)))
theorem One.keep {W W' : World} {B : Nat} {x : Ins} {ls : List Lnk} {ns : Nat} {s : ByteArray} {r : Option Value} (h : One W B x ls ns s r) (hk : KC W W') (hb : Below B W W') : One W' B x ls ns s r := by
  rcases h with ⟨k, h1, h2, h3⟩ | ⟨h1, ⟨d, h2, h3⟩ | h2⟩
  · exact .inl ⟨k, h1, h2, h3.keep hk hb⟩
  · exact .inr ⟨h1, .inl ⟨d, h2, h3.keep hk⟩⟩
  · exact .inr ⟨h1, .inr h2⟩
theorem Held.keep {W W' : World} {B : Nat} {l : List Ins} {i : Int} {s : ByteArray} {r : Option Value} (h : Held W B l i s r) (hk : KC W W') (hb : Below B W W') : Held W' B l i s r := by
  rcases h with ⟨x, k, v, h, b, o, h1, h2, h3, h4, h5, h6, h7, h8⟩ | ⟨x, d, h, b, o, h1, h2, h3, h4, h5, h6, h7, h8, h9, h10⟩ | h
  · exact .inl ⟨x, k, v, h, b, o, h1, h2, h3, h4, h5, hk _ _ h6 (.inl rfl), h7, h8.keep (hb.block b h7)⟩
  · exact .inr (.inl ⟨x, d, h, b, o, h1, h2, h3, h4, h5, hk _ _ h6 (.inl rfl), h7, hk.cell h8, hk.cell h9, hk.cell h10⟩)
  · exact .inr (.inr h)
/-- A name stands once. -/
def Once (ns : List ByteArray) : Prop := ∀ (i j : Nat) (s : ByteArray), ns[i]? = some s → ns[j]? = some s → i = j
theorem One.held {W : World} {B : Nat} {l : List Ins} {x : Ins} {i0 : Nat} {s : ByteArray} {r : Option Value} (h : One W B x x.links x.names.length s r) (hx : l[i0]? = some x) (ho : Once x.names) : Held W B l (i0 : Int) s r := by
  have hx' : l[((i0 : Int)).toNat]? = some x := by simpa using hx
  rcases h with ⟨k, h1, h2, v, h, b, o, h3, h4, h5, h6, h7⟩ | ⟨h1, h2⟩
  · refine .inl ⟨x, k, v, h, b, o, by omega, hx', ?_, h3, h4, h5, h6, h7⟩
    unfold idxS
    rw [List.findIdx?_eq_some_iff_getElem]
    refine ⟨h1, ?_, fun j hj => ?_⟩
    · have : x.names[k] = s := (List.getElem?_eq_some_iff.1 h2).2
      simp [this]
    · have hjl : j < x.names.length := by omega
      have hne : x.names[j] ≠ s := fun e => by
        have := ho j k s (by rw [List.getElem?_eq_getElem hjl, e]) h2
        omega
      simp [bl_ne hne]
  · have hn : idxS x.names s = none := by
      unfold idxS
      rw [List.findIdx?_eq_none_iff]
      intro t ht
      obtain ⟨k, hk⟩ := List.getElem?_of_mem ht
      have hkl := (List.getElem?_eq_some_iff.1 hk).1
      exact bl_ne (fun e => h1 k hkl (e ▸ hk))
    rcases h2 with ⟨d, h2, h, b, o, h3, h4, h5, h6, h7, h8⟩ | ⟨h2, rfl⟩
    · exact .inr (.inl ⟨x, d, h, b, o, by omega, hx', hn, h2, h3, h4, h5, h6, h7, h8⟩)
    · refine .inr (.inr ⟨rfl, fun y _ hy => ?_⟩)
      rw [hx'] at hy
      obtain rfl := Option.some.inj hy
      exact ⟨hn, h2⟩
/-- What is under a key, the libraries below i0 stored, and of that one its links ls and its first ns names. -/
def Ent (W : World) (B : Nat) (l : List Ins) (i0 : Nat) (ls : List Lnk) (ns : Nat) (i : Int) (s : ByteArray) (r : Option Value) : Prop :=
  (i < 0 ∨ (i0 : Int) < i → r = none) ∧ (0 ≤ i → i < (i0 : Int) → Held W B l i s r) ∧ (i = (i0 : Int) → (∀ x, l[i0]? = some x → One W B x ls ns s r) ∧ (l[i0]? = none → r = none))
theorem Ent.keep {W W' : World} {B : Nat} {l : List Ins} {i0 : Nat} {ls : List Lnk} {ns : Nat} {i : Int} {s : ByteArray} {r : Option Value} (h : Ent W B l i0 ls ns i s r) (hk : KC W W') (hb : Below B W W') : Ent W' B l i0 ls ns i s r :=
  ⟨h.1, fun h0 h1 => (h.2.1 h0 h1).keep hk hb, fun h0 => ⟨fun x hx => ((h.2.2 h0).1 x hx).keep hk hb, (h.2.2 h0).2⟩⟩
/-- The map in its block, so far. -/
def MS (W : World) (B m n : Nat) (l : List Ins) (i0 : Nat) (ls : List Lnk) (ns : Nat) : Prop :=
  ∃ F, MapH W m n F ∧ ∀ (i : Int) (s : ByteArray), s.size ≤ 1048576 → i64B i → Ent W B l i0 ls ns i s (F i s)
theorem MS.made (w : World) (B : Nat) (l : List Ins) : MS (w.alloc (.map #[] 0)) B w.heap.size 0 l 0 [] 0 :=
  ⟨_, MapH.made w, fun i s _ _ => ⟨fun _ => rfl, fun h0 h1 => by omega, fun _ => ⟨fun x _ => .inr ⟨fun k hk => by omega, .inr ⟨rfl, rfl⟩⟩, fun _ => rfl⟩⟩⟩
theorem MS.keep {W W' : World} {B m n : Nat} {l : List Ins} {i0 : Nat} {ls : List Lnk} {ns : Nat} (h : MS W B m n l i0 ls ns) (hm : W'.heap[m]? = W.heap[m]?) (hk : KC W W') (hb : Below B W W') : MS W' B m n l i0 ls ns := by
  obtain ⟨F, h1, h2⟩ := h
  exact ⟨F, h1.same hm, fun i s hs hi => (h2 i s hs hi).keep hk hb⟩
theorem MapH.isMap {w : World} {m n : Nat} {F : Int → ByteArray → Option Value} (h : MapH w m n F) : ∃ es c, w.heap[m]? = some (.map es c) := by
  obtain ⟨D, ⟨es, clock, h1, _⟩, _⟩ := h
  exact ⟨es, clock, h1⟩
/-- A key stored: what the map says behind it. -/
theorem MS.store {W : World} {B m n : Nat} {l : List Ins} {i0 : Nat} {ls ls' : List Lnk} {ns ns' : Nat} (h : MS W B m n l i0 ls ns) (hn : n < 9000000000000000000) (hB : B ≤ m) {s0 : ByteArray} (hs : s0.size ≤ 1048576) (hi : i64B (i0 : Int)) (v : Value) {x : Ins} (hx : l[i0]? = some x)
    (hnew : ∀ W', KC W W' → Below B W W' → One W' B x ls' ns' s0 (some v)) (hold : ∀ s r W', s ≠ s0 → One W' B x ls ns s r → One W' B x ls' ns' s r) :
    ∃ W', (Instr.mapUpdate 159 (.map (some m)) (Kh (i0 : Int) s0) v).run Tryz.prog W = .ok () W' ∧ MS W' B m (n + 1) l i0 ls' ns' ∧ KC W W' ∧ Below B W W' ∧ ∀ k o, k ≠ m → W.heap[k]? = some o → W'.heap[k]? = some o := by
  obtain ⟨F, h1, h2⟩ := h
  obtain ⟨es, c, hm⟩ := h1.isMap
  obtain ⟨W', hr, h3, hg⟩ := h1.store hn hs hi v
  have hk : KC W W' := KC.grown hg hm rfl (fun _ e => by cases e)
  have hb : Below B W W' := ⟨hg.os, hg.tape, hg.output, hg.size, fun k hk' => hg.block k (by have := h1.lt; omega) (fun e => by have := Option.some.inj e; omega)⟩
  refine ⟨W', hr, ⟨_, h3, fun i s hs' hi' => ?_⟩, hk, hb, fun k o hkm ho => (hg.block k (Array.getElem?_eq_some_iff.1 ho).1 (fun e => hkm (Option.some.inj e))).trans ho⟩
  obtain ⟨e1, e2, e3⟩ := (h2 i s hs' hi').keep hk hb
  unfold updH
  by_cases he : i = (i0 : Int) ∧ s = s0
  · rw [if_pos he]
    obtain ⟨rfl, rfl⟩ := he
    refine ⟨fun h => by omega, fun _ h => by omega, fun _ => ⟨fun y hy => ?_, fun h => by rw [hx] at h; cases h⟩⟩
    rw [hx] at hy
    obtain rfl := Option.some.inj hy
    exact hnew W' hk hb
  · rw [if_neg he]
    refine ⟨e1, e2, fun hi0 => ⟨fun y hy => ?_, (e3 hi0).2⟩⟩
    have hne : s ≠ s0 := fun e => he ⟨hi0, e⟩
    have := (e3 hi0).1 y hy
    rw [hx] at hy
    obtain rfl := Option.some.inj hy
    exact hold s _ W' hne this
theorem One.link {W : World} {B : Nat} {x : Ins} {ls : List Lnk} {d : Lnk} {s : ByteArray} {r : Option Value} (hne : s ≠ d.name) (h : One W B x ls 0 s r) : One W B x (d :: ls) 0 s r := by
  have : (d :: ls).find? (fun l => l.name.toList == s.toList) = ls.find? (fun l => l.name.toList == s.toList) := by
    rw [List.find?_cons, bl_ne (fun e => hne e.symm)]
  unfold One
  rw [this]
  exact h
theorem One.link_new {W : World} {B : Nat} {x : Ins} {ls : List Lnk} {d : Lnk} {r : Option Value} (h : LnkE W B d r) : One W B x (d :: ls) 0 d.name r :=
  .inr ⟨fun k hk => by omega, .inl ⟨d, by simp, h⟩⟩
theorem One.name {W : World} {B : Nat} {x : Ins} {ls : List Lnk} {j : Nat} {s0 s : ByteArray} {r : Option Value} (hj : x.names[j]? = some s0) (hne : s ≠ s0) (h : One W B x ls j s r) : One W B x ls (j + 1) s r := by
  rcases h with ⟨k, h1, h2⟩ | ⟨h1, h2⟩
  · exact .inl ⟨k, by omega, h2⟩
  · refine .inr ⟨fun k hk => ?_, h2⟩
    by_cases e : k = j
    · subst e
      rw [hj]
      exact fun e => hne (Option.some.inj e).symm
    · exact h1 k (by omega)
theorem One.name_new {W : World} {B : Nat} {x : Ins} {ls : List Lnk} {j : Nat} {s0 : ByteArray} {r : Option Value} (hj : x.names[j]? = some s0) (h : OwnE W B x j r) : One W B x ls (j + 1) s0 r :=
  .inl ⟨j, by omega, hj, h⟩
/-- The next library. -/
theorem MS.next {W : World} {B m n : Nat} {l : List Ins} {i0 : Nat} {x : Ins} (h : MS W B m n l i0 x.links x.names.length) (hx : l[i0]? = some x) (ho : Once x.names) : MS W B m n l (i0 + 1) [] 0 := by
  obtain ⟨F, h1, h2⟩ := h
  refine ⟨F, h1, fun i s hs hi => ?_⟩
  obtain ⟨e1, e2, e3⟩ := h2 i s hs hi
  refine ⟨fun h => e1 (by omega), fun h0 h1 => ?_, fun h => ?_⟩
  · by_cases e : i = (i0 : Int)
    · have := (e3 e).1 x hx
      subst e
      exact this.held hx ho
    · exact e2 h0 (by omega)
  · have hr : F i s = none := e1 (by omega)
    exact ⟨fun _ _ => .inr ⟨fun k hk => by omega, .inr ⟨rfl, hr⟩⟩, fun _ => hr⟩
/-- All of them. -/
theorem MS.done {W : World} {B m n : Nat} {l : List Ins} (h : MS W B m n l l.length [] 0) : ∃ F, MapH W m n F ∧ ∀ (i : Int) (s : ByteArray), s.size ≤ 1048576 → i64B i → Held W B l i s (F i s) := by
  obtain ⟨F, h1, h2⟩ := h
  refine ⟨F, h1, fun i s hs hi => ?_⟩
  obtain ⟨e1, e2, e3⟩ := h2 i s hs hi
  by_cases c1 : i < 0
  · exact .inr (.inr ⟨e1 (.inl c1), fun x h0 _ => by omega⟩)
  · by_cases c2 : i < (l.length : Int)
    · exact e2 (by omega) c2
    · have hno : ∀ x, l[i.toNat]? = some x → False := fun x hx => by
        have := (List.getElem?_eq_some_iff.1 hx).1
        omega
      by_cases c3 : i = (l.length : Int)
      · exact .inr (.inr ⟨(e3 c3).2 (by simp), fun x _ hx => (hno x hx).elim⟩)
      · exact .inr (.inr ⟨e1 (.inr (by omega)), fun x _ hx => (hno x hx).elim⟩)
end Go.Proofs.YtmnkomgdcebniaaGreat
set_option linter.unusedVariables false
namespace Go.Proofs.YtmnkomgdcebniaaGreat
open Go
section
variable {P : Program} {md : Region.Mode} {ops : Array Oper} {Q : Exit → Act → World → Prop} {S : World → Prop}
theorem upon_inR (l n : Nat) {o : Oper} {a : Act} {next : Act → World → Prop} {r : Result Next} (h : o.upon P a next Q r) : o.uponIn (Fence.wide.inRound l) n P a next Q r := by
  cases r with
  | ok x w' =>
    cases x <;> simp only [Oper.upon, Oper.uponIn] at h ⊢ <;> try exact h
    case enter f args => exact ⟨fun h => by simp [Fence.wide, Fence.inRound] at h, callsIn_wide.2 h⟩
    case row row args => exact ⟨fun h => by simp [Fence.wide, Fence.inRound] at h, fun c cs _ => let ⟨v, w', r, s⟩ := h c cs; ⟨v, w', r, stepsIn_wide.2 s⟩⟩
  | halt x w' => cases x <;> simp only [Oper.upon, Oper.uponIn] at h ⊢ <;> exact h
/-- An operation that defers nothing. -/
def calm (o : Oper) : Bool := match o.op with
  | .defer _ => false
  | _ => true
theorem calm_ne {o : Oper} (h : calm o = true) (c) : o.op ≠ .defer c := by
  intro e
  unfold calm at h
  rw [e] at h
  cases h
theorem wpOp_inR (l n : Nat) (hQ : ¬ LetsOut Q) (hd : ops.all calm = true) {i : Nat} {K K' : Act → World → Prop} (hK : ∀ a w, K a w → K' a w) {a : Act} {w : World} (h : wpOp P ops Q i K a w) : wpOpIn (Fence.wide.inRound l) n P ops Q i K' a w := by
  unfold wpOp at h
  unfold wpOpIn
  split
  · rename_i ho
    simp only [ho] at h
    exact hK _ _ h
  · rename_i o ho
    simp only [ho] at h
    split
    · rename_i hw
      simp only [hw, if_true] at h
      rcases h with h | h
      · refine ⟨fun f _ => trivial, ?_⟩
        have hc : calm o = true := by
          rw [Array.all_eq_true] at hd
          obtain ⟨hi, e⟩ := Array.getElem?_eq_some_iff.1 ho
          rw [← e]
          exact hd i hi
        rw [show (Fence.wide.inRound l).round = some l from rfl, Oper.semAt_eq (some l) a.eval o (calm_ne hc)]
        exact upon_inR l n (Oper.wp_mono hK h)
      · exact absurd h.2 hQ
    · rename_i hw
      simp only [hw] at h
      exact ⟨fun f _ => trivial, hK _ _ h⟩
theorem wpAny_inR (l n : Nat) (hQ : ¬ LetsOut Q) (hd : ops.all calm = true) :
    ∀ (fuel : Nat) (listed : Array Bool) (a : Act) (w : World), wpAny P md ops Q fuel listed a w → wpAnyIn (Fence.wide.inRound l) n P md ops Q fuel listed a w
  | 0, _, _, _, h => h
  | fuel + 1, _, _, _, h => ⟨h.1, fun i hi => wpOp_inR l n hQ hd (fun a' w' h' => wpAny_inR l n hQ hd fuel _ a' w' h') (h.2 i hi)⟩
/-- The region, of which nothing but its ordinary end is asked. -/
theorem region_inR {l n id : Nat} {a : Act} {w : World} (hm : P.follows .mixedOrders = true) (hd : ops.all calm = true)
    (h : wpAnyH P .any ops (fun e a w => e = .normal ∧ Q .normal a w) S ops.size (Array.replicate ops.size false) a { w with drawn := w.drawn + 1 }) : (Code.region id ops true).wpIn (Fence.wide.inRound l) n P Q a w :=
  by
  have hQ : ¬ LetsOut (fun (e : Exit) (a : Act) (w : World) => e = .normal ∧ Q .normal a w) := fun ⟨_, _, he, _⟩ => by cases he
  exact Code.wpIn_mono (Q := fun e a w => e = .normal ∧ Q .normal a w) (fun e a w ⟨he, hq⟩ => he ▸ hq) (wpIn_region_any hm (wpAny_inR l n hQ hd _ _ _ _ (wpAny_of_held _ _ _ _ h)))
end
end Go.Proofs.YtmnkomgdcebniaaGreat

set_option linter.unusedVariables false


namespace Go.Proofs.YtmnkomgdcebniaaGreat
open Go Go.RowKit Go.Shelf
attribute [local go_sem] Oper.semAt_some
/-- Where the world stands before a library. -/
def HW (w : World) (l : List Ins) (i n : Nat) (ds : List Nat) (W : World) : Prop :=
  i ≤ l.length ∧ n ≤ i * 2097152 ∧ MS W w.heap.size w.heap.size n l i [] 0 ∧ W.heap[w.heap.size + 1]? = some (.cells #[.map (some w.heap.size)] 159 (0, 0)) ∧ Below w.heap.size w W ∧ ds.Nodup ∧ ∀ d ∈ ds, w.heap.size ≤ d ∧ W.heap[d]? = some (.deferred (some []))
theorem cell_keepX {W W' : World} (hk : ∀ (k : Nat) (o : Obj), W.heap[k]? = some o → o.isCells = true → W'.heap[k]? = some o) {a : Addr} {v : Value} (hc : W.cell? a = some v) : W'.cell? a = some v := by
  unfold World.cell? at hc ⊢
  split at hc
  · rename_i c t z hb
    rw [hk _ _ hb rfl]
    exact hc
  · cases hc
theorem Held.keepX {W W' : World} {B : Nat} {l : List Ins} {i : Int} {s : ByteArray} {r : Option Value} (h : Held W B l i s r) (hk : ∀ (k : Nat) (o : Obj), W.heap[k]? = some o → o.isCells = true → W'.heap[k]? = some o) (hb : Below B W W') : Held W' B l i s r := by
  rcases h with ⟨x, k, v, h, b, o, h1, h2, h3, h4, h5, h6, h7, h8⟩ | ⟨x, d, h, b, o, h1, h2, h3, h4, h5, h6, h7, h8, h9, h10⟩ | h
  · exact .inl ⟨x, k, v, h, b, o, h1, h2, h3, h4, h5, hk _ _ h6 rfl, h7, h8.keep (hb.block b h7)⟩
  · exact .inr (.inl ⟨x, d, h, b, o, h1, h2, h3, h4, h5, hk _ _ h6 rfl, h7, cell_keepX hk h8, cell_keepX hk h9, cell_keepX hk h10⟩)
  · exact .inr (.inr h)
theorem holdP_of {w W w' : World} {l : List Ins} {n : Nat} {ds : List Nat} (h : MS W w.heap.size w.heap.size n l l.length [] 0) (hbw : Below w.heap.size w W) (hds : ∀ d ∈ ds, w.heap.size ≤ d ∧ W.heap[d]? = some (.deferred (some []))) (hk : ∀ k, k ∉ ds → w'.heap[k]? = W.heap[k]?) (hb : Below w.heap.size W w') : HoldP l w (.returned (.map (some w.heap.size))) w' := by
  obtain ⟨F, hm, hF⟩ := h.done
  obtain ⟨es, c, hmm⟩ := hm.isMap
  have hnd : w.heap.size ∉ ds := fun e => by have := (hds _ e).2; rw [hmm] at this; cases this
  refine ⟨w.heap.size, n, F, rfl, hm.same (hk _ hnd), fun i s hs hi => (hF i s hs hi).keepX (fun k o ho hc => ?_) hb, hbw.trans hb⟩
  have : k ∉ ds := fun e => by
    have := (hds _ e).2
    rw [ho] at this
    obtain rfl := Option.some.inj this
    cases hc
  rw [hk k this]; exact ho
theorem KC.alloc_any (w : World) (o : Obj) {k : Nat} {o' : Obj} (h : w.heap[k]? = some o') : (w.alloc o).heap[k]? = some o' :=
  (Below.heap_alloc _ _ _ (Array.getElem?_eq_some_iff.1 h).1).trans h
theorem belowX {B : Nat} {w W : World} (h : Below B w W) (hB : B ≤ W.heap.size) (o : Obj) : Below B w (W.alloc o).drew :=
  have h1 := h.alloc hB o
  ⟨h1.os, h1.tape, h1.output, h1.size, h1.block⟩
theorem i64B_nat {n : Nat} (h : n ≤ 9000000000000000000) : i64B (n : Int) := by
  unfold i64B
  constructor <;> omega
/-- Where the world stands behind k links of a library. -/
def RJ (w WD : World) (l : List Ins) (i n : Nat) (x : Ins) (L : Nat) (rc : Loop) (k : Nat) (W : World) : Prop :=
  k ≤ x.links.length ∧ MS W w.heap.size w.heap.size (n + k) l i (x.links.drop (x.links.length - k)) 0 ∧ KC WD W ∧ Below w.heap.size w W ∧ W.heap[L]? = some (.loop rc)
theorem MS.ne {W : World} {B m n : Nat} {l : List Ins} {i0 : Nat} {ls : List Lnk} {ns L : Nat} {o : Obj} (h : MS W B m n l i0 ls ns) (hL : W.heap[L]? = some o) (ho : ∀ es c, o ≠ .map es c) : m ≠ L := by
  rintro rfl
  obtain ⟨F, h1, _⟩ := h
  obtain ⟨es, c, hm⟩ := h1.isMap
  rw [hm] at hL
  exact ho _ _ (Option.some.inj hL).symm
theorem below_putL {B L : Nat} {w W : World} (h : Below B w W) (hl : B ≤ L) (o : Obj) : Below B w (W.putObj L o) :=
  h.trans ⟨rfl, rfl, rfl, (grownBy_putObj' W L o).size, fun k hk => World.putObj_heap_other (by omega)⟩
theorem RJ.put {w WD : World} {l : List Ins} {i n : Nat} {x : Ins} {L : Nat} {rc rc' : Loop} {k : Nat} {W : World} (h : RJ w WD l i n x L rc k W) (hL : w.heap.size ≤ L) : RJ w WD l i n x L rc' k (W.putObj L (.loop rc')) := by
  obtain ⟨h1, h2, h3, h4, h5⟩ := h
  have hk := KC.put (.loop rc') h5 rfl (fun _ e => by cases e)
  exact ⟨h1, h2.keep (World.putObj_heap_other (h2.ne h5 (fun _ _ e => by cases e))) hk (below_putL (Below.refl _ _) hL _), h3.trans hk, below_putL h4 hL _, World.putObj_heap_same (Array.getElem?_eq_some_iff.1 h5).1⟩
theorem RJ.alloc {w WD : World} {l : List Ins} {i n : Nat} {x : Ins} {L : Nat} {rc : Loop} {k : Nat} {W : World} (h : RJ w WD l i n x L rc k W) (o : Obj) : RJ w WD l i n x L rc k (W.alloc o) := by
  obtain ⟨h1, h2, h3, h4, h5⟩ := h
  have hk := KC.alloc W o
  have hm : w.heap.size < W.heap.size := by
    obtain ⟨F, h, _⟩ := h2
    exact h.lt
  exact ⟨h1, h2.keep (Below.heap_alloc _ _ _ hm) hk ((Below.refl _ _).alloc (by omega) _), h3.trans hk, h4.alloc (by omega) _, (Below.heap_alloc _ _ _ (Array.getElem?_eq_some_iff.1 h5).1).trans h5⟩
theorem region_held9 {ops : Array Oper} {Q : Exit → Act → World → Prop} {S : World → Prop} {id : Nat} {a : Act} {w : World} (hm : Tryz.prog.follows .mixedOrders = true)
    (h : wpAnyH Tryz.prog .any ops (fun e a w => e = .normal ∧ Q .normal a w) S ops.size (Array.replicate ops.size false) a { w with drawn := w.drawn + 1 }) : (Code.region id ops true).wp Tryz.prog Q a w :=
  wp_mono (Q := fun e a w => e = .normal ∧ Q .normal a w) (wp_region_held hm h) (fun e a w ⟨he, hq⟩ => he ▸ hq)
theorem opw_skipX {Q : Exit → Act → World → Prop} {ops : Array Oper} {i : Nat} {o : Oper} {a : Act} {w w' : World} {K : Act → World → Prop} (ho : ops[i]? = some o) (hw : Region.wanted o (yielded ops a.tmps) = true)
    (hr : (execOp a.eval o).run Tryz.prog w = .ok .skip w') (h : K (a.put o.dst undef) w') : wpOp Tryz.prog ops Q i K a w := by
  unfold wpOp
  simp only [ho, hw, if_true]
  refine .inl ?_
  unfold Oper.wp
  rw [hr]
  exact h
theorem run_uX {s : Sem Unit} {w w' : World} (h : s.run Tryz.prog w = .ok () w') : (do s; pure Next.skip : Sem Next).run Tryz.prog w = .ok .skip w' := by
  simp [h, Result.andThen]
theorem gen_world2 {C : World → Prop} {Q : Loop → World → Prop} {W2 : World} {rb : Loop} (h : ∀ W2, Q rb W2 → C W2) (hq : Q rb W2) : C W2 := h W2 hq
set_option maxRecDepth 100000 in
set_option maxHeartbeats 4000000 in
theorem holdings_any (a : Option Addr) (ca : Nat) (l : List Ins) (w : World) (hn : l.length ≤ 1048576) (hsm : ∀ x ∈ l, Ins.small x) (hft : ∀ x ∈ l, x.vals.length = x.names.length) (hon : ∀ x ∈ l, Once x.names) (hrow : rgX.Row w (fun b => b < w.heap.size) a l) :
    Calls Tryz.prog 97 #[.slice a l.length ca] w fun e w' => HoldP l w e w' := by
  refine (callsIn_wide (n := 3)).1 ?_
  refine callsIn_of_wp_marks Tryz.func97 rfl trivial ?_
  simp only [Tryz.ntmps97, List.size_toArray, List.length_cons, List.length_nil, Nat.reduceAdd, Nat.reduceSub, Array.replicate_succ, Array.replicate_zero, List.push_toArray, List.append_toArray, List.nil_append, List.cons_append]
  have HBK : Hid (∀ a n c w, Calls Tryz.prog 141 #[.slice a n c] w fun e w' => e = .returned (.func (.func 165) #[] #[.pointer (some ⟨w.heap.size, 0, none⟩)]) ∧ w' = w.alloc (.cells #[.slice a n c] 134)) := fun a n c w => back_any a n c w
  have eg : ∀ args w, (callFunc 165 args).run Tryz.prog w = .ok (.enter 165 args) w := enters_of Tryz.func165 (by kernel_rfl) rfl
  have HROW : Hid (rgX.Row w (fun b => b < w.heap.size) a l) := hrow
  clear hrow
  have hmk : ∀ w : World, (Instr.makeMap 159 none).run Tryz.prog w = .ok (.map (some w.heap.size)) (w.alloc (.map #[] 0)) := fun w => rfl
  gi_wp2
  refine wpIn_loop (fun A W => ∃ (i n : Nat) (ds : List Nat) (u4 u5 u8 u9 u14 u15 u16 u17 u18 u19 u20 u21 u22 u23 u24 u25 u26 u27 u28 u29 u30 u31 u32 u33 u34 u35 u36 u37 u38 u39 u40 u41 u42 u43 u44 u45 u46 u47 u48 u49 u50 u51 u52 u53 u54 u55 u56 u57 u58 u59 u60 u61 u62 : Value), A = { tmps := #[.slice a l.length ca, undef, .map none, .pointer (some ⟨w.heap.size + 1, 0, none⟩), u4, u5, undef, undef, u8, u9, .map (some w.heap.size), .slice a l.length ca, .int .i64 (l.length : Int), .int .i64 (i : Int), u14, u15, u16, u17, u18, u19, u20, u21, u22, u23, u24, u25, u26, u27, u28, u29, u30, u31, u32, u33, u34, u35, u36, u37, u38, u39, u40, u41, u42, u43, u44, u45, u46, u47, u48, u49, u50, u51, u52, u53, u54, u55, u56, u57, u58, u59, u60, u61, u62, undef], defers := ds.map mkD } ∧ HW w l i n ds W) (fun A _ => l.length - (intOf (A.tmps[13]?.getD undef)).toNat) ?start ?round
  case start =>
    refine ⟨0, 0, [], undef, undef, undef, undef, undef, undef, undef, undef, undef, undef, undef, undef, undef, undef, undef, undef, undef, undef, undef, undef, undef, undef, undef, undef, undef, undef, undef, undef, undef, undef, undef, undef, undef, undef, undef, undef, undef, undef, undef, undef, undef, undef, undef, undef, undef, undef, undef, undef, undef, undef, undef, undef, undef, rfl, by omega, by omega, ?_, ?_, ?_, by simp, by simp⟩
    · refine (MS.made w w.heap.size l).keep ?_ (KC.alloc _ _) (((Below.refl _ _).alloc (by simp) _))
      exact Below.heap_alloc _ _ _ (by simp)
    · exact blk_at _ _ _ (by simp)
    · exact ((Below.refl _ _).alloc (Nat.le_refl _) _).alloc (by simp) _
  case round =>
    rintro A W ⟨i, n, ds, u4, u5, u8, u9, u14, u15, u16, u17, u18, u19, u20, u21, u22, u23, u24, u25, u26, u27, u28, u29, u30, u31, u32, u33, u34, u35, u36, u37, u38, u39, u40, u41, u42, u43, u44, u45, u46, u47, u48, u49, u50, u51, u52, u53, u54, u55, u56, u57, u58, u59, u60, u61, u62, rfl, hil, hnl, hms, hbh, hbw, hnd, hds⟩
    have HMS : Hid (MS W w.heap.size w.heap.size n l i [] 0) := hms
    have HBH : Hid (W.heap[w.heap.size + 1]? = some (.cells #[.map (some w.heap.size)] 159 (0, 0))) := hbh
    have HBW : Hid (Below w.heap.size w W) := hbw
    have HDS : Hid (∀ d ∈ ds, w.heap.size ≤ d ∧ W.heap[d]? = some (.deferred (some []))) := hds
    have HND : Hid ds.Nodup := hnd
    have cH := cell_blk (j := 0) hbh rfl
    clear hms hbh hbw hds hnd hmk
    by_cases hlt : i < l.length
    · have d1 : decide ((i : Int) < (l.length : Int)) = true := by simp; omega
      obtain ⟨x, hx⟩ : ∃ x, l[i]? = some x := ⟨_, List.getElem?_eq_getElem hlt⟩
      obtain ⟨b1, o1, cs, rfl, hbb, ⟨a1, a2, a3, a4, c1, c2, c3, c4, rfl, hrows⟩, hl⟩ := (HROW.out.below HBW.out) i x hx
      have y2 : W.cell? ⟨b1, o1 + i * 6 + 2, none⟩ = some (.slice a1 x.names.length c1) := hl 2 _ rfl
      have y3 : W.cell? ⟨b1, o1 + i * 6 + 3, none⟩ = some (.slice a2 x.vals.length c2) := hl 3 _ rfl
      have y4 : W.cell? ⟨b1, o1 + i * 6 + 4, none⟩ = some (.slice a3 x.links.length c3) := hl 4 _ rfl
      have i1 : (i : Int) < (l.length : Int) := by omega
      have z4 : ∀ o o' : Obj, ((W.alloc o).alloc o').cell? ⟨b1, o1 + i * 6 + 4, none⟩ = some (.slice a3 x.links.length c3) := fun o o' => ((KC.alloc _ _).trans (KC.alloc _ _)).cell y4
      clear hl
      gi_wp2_with (refine ⟨trivial, ?_⟩; gi_at_call 141; refine (callsIn_wide.2 (HBK.out _ _ _ _)).mono ?_; rintro e w' ⟨rfl, rfl⟩)
      obtain ⟨Wc, hWc⟩ : ∃ Wc, Wc = (((W.alloc (Obj.cells #[Value.int .i64 (i : Int)] 3)).alloc (Obj.cells #[Value.pointer (some ⟨b1, o1 + i * 6, none⟩)] 213)).alloc (Obj.cells #[Value.slice a3 x.links.length c3] 134)) := ⟨_, rfl⟩
      rw [← hWc]
      have hsz : Wc.heap.size = W.heap.size + 1 + 1 + 1 := by rw [hWc]; simp
      have hkc : KC W Wc := by rw [hWc]; exact ((KC.alloc _ _).trans (KC.alloc _ _)).trans (KC.alloc _ _)
      have hwz : w.heap.size + 1 < W.heap.size := (Array.getElem?_eq_some_iff.1 HBH.out).1
      have hbc : Below w.heap.size W Wc := by rw [hWc]; exact (((Below.refl _ _).alloc (by omega) _).alloc (by simp; omega) _).alloc (by simp; omega) _
      have q0 : Wc.heap[W.heap.size]? = some (.cells #[.int .i64 (i : Int)] 3 (0, 0)) := by rw [hWc]; exact blk_past (blk_past (blk_at _ _ _ rfl))
      have q1 : Wc.heap[W.heap.size + 1]? = some (.cells #[.pointer (some ⟨b1, o1 + i * 6, none⟩)] 213 (0, 0)) := by rw [hWc]; exact blk_past (blk_at _ _ _ (by simp))
      have q2 : Wc.heap[W.heap.size + 1 + 1]? = some (.cells #[.slice a3 x.links.length c3] 134 (0, 0)) := by rw [hWc]; exact blk_at _ _ _ (by simp)
      have qm : Wc.heap[w.heap.size]? = W.heap[w.heap.size]? := by rw [hWc, Below.heap_alloc _ _ _ (by simp; omega), Below.heap_alloc _ _ _ (by simp; omega), Below.heap_alloc _ _ _ (by omega)]
      have HMC : Hid (MS Wc w.heap.size w.heap.size n l i [] 0) := HMS.out.keep qm hkc hbc
      clear hWc
      refine wpIn_rangeClosure (gf := 165) (lb := #[.pointer (some ⟨W.heap.size + 1 + 1, 0, none⟩)]) rfl eg ?_
      intro fn
      simp only [List.append_toArray, List.cons_append, List.nil_append]
      refine (back_in 1 (Wc.heap.size + 1) (W.heap.size + 1 + 1) c3 a3 x.links (RJ w (Wc.alloc (.deferred (some []))) l i n x (Wc.heap.size + 1) _) (hsm x (List.mem_of_getElem? hx)).2.2.2.2.1.1 ?hJ ?hY _ ⟨Nat.zero_le _, ?j1, ?j2, ?j3, blk_at _ _ _ (by simp)⟩).mono ?fin
      case hJ =>
        rintro k W1 ⟨h1, h2, h3, h4, h5⟩
        have hk2 : KC W W1 := (hkc.trans (KC.alloc _ _)).trans h3
        refine ⟨cell_blk (h3 _ _ (KC.alloc _ _ _ _ q2 (.inl rfl)) (.inl rfl)) rfl, fun j d hd => ?_⟩
        obtain ⟨b3, o3, cs3, rfl, hb3, rfl, hl3⟩ := hrows.2.2.1.1 j d hd
        exact ⟨b3, o3, rfl, hk2.cell (hl3 0 _ rfl), hk2.cell (hl3 1 _ rfl), hk2.cell (hl3 2 _ rfl)⟩
      case j1 =>
        have : x.links.drop (x.links.length - 0) = [] := by simp
        rw [this]
        exact HMC.out.keep ((Below.heap_alloc _ _ _ (by simp; omega)).trans (Below.heap_alloc _ _ _ (by omega))) ((KC.alloc _ _).trans (KC.alloc _ _)) (((Below.refl _ _).alloc (by omega) _).alloc (by simp; omega) _)
      case j2 => exact KC.alloc _ _
      case j3 => exact (((HBW.out.trans hbc)).alloc (by omega) _).alloc (by simp; omega) _
      case hY =>
        intro k j d W1 hj hkj hd
        have h8 := hj.2.2.2.2
        have hy := run_yield (P := Tryz.prog) (args := #[.int .i64 (j : Int), lnkV d]) h8 rfl
        refine ⟨_, _, _, _, hy, ?_⟩
        refine roundIn_of_wpIn (F := Fence.wide) (n := 1) trivial ?_
        unfold lnkV
        gi_wp2
        have hja := hj.alloc (.cells #[.string d.name, .int .i64 d.inst, .string d.at_] 141)
        have hW1 : W1.heap.size ≠ Wc.heap.size + 1 := by have := (Array.getElem?_eq_some_iff.1 h8).1; omega
        refine ⟨_, run_beginRound hja.2.2.2.2 rfl, ?_⟩
        refine gen_world2 (Q := fun rb W2 => RJ w (Wc.alloc (.deferred (some []))) l i n x (Wc.heap.size + 1) rb k W2 ∧ W2.heap[W1.heap.size]? = some (.cells #[.string d.name, .int .i64 d.inst, .string d.at_] 141 (0, 0))) (C := fun W2 => Code.wpIn (Fence.wide.inRound (Wc.heap.size + 1)) 1 Tryz.prog _ _ _ W2) ?_ ⟨hja.put (by omega), (World.putObj_heap_other hW1).trans (blk_at _ _ _ rfl)⟩
        clear hj h8 hy hja
        rintro W2 ⟨⟨hkl, hms, hkc2, hbw2, hlp⟩, hlk⟩
        have hk2 : KC W W2 := (hkc.trans (KC.alloc _ _)).trans hkc2
        have hk3 : KC Wc W2 := (KC.alloc _ _).trans hkc2
        have e0 := cell_blk (j := 0) (hk2 _ _ HBH.out (.inl rfl)) rfl
        have e1 := cell_blk (j := 0) (hk3 _ _ q0 (.inl rfl)) rfl
        have e2 := cell_blk (j := 0) (hk3 _ _ q1 (.inl rfl)) rfl
        have e3 := cell_blk (j := 0) hlk rfl
        have e4 : W2.cell? ⟨b1, o1 + i * 6 + 4, none⟩ = some (.slice a3 x.links.length c3) := hk2.cell y4
        obtain ⟨b3, o3, cs3, rfl, hb3, rfl, hl3⟩ := hrows.2.2.1.1 j d hd
        have f0 : W2.cell? ⟨b3, o3 + j * 3, none⟩ = some (.string d.name) := hk2.cell (hl3 0 _ rfl)
        have f1 : W2.cell? ⟨b3, o3 + j * 3 + 1, none⟩ = some (.int .i64 d.inst) := hk2.cell (hl3 1 _ rfl)
        have f2 : W2.cell? ⟨b3, o3 + j * 3 + 2, none⟩ = some (.string d.at_) := hk2.cell (hl3 2 _ rfl)
        have hjl : (j : Int) < (x.links.length : Int) := by omega
        have HM2 : Hid (MS W2 w.heap.size w.heap.size (n + k) l i (x.links.drop (x.links.length - k)) 0) := hms
        have HB2 : Hid (Below w.heap.size w W2) := hbw2
        have HL2 : Hid (W2.heap[Wc.heap.size + 1]? = some (.loop _)) := hlp
        have HK2 : Hid (KC (Wc.alloc (.deferred (some []))) W2) := hkc2
        have HF : Hid _ := And.intro f0 (And.intro f1 f2)
        have hds : d.name.size ≤ 1048576 := ((hsm x (List.mem_of_getElem? hx)).2.2.2.2.1.2 d (List.mem_of_getElem? hd)).1
        have hdr : d :: x.links.drop (x.links.length - k) = x.links.drop (x.links.length - (k + 1)) := by
          rw [show x.links.length - (k + 1) = j by omega, show x.links.length - k = j + 1 by omega, List.drop_eq_getElem_cons (i := j) (by omega)]
          rw [(List.getElem?_eq_some_iff.1 hd).2]
        have hxl := (hsm x (List.mem_of_getElem? hx)).2.2.2.2.1.1
        have hmz : w.heap.size < W2.heap.size := by obtain ⟨F, h, _⟩ := hms; exact h.lt
        have hmX : MS (W2.alloc (Obj.cells #[.pointer none, .pointer (some ⟨b3, o3 + j * 3, none⟩)] 166)).drew w.heap.size w.heap.size (n + k) l i (x.links.drop (x.links.length - k)) 0 :=
          hms.keep (Below.heap_alloc W2 _ _ hmz) (KC.alloc W2 _) (belowX (Below.refl _ _) (Nat.le_of_lt hmz) _)
        obtain ⟨W5, hup, hms5, hkc5, hb5, hot5⟩ := hmX.store (ls' := d :: x.links.drop (x.links.length - k)) (ns' := 0) (by omega) (Nat.le_refl _) hds (i64B_nat (by omega)) (.pointer (some ⟨W2.heap.size, 0, none⟩)) hx
          (fun W' hk hb => One.link_new ⟨W2.heap.size, b3, o3 + j * 3, rfl, hk _ _ (blk_at _ _ _ rfl) (.inl rfl), hb3, hk.cell ((KC.alloc W2 _).cell f0), hk.cell ((KC.alloc W2 _).cell f1), hk.cell ((KC.alloc W2 _).cell f2)⟩)
          (fun s r W' hne h => One.link hne h)
        have hup' : (Instr.mapUpdate 159 (.map (some w.heap.size)) (.agg #[.int .i64 (i : Int), .string d.name]) (.pointer (some ⟨W2.heap.size, 0, none⟩))).run Tryz.prog (W2.alloc (Obj.cells #[.pointer none, .pointer (some ⟨b3, o3 + j * 3, none⟩)] 166)).drew = .ok () W5 := hup
        have hL5 := hot5 _ _ (fun e => hms.ne hlp (fun _ _ e => by cases e) e.symm) ((KC.alloc_any W2 _) hlp)
        have HR5 : Hid (RJ w (Wc.alloc (.deferred (some []))) l i n x (Wc.heap.size + 1) _ (k + 1) W5) := ⟨by omega, hdr ▸ hms5, (hkc2.trans (KC.alloc W2 _)).trans hkc5, (belowX hbw2 (Nat.le_of_lt hmz) _).trans hb5, hL5⟩
        have hkS : KC W2 W5 := (KC.alloc W2 _).trans hkc5
        have HS6 : Hid ((fun X : World => (X.cell? ⟨w.heap.size + 1, 0, none⟩ = some (.map (some w.heap.size))) ∧ (X.cell? ⟨W.heap.size, 0, none⟩ = some (.int .i64 (i : Int))) ∧ (X.cell? ⟨W.heap.size + 1, 0, none⟩ = some (.pointer (some ⟨b1, o1 + i * 6, none⟩))) ∧ (X.cell? ⟨W1.heap.size, 0, none⟩ = some (.string d.name)) ∧ (X.cell? ⟨b1, o1 + i * 6 + 4, none⟩ = some (.slice (some ⟨b3, o3, none⟩) x.links.length c3))) (W2.alloc (Obj.cells #[.pointer none, .pointer (some ⟨b3, o3 + j * 3, none⟩)] 166)).drew) := ⟨(KC.alloc W2 _).cell e0, (KC.alloc W2 _).cell e1, (KC.alloc W2 _).cell e2, (KC.alloc W2 _).cell e3, (KC.alloc W2 _).cell e4⟩
        have HS7 : Hid ((fun X : World => (X.cell? ⟨w.heap.size + 1, 0, none⟩ = some (.map (some w.heap.size))) ∧ (X.cell? ⟨W.heap.size, 0, none⟩ = some (.int .i64 (i : Int))) ∧ (X.cell? ⟨W.heap.size + 1, 0, none⟩ = some (.pointer (some ⟨b1, o1 + i * 6, none⟩))) ∧ (X.cell? ⟨W1.heap.size, 0, none⟩ = some (.string d.name)) ∧ (X.cell? ⟨b1, o1 + i * 6 + 4, none⟩ = some (.slice (some ⟨b3, o3, none⟩) x.links.length c3))) W5) := ⟨hkS.cell e0, hkS.cell e1, hkS.cell e2, hkS.cell e3, hkS.cell e4⟩
        clear hkS hup hms5 hkc5 hb5 hot5 hmX hdr hms hbw2 hlp hkc2 hlk f0 f1 f2 hk3 HBH q0 q1 q2 z4 HMS HMC qm hkc hbc y2 y3 y4 cH HF HM2 HB2 HL2 HK2 hL5
        gi_wp2
        refine region_inR (S := (fun X : World => (X.cell? ⟨w.heap.size + 1, 0, none⟩ = some (.map (some w.heap.size))) ∧ (X.cell? ⟨W.heap.size, 0, none⟩ = some (.int .i64 (i : Int))) ∧ (X.cell? ⟨W.heap.size + 1, 0, none⟩ = some (.pointer (some ⟨b1, o1 + i * 6, none⟩))) ∧ (X.cell? ⟨W1.heap.size, 0, none⟩ = some (.string d.name)) ∧ (X.cell? ⟨b1, o1 + i * 6 + 4, none⟩ = some (.slice (some ⟨b3, o3, none⟩) x.links.length c3)))) (by kernel_rfl) (by kernel_rfl) ?_
        have hS : (fun X : World => (X.cell? ⟨w.heap.size + 1, 0, none⟩ = some (.map (some w.heap.size))) ∧ (X.cell? ⟨W.heap.size, 0, none⟩ = some (.int .i64 (i : Int))) ∧ (X.cell? ⟨W.heap.size + 1, 0, none⟩ = some (.pointer (some ⟨b1, o1 + i * 6, none⟩))) ∧ (X.cell? ⟨W1.heap.size, 0, none⟩ = some (.string d.name)) ∧ (X.cell? ⟨b1, o1 + i * 6 + 4, none⟩ = some (.slice (some ⟨b3, o3, none⟩) x.links.length c3))) { W2 with drawn := W2.drawn + 1 } := ⟨e0, e1, e2, e3, e4⟩
        refine wpAnyH_take (i := 0) (v := Value.map (some w.heap.size)) rfl (by kernel_rfl) (by kernel_rfl) (by kernel_rfl) (fun _ _ _ h => h) (.inl ⟨by kernel_rfl, fun w' hS' => run_v (by obtain ⟨c0, c1, c2, c3, c4⟩ := hS'; simp [go_sem, c0])⟩) hS ?_
        refine wpAnyH_eq (l' := #[true, false, false, false, false, false, false, false, false, false, false, false, false, false]) (a' := ⟨#[Value.slice (some { block := b1, off := o1 }) l.length ca, undef, Value.map none, Value.pointer (some { block := w.heap.size + 1, off := 0 }), Value.pointer (some { block := W.heap.size, off := 0 }), Value.pointer (some { block := W.heap.size + 1, off := 0 }), Value.int IntKind.i64 ↑j, Value.pointer (some { block := W1.heap.size, off := 0 }), u8, u9, Value.map (some w.heap.size), Value.slice (some { block := b1, off := o1 }) l.length ca, Value.int IntKind.i64 ↑l.length, Value.int IntKind.i64 ↑i, Value.bool true, Value.int IntKind.i64 ↑i, Value.slice (some { block := b1, off := o1 }) l.length ca, Value.int IntKind.i64 ↑i, Value.pointer (some { block := b1, off := o1 + i * 6 }), Value.pointer (some { block := b1, off := o1 + i * 6 }), Value.pointer (some { block := b1, off := o1 + i * 6 }), Value.pointer (some { block := b1, off := o1 + i * 6 + 4 }), Value.slice (some { block := b3, off := o3 }) x.links.length c3, Value.func (Fn.func 165) #[] #[Value.pointer (some { block := W.heap.size + 1 + 1, off := 0 })], Value.int IntKind.i64 ↑j, Value.agg #[Value.string d.name, Value.int IntKind.i64 d.inst, Value.string d.at_], Value.map (some w.heap.size), u27, u28, u29, u30, u31, u32, u33, u34, u35, u36, u37, u38, u39, u40, u41, u42, u43, u44, u45, u46, u47, u48, u49, u50, u51, u52, u53, u54, u55, u56, u57, u58, u59, u60, u61, u62, undef], []⟩) (by kernel_rfl) (by kernel_rfl) ?_
        refine wpAnyH_take (i := 1) (v := Value.int IntKind.i64 ↑i) rfl (by kernel_rfl) (by kernel_rfl) (by kernel_rfl) (fun _ _ _ h => h) (.inl ⟨by kernel_rfl, fun w' hS' => run_v (by obtain ⟨c0, c1, c2, c3, c4⟩ := hS'; simp [go_sem, c1])⟩) hS ?_
        refine wpAnyH_eq (l' := #[true, true, false, false, false, false, false, false, false, false, false, false, false, false]) (a' := ⟨#[Value.slice (some { block := b1, off := o1 }) l.length ca, undef, Value.map none, Value.pointer (some { block := w.heap.size + 1, off := 0 }), Value.pointer (some { block := W.heap.size, off := 0 }), Value.pointer (some { block := W.heap.size + 1, off := 0 }), Value.int IntKind.i64 ↑j, Value.pointer (some { block := W1.heap.size, off := 0 }), u8, u9, Value.map (some w.heap.size), Value.slice (some { block := b1, off := o1 }) l.length ca, Value.int IntKind.i64 ↑l.length, Value.int IntKind.i64 ↑i, Value.bool true, Value.int IntKind.i64 ↑i, Value.slice (some { block := b1, off := o1 }) l.length ca, Value.int IntKind.i64 ↑i, Value.pointer (some { block := b1, off := o1 + i * 6 }), Value.pointer (some { block := b1, off := o1 + i * 6 }), Value.pointer (some { block := b1, off := o1 + i * 6 }), Value.pointer (some { block := b1, off := o1 + i * 6 + 4 }), Value.slice (some { block := b3, off := o3 }) x.links.length c3, Value.func (Fn.func 165) #[] #[Value.pointer (some { block := W.heap.size + 1 + 1, off := 0 })], Value.int IntKind.i64 ↑j, Value.agg #[Value.string d.name, Value.int IntKind.i64 d.inst, Value.string d.at_], Value.map (some w.heap.size), Value.int IntKind.i64 ↑i, u28, u29, u30, u31, u32, u33, u34, u35, u36, u37, u38, u39, u40, u41, u42, u43, u44, u45, u46, u47, u48, u49, u50, u51, u52, u53, u54, u55, u56, u57, u58, u59, u60, u61, u62, undef], []⟩) (by kernel_rfl) (by kernel_rfl) ?_
        refine wpAnyH_take (i := 2) (v := Value.pointer (some { block := W1.heap.size, off := 0 })) rfl (by kernel_rfl) (by kernel_rfl) (by kernel_rfl) (fun _ _ _ h => h) (.inl ⟨by kernel_rfl, fun w' hS' => by kernel_rfl⟩) hS ?_
        refine wpAnyH_eq (l' := #[true, true, true, false, false, false, false, false, false, false, false, false, false, false]) (a' := ⟨#[Value.slice (some { block := b1, off := o1 }) l.length ca, undef, Value.map none, Value.pointer (some { block := w.heap.size + 1, off := 0 }), Value.pointer (some { block := W.heap.size, off := 0 }), Value.pointer (some { block := W.heap.size + 1, off := 0 }), Value.int IntKind.i64 ↑j, Value.pointer (some { block := W1.heap.size, off := 0 }), u8, u9, Value.map (some w.heap.size), Value.slice (some { block := b1, off := o1 }) l.length ca, Value.int IntKind.i64 ↑l.length, Value.int IntKind.i64 ↑i, Value.bool true, Value.int IntKind.i64 ↑i, Value.slice (some { block := b1, off := o1 }) l.length ca, Value.int IntKind.i64 ↑i, Value.pointer (some { block := b1, off := o1 + i * 6 }), Value.pointer (some { block := b1, off := o1 + i * 6 }), Value.pointer (some { block := b1, off := o1 + i * 6 }), Value.pointer (some { block := b1, off := o1 + i * 6 + 4 }), Value.slice (some { block := b3, off := o3 }) x.links.length c3, Value.func (Fn.func 165) #[] #[Value.pointer (some { block := W.heap.size + 1 + 1, off := 0 })], Value.int IntKind.i64 ↑j, Value.agg #[Value.string d.name, Value.int IntKind.i64 d.inst, Value.string d.at_], Value.map (some w.heap.size), Value.int IntKind.i64 ↑i, Value.pointer (some { block := W1.heap.size, off := 0 }), u29, u30, u31, u32, u33, u34, u35, u36, u37, u38, u39, u40, u41, u42, u43, u44, u45, u46, u47, u48, u49, u50, u51, u52, u53, u54, u55, u56, u57, u58, u59, u60, u61, u62, undef], []⟩) (by kernel_rfl) (by kernel_rfl) ?_
        refine wpAnyH_take (i := 3) (v := Value.string d.name) rfl (by kernel_rfl) (by kernel_rfl) (by kernel_rfl) (fun _ _ _ h => h) (.inl ⟨by kernel_rfl, fun w' hS' => run_v (by obtain ⟨c0, c1, c2, c3, c4⟩ := hS'; simp [go_sem, c3])⟩) hS ?_
        refine wpAnyH_eq (l' := #[true, true, true, true, false, false, false, false, false, false, false, false, false, false]) (a' := ⟨#[Value.slice (some { block := b1, off := o1 }) l.length ca, undef, Value.map none, Value.pointer (some { block := w.heap.size + 1, off := 0 }), Value.pointer (some { block := W.heap.size, off := 0 }), Value.pointer (some { block := W.heap.size + 1, off := 0 }), Value.int IntKind.i64 ↑j, Value.pointer (some { block := W1.heap.size, off := 0 }), u8, u9, Value.map (some w.heap.size), Value.slice (some { block := b1, off := o1 }) l.length ca, Value.int IntKind.i64 ↑l.length, Value.int IntKind.i64 ↑i, Value.bool true, Value.int IntKind.i64 ↑i, Value.slice (some { block := b1, off := o1 }) l.length ca, Value.int IntKind.i64 ↑i, Value.pointer (some { block := b1, off := o1 + i * 6 }), Value.pointer (some { block := b1, off := o1 + i * 6 }), Value.pointer (some { block := b1, off := o1 + i * 6 }), Value.pointer (some { block := b1, off := o1 + i * 6 + 4 }), Value.slice (some { block := b3, off := o3 }) x.links.length c3, Value.func (Fn.func 165) #[] #[Value.pointer (some { block := W.heap.size + 1 + 1, off := 0 })], Value.int IntKind.i64 ↑j, Value.agg #[Value.string d.name, Value.int IntKind.i64 d.inst, Value.string d.at_], Value.map (some w.heap.size), Value.int IntKind.i64 ↑i, Value.pointer (some { block := W1.heap.size, off := 0 }), Value.string d.name, u30, u31, u32, u33, u34, u35, u36, u37, u38, u39, u40, u41, u42, u43, u44, u45, u46, u47, u48, u49, u50, u51, u52, u53, u54, u55, u56, u57, u58, u59, u60, u61, u62, undef], []⟩) (by kernel_rfl) (by kernel_rfl) ?_
        refine wpAnyH_take (i := 4) (v := Value.agg #[Value.int IntKind.i64 ↑i, Value.string d.name]) rfl (by kernel_rfl) (by kernel_rfl) (by kernel_rfl) (fun _ _ _ h => h) (.inl ⟨by kernel_rfl, fun w' hS' => by kernel_rfl⟩) hS ?_
        refine wpAnyH_eq (l' := #[true, true, true, true, true, false, false, false, false, false, false, false, false, false]) (a' := ⟨#[Value.slice (some { block := b1, off := o1 }) l.length ca, undef, Value.map none, Value.pointer (some { block := w.heap.size + 1, off := 0 }), Value.pointer (some { block := W.heap.size, off := 0 }), Value.pointer (some { block := W.heap.size + 1, off := 0 }), Value.int IntKind.i64 ↑j, Value.pointer (some { block := W1.heap.size, off := 0 }), u8, u9, Value.map (some w.heap.size), Value.slice (some { block := b1, off := o1 }) l.length ca, Value.int IntKind.i64 ↑l.length, Value.int IntKind.i64 ↑i, Value.bool true, Value.int IntKind.i64 ↑i, Value.slice (some { block := b1, off := o1 }) l.length ca, Value.int IntKind.i64 ↑i, Value.pointer (some { block := b1, off := o1 + i * 6 }), Value.pointer (some { block := b1, off := o1 + i * 6 }), Value.pointer (some { block := b1, off := o1 + i * 6 }), Value.pointer (some { block := b1, off := o1 + i * 6 + 4 }), Value.slice (some { block := b3, off := o3 }) x.links.length c3, Value.func (Fn.func 165) #[] #[Value.pointer (some { block := W.heap.size + 1 + 1, off := 0 })], Value.int IntKind.i64 ↑j, Value.agg #[Value.string d.name, Value.int IntKind.i64 d.inst, Value.string d.at_], Value.map (some w.heap.size), Value.int IntKind.i64 ↑i, Value.pointer (some { block := W1.heap.size, off := 0 }), Value.string d.name, Value.agg #[Value.int IntKind.i64 ↑i, Value.string d.name], u31, u32, u33, u34, u35, u36, u37, u38, u39, u40, u41, u42, u43, u44, u45, u46, u47, u48, u49, u50, u51, u52, u53, u54, u55, u56, u57, u58, u59, u60, u61, u62, undef], []⟩) (by kernel_rfl) (by kernel_rfl) ?_
        refine wpAnyH_take (i := 5) (v := Value.pointer (some { block := b1, off := o1 + i * 6 })) rfl (by kernel_rfl) (by kernel_rfl) (by kernel_rfl) (fun _ _ _ h => h) (.inl ⟨by kernel_rfl, fun w' hS' => run_v (by obtain ⟨c0, c1, c2, c3, c4⟩ := hS'; simp [go_sem, c2])⟩) hS ?_
        refine wpAnyH_eq (l' := #[true, true, true, true, true, true, false, false, false, false, false, false, false, false]) (a' := ⟨#[Value.slice (some { block := b1, off := o1 }) l.length ca, undef, Value.map none, Value.pointer (some { block := w.heap.size + 1, off := 0 }), Value.pointer (some { block := W.heap.size, off := 0 }), Value.pointer (some { block := W.heap.size + 1, off := 0 }), Value.int IntKind.i64 ↑j, Value.pointer (some { block := W1.heap.size, off := 0 }), u8, u9, Value.map (some w.heap.size), Value.slice (some { block := b1, off := o1 }) l.length ca, Value.int IntKind.i64 ↑l.length, Value.int IntKind.i64 ↑i, Value.bool true, Value.int IntKind.i64 ↑i, Value.slice (some { block := b1, off := o1 }) l.length ca, Value.int IntKind.i64 ↑i, Value.pointer (some { block := b1, off := o1 + i * 6 }), Value.pointer (some { block := b1, off := o1 + i * 6 }), Value.pointer (some { block := b1, off := o1 + i * 6 }), Value.pointer (some { block := b1, off := o1 + i * 6 + 4 }), Value.slice (some { block := b3, off := o3 }) x.links.length c3, Value.func (Fn.func 165) #[] #[Value.pointer (some { block := W.heap.size + 1 + 1, off := 0 })], Value.int IntKind.i64 ↑j, Value.agg #[Value.string d.name, Value.int IntKind.i64 d.inst, Value.string d.at_], Value.map (some w.heap.size), Value.int IntKind.i64 ↑i, Value.pointer (some { block := W1.heap.size, off := 0 }), Value.string d.name, Value.agg #[Value.int IntKind.i64 ↑i, Value.string d.name], Value.pointer (some { block := b1, off := o1 + i * 6 }), u32, u33, u34, u35, u36, u37, u38, u39, u40, u41, u42, u43, u44, u45, u46, u47, u48, u49, u50, u51, u52, u53, u54, u55, u56, u57, u58, u59, u60, u61, u62, undef], []⟩) (by kernel_rfl) (by kernel_rfl) ?_
        refine wpAnyH_take (i := 6) (v := Value.pointer (some { block := b1, off := o1 + i * 6 })) rfl (by kernel_rfl) (by kernel_rfl) (by kernel_rfl) (fun _ _ _ h => h) (.inl ⟨by kernel_rfl, fun w' hS' => by kernel_rfl⟩) hS ?_
        refine wpAnyH_eq (l' := #[true, true, true, true, true, true, true, false, false, false, false, false, false, false]) (a' := ⟨#[Value.slice (some { block := b1, off := o1 }) l.length ca, undef, Value.map none, Value.pointer (some { block := w.heap.size + 1, off := 0 }), Value.pointer (some { block := W.heap.size, off := 0 }), Value.pointer (some { block := W.heap.size + 1, off := 0 }), Value.int IntKind.i64 ↑j, Value.pointer (some { block := W1.heap.size, off := 0 }), u8, u9, Value.map (some w.heap.size), Value.slice (some { block := b1, off := o1 }) l.length ca, Value.int IntKind.i64 ↑l.length, Value.int IntKind.i64 ↑i, Value.bool true, Value.int IntKind.i64 ↑i, Value.slice (some { block := b1, off := o1 }) l.length ca, Value.int IntKind.i64 ↑i, Value.pointer (some { block := b1, off := o1 + i * 6 }), Value.pointer (some { block := b1, off := o1 + i * 6 }), Value.pointer (some { block := b1, off := o1 + i * 6 }), Value.pointer (some { block := b1, off := o1 + i * 6 + 4 }), Value.slice (some { block := b3, off := o3 }) x.links.length c3, Value.func (Fn.func 165) #[] #[Value.pointer (some { block := W.heap.size + 1 + 1, off := 0 })], Value.int IntKind.i64 ↑j, Value.agg #[Value.string d.name, Value.int IntKind.i64 d.inst, Value.string d.at_], Value.map (some w.heap.size), Value.int IntKind.i64 ↑i, Value.pointer (some { block := W1.heap.size, off := 0 }), Value.string d.name, Value.agg #[Value.int IntKind.i64 ↑i, Value.string d.name], Value.pointer (some { block := b1, off := o1 + i * 6 }), Value.pointer (some { block := b1, off := o1 + i * 6 }), u33, u34, u35, u36, u37, u38, u39, u40, u41, u42, u43, u44, u45, u46, u47, u48, u49, u50, u51, u52, u53, u54, u55, u56, u57, u58, u59, u60, u61, u62, undef], []⟩) (by kernel_rfl) (by kernel_rfl) ?_
        refine wpAnyH_take (i := 7) (v := Value.pointer (some { block := b1, off := o1 + i * 6 + 4 })) rfl (by kernel_rfl) (by kernel_rfl) (by kernel_rfl) (fun _ _ _ h => h) (.inl ⟨by kernel_rfl, fun w' hS' => by kernel_rfl⟩) hS ?_
        refine wpAnyH_eq (l' := #[true, true, true, true, true, true, true, true, false, false, false, false, false, false]) (a' := ⟨#[Value.slice (some { block := b1, off := o1 }) l.length ca, undef, Value.map none, Value.pointer (some { block := w.heap.size + 1, off := 0 }), Value.pointer (some { block := W.heap.size, off := 0 }), Value.pointer (some { block := W.heap.size + 1, off := 0 }), Value.int IntKind.i64 ↑j, Value.pointer (some { block := W1.heap.size, off := 0 }), u8, u9, Value.map (some w.heap.size), Value.slice (some { block := b1, off := o1 }) l.length ca, Value.int IntKind.i64 ↑l.length, Value.int IntKind.i64 ↑i, Value.bool true, Value.int IntKind.i64 ↑i, Value.slice (some { block := b1, off := o1 }) l.length ca, Value.int IntKind.i64 ↑i, Value.pointer (some { block := b1, off := o1 + i * 6 }), Value.pointer (some { block := b1, off := o1 + i * 6 }), Value.pointer (some { block := b1, off := o1 + i * 6 }), Value.pointer (some { block := b1, off := o1 + i * 6 + 4 }), Value.slice (some { block := b3, off := o3 }) x.links.length c3, Value.func (Fn.func 165) #[] #[Value.pointer (some { block := W.heap.size + 1 + 1, off := 0 })], Value.int IntKind.i64 ↑j, Value.agg #[Value.string d.name, Value.int IntKind.i64 d.inst, Value.string d.at_], Value.map (some w.heap.size), Value.int IntKind.i64 ↑i, Value.pointer (some { block := W1.heap.size, off := 0 }), Value.string d.name, Value.agg #[Value.int IntKind.i64 ↑i, Value.string d.name], Value.pointer (some { block := b1, off := o1 + i * 6 }), Value.pointer (some { block := b1, off := o1 + i * 6 }), Value.pointer (some { block := b1, off := o1 + i * 6 + 4 }), u34, u35, u36, u37, u38, u39, u40, u41, u42, u43, u44, u45, u46, u47, u48, u49, u50, u51, u52, u53, u54, u55, u56, u57, u58, u59, u60, u61, u62, undef], []⟩) (by kernel_rfl) (by kernel_rfl) ?_
        refine wpAnyH_take (i := 8) (v := Value.slice (some { block := b3, off := o3 }) x.links.length c3) rfl (by kernel_rfl) (by kernel_rfl) (by kernel_rfl) (fun _ _ _ h => h) (.inl ⟨by kernel_rfl, fun w' hS' => run_v (by obtain ⟨c0, c1, c2, c3, c4⟩ := hS'; simp [go_sem, c4])⟩) hS ?_
        refine wpAnyH_eq (l' := #[true, true, true, true, true, true, true, true, true, false, false, false, false, false]) (a' := ⟨#[Value.slice (some { block := b1, off := o1 }) l.length ca, undef, Value.map none, Value.pointer (some { block := w.heap.size + 1, off := 0 }), Value.pointer (some { block := W.heap.size, off := 0 }), Value.pointer (some { block := W.heap.size + 1, off := 0 }), Value.int IntKind.i64 ↑j, Value.pointer (some { block := W1.heap.size, off := 0 }), u8, u9, Value.map (some w.heap.size), Value.slice (some { block := b1, off := o1 }) l.length ca, Value.int IntKind.i64 ↑l.length, Value.int IntKind.i64 ↑i, Value.bool true, Value.int IntKind.i64 ↑i, Value.slice (some { block := b1, off := o1 }) l.length ca, Value.int IntKind.i64 ↑i, Value.pointer (some { block := b1, off := o1 + i * 6 }), Value.pointer (some { block := b1, off := o1 + i * 6 }), Value.pointer (some { block := b1, off := o1 + i * 6 }), Value.pointer (some { block := b1, off := o1 + i * 6 + 4 }), Value.slice (some { block := b3, off := o3 }) x.links.length c3, Value.func (Fn.func 165) #[] #[Value.pointer (some { block := W.heap.size + 1 + 1, off := 0 })], Value.int IntKind.i64 ↑j, Value.agg #[Value.string d.name, Value.int IntKind.i64 d.inst, Value.string d.at_], Value.map (some w.heap.size), Value.int IntKind.i64 ↑i, Value.pointer (some { block := W1.heap.size, off := 0 }), Value.string d.name, Value.agg #[Value.int IntKind.i64 ↑i, Value.string d.name], Value.pointer (some { block := b1, off := o1 + i * 6 }), Value.pointer (some { block := b1, off := o1 + i * 6 }), Value.pointer (some { block := b1, off := o1 + i * 6 + 4 }), Value.slice (some { block := b3, off := o3 }) x.links.length c3, u35, u36, u37, u38, u39, u40, u41, u42, u43, u44, u45, u46, u47, u48, u49, u50, u51, u52, u53, u54, u55, u56, u57, u58, u59, u60, u61, u62, undef], []⟩) (by kernel_rfl) (by kernel_rfl) ?_
        refine wpAnyH_take (i := 9) (v := Value.int IntKind.i64 ↑j) rfl (by kernel_rfl) (by kernel_rfl) (by kernel_rfl) (fun _ _ _ h => h) (.inl ⟨by kernel_rfl, fun w' hS' => by kernel_rfl⟩) hS ?_
        refine wpAnyH_eq (l' := #[true, true, true, true, true, true, true, true, true, true, false, false, false, false]) (a' := ⟨#[Value.slice (some { block := b1, off := o1 }) l.length ca, undef, Value.map none, Value.pointer (some { block := w.heap.size + 1, off := 0 }), Value.pointer (some { block := W.heap.size, off := 0 }), Value.pointer (some { block := W.heap.size + 1, off := 0 }), Value.int IntKind.i64 ↑j, Value.pointer (some { block := W1.heap.size, off := 0 }), u8, u9, Value.map (some w.heap.size), Value.slice (some { block := b1, off := o1 }) l.length ca, Value.int IntKind.i64 ↑l.length, Value.int IntKind.i64 ↑i, Value.bool true, Value.int IntKind.i64 ↑i, Value.slice (some { block := b1, off := o1 }) l.length ca, Value.int IntKind.i64 ↑i, Value.pointer (some { block := b1, off := o1 + i * 6 }), Value.pointer (some { block := b1, off := o1 + i * 6 }), Value.pointer (some { block := b1, off := o1 + i * 6 }), Value.pointer (some { block := b1, off := o1 + i * 6 + 4 }), Value.slice (some { block := b3, off := o3 }) x.links.length c3, Value.func (Fn.func 165) #[] #[Value.pointer (some { block := W.heap.size + 1 + 1, off := 0 })], Value.int IntKind.i64 ↑j, Value.agg #[Value.string d.name, Value.int IntKind.i64 d.inst, Value.string d.at_], Value.map (some w.heap.size), Value.int IntKind.i64 ↑i, Value.pointer (some { block := W1.heap.size, off := 0 }), Value.string d.name, Value.agg #[Value.int IntKind.i64 ↑i, Value.string d.name], Value.pointer (some { block := b1, off := o1 + i * 6 }), Value.pointer (some { block := b1, off := o1 + i * 6 }), Value.pointer (some { block := b1, off := o1 + i * 6 + 4 }), Value.slice (some { block := b3, off := o3 }) x.links.length c3, Value.int IntKind.i64 ↑j, u36, u37, u38, u39, u40, u41, u42, u43, u44, u45, u46, u47, u48, u49, u50, u51, u52, u53, u54, u55, u56, u57, u58, u59, u60, u61, u62, undef], []⟩) (by kernel_rfl) (by kernel_rfl) ?_
        refine wpAnyH_take (i := 10) (v := Value.pointer (some { block := b3, off := o3 + j * 3 })) rfl (by kernel_rfl) (by kernel_rfl) (by kernel_rfl) (fun _ _ _ h => h) (.inl ⟨by kernel_rfl, fun w' hS' => run_v (by simp [go_sem] <;> omega)⟩) hS ?_
        refine wpAnyH_eq (l' := #[true, true, true, true, true, true, true, true, true, true, true, false, false, false]) (a' := ⟨#[Value.slice (some { block := b1, off := o1 }) l.length ca, undef, Value.map none, Value.pointer (some { block := w.heap.size + 1, off := 0 }), Value.pointer (some { block := W.heap.size, off := 0 }), Value.pointer (some { block := W.heap.size + 1, off := 0 }), Value.int IntKind.i64 ↑j, Value.pointer (some { block := W1.heap.size, off := 0 }), u8, u9, Value.map (some w.heap.size), Value.slice (some { block := b1, off := o1 }) l.length ca, Value.int IntKind.i64 ↑l.length, Value.int IntKind.i64 ↑i, Value.bool true, Value.int IntKind.i64 ↑i, Value.slice (some { block := b1, off := o1 }) l.length ca, Value.int IntKind.i64 ↑i, Value.pointer (some { block := b1, off := o1 + i * 6 }), Value.pointer (some { block := b1, off := o1 + i * 6 }), Value.pointer (some { block := b1, off := o1 + i * 6 }), Value.pointer (some { block := b1, off := o1 + i * 6 + 4 }), Value.slice (some { block := b3, off := o3 }) x.links.length c3, Value.func (Fn.func 165) #[] #[Value.pointer (some { block := W.heap.size + 1 + 1, off := 0 })], Value.int IntKind.i64 ↑j, Value.agg #[Value.string d.name, Value.int IntKind.i64 d.inst, Value.string d.at_], Value.map (some w.heap.size), Value.int IntKind.i64 ↑i, Value.pointer (some { block := W1.heap.size, off := 0 }), Value.string d.name, Value.agg #[Value.int IntKind.i64 ↑i, Value.string d.name], Value.pointer (some { block := b1, off := o1 + i * 6 }), Value.pointer (some { block := b1, off := o1 + i * 6 }), Value.pointer (some { block := b1, off := o1 + i * 6 + 4 }), Value.slice (some { block := b3, off := o3 }) x.links.length c3, Value.int IntKind.i64 ↑j, Value.pointer (some { block := b3, off := o3 + j * 3 }), u37, u38, u39, u40, u41, u42, u43, u44, u45, u46, u47, u48, u49, u50, u51, u52, u53, u54, u55, u56, u57, u58, u59, u60, u61, u62, undef], []⟩) (by kernel_rfl) (by kernel_rfl) ?_
        refine wpAnyH_take (i := 11) (v := Value.agg #[Value.pointer none, Value.pointer (some { block := b3, off := o3 + j * 3 })]) rfl (by kernel_rfl) (by kernel_rfl) (by kernel_rfl) (fun _ _ _ h => h) (.inl ⟨by kernel_rfl, fun w' hS' => by kernel_rfl⟩) hS ?_
        refine wpAnyH_eq (l' := #[true, true, true, true, true, true, true, true, true, true, true, true, false, false]) (a' := ⟨#[Value.slice (some { block := b1, off := o1 }) l.length ca, undef, Value.map none, Value.pointer (some { block := w.heap.size + 1, off := 0 }), Value.pointer (some { block := W.heap.size, off := 0 }), Value.pointer (some { block := W.heap.size + 1, off := 0 }), Value.int IntKind.i64 ↑j, Value.pointer (some { block := W1.heap.size, off := 0 }), u8, u9, Value.map (some w.heap.size), Value.slice (some { block := b1, off := o1 }) l.length ca, Value.int IntKind.i64 ↑l.length, Value.int IntKind.i64 ↑i, Value.bool true, Value.int IntKind.i64 ↑i, Value.slice (some { block := b1, off := o1 }) l.length ca, Value.int IntKind.i64 ↑i, Value.pointer (some { block := b1, off := o1 + i * 6 }), Value.pointer (some { block := b1, off := o1 + i * 6 }), Value.pointer (some { block := b1, off := o1 + i * 6 }), Value.pointer (some { block := b1, off := o1 + i * 6 + 4 }), Value.slice (some { block := b3, off := o3 }) x.links.length c3, Value.func (Fn.func 165) #[] #[Value.pointer (some { block := W.heap.size + 1 + 1, off := 0 })], Value.int IntKind.i64 ↑j, Value.agg #[Value.string d.name, Value.int IntKind.i64 d.inst, Value.string d.at_], Value.map (some w.heap.size), Value.int IntKind.i64 ↑i, Value.pointer (some { block := W1.heap.size, off := 0 }), Value.string d.name, Value.agg #[Value.int IntKind.i64 ↑i, Value.string d.name], Value.pointer (some { block := b1, off := o1 + i * 6 }), Value.pointer (some { block := b1, off := o1 + i * 6 }), Value.pointer (some { block := b1, off := o1 + i * 6 + 4 }), Value.slice (some { block := b3, off := o3 }) x.links.length c3, Value.int IntKind.i64 ↑j, Value.pointer (some { block := b3, off := o3 + j * 3 }), Value.agg #[Value.pointer none, Value.pointer (some { block := b3, off := o3 + j * 3 })], u38, u39, u40, u41, u42, u43, u44, u45, u46, u47, u48, u49, u50, u51, u52, u53, u54, u55, u56, u57, u58, u59, u60, u61, u62, undef], []⟩) (by kernel_rfl) (by kernel_rfl) ?_
        refine wpAnyH_all (rs := [12]) (by kernel_rfl) (by simp) fun jj hjj => ?_
        obtain rfl : jj = 12 := by simpa using hjj
        refine opw_value (v := Value.pointer (some { block := W2.heap.size, off := 0 })) (w' := (W2.alloc (Obj.cells #[.pointer none, .pointer (some ⟨b3, o3 + j * 3, none⟩)] 166)).drew) rfl (by kernel_rfl) (run_vN rfl) ?_
        refine ⟨HS6.out, ?_⟩
        refine wpAnyH_eq (l' := #[true, true, true, true, true, true, true, true, true, true, true, true, true, false]) (a' := ⟨#[Value.slice (some { block := b1, off := o1 }) l.length ca, undef, Value.map none, Value.pointer (some { block := w.heap.size + 1, off := 0 }), Value.pointer (some { block := W.heap.size, off := 0 }), Value.pointer (some { block := W.heap.size + 1, off := 0 }), Value.int IntKind.i64 ↑j, Value.pointer (some { block := W1.heap.size, off := 0 }), u8, u9, Value.map (some w.heap.size), Value.slice (some { block := b1, off := o1 }) l.length ca, Value.int IntKind.i64 ↑l.length, Value.int IntKind.i64 ↑i, Value.bool true, Value.int IntKind.i64 ↑i, Value.slice (some { block := b1, off := o1 }) l.length ca, Value.int IntKind.i64 ↑i, Value.pointer (some { block := b1, off := o1 + i * 6 }), Value.pointer (some { block := b1, off := o1 + i * 6 }), Value.pointer (some { block := b1, off := o1 + i * 6 }), Value.pointer (some { block := b1, off := o1 + i * 6 + 4 }), Value.slice (some { block := b3, off := o3 }) x.links.length c3, Value.func (Fn.func 165) #[] #[Value.pointer (some { block := W.heap.size + 1 + 1, off := 0 })], Value.int IntKind.i64 ↑j, Value.agg #[Value.string d.name, Value.int IntKind.i64 d.inst, Value.string d.at_], Value.map (some w.heap.size), Value.int IntKind.i64 ↑i, Value.pointer (some { block := W1.heap.size, off := 0 }), Value.string d.name, Value.agg #[Value.int IntKind.i64 ↑i, Value.string d.name], Value.pointer (some { block := b1, off := o1 + i * 6 }), Value.pointer (some { block := b1, off := o1 + i * 6 }), Value.pointer (some { block := b1, off := o1 + i * 6 + 4 }), Value.slice (some { block := b3, off := o3 }) x.links.length c3, Value.int IntKind.i64 ↑j, Value.pointer (some { block := b3, off := o3 + j * 3 }), Value.agg #[Value.pointer none, Value.pointer (some { block := b3, off := o3 + j * 3 })], Value.pointer (some { block := W2.heap.size, off := 0 }), u39, u40, u41, u42, u43, u44, u45, u46, u47, u48, u49, u50, u51, u52, u53, u54, u55, u56, u57, u58, u59, u60, u61, u62, undef], []⟩) (by kernel_rfl) (by kernel_rfl) ?_
        refine wpAnyH_all (rs := [13]) (by kernel_rfl) (by simp) fun jj hjj => ?_
        obtain rfl : jj = 13 := by simpa using hjj
        refine opw_skipX (w' := W5) rfl (by kernel_rfl) (run_uX hup') ?_
        refine ⟨HS7.out, ?_⟩
        refine wpAnyH_eq (l' := #[true, true, true, true, true, true, true, true, true, true, true, true, true, true]) (a' := ⟨#[Value.slice (some { block := b1, off := o1 }) l.length ca, undef, Value.map none, Value.pointer (some { block := w.heap.size + 1, off := 0 }), Value.pointer (some { block := W.heap.size, off := 0 }), Value.pointer (some { block := W.heap.size + 1, off := 0 }), Value.int IntKind.i64 ↑j, Value.pointer (some { block := W1.heap.size, off := 0 }), u8, u9, Value.map (some w.heap.size), Value.slice (some { block := b1, off := o1 }) l.length ca, Value.int IntKind.i64 ↑l.length, Value.int IntKind.i64 ↑i, Value.bool true, Value.int IntKind.i64 ↑i, Value.slice (some { block := b1, off := o1 }) l.length ca, Value.int IntKind.i64 ↑i, Value.pointer (some { block := b1, off := o1 + i * 6 }), Value.pointer (some { block := b1, off := o1 + i * 6 }), Value.pointer (some { block := b1, off := o1 + i * 6 }), Value.pointer (some { block := b1, off := o1 + i * 6 + 4 }), Value.slice (some { block := b3, off := o3 }) x.links.length c3, Value.func (Fn.func 165) #[] #[Value.pointer (some { block := W.heap.size + 1 + 1, off := 0 })], Value.int IntKind.i64 ↑j, Value.agg #[Value.string d.name, Value.int IntKind.i64 d.inst, Value.string d.at_], Value.map (some w.heap.size), Value.int IntKind.i64 ↑i, Value.pointer (some { block := W1.heap.size, off := 0 }), Value.string d.name, Value.agg #[Value.int IntKind.i64 ↑i, Value.string d.name], Value.pointer (some { block := b1, off := o1 + i * 6 }), Value.pointer (some { block := b1, off := o1 + i * 6 }), Value.pointer (some { block := b1, off := o1 + i * 6 + 4 }), Value.slice (some { block := b3, off := o3 }) x.links.length c3, Value.int IntKind.i64 ↑j, Value.pointer (some { block := b3, off := o3 + j * 3 }), Value.agg #[Value.pointer none, Value.pointer (some { block := b3, off := o3 + j * 3 })], Value.pointer (some { block := W2.heap.size, off := 0 }), u39, u40, u41, u42, u43, u44, u45, u46, u47, u48, u49, u50, u51, u52, u53, u54, u55, u56, u57, u58, u59, u60, u61, u62, undef], []⟩) (by kernel_rfl) (by kernel_rfl) ?_
        refine wpAnyH_done (by kernel_rfl) ?_ _
        refine ⟨rfl, ?_⟩
        show Exit.inBlock 3 _ _ _ _
        gi_wp2
        have HR6 := HR5.out
        simp only [hsz] at HR6 ⊢
        refine ⟨_, _, run_endRound none HR6.2.2.2.2, rfl, HR6.put (by omega)⟩
      case fin =>
        rintro e W3 ⟨⟨vv, rfl⟩, hj⟩
        refine ⟨vv, rfl, _, run_endLoop hj.2.2.2.2 (by simp), ?_⟩
        refine gen_world2 (C := fun W4 => Exit.inBlock 2 _ Exit.normal _ W4) (Q := fun rb W4 => RJ w (Wc.alloc (.deferred (some []))) l i n x (Wc.heap.size + 1) rb x.links.length W4) ?_ (hj.put (by omega))
        clear hj
        rintro W4 ⟨-, hms, hkc4, hbw4, -⟩
        have hdl : x.links.drop (x.links.length - x.links.length) = x.links := by simp
        rw [hdl] at hms
        have hk4 : KC W W4 := (hkc.trans (KC.alloc _ _)).trans hkc4
        have hk5 : KC Wc W4 := (KC.alloc _ _).trans hkc4
        have hmk4 : W4.heap[Wc.heap.size]? = some (.deferred (some [])) := hkc4 _ _ (blk_at _ _ _ rfl) (.inr ⟨_, rfl⟩)
        have e0 := cell_blk (j := 0) (hk4 _ _ HBH.out (.inl rfl)) rfl
        have e1 := cell_blk (j := 0) (hk5 _ _ q0 (.inl rfl)) rfl
        have e2 := cell_blk (j := 0) (hk5 _ _ q1 (.inl rfl)) rfl
        have e5 : W4.cell? ⟨b1, o1 + i * 6 + 2, none⟩ = some (.slice a1 x.names.length c1) := hk4.cell y2
        have e6 : W4.cell? ⟨b1, o1 + i * 6 + 3, none⟩ = some (.slice a2 x.vals.length c2) := hk4.cell y3
        have HM4 : Hid (MS W4 w.heap.size w.heap.size (n + x.links.length) l i x.links 0) := hms
        have HB4 : Hid (Below w.heap.size w W4) := hbw4
        have HK4 : Hid (KC W W4) := hk4
        have HK5 : Hid (KC Wc W4) := hk5
        have HMK : Hid (W4.heap[Wc.heap.size]? = some (.deferred (some []))) := hmk4
        have HSZ : Hid (Wc.heap.size = W.heap.size + 1 + 1 + 1) := hsz
        clear hms hbw4 hk4 hk5 hkc4 hmk4 hdl z4 HBK eg hsz
        gi_wp2
        refine wpIn_wide.2 ?_
        have hxs := hsm x (List.mem_of_getElem? hx)
        have hnl1 := hxs.2.2.1.1
        have hll1 := hxs.2.2.2.2.1.1
        have hvl := hft x (List.mem_of_getElem? hx)
        go_loopw [44] (fun o wr => ∃ j : Nat, j ≤ x.names.length ∧ o = .int .i64 j ∧ MS wr w.heap.size w.heap.size (n + x.links.length + j) l i x.links j ∧ KC W4 wr ∧ Below w.heap.size w wr)
          (fun o _ => x.names.length - (intOf o).toNat)
        case atStart => exact ⟨0, by omega, rfl, HM4.out, KC.refl _, HB4.out⟩
        case round =>
          obtain ⟨j, hjl, rfl, hms, hkc6, hbw6⟩ := hrel
          by_cases hjlt : j < x.names.length
          · obtain ⟨s0, hs0⟩ : ∃ s, x.names[j]? = some s := ⟨_, List.getElem?_eq_getElem hjlt⟩
            obtain ⟨v, hv⟩ : ∃ v, x.vals[j]? = some v := ⟨_, List.getElem?_eq_getElem (by omega)⟩
            obtain ⟨b5, o5, cs5, rfl, hb5, rfl, hl5⟩ := hrows.1.1 j s0 hs0
            obtain ⟨b6, o6, cs6, rfl, hb6, rfl, hl6⟩ := hrows.2.1.1 j v hv
            have hk6 : KC W wr := HK4.out.trans hkc6
            have hk7 : KC Wc wr := HK5.out.trans hkc6
            have f0 : wr.cell? ⟨b5, o5 + j, none⟩ = some (.string s0) := by have := hk6.cell (hl5 0 _ rfl); simpa [rgS] using this
            have e0 := cell_blk (j := 0) (hk6 _ _ HBH.out (.inl rfl)) rfl
            have e1 := cell_blk (j := 0) (hk7 _ _ q0 (.inl rfl)) rfl
            have e2 := cell_blk (j := 0) (hk7 _ _ q1 (.inl rfl)) rfl
            have e6 : wr.cell? ⟨b1, o1 + i * 6 + 3, none⟩ = some (.slice (some ⟨b6, o6, none⟩) x.vals.length c2) := hk6.cell y3
            have hva : ValAt wr b6 (o6 + j * 3) v := ⟨hk6.cell (hl6 0 _ rfl), hk6.cell (hl6 1 _ rfl), hk6.cell (hl6 2 _ rfl)⟩
            have hjv : (j : Int) < (x.vals.length : Int) := by omega
            have hjn : (j : Int) < (x.names.length : Int) := by omega
            have hmz : w.heap.size < wr.heap.size := by obtain ⟨F, h, _⟩ := hms; exact h.lt
            have hss : s0.size ≤ 1048576 := hxs.2.2.1.2 s0 (List.mem_of_getElem? hs0)
            have hmX : MS (wr.alloc (Obj.cells #[.pointer (some ⟨b6, o6 + j * 3, none⟩), .pointer none] 166)).drew w.heap.size w.heap.size (n + x.links.length + j) l i x.links j :=
              hms.keep (Below.heap_alloc wr _ _ hmz) (KC.alloc wr _) (belowX (Below.refl _ _) (Nat.le_of_lt hmz) _)
            obtain ⟨W5, hup, hms5, hkc5, hb5', hot5⟩ := hmX.store (ls' := x.links) (ns' := j + 1) (by omega) (Nat.le_refl _) hss (i64B_nat (by omega)) (.pointer (some ⟨wr.heap.size, 0, none⟩)) hx
              (fun W' hk hb => One.name_new hs0 ⟨v, wr.heap.size, b6, o6 + j * 3, hv, rfl, hk _ _ (blk_at _ _ _ rfl) (.inl rfl), hb6, ⟨hk.cell ((KC.alloc wr _).cell hva.1), hk.cell ((KC.alloc wr _).cell hva.2.1), hk.cell ((KC.alloc wr _).cell hva.2.2)⟩⟩)
              (fun s r W' hne h => One.name hs0 hne h)
            have hup' : (Instr.mapUpdate 159 (.map (some w.heap.size)) (.agg #[.int .i64 (i : Int), .string s0]) (.pointer (some ⟨wr.heap.size, 0, none⟩))).run Tryz.prog (wr.alloc (Obj.cells #[.pointer (some ⟨b6, o6 + j * 3, none⟩), .pointer none] 166)).drew = .ok () W5 := hup
            have HM5 : Hid (MS W5 w.heap.size w.heap.size (n + x.links.length + j + 1) l i x.links (j + 1)) := hms5
            have HK6 : Hid (KC W4 W5) := (hkc6.trans (KC.alloc wr _)).trans hkc5
            have HB5 : Hid (Below w.heap.size w W5) := (belowX hbw6 (Nat.le_of_lt hmz) _).trans hb5'
            have hkS : KC wr W5 := (KC.alloc wr _).trans hkc5
            have HS6 : Hid ((fun X : World => (X.cell? ⟨w.heap.size + 1, 0, none⟩ = some (.map (some w.heap.size))) ∧ (X.cell? ⟨W.heap.size, 0, none⟩ = some (.int .i64 (i : Int))) ∧ (X.cell? ⟨W.heap.size + 1, 0, none⟩ = some (.pointer (some ⟨b1, o1 + i * 6, none⟩))) ∧ (X.cell? ⟨b1, o1 + i * 6 + 3, none⟩ = some (.slice (some ⟨b6, o6, none⟩) x.vals.length c2))) (wr.alloc (Obj.cells #[.pointer (some ⟨b6, o6 + j * 3, none⟩), .pointer none] 166)).drew) := ⟨(KC.alloc wr _).cell e0, (KC.alloc wr _).cell e1, (KC.alloc wr _).cell e2, (KC.alloc wr _).cell e6⟩
            have HS7 : Hid ((fun X : World => (X.cell? ⟨w.heap.size + 1, 0, none⟩ = some (.map (some w.heap.size))) ∧ (X.cell? ⟨W.heap.size, 0, none⟩ = some (.int .i64 (i : Int))) ∧ (X.cell? ⟨W.heap.size + 1, 0, none⟩ = some (.pointer (some ⟨b1, o1 + i * 6, none⟩))) ∧ (X.cell? ⟨b1, o1 + i * 6 + 3, none⟩ = some (.slice (some ⟨b6, o6, none⟩) x.vals.length c2))) W5) := ⟨hkS.cell e0, hkS.cell e1, hkS.cell e2, hkS.cell e6⟩
            clear hup hms5 hkc5 hb5' hot5 hmX hkS hms hkc6 hbw6 hk6 hk7 hva hl5 hl6 HM4 HB4 HMS HMC hs0 hv
            go_wp2
            refine region_held9 (S := (fun X : World => (X.cell? ⟨w.heap.size + 1, 0, none⟩ = some (.map (some w.heap.size))) ∧ (X.cell? ⟨W.heap.size, 0, none⟩ = some (.int .i64 (i : Int))) ∧ (X.cell? ⟨W.heap.size + 1, 0, none⟩ = some (.pointer (some ⟨b1, o1 + i * 6, none⟩))) ∧ (X.cell? ⟨b1, o1 + i * 6 + 3, none⟩ = some (.slice (some ⟨b6, o6, none⟩) x.vals.length c2)))) (by kernel_rfl) ?_
            have hS : (fun X : World => (X.cell? ⟨w.heap.size + 1, 0, none⟩ = some (.map (some w.heap.size))) ∧ (X.cell? ⟨W.heap.size, 0, none⟩ = some (.int .i64 (i : Int))) ∧ (X.cell? ⟨W.heap.size + 1, 0, none⟩ = some (.pointer (some ⟨b1, o1 + i * 6, none⟩))) ∧ (X.cell? ⟨b1, o1 + i * 6 + 3, none⟩ = some (.slice (some ⟨b6, o6, none⟩) x.vals.length c2))) { wr with drawn := wr.drawn + 1 } := ⟨e0, e1, e2, e6⟩
            refine wpAnyH_take (i := 0) (v := Value.map (some w.heap.size)) rfl (by kernel_rfl) (by kernel_rfl) (by kernel_rfl) (fun _ _ _ h => by cases h.1) (.inl ⟨by kernel_rfl, fun w' hS' => run_v (by obtain ⟨c0, c1, c2, c6⟩ := hS'; simp [go_sem, c0])⟩) hS ?_
            refine wpAnyH_eq (l' := #[true, false, false, false, false, false, false, false, false, false, false, false, false]) (a' := ⟨#[Value.slice (some { block := b1, off := o1 }) l.length ca, undef, Value.map none, Value.pointer (some { block := w.heap.size + 1, off := 0 }), Value.pointer (some { block := W.heap.size, off := 0 }), Value.pointer (some { block := W.heap.size + 1, off := 0 }), undef, undef, Value.int IntKind.i64 ↑j, Value.string s0, Value.map (some w.heap.size), Value.slice (some { block := b1, off := o1 }) l.length ca, Value.int IntKind.i64 ↑l.length, Value.int IntKind.i64 ↑i, Value.bool true, Value.int IntKind.i64 ↑i, Value.slice (some { block := b1, off := o1 }) l.length ca, Value.int IntKind.i64 ↑i, Value.pointer (some { block := b1, off := o1 + i * 6 }), Value.pointer (some { block := b1, off := o1 + i * 6 }), Value.pointer (some { block := b1, off := o1 + i * 6 }), Value.pointer (some { block := b1, off := o1 + i * 6 + 4 }), Value.slice a3 x.links.length c3, Value.func (Fn.func 165) #[] #[Value.pointer (some { block := W.heap.size + 1 + 1, off := 0 })], u24, u25, u26, u27, u28, u29, u30, u31, u32, u33, u34, u35, u36, u37, u38, Value.pointer (some { block := b1, off := o1 + i * 6 }), Value.pointer (some { block := b1, off := o1 + i * 6 }), Value.pointer (some { block := b1, off := o1 + i * 6 + 2 }), Value.slice (some { block := b5, off := o5 }) x.names.length c1, Value.int IntKind.i64 ↑x.names.length, Value.int IntKind.i64 ↑j, Value.bool true, Value.int IntKind.i64 ↑j, Value.pointer (some { block := b5, off := o5 + j }), Value.string s0, Value.map (some w.heap.size), u50, u51, u52, u53, u54, u55, u56, u57, u58, u59, u60, u61, u62, undef], mkD Wc.heap.size :: ds.map mkD⟩) (by kernel_rfl) (by kernel_rfl) ?_
            refine wpAnyH_take (i := 1) (v := Value.int IntKind.i64 ↑i) rfl (by kernel_rfl) (by kernel_rfl) (by kernel_rfl) (fun _ _ _ h => by cases h.1) (.inl ⟨by kernel_rfl, fun w' hS' => run_v (by obtain ⟨c0, c1, c2, c6⟩ := hS'; simp [go_sem, c1])⟩) hS ?_
            refine wpAnyH_eq (l' := #[true, true, false, false, false, false, false, false, false, false, false, false, false]) (a' := ⟨#[Value.slice (some { block := b1, off := o1 }) l.length ca, undef, Value.map none, Value.pointer (some { block := w.heap.size + 1, off := 0 }), Value.pointer (some { block := W.heap.size, off := 0 }), Value.pointer (some { block := W.heap.size + 1, off := 0 }), undef, undef, Value.int IntKind.i64 ↑j, Value.string s0, Value.map (some w.heap.size), Value.slice (some { block := b1, off := o1 }) l.length ca, Value.int IntKind.i64 ↑l.length, Value.int IntKind.i64 ↑i, Value.bool true, Value.int IntKind.i64 ↑i, Value.slice (some { block := b1, off := o1 }) l.length ca, Value.int IntKind.i64 ↑i, Value.pointer (some { block := b1, off := o1 + i * 6 }), Value.pointer (some { block := b1, off := o1 + i * 6 }), Value.pointer (some { block := b1, off := o1 + i * 6 }), Value.pointer (some { block := b1, off := o1 + i * 6 + 4 }), Value.slice a3 x.links.length c3, Value.func (Fn.func 165) #[] #[Value.pointer (some { block := W.heap.size + 1 + 1, off := 0 })], u24, u25, u26, u27, u28, u29, u30, u31, u32, u33, u34, u35, u36, u37, u38, Value.pointer (some { block := b1, off := o1 + i * 6 }), Value.pointer (some { block := b1, off := o1 + i * 6 }), Value.pointer (some { block := b1, off := o1 + i * 6 + 2 }), Value.slice (some { block := b5, off := o5 }) x.names.length c1, Value.int IntKind.i64 ↑x.names.length, Value.int IntKind.i64 ↑j, Value.bool true, Value.int IntKind.i64 ↑j, Value.pointer (some { block := b5, off := o5 + j }), Value.string s0, Value.map (some w.heap.size), Value.int IntKind.i64 ↑i, u51, u52, u53, u54, u55, u56, u57, u58, u59, u60, u61, u62, undef], mkD Wc.heap.size :: ds.map mkD⟩) (by kernel_rfl) (by kernel_rfl) ?_
            refine wpAnyH_take (i := 2) (v := Value.string s0) rfl (by kernel_rfl) (by kernel_rfl) (by kernel_rfl) (fun _ _ _ h => by cases h.1) (.inl ⟨by kernel_rfl, fun w' hS' => by kernel_rfl⟩) hS ?_
            refine wpAnyH_eq (l' := #[true, true, true, false, false, false, false, false, false, false, false, false, false]) (a' := ⟨#[Value.slice (some { block := b1, off := o1 }) l.length ca, undef, Value.map none, Value.pointer (some { block := w.heap.size + 1, off := 0 }), Value.pointer (some { block := W.heap.size, off := 0 }), Value.pointer (some { block := W.heap.size + 1, off := 0 }), undef, undef, Value.int IntKind.i64 ↑j, Value.string s0, Value.map (some w.heap.size), Value.slice (some { block := b1, off := o1 }) l.length ca, Value.int IntKind.i64 ↑l.length, Value.int IntKind.i64 ↑i, Value.bool true, Value.int IntKind.i64 ↑i, Value.slice (some { block := b1, off := o1 }) l.length ca, Value.int IntKind.i64 ↑i, Value.pointer (some { block := b1, off := o1 + i * 6 }), Value.pointer (some { block := b1, off := o1 + i * 6 }), Value.pointer (some { block := b1, off := o1 + i * 6 }), Value.pointer (some { block := b1, off := o1 + i * 6 + 4 }), Value.slice a3 x.links.length c3, Value.func (Fn.func 165) #[] #[Value.pointer (some { block := W.heap.size + 1 + 1, off := 0 })], u24, u25, u26, u27, u28, u29, u30, u31, u32, u33, u34, u35, u36, u37, u38, Value.pointer (some { block := b1, off := o1 + i * 6 }), Value.pointer (some { block := b1, off := o1 + i * 6 }), Value.pointer (some { block := b1, off := o1 + i * 6 + 2 }), Value.slice (some { block := b5, off := o5 }) x.names.length c1, Value.int IntKind.i64 ↑x.names.length, Value.int IntKind.i64 ↑j, Value.bool true, Value.int IntKind.i64 ↑j, Value.pointer (some { block := b5, off := o5 + j }), Value.string s0, Value.map (some w.heap.size), Value.int IntKind.i64 ↑i, Value.string s0, u52, u53, u54, u55, u56, u57, u58, u59, u60, u61, u62, undef], mkD Wc.heap.size :: ds.map mkD⟩) (by kernel_rfl) (by kernel_rfl) ?_
            refine wpAnyH_take (i := 3) (v := Value.agg #[Value.int IntKind.i64 ↑i, Value.string s0]) rfl (by kernel_rfl) (by kernel_rfl) (by kernel_rfl) (fun _ _ _ h => by cases h.1) (.inl ⟨by kernel_rfl, fun w' hS' => by kernel_rfl⟩) hS ?_
            refine wpAnyH_eq (l' := #[true, true, true, true, false, false, false, false, false, false, false, false, false]) (a' := ⟨#[Value.slice (some { block := b1, off := o1 }) l.length ca, undef, Value.map none, Value.pointer (some { block := w.heap.size + 1, off := 0 }), Value.pointer (some { block := W.heap.size, off := 0 }), Value.pointer (some { block := W.heap.size + 1, off := 0 }), undef, undef, Value.int IntKind.i64 ↑j, Value.string s0, Value.map (some w.heap.size), Value.slice (some { block := b1, off := o1 }) l.length ca, Value.int IntKind.i64 ↑l.length, Value.int IntKind.i64 ↑i, Value.bool true, Value.int IntKind.i64 ↑i, Value.slice (some { block := b1, off := o1 }) l.length ca, Value.int IntKind.i64 ↑i, Value.pointer (some { block := b1, off := o1 + i * 6 }), Value.pointer (some { block := b1, off := o1 + i * 6 }), Value.pointer (some { block := b1, off := o1 + i * 6 }), Value.pointer (some { block := b1, off := o1 + i * 6 + 4 }), Value.slice a3 x.links.length c3, Value.func (Fn.func 165) #[] #[Value.pointer (some { block := W.heap.size + 1 + 1, off := 0 })], u24, u25, u26, u27, u28, u29, u30, u31, u32, u33, u34, u35, u36, u37, u38, Value.pointer (some { block := b1, off := o1 + i * 6 }), Value.pointer (some { block := b1, off := o1 + i * 6 }), Value.pointer (some { block := b1, off := o1 + i * 6 + 2 }), Value.slice (some { block := b5, off := o5 }) x.names.length c1, Value.int IntKind.i64 ↑x.names.length, Value.int IntKind.i64 ↑j, Value.bool true, Value.int IntKind.i64 ↑j, Value.pointer (some { block := b5, off := o5 + j }), Value.string s0, Value.map (some w.heap.size), Value.int IntKind.i64 ↑i, Value.string s0, Value.agg #[Value.int IntKind.i64 ↑i, Value.string s0], u53, u54, u55, u56, u57, u58, u59, u60, u61, u62, undef], mkD Wc.heap.size :: ds.map mkD⟩) (by kernel_rfl) (by kernel_rfl) ?_
            refine wpAnyH_take (i := 4) (v := Value.pointer (some { block := b1, off := o1 + i * 6 })) rfl (by kernel_rfl) (by kernel_rfl) (by kernel_rfl) (fun _ _ _ h => by cases h.1) (.inl ⟨by kernel_rfl, fun w' hS' => run_v (by obtain ⟨c0, c1, c2, c6⟩ := hS'; simp [go_sem, c2])⟩) hS ?_
            refine wpAnyH_eq (l' := #[true, true, true, true, true, false, false, false, false, false, false, false, false]) (a' := ⟨#[Value.slice (some { block := b1, off := o1 }) l.length ca, undef, Value.map none, Value.pointer (some { block := w.heap.size + 1, off := 0 }), Value.pointer (some { block := W.heap.size, off := 0 }), Value.pointer (some { block := W.heap.size + 1, off := 0 }), undef, undef, Value.int IntKind.i64 ↑j, Value.string s0, Value.map (some w.heap.size), Value.slice (some { block := b1, off := o1 }) l.length ca, Value.int IntKind.i64 ↑l.length, Value.int IntKind.i64 ↑i, Value.bool true, Value.int IntKind.i64 ↑i, Value.slice (some { block := b1, off := o1 }) l.length ca, Value.int IntKind.i64 ↑i, Value.pointer (some { block := b1, off := o1 + i * 6 }), Value.pointer (some { block := b1, off := o1 + i * 6 }), Value.pointer (some { block := b1, off := o1 + i * 6 }), Value.pointer (some { block := b1, off := o1 + i * 6 + 4 }), Value.slice a3 x.links.length c3, Value.func (Fn.func 165) #[] #[Value.pointer (some { block := W.heap.size + 1 + 1, off := 0 })], u24, u25, u26, u27, u28, u29, u30, u31, u32, u33, u34, u35, u36, u37, u38, Value.pointer (some { block := b1, off := o1 + i * 6 }), Value.pointer (some { block := b1, off := o1 + i * 6 }), Value.pointer (some { block := b1, off := o1 + i * 6 + 2 }), Value.slice (some { block := b5, off := o5 }) x.names.length c1, Value.int IntKind.i64 ↑x.names.length, Value.int IntKind.i64 ↑j, Value.bool true, Value.int IntKind.i64 ↑j, Value.pointer (some { block := b5, off := o5 + j }), Value.string s0, Value.map (some w.heap.size), Value.int IntKind.i64 ↑i, Value.string s0, Value.agg #[Value.int IntKind.i64 ↑i, Value.string s0], Value.pointer (some { block := b1, off := o1 + i * 6 }), u54, u55, u56, u57, u58, u59, u60, u61, u62, undef], mkD Wc.heap.size :: ds.map mkD⟩) (by kernel_rfl) (by kernel_rfl) ?_
            refine wpAnyH_take (i := 5) (v := Value.pointer (some { block := b1, off := o1 + i * 6 })) rfl (by kernel_rfl) (by kernel_rfl) (by kernel_rfl) (fun _ _ _ h => by cases h.1) (.inl ⟨by kernel_rfl, fun w' hS' => by kernel_rfl⟩) hS ?_
            refine wpAnyH_eq (l' := #[true, true, true, true, true, true, false, false, false, false, false, false, false]) (a' := ⟨#[Value.slice (some { block := b1, off := o1 }) l.length ca, undef, Value.map none, Value.pointer (some { block := w.heap.size + 1, off := 0 }), Value.pointer (some { block := W.heap.size, off := 0 }), Value.pointer (some { block := W.heap.size + 1, off := 0 }), undef, undef, Value.int IntKind.i64 ↑j, Value.string s0, Value.map (some w.heap.size), Value.slice (some { block := b1, off := o1 }) l.length ca, Value.int IntKind.i64 ↑l.length, Value.int IntKind.i64 ↑i, Value.bool true, Value.int IntKind.i64 ↑i, Value.slice (some { block := b1, off := o1 }) l.length ca, Value.int IntKind.i64 ↑i, Value.pointer (some { block := b1, off := o1 + i * 6 }), Value.pointer (some { block := b1, off := o1 + i * 6 }), Value.pointer (some { block := b1, off := o1 + i * 6 }), Value.pointer (some { block := b1, off := o1 + i * 6 + 4 }), Value.slice a3 x.links.length c3, Value.func (Fn.func 165) #[] #[Value.pointer (some { block := W.heap.size + 1 + 1, off := 0 })], u24, u25, u26, u27, u28, u29, u30, u31, u32, u33, u34, u35, u36, u37, u38, Value.pointer (some { block := b1, off := o1 + i * 6 }), Value.pointer (some { block := b1, off := o1 + i * 6 }), Value.pointer (some { block := b1, off := o1 + i * 6 + 2 }), Value.slice (some { block := b5, off := o5 }) x.names.length c1, Value.int IntKind.i64 ↑x.names.length, Value.int IntKind.i64 ↑j, Value.bool true, Value.int IntKind.i64 ↑j, Value.pointer (some { block := b5, off := o5 + j }), Value.string s0, Value.map (some w.heap.size), Value.int IntKind.i64 ↑i, Value.string s0, Value.agg #[Value.int IntKind.i64 ↑i, Value.string s0], Value.pointer (some { block := b1, off := o1 + i * 6 }), Value.pointer (some { block := b1, off := o1 + i * 6 }), u55, u56, u57, u58, u59, u60, u61, u62, undef], mkD Wc.heap.size :: ds.map mkD⟩) (by kernel_rfl) (by kernel_rfl) ?_
            refine wpAnyH_take (i := 6) (v := Value.pointer (some { block := b1, off := o1 + i * 6 + 3 })) rfl (by kernel_rfl) (by kernel_rfl) (by kernel_rfl) (fun _ _ _ h => by cases h.1) (.inl ⟨by kernel_rfl, fun w' hS' => by kernel_rfl⟩) hS ?_
            refine wpAnyH_eq (l' := #[true, true, true, true, true, true, true, false, false, false, false, false, false]) (a' := ⟨#[Value.slice (some { block := b1, off := o1 }) l.length ca, undef, Value.map none, Value.pointer (some { block := w.heap.size + 1, off := 0 }), Value.pointer (some { block := W.heap.size, off := 0 }), Value.pointer (some { block := W.heap.size + 1, off := 0 }), undef, undef, Value.int IntKind.i64 ↑j, Value.string s0, Value.map (some w.heap.size), Value.slice (some { block := b1, off := o1 }) l.length ca, Value.int IntKind.i64 ↑l.length, Value.int IntKind.i64 ↑i, Value.bool true, Value.int IntKind.i64 ↑i, Value.slice (some { block := b1, off := o1 }) l.length ca, Value.int IntKind.i64 ↑i, Value.pointer (some { block := b1, off := o1 + i * 6 }), Value.pointer (some { block := b1, off := o1 + i * 6 }), Value.pointer (some { block := b1, off := o1 + i * 6 }), Value.pointer (some { block := b1, off := o1 + i * 6 + 4 }), Value.slice a3 x.links.length c3, Value.func (Fn.func 165) #[] #[Value.pointer (some { block := W.heap.size + 1 + 1, off := 0 })], u24, u25, u26, u27, u28, u29, u30, u31, u32, u33, u34, u35, u36, u37, u38, Value.pointer (some { block := b1, off := o1 + i * 6 }), Value.pointer (some { block := b1, off := o1 + i * 6 }), Value.pointer (some { block := b1, off := o1 + i * 6 + 2 }), Value.slice (some { block := b5, off := o5 }) x.names.length c1, Value.int IntKind.i64 ↑x.names.length, Value.int IntKind.i64 ↑j, Value.bool true, Value.int IntKind.i64 ↑j, Value.pointer (some { block := b5, off := o5 + j }), Value.string s0, Value.map (some w.heap.size), Value.int IntKind.i64 ↑i, Value.string s0, Value.agg #[Value.int IntKind.i64 ↑i, Value.string s0], Value.pointer (some { block := b1, off := o1 + i * 6 }), Value.pointer (some { block := b1, off := o1 + i * 6 }), Value.pointer (some { block := b1, off := o1 + i * 6 + 3 }), u56, u57, u58, u59, u60, u61, u62, undef], mkD Wc.heap.size :: ds.map mkD⟩) (by kernel_rfl) (by kernel_rfl) ?_
            refine wpAnyH_take (i := 7) (v := Value.slice (some { block := b6, off := o6 }) x.vals.length c2) rfl (by kernel_rfl) (by kernel_rfl) (by kernel_rfl) (fun _ _ _ h => by cases h.1) (.inl ⟨by kernel_rfl, fun w' hS' => run_v (by obtain ⟨c0, c1, c2, c6⟩ := hS'; simp [go_sem, c6])⟩) hS ?_
            refine wpAnyH_eq (l' := #[true, true, true, true, true, true, true, true, false, false, false, false, false]) (a' := ⟨#[Value.slice (some { block := b1, off := o1 }) l.length ca, undef, Value.map none, Value.pointer (some { block := w.heap.size + 1, off := 0 }), Value.pointer (some { block := W.heap.size, off := 0 }), Value.pointer (some { block := W.heap.size + 1, off := 0 }), undef, undef, Value.int IntKind.i64 ↑j, Value.string s0, Value.map (some w.heap.size), Value.slice (some { block := b1, off := o1 }) l.length ca, Value.int IntKind.i64 ↑l.length, Value.int IntKind.i64 ↑i, Value.bool true, Value.int IntKind.i64 ↑i, Value.slice (some { block := b1, off := o1 }) l.length ca, Value.int IntKind.i64 ↑i, Value.pointer (some { block := b1, off := o1 + i * 6 }), Value.pointer (some { block := b1, off := o1 + i * 6 }), Value.pointer (some { block := b1, off := o1 + i * 6 }), Value.pointer (some { block := b1, off := o1 + i * 6 + 4 }), Value.slice a3 x.links.length c3, Value.func (Fn.func 165) #[] #[Value.pointer (some { block := W.heap.size + 1 + 1, off := 0 })], u24, u25, u26, u27, u28, u29, u30, u31, u32, u33, u34, u35, u36, u37, u38, Value.pointer (some { block := b1, off := o1 + i * 6 }), Value.pointer (some { block := b1, off := o1 + i * 6 }), Value.pointer (some { block := b1, off := o1 + i * 6 + 2 }), Value.slice (some { block := b5, off := o5 }) x.names.length c1, Value.int IntKind.i64 ↑x.names.length, Value.int IntKind.i64 ↑j, Value.bool true, Value.int IntKind.i64 ↑j, Value.pointer (some { block := b5, off := o5 + j }), Value.string s0, Value.map (some w.heap.size), Value.int IntKind.i64 ↑i, Value.string s0, Value.agg #[Value.int IntKind.i64 ↑i, Value.string s0], Value.pointer (some { block := b1, off := o1 + i * 6 }), Value.pointer (some { block := b1, off := o1 + i * 6 }), Value.pointer (some { block := b1, off := o1 + i * 6 + 3 }), Value.slice (some { block := b6, off := o6 }) x.vals.length c2, u57, u58, u59, u60, u61, u62, undef], mkD Wc.heap.size :: ds.map mkD⟩) (by kernel_rfl) (by kernel_rfl) ?_
            refine wpAnyH_take (i := 8) (v := Value.int IntKind.i64 ↑j) rfl (by kernel_rfl) (by kernel_rfl) (by kernel_rfl) (fun _ _ _ h => by cases h.1) (.inl ⟨by kernel_rfl, fun w' hS' => by kernel_rfl⟩) hS ?_
            refine wpAnyH_eq (l' := #[true, true, true, true, true, true, true, true, true, false, false, false, false]) (a' := ⟨#[Value.slice (some { block := b1, off := o1 }) l.length ca, undef, Value.map none, Value.pointer (some { block := w.heap.size + 1, off := 0 }), Value.pointer (some { block := W.heap.size, off := 0 }), Value.pointer (some { block := W.heap.size + 1, off := 0 }), undef, undef, Value.int IntKind.i64 ↑j, Value.string s0, Value.map (some w.heap.size), Value.slice (some { block := b1, off := o1 }) l.length ca, Value.int IntKind.i64 ↑l.length, Value.int IntKind.i64 ↑i, Value.bool true, Value.int IntKind.i64 ↑i, Value.slice (some { block := b1, off := o1 }) l.length ca, Value.int IntKind.i64 ↑i, Value.pointer (some { block := b1, off := o1 + i * 6 }), Value.pointer (some { block := b1, off := o1 + i * 6 }), Value.pointer (some { block := b1, off := o1 + i * 6 }), Value.pointer (some { block := b1, off := o1 + i * 6 + 4 }), Value.slice a3 x.links.length c3, Value.func (Fn.func 165) #[] #[Value.pointer (some { block := W.heap.size + 1 + 1, off := 0 })], u24, u25, u26, u27, u28, u29, u30, u31, u32, u33, u34, u35, u36, u37, u38, Value.pointer (some { block := b1, off := o1 + i * 6 }), Value.pointer (some { block := b1, off := o1 + i * 6 }), Value.pointer (some { block := b1, off := o1 + i * 6 + 2 }), Value.slice (some { block := b5, off := o5 }) x.names.length c1, Value.int IntKind.i64 ↑x.names.length, Value.int IntKind.i64 ↑j, Value.bool true, Value.int IntKind.i64 ↑j, Value.pointer (some { block := b5, off := o5 + j }), Value.string s0, Value.map (some w.heap.size), Value.int IntKind.i64 ↑i, Value.string s0, Value.agg #[Value.int IntKind.i64 ↑i, Value.string s0], Value.pointer (some { block := b1, off := o1 + i * 6 }), Value.pointer (some { block := b1, off := o1 + i * 6 }), Value.pointer (some { block := b1, off := o1 + i * 6 + 3 }), Value.slice (some { block := b6, off := o6 }) x.vals.length c2, Value.int IntKind.i64 ↑j, u58, u59, u60, u61, u62, undef], mkD Wc.heap.size :: ds.map mkD⟩) (by kernel_rfl) (by kernel_rfl) ?_
            refine wpAnyH_take (i := 9) (v := Value.pointer (some { block := b6, off := o6 + j * 3 })) rfl (by kernel_rfl) (by kernel_rfl) (by kernel_rfl) (fun _ _ _ h => by cases h.1) (.inl ⟨by kernel_rfl, fun w' hS' => run_v (by simp [go_sem] <;> omega)⟩) hS ?_
            refine wpAnyH_eq (l' := #[true, true, true, true, true, true, true, true, true, true, false, false, false]) (a' := ⟨#[Value.slice (some { block := b1, off := o1 }) l.length ca, undef, Value.map none, Value.pointer (some { block := w.heap.size + 1, off := 0 }), Value.pointer (some { block := W.heap.size, off := 0 }), Value.pointer (some { block := W.heap.size + 1, off := 0 }), undef, undef, Value.int IntKind.i64 ↑j, Value.string s0, Value.map (some w.heap.size), Value.slice (some { block := b1, off := o1 }) l.length ca, Value.int IntKind.i64 ↑l.length, Value.int IntKind.i64 ↑i, Value.bool true, Value.int IntKind.i64 ↑i, Value.slice (some { block := b1, off := o1 }) l.length ca, Value.int IntKind.i64 ↑i, Value.pointer (some { block := b1, off := o1 + i * 6 }), Value.pointer (some { block := b1, off := o1 + i * 6 }), Value.pointer (some { block := b1, off := o1 + i * 6 }), Value.pointer (some { block := b1, off := o1 + i * 6 + 4 }), Value.slice a3 x.links.length c3, Value.func (Fn.func 165) #[] #[Value.pointer (some { block := W.heap.size + 1 + 1, off := 0 })], u24, u25, u26, u27, u28, u29, u30, u31, u32, u33, u34, u35, u36, u37, u38, Value.pointer (some { block := b1, off := o1 + i * 6 }), Value.pointer (some { block := b1, off := o1 + i * 6 }), Value.pointer (some { block := b1, off := o1 + i * 6 + 2 }), Value.slice (some { block := b5, off := o5 }) x.names.length c1, Value.int IntKind.i64 ↑x.names.length, Value.int IntKind.i64 ↑j, Value.bool true, Value.int IntKind.i64 ↑j, Value.pointer (some { block := b5, off := o5 + j }), Value.string s0, Value.map (some w.heap.size), Value.int IntKind.i64 ↑i, Value.string s0, Value.agg #[Value.int IntKind.i64 ↑i, Value.string s0], Value.pointer (some { block := b1, off := o1 + i * 6 }), Value.pointer (some { block := b1, off := o1 + i * 6 }), Value.pointer (some { block := b1, off := o1 + i * 6 + 3 }), Value.slice (some { block := b6, off := o6 }) x.vals.length c2, Value.int IntKind.i64 ↑j, Value.pointer (some { block := b6, off := o6 + j * 3 }), u59, u60, u61, u62, undef], mkD Wc.heap.size :: ds.map mkD⟩) (by kernel_rfl) (by kernel_rfl) ?_
            refine wpAnyH_take (i := 10) (v := Value.agg #[Value.pointer (some { block := b6, off := o6 + j * 3 }), Value.pointer none]) rfl (by kernel_rfl) (by kernel_rfl) (by kernel_rfl) (fun _ _ _ h => by cases h.1) (.inl ⟨by kernel_rfl, fun w' hS' => by kernel_rfl⟩) hS ?_
            refine wpAnyH_eq (l' := #[true, true, true, true, true, true, true, true, true, true, true, false, false]) (a' := ⟨#[Value.slice (some { block := b1, off := o1 }) l.length ca, undef, Value.map none, Value.pointer (some { block := w.heap.size + 1, off := 0 }), Value.pointer (some { block := W.heap.size, off := 0 }), Value.pointer (some { block := W.heap.size + 1, off := 0 }), undef, undef, Value.int IntKind.i64 ↑j, Value.string s0, Value.map (some w.heap.size), Value.slice (some { block := b1, off := o1 }) l.length ca, Value.int IntKind.i64 ↑l.length, Value.int IntKind.i64 ↑i, Value.bool true, Value.int IntKind.i64 ↑i, Value.slice (some { block := b1, off := o1 }) l.length ca, Value.int IntKind.i64 ↑i, Value.pointer (some { block := b1, off := o1 + i * 6 }), Value.pointer (some { block := b1, off := o1 + i * 6 }), Value.pointer (some { block := b1, off := o1 + i * 6 }), Value.pointer (some { block := b1, off := o1 + i * 6 + 4 }), Value.slice a3 x.links.length c3, Value.func (Fn.func 165) #[] #[Value.pointer (some { block := W.heap.size + 1 + 1, off := 0 })], u24, u25, u26, u27, u28, u29, u30, u31, u32, u33, u34, u35, u36, u37, u38, Value.pointer (some { block := b1, off := o1 + i * 6 }), Value.pointer (some { block := b1, off := o1 + i * 6 }), Value.pointer (some { block := b1, off := o1 + i * 6 + 2 }), Value.slice (some { block := b5, off := o5 }) x.names.length c1, Value.int IntKind.i64 ↑x.names.length, Value.int IntKind.i64 ↑j, Value.bool true, Value.int IntKind.i64 ↑j, Value.pointer (some { block := b5, off := o5 + j }), Value.string s0, Value.map (some w.heap.size), Value.int IntKind.i64 ↑i, Value.string s0, Value.agg #[Value.int IntKind.i64 ↑i, Value.string s0], Value.pointer (some { block := b1, off := o1 + i * 6 }), Value.pointer (some { block := b1, off := o1 + i * 6 }), Value.pointer (some { block := b1, off := o1 + i * 6 + 3 }), Value.slice (some { block := b6, off := o6 }) x.vals.length c2, Value.int IntKind.i64 ↑j, Value.pointer (some { block := b6, off := o6 + j * 3 }), Value.agg #[Value.pointer (some { block := b6, off := o6 + j * 3 }), Value.pointer none], u60, u61, u62, undef], mkD Wc.heap.size :: ds.map mkD⟩) (by kernel_rfl) (by kernel_rfl) ?_
            refine wpAnyH_all (rs := [11]) (by kernel_rfl) (by simp) fun jj hjj => ?_
            obtain rfl : jj = 11 := by simpa using hjj
            refine opw_value (v := Value.pointer (some { block := wr.heap.size, off := 0 })) (w' := (wr.alloc (Obj.cells #[.pointer (some ⟨b6, o6 + j * 3, none⟩), .pointer none] 166)).drew) rfl (by kernel_rfl) (run_vN rfl) ?_
            refine ⟨HS6.out, ?_⟩
            refine wpAnyH_eq (l' := #[true, true, true, true, true, true, true, true, true, true, true, true, false]) (a' := ⟨#[Value.slice (some { block := b1, off := o1 }) l.length ca, undef, Value.map none, Value.pointer (some { block := w.heap.size + 1, off := 0 }), Value.pointer (some { block := W.heap.size, off := 0 }), Value.pointer (some { block := W.heap.size + 1, off := 0 }), undef, undef, Value.int IntKind.i64 ↑j, Value.string s0, Value.map (some w.heap.size), Value.slice (some { block := b1, off := o1 }) l.length ca, Value.int IntKind.i64 ↑l.length, Value.int IntKind.i64 ↑i, Value.bool true, Value.int IntKind.i64 ↑i, Value.slice (some { block := b1, off := o1 }) l.length ca, Value.int IntKind.i64 ↑i, Value.pointer (some { block := b1, off := o1 + i * 6 }), Value.pointer (some { block := b1, off := o1 + i * 6 }), Value.pointer (some { block := b1, off := o1 + i * 6 }), Value.pointer (some { block := b1, off := o1 + i * 6 + 4 }), Value.slice a3 x.links.length c3, Value.func (Fn.func 165) #[] #[Value.pointer (some { block := W.heap.size + 1 + 1, off := 0 })], u24, u25, u26, u27, u28, u29, u30, u31, u32, u33, u34, u35, u36, u37, u38, Value.pointer (some { block := b1, off := o1 + i * 6 }), Value.pointer (some { block := b1, off := o1 + i * 6 }), Value.pointer (some { block := b1, off := o1 + i * 6 + 2 }), Value.slice (some { block := b5, off := o5 }) x.names.length c1, Value.int IntKind.i64 ↑x.names.length, Value.int IntKind.i64 ↑j, Value.bool true, Value.int IntKind.i64 ↑j, Value.pointer (some { block := b5, off := o5 + j }), Value.string s0, Value.map (some w.heap.size), Value.int IntKind.i64 ↑i, Value.string s0, Value.agg #[Value.int IntKind.i64 ↑i, Value.string s0], Value.pointer (some { block := b1, off := o1 + i * 6 }), Value.pointer (some { block := b1, off := o1 + i * 6 }), Value.pointer (some { block := b1, off := o1 + i * 6 + 3 }), Value.slice (some { block := b6, off := o6 }) x.vals.length c2, Value.int IntKind.i64 ↑j, Value.pointer (some { block := b6, off := o6 + j * 3 }), Value.agg #[Value.pointer (some { block := b6, off := o6 + j * 3 }), Value.pointer none], Value.pointer (some { block := wr.heap.size, off := 0 }), u61, u62, undef], mkD Wc.heap.size :: ds.map mkD⟩) (by kernel_rfl) (by kernel_rfl) ?_
            refine wpAnyH_all (rs := [12]) (by kernel_rfl) (by simp) fun jj hjj => ?_
            obtain rfl : jj = 12 := by simpa using hjj
            refine opw_skipX (w' := W5) rfl (by kernel_rfl) (run_uX hup') ?_
            refine ⟨HS7.out, ?_⟩
            refine wpAnyH_eq (l' := #[true, true, true, true, true, true, true, true, true, true, true, true, true]) (a' := ⟨#[Value.slice (some { block := b1, off := o1 }) l.length ca, undef, Value.map none, Value.pointer (some { block := w.heap.size + 1, off := 0 }), Value.pointer (some { block := W.heap.size, off := 0 }), Value.pointer (some { block := W.heap.size + 1, off := 0 }), undef, undef, Value.int IntKind.i64 ↑j, Value.string s0, Value.map (some w.heap.size), Value.slice (some { block := b1, off := o1 }) l.length ca, Value.int IntKind.i64 ↑l.length, Value.int IntKind.i64 ↑i, Value.bool true, Value.int IntKind.i64 ↑i, Value.slice (some { block := b1, off := o1 }) l.length ca, Value.int IntKind.i64 ↑i, Value.pointer (some { block := b1, off := o1 + i * 6 }), Value.pointer (some { block := b1, off := o1 + i * 6 }), Value.pointer (some { block := b1, off := o1 + i * 6 }), Value.pointer (some { block := b1, off := o1 + i * 6 + 4 }), Value.slice a3 x.links.length c3, Value.func (Fn.func 165) #[] #[Value.pointer (some { block := W.heap.size + 1 + 1, off := 0 })], u24, u25, u26, u27, u28, u29, u30, u31, u32, u33, u34, u35, u36, u37, u38, Value.pointer (some { block := b1, off := o1 + i * 6 }), Value.pointer (some { block := b1, off := o1 + i * 6 }), Value.pointer (some { block := b1, off := o1 + i * 6 + 2 }), Value.slice (some { block := b5, off := o5 }) x.names.length c1, Value.int IntKind.i64 ↑x.names.length, Value.int IntKind.i64 ↑j, Value.bool true, Value.int IntKind.i64 ↑j, Value.pointer (some { block := b5, off := o5 + j }), Value.string s0, Value.map (some w.heap.size), Value.int IntKind.i64 ↑i, Value.string s0, Value.agg #[Value.int IntKind.i64 ↑i, Value.string s0], Value.pointer (some { block := b1, off := o1 + i * 6 }), Value.pointer (some { block := b1, off := o1 + i * 6 }), Value.pointer (some { block := b1, off := o1 + i * 6 + 3 }), Value.slice (some { block := b6, off := o6 }) x.vals.length c2, Value.int IntKind.i64 ↑j, Value.pointer (some { block := b6, off := o6 + j * 3 }), Value.agg #[Value.pointer (some { block := b6, off := o6 + j * 3 }), Value.pointer none], Value.pointer (some { block := wr.heap.size, off := 0 }), u61, u62, undef], mkD Wc.heap.size :: ds.map mkD⟩) (by kernel_rfl) (by kernel_rfl) ?_
            refine wpAnyH_done (by kernel_rfl) ?_ _
            refine ⟨rfl, ?_⟩
            dsimp only []
            go_wp2
            go_roundw
            case rel => exact ⟨j + 1, by omega, by go_num, HM5.out, HK6.out, HB5.out⟩
            case measure => simp [intOf]; omega
          · obtain rfl : j = x.names.length := by omega
            have d2 : decide ((x.names.length : Int) < (x.names.length : Int)) = false := by simp
            have HM5 : Hid (MS wr w.heap.size w.heap.size (n + x.links.length + x.names.length) l i x.links x.names.length) := hms
            have HK6 : Hid (KC W4 wr) := hkc6
            have HB5 : Hid (Below w.heap.size w wr) := hbw6
            clear hms hkc6 hbw6
            go_wp2
            gi_wp2
            have hsz := HSZ.out
            refine ⟨⟨i + 1, n + x.links.length + x.names.length, Wc.heap.size :: ds, Value.pointer (some { block := W.heap.size, off := 0 }), Value.pointer (some { block := W.heap.size + 1, off := 0 }), u8, u9, Value.bool true, Value.int IntKind.i64 ↑i, Value.slice (some { block := b1, off := o1 }) l.length ca, Value.int IntKind.i64 ↑i, Value.pointer (some { block := b1, off := o1 + i * 6 }), Value.pointer (some { block := b1, off := o1 + i * 6 }), Value.pointer (some { block := b1, off := o1 + i * 6 }), Value.pointer (some { block := b1, off := o1 + i * 6 + 4 }), Value.slice a3 x.links.length c3, Value.func (Fn.func 165) #[] #[Value.pointer (some { block := W.heap.size + 1 + 1, off := 0 })], u24, u25, u26, u27, u28, u29, u30, u31, u32, u33, u34, u35, u36, u37, u38, Value.pointer (some { block := b1, off := o1 + i * 6 }), Value.pointer (some { block := b1, off := o1 + i * 6 }), Value.pointer (some { block := b1, off := o1 + i * 6 + 2 }), Value.slice a1 x.names.length c1, Value.int IntKind.i64 ↑x.names.length, Value.int IntKind.i64 ↑x.names.length, Value.bool false, u46, u47, u48, u49, u50, u51, u52, u53, u54, u55, u56, u57, u58, u59, u60, u61, Value.int IntKind.i64 (↑i + 1), ?_, ?_⟩, ?_⟩
            · rw [show ((i + 1 : Nat) : Int) = (i : Int) + 1 by omega]; rfl
            · have hkw : KC W wr := HK4.out.trans HK6.out
              refine ⟨by omega, by omega, HM5.out.next hx (hon x (List.mem_of_getElem? hx)), hkw _ _ HBH.out (.inl rfl), HB5.out, ?_, ?_⟩
              · refine List.nodup_cons.2 ⟨fun hm => ?_, HND.out⟩
                have := (Array.getElem?_eq_some_iff.1 (HDS.out _ hm).2).1
                omega
              · intro d hd
                rcases List.mem_cons.1 hd with rfl | hd
                · exact ⟨by omega, HK6.out _ _ HMK.out (.inr ⟨_, rfl⟩)⟩
                · exact ⟨(HDS.out d hd).1, hkw _ _ (HDS.out d hd).2 (.inr ⟨_, rfl⟩)⟩
            · simp [intOf]; omega
    · obtain rfl : i = l.length := by omega
      have d1 : decide ((l.length : Int) < (l.length : Int)) = false := by simp
      gi_wp2
      refine leaves_marks (B := w.heap.size) ds W HND.out HDS.out (fun w' hk hb => ?_)
      refine ⟨_, results_tmp rfl _ _ _, ?_⟩
      exact holdP_of HMS.out HBW.out HDS.out hk hb
end Go.Proofs.YtmnkomgdcebniaaGreat
