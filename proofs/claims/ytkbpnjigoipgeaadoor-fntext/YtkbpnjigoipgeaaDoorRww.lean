/- Rows that a call made: of texts, of values, of cells with rows of their own. -/
import Derived.Test.YtkbpnjigoipgeaaDoorVlp
import Derived.Maps.AppendAt
import Derived.Deep.AppendLies
set_option linter.unusedVariables false
namespace Go.Proofs.YtkbpnjigoipgeaaDoor
open Go.ChangeShapes Go.WideShapes Go.ChangeAt Go.RowKit
theorem own_keep {w w' : World} {B n s : Nat} {e : TypeId} {v : Value} {xs : List Value} (h : w.ownsRow B e s v n xs) (hk : ∀ b, v.ownBlock = some b → w'.heap[b]? = w.heap[b]?) : w'.ownsRow B e s v n xs := by
  obtain ⟨hl, ⟨hv, h0⟩ | ⟨g, cap', cur, hv, a1, hblk, a3⟩⟩ := h
  · exact ⟨hl, .inl ⟨hv, h0⟩⟩
  · exact ⟨hl, .inr ⟨g, cap', cur, hv, a1, (hk g (by rw [hv]; rfl)).trans hblk, a3⟩⟩
theorem own_slice {w : World} {B n s : Nat} {e : TypeId} {v : Value} {xs : List Value} (h : w.ownsRow B e s v n xs) : ∃ (a : Option Addr) (cap : Nat), v = .slice a n cap ∧ n ≤ cap := by
  obtain ⟨hl, ⟨hv, h0⟩ | ⟨g, cap', cur, hv, _, _, h3, _⟩⟩ := h
  · exact ⟨none, 0, by rw [hv, h0], by omega⟩
  · exact ⟨_, _, hv, h3⟩
theorem own_weak {w : World} {B B' n s : Nat} {e : TypeId} {v : Value} {xs : List Value} (h : w.ownsRow B e s v n xs) (hB : B' ≤ B) : w.ownsRow B' e s v n xs := by
  obtain ⟨hl, ⟨hv, h0⟩ | ⟨g, cap', cur, hv, a1, a3⟩⟩ := h
  · exact ⟨hl, .inl ⟨hv, h0⟩⟩
  · exact ⟨hl, .inr ⟨g, cap', cur, hv, by omega, a3⟩⟩
theorem own_blk {w : World} {B n s b : Nat} {e : TypeId} {v : Value} {xs : List Value} (h : w.ownsRow B e s v n xs) (hv : v.ownBlock = some b) : B ≤ b ∧ b < w.heap.size ∧ ∃ cur cap, v = .slice (some ⟨b, 0, none⟩) n cap ∧ n ≤ cap ∧ w.heap[b]? = some (.cells cur e (0, 0)) ∧ cur.size = cap * s ∧ cur.toList.take (n * s) = xs := by
  obtain ⟨hl, ⟨hv', h0⟩ | ⟨g, cap', cur, hv', a1, hblk, a3, a4, a5, a6⟩⟩ := h
  · subst hv'
    cases hv
  · subst hv'
    obtain rfl : g = b := by injection hv
    exact ⟨a1, (Array.getElem?_eq_some_iff.1 hblk).1, cur, cap', rfl, a3, hblk, a5, a6⟩
theorem own_cell {w : World} {B n s g cap o : Nat} {e : TypeId} {xs : List Value} (h : w.ownsRow B e s (.slice (some ⟨g, 0, none⟩) n cap) n xs) (ho : o < n * s) : w.cell? ⟨g, o, none⟩ = xs[o]? := by
  obtain ⟨_, _, cur, cap', _, _, hblk, _, h6⟩ := own_blk h rfl
  rw [cell_of_row w g o cur e (0, 0) hblk, ← h6, List.getElem?_take_of_lt ho]
  simp
/-- A row of texts that a call made. -/
def OwnS (w : World) (B : Nat) (v : Value) (l : List ByteArray) : Prop := w.ownsRow B 9 1 v l.length (l.map Value.string)
/-- A row of values that a call made. -/
def OwnV (w : World) (B : Nat) (v : Value) (vs : List Val) : Prop :=
  ∃ xs, w.ownsRow B 26 3 v vs.length xs ∧ ∀ j d, vs[j]? = some d → xs[j * 3]? = some (.int .i64 d.k) ∧ xs[j * 3 + 1]? = some (.int .i64 d.n) ∧ xs[j * 3 + 2]? = some (.string d.s)
theorem OwnS.keep {w w' : World} {B : Nat} {v : Value} {l : List ByteArray} (h : OwnS w B v l) (hk : ∀ b, v.ownBlock = some b → w'.heap[b]? = w.heap[b]?) : OwnS w' B v l := own_keep h hk
theorem OwnV.keep {w w' : World} {B : Nat} {v : Value} {l : List Val} (h : OwnV w B v l) (hk : ∀ b, v.ownBlock = some b → w'.heap[b]? = w.heap[b]?) : OwnV w' B v l := by
  obtain ⟨xs, h1, h2⟩ := h
  exact ⟨xs, own_keep h1 hk, h2⟩
theorem OwnS.weak {w : World} {B B' : Nat} {v : Value} {l : List ByteArray} (h : OwnS w B v l) (hB : B' ≤ B) : OwnS w B' v l := own_weak h hB
theorem OwnV.weak {w : World} {B B' : Nat} {v : Value} {l : List Val} (h : OwnV w B v l) (hB : B' ≤ B) : OwnV w B' v l := by
  obtain ⟨xs, h1, h2⟩ := h
  exact ⟨xs, own_weak h1 hB, h2⟩
theorem OwnS.slice {w : World} {B : Nat} {v : Value} {l : List ByteArray} (h : OwnS w B v l) : ∃ (a : Option Addr) (cap : Nat), v = .slice a l.length cap ∧ l.length ≤ cap := own_slice h
theorem OwnV.slice {w : World} {B : Nat} {v : Value} {l : List Val} (h : OwnV w B v l) : ∃ (a : Option Addr) (cap : Nat), v = .slice a l.length cap ∧ l.length ≤ cap := by
  obtain ⟨xs, h1, _⟩ := h
  exact own_slice h1
theorem OwnS.blk {w : World} {B b : Nat} {v : Value} {l : List ByteArray} (h : OwnS w B v l) (hv : v.ownBlock = some b) : B ≤ b ∧ b < w.heap.size ∧ ∃ cur, w.heap[b]? = some (.cells cur 9 (0, 0)) := by
  obtain ⟨h1, h2, cur, _, _, _, h3, _⟩ := own_blk h hv
  exact ⟨h1, h2, cur, h3⟩
theorem OwnV.blk {w : World} {B b : Nat} {v : Value} {l : List Val} (h : OwnV w B v l) (hv : v.ownBlock = some b) : B ≤ b ∧ b < w.heap.size ∧ ∃ cur, w.heap[b]? = some (.cells cur 26 (0, 0)) := by
  obtain ⟨xs, h0, _⟩ := h
  obtain ⟨h1, h2, cur, _, _, _, h3, _⟩ := own_blk h0 hv
  exact ⟨h1, h2, cur, h3⟩
theorem OwnS.row {w : World} {B n cap : Nat} {a : Option Addr} {l : List ByteArray} (h : OwnS w B (.slice a n cap) l) : RowSP w (fun b => (Value.slice a n cap).ownBlock = some b) a l := by
  intro i x hx
  obtain ⟨hl, ⟨hv, h0⟩ | ⟨g, cap', cur, hv, a1, hblk, a3, a4, a5, a6⟩⟩ := h
  · rw [List.eq_nil_of_length_eq_zero h0] at hx
    simp at hx
  · injection hv with h1 h2 h3
    subst h1
    refine ⟨g, 0, rfl, rfl, ?_⟩
    rw [Nat.zero_add]
    have hil := (List.getElem?_eq_some_iff.1 hx).1
    refine cell_blk hblk ?_
    rw [← Array.getElem?_toList, ← List.getElem?_take_of_lt (j := l.length * 1) (by omega), a6, List.getElem?_map, hx]
    rfl
theorem OwnV.row {w : World} {B n cap : Nat} {a : Option Addr} {l : List Val} (h : OwnV w B (.slice a n cap) l) : RowVP w (fun b => (Value.slice a n cap).ownBlock = some b) a l := by
  intro i x hx
  obtain ⟨xs, ⟨hl, ⟨hv, h0⟩ | ⟨g, cap', cur, hv, a1, hblk, a3, a4, a5, a6⟩⟩, hc⟩ := h
  · rw [List.eq_nil_of_length_eq_zero h0] at hx
    simp at hx
  · injection hv with h1 h2 h3
    subst h1
    have hil := (List.getElem?_eq_some_iff.1 hx).1
    have f : ∀ {o u}, xs[o]? = some u → w.cell? ⟨g, o, none⟩ = some u := by
      intro o u hu
      refine cell_blk hblk ?_
      have := (List.getElem?_eq_some_iff.1 hu).1
      rw [← Array.getElem?_toList, ← List.getElem?_take_of_lt (j := l.length * 3) (by omega), a6, hu]
    obtain ⟨c0, c1, c2⟩ := hc i x hx
    refine ⟨g, 0, rfl, rfl, ?_⟩
    rw [Nat.zero_add]
    exact ⟨f c0, f c1, f c2⟩
/-- A cell in six cells, its rows its own, made from lo to hi. -/
def COwn (w : World) (lo hi g o : Nat) (c : Cel) : Prop := ∃ nv vv,
  w.cell? ⟨g, o, none⟩ = some (.int .i64 c.k) ∧ w.cell? ⟨g, o + 1, none⟩ = some (.string c.s) ∧ w.cell? ⟨g, o + 2, none⟩ = some (.int .i64 c.a) ∧ w.cell? ⟨g, o + 3, none⟩ = some (.int .i64 c.b) ∧
  w.cell? ⟨g, o + 4, none⟩ = some nv ∧ w.cell? ⟨g, o + 5, none⟩ = some vv ∧ OwnS w lo nv c.names ∧ OwnV w lo vv c.vals ∧ (∀ k, nv.ownBlock = some k → k < hi) ∧ (∀ k, vv.ownBlock = some k → k < hi)
theorem COwn.keep {w w' : World} {lo hi g g' o o' : Nat} {c : Cel} (h : COwn w lo hi g o c) (hc : ∀ i, i < 6 → w'.cell? ⟨g', o' + i, none⟩ = w.cell? ⟨g, o + i, none⟩) (hk : ∀ b, lo ≤ b → b < hi → b < w.heap.size → (∃ cur, w.heap[b]? = some (.cells cur 9 (0, 0)) ∨ w.heap[b]? = some (.cells cur 26 (0, 0))) → w'.heap[b]? = w.heap[b]?) : COwn w' lo hi g' o' c := by
  obtain ⟨nv, vv, c0, c1, c2, c3, c4, c5, hs, hv, b1, b2⟩ := h
  refine ⟨nv, vv, (hc 0 (by omega)).trans c0, (hc 1 (by omega)).trans c1, (hc 2 (by omega)).trans c2, (hc 3 (by omega)).trans c3, (hc 4 (by omega)).trans c4, (hc 5 (by omega)).trans c5, hs.keep fun b hb => ?_, hv.keep fun b hb => ?_, b1, b2⟩
  · obtain ⟨q1, q2, cur, q3⟩ := hs.blk hb
    exact hk b q1 (b1 b hb) q2 ⟨cur, .inl q3⟩
  · obtain ⟨q1, q2, cur, q3⟩ := hv.blk hb
    exact hk b q1 (b2 b hb) q2 ⟨cur, .inr q3⟩
theorem COwn.at {w : World} {lo hi g o : Nat} {c : Cel} (h : COwn w lo hi g o c) : CelAt w (fun b => lo ≤ b ∧ b < hi ∧ b < w.heap.size) g o c := by
  obtain ⟨nv, vv, c0, c1, c2, c3, c4, c5, hs, hv, b1, b2⟩ := h
  obtain ⟨an, cn, rfl, l1⟩ := hs.slice
  obtain ⟨av, cv, rfl, l2⟩ := hv.slice
  exact ⟨an, cn, av, cv, c0, c1, c2, c3, c4, c5, hs.row.keep fun b hb => ⟨⟨(hs.blk hb).1, b1 b hb, (hs.blk hb).2.1⟩, rfl⟩, hv.row.keep fun b hb => ⟨⟨(hv.blk hb).1, b2 b hb, (hv.blk hb).2.1⟩, rfl⟩, l1, l2⟩
/-- A heap that a call made: cells each with rows of its own, between B and T. -/
def OwnH (w : World) (B T : Nat) (v : Value) (h : List Cel) : Prop :=
  (∃ xs, w.ownsRow B 40 6 v h.length xs) ∧ (∀ k, v.ownBlock = some k → k < T) ∧ ∃ β : Nat → Nat, B ≤ β 0 ∧ (∀ j, β j ≤ β (j + 1)) ∧ β h.length ≤ T ∧
    ∀ g cap, v = .slice (some ⟨g, 0, none⟩) h.length cap → ∀ j c, h[j]? = some c → COwn w (β j) (β (j + 1)) g (j * 6) c
theorem beta_mono {β : Nat → Nat} (h : ∀ j, β j ≤ β (j + 1)) {i j : Nat} (hij : i ≤ j) : β i ≤ β j := by
  induction j with
  | zero => obtain rfl : i = 0 := by omega
            exact Nat.le_refl _
  | succ j ih =>
    by_cases hq : i = j + 1
    · subst hq; exact Nat.le_refl _
    · exact Nat.le_trans (ih (by omega)) (h j)
theorem OwnH.slice {w : World} {B T : Nat} {v : Value} {h : List Cel} (ho : OwnH w B T v h) : ∃ (a : Option Addr) (cap : Nat), v = .slice a h.length cap ∧ h.length ≤ cap := by
  obtain ⟨⟨xs, h1⟩, _⟩ := ho
  exact own_slice h1
theorem OwnH.lt {w : World} {B T b : Nat} {v : Value} {h : List Cel} (ho : OwnH w B T v h) (hv : v.ownBlock = some b) : B ≤ b ∧ b < T ∧ b < w.heap.size := by
  obtain ⟨⟨xs, h1⟩, h2, _⟩ := ho
  exact ⟨(own_blk h1 hv).1, h2 b hv, (own_blk h1 hv).2.1⟩
theorem OwnH.keep {w w' : World} {B T : Nat} {v : Value} {h : List Cel} (ho : OwnH w B T v h) (hk : ∀ b, B ≤ b → b < T → b < w.heap.size → w'.heap[b]? = w.heap[b]?) : OwnH w' B T v h := by
  obtain ⟨⟨xs, h1⟩, h2, β, b0, bm, bt, hc⟩ := ho
  refine ⟨⟨xs, own_keep h1 fun b hb => hk b (own_blk h1 hb).1 (h2 b hb) (own_blk h1 hb).2.1⟩, h2, β, b0, bm, bt, fun g cap hv j c hj => ?_⟩
  have hg := own_blk (b := g) h1 (by rw [hv]; rfl)
  have e := hk g hg.1 (h2 g (by rw [hv]; rfl)) hg.2.1
  have hjl := (List.getElem?_eq_some_iff.1 hj).1
  have q1 : β 0 ≤ β j := beta_mono bm (by omega)
  have q2 : β (j + 1) ≤ β h.length := beta_mono bm (by omega)
  exact (hc g cap hv j c hj).keep (fun i _ => World.cell?_of_block (w := w) (a := ⟨g, _, none⟩) e) fun b k1 k2 k3 _ => hk b (by omega) (by omega) k3
theorem OwnH.below {w w' : World} {B T : Nat} {v : Value} {h : List Cel} (ho : OwnH w B T v h) (hb : Below w.heap.size w w') : OwnH w' B T v h := ho.keep fun b _ _ hl => hb.block b hl
theorem OwnH.row {w : World} {B T n cap : Nat} {a : Option Addr} {h : List Cel} (ho : OwnH w B T (.slice a n cap) h) : RowC w w.heap.size a h := by
  obtain ⟨⟨xs, h1⟩, h2, β, b0, bm, bt, hc⟩ := ho
  intro j c hj
  have hjl := (List.getElem?_eq_some_iff.1 hj).1
  obtain ⟨hl, ⟨hv, h0⟩ | ⟨g, cap', cur, hv, a1, hblk, a3, a4, a5, a6⟩⟩ := h1
  · omega
  · injection hv with q1 q2 q3
    subst q1
    refine ⟨g, 0, rfl, (Array.getElem?_eq_some_iff.1 hblk).1, ?_⟩
    rw [Nat.zero_add]
    exact (hc g cap' (by rw [q2, q3]) j c hj).at.keep rfl fun b hb => ⟨hb.2.2, rfl⟩
theorem OwnH.weak {w : World} {B B' T T' : Nat} {v : Value} {h : List Cel} (ho : OwnH w B T v h) (hB : B' ≤ B) (hT : T ≤ T') : OwnH w B' T' v h := by
  obtain ⟨⟨xs, h1⟩, h2, β, b0, bm, bt, hc⟩ := ho
  exact ⟨⟨xs, own_weak h1 hB⟩, fun k hk => Nat.lt_of_lt_of_le (h2 k hk) hT, β, by omega, bm, by omega, hc⟩
/-- No cells yet. -/
theorem OwnH.nil {w : World} {B T : Nat} {v : Value} {xs : List Value} (h1 : w.ownsRow B 40 6 v 0 xs) (hT : ∀ k, v.ownBlock = some k → k < T) (hB : B ≤ T) : OwnH w B T v [] :=
  ⟨⟨xs, h1⟩, hT, fun _ => B, Nat.le_refl _, fun _ => Nat.le_refl _, hB, fun _ _ _ j c hj => by simp at hj⟩
/-- One cell more. -/
theorem OwnH.push {w w' : World} {B T lo : Nat} {v v' nv vv : Value} {h : List Cel} {c : Cel} {xs : List Value} (ho : OwnH w B T v h) (hx : w.ownsRow B 40 6 v h.length xs)
    (hx' : w'.ownsRow B 40 6 v' (h.length + 1) (xs ++ [.int .i64 c.k, .string c.s, .int .i64 c.a, .int .i64 c.b, nv, vv])) (hg : w.grownBy w' v.ownBlock)
    (hs : OwnS w lo nv c.names) (hv : OwnV w lo vv c.vals) (hT : T ≤ lo) (hTw : T ≤ w.heap.size) : OwnH w' B w'.heap.size v' (h ++ [c]) := by
  obtain ⟨-, h2, β, b0, bm, bt, hc⟩ := ho
  have hxl : xs.length = h.length * 6 := hx.1
  have hsz := hg.size
  have hne : ∀ b, v.ownBlock = some b → ∃ cur, w.heap[b]? = some (.cells cur 40 (0, 0)) := fun b hb => by
    obtain ⟨_, _, cur, _, _, _, h3, _⟩ := own_blk hx hb
    exact ⟨cur, h3⟩
  have hkeep : ∀ b, b < w.heap.size → (∃ cur, w.heap[b]? = some (.cells cur 9 (0, 0)) ∨ w.heap[b]? = some (.cells cur 26 (0, 0))) → w'.heap[b]? = w.heap[b]? := by
    intro b hb ⟨cur, hcur⟩
    refine hg.block b hb fun e => ?_
    obtain ⟨cur', h'⟩ := hne b e.symm
    rcases hcur with q | q <;> rw [h'] at q <;> simp at q
  refine ⟨⟨_, by rw [List.length_append]; exact hx'⟩, fun k hk => (own_blk hx' hk).2.1, fun j => if j ≤ h.length then β j else w'.heap.size, by simpa using b0, fun j => ?_, by show (if (h ++ [c]).length ≤ h.length then β (h ++ [c]).length else w'.heap.size) ≤ _; rw [if_neg (by simp)]; exact Nat.le_refl _, ?_⟩
  · show (if j ≤ h.length then β j else w'.heap.size) ≤ (if j + 1 ≤ h.length then β (j + 1) else w'.heap.size)
    by_cases h1 : j + 1 ≤ h.length
    · rw [if_pos (by omega), if_pos h1]; exact bm j
    · rw [if_neg h1]
      by_cases h0 : j ≤ h.length
      · rw [if_pos h0]
        have q1 : β j ≤ β h.length := beta_mono bm h0
        omega
      · rw [if_neg h0]; exact Nat.le_refl _
  · intro g cap hv' j d hj
    have e1 : (h ++ [c]).length = h.length + 1 := by simp
    rw [e1] at hv'
    subst hv'
    show COwn w' (if j ≤ h.length then β j else w'.heap.size) (if j + 1 ≤ h.length then β (j + 1) else w'.heap.size) g (j * 6) d
    have hjl : j < h.length + 1 := by have := (List.getElem?_eq_some_iff.1 hj).1; omega
    by_cases hlt : j < h.length
    · rw [if_pos (by omega), if_pos (by omega)]
      rw [List.getElem?_append_left hlt] at hj
      cases hvb : v.ownBlock with
      | none =>
        obtain ⟨_, ⟨e1, e2⟩ | ⟨g', cap', cur, e1, _⟩⟩ := hx
        · omega
        · rw [e1] at hvb; cases hvb
      | some b =>
        obtain ⟨_, _, cur, cap', e1, _, _, _, _⟩ := own_blk hx hvb
        subst e1
        refine (hc b cap' rfl j d hj).keep (fun i hi => ?_) fun k _ _ k3 k4 => hkeep k k3 k4
        rw [own_cell hx' (by omega), own_cell hx (by omega), List.getElem?_append_left (by omega)]
    · obtain rfl : j = h.length := by omega
      rw [List.getElem?_append_right (Nat.le_refl _)] at hj
      simp at hj
      subst hj
      rw [if_pos (Nat.le_refl _), if_neg (by omega)]
      have f : ∀ i, i < 6 → w'.cell? ⟨g, h.length * 6 + i, none⟩ = [Value.int .i64 c.k, .string c.s, .int .i64 c.a, .int .i64 c.b, nv, vv][i]? := fun i hi => by
        rw [own_cell hx' (by omega), List.getElem?_append_right (by omega)]
        congr 1
        omega
      have hbl : β h.length ≤ lo := by omega
      refine ⟨nv, vv, f 0 (by omega), f 1 (by omega), f 2 (by omega), f 3 (by omega), f 4 (by omega), f 5 (by omega), (hs.weak hbl).keep fun b hb => ?_, (hv.weak hbl).keep fun b hb => ?_, fun k hk => ?_, fun k hk => ?_⟩
      · obtain ⟨_, q2, cur, q3⟩ := hs.blk hb
        exact hkeep b q2 ⟨cur, .inl q3⟩
      · obtain ⟨_, q2, cur, q3⟩ := hv.blk hb
        exact hkeep b q2 ⟨cur, .inr q3⟩
      · have := (hs.blk hk).2.1; omega
      · have := (hv.blk hk).2.1; omega
end Go.Proofs.YtkbpnjigoipgeaaDoor
