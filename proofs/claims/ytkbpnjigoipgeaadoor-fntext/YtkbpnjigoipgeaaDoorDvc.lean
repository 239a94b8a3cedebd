/- Draws: a heap, as it grows. -/
import Derived.Test.YtkbpnjigoipgeaaDoorDvb
set_option linter.unusedVariables false
namespace Go.Proofs.YtkbpnjigoipgeaaDoor
open Go.ChangeShapes Go.WideShapes Go.ChangeAt Go.RowKit
open Cu (Cw Code1 CurS)
/-- A cell of a small make. -/
def Cel.tiny (x : Cel) : Prop := -10 ≤ x.k ∧ x.k ≤ 20 ∧ -10 ≤ x.a ∧ x.a ≤ 2000 ∧ x.b = 0 ∧ x.s.size ≤ 40 ∧ x.names.length ≤ 1 ∧ (∀ y ∈ x.names, y.size ≤ 40) ∧ x.vals.length ≤ 3 ∧ ∀ v ∈ x.vals, v.tiny
theorem Val.tiny.small {v : Val} (h : v.tiny) : v.small := by
  obtain ⟨h1, h2, h3, h4, h5⟩ := h
  exact ⟨⟨by omega, by omega⟩, ⟨by omega, by omega⟩, by omega⟩
theorem Cel.tiny.small {x : Cel} (h : x.tiny) : x.small := by
  obtain ⟨h1, h2, h3, h4, h5, h6, h7, h8, h9, h10⟩ := h
  exact ⟨⟨by omega, by omega⟩, ⟨by omega, by omega⟩, ⟨by omega, by omega⟩, by omega, by omega, by omega, fun y hy => by have := h8 y hy; omega, fun v hv => (h10 v hv).small⟩
theorem Cw_grow {W U U' : World} {c : Nat} {d : Code1} {r : Option Nat} (h : Cw W c d U) (hg : U.grownBy U' r) (hr : ∀ k, r = some k → W.heap.size ≤ k) : Cw W c d U' := by
  obtain ⟨⟨s, hs⟩, g, hl⟩ := h
  refine ⟨⟨s, Cu.cur_blocks hs fun k hk => hg.block k (by have := g.size; omega) fun e => by have := hr k e.symm; omega⟩, ⟨hg.os.trans g.os, hg.tape.trans g.tape, hg.output.trans g.output, Nat.le_trans g.size hg.size, fun i hi hn => (hg.block i (by have := g.size; omega) fun e => by have := hr i e.symm; omega).trans (g.block i hi hn)⟩, hl⟩
theorem OwnH.kinds {W : World} {B T c n cap : Nat} {a : Option Addr} {h : List Cel} (ho : OwnH W B T (.slice a n cap) h) (hc : c < B) : KindsAt W c a h := by
  obtain ⟨⟨xs, h1⟩, h2, β, b0, bm, bt, hcc⟩ := ho
  intro j x hj
  have hjl := (List.getElem?_eq_some_iff.1 hj).1
  obtain ⟨hl, ⟨hv, h0⟩ | ⟨g, cap', cur, hv, a1, hblk, a3, a4, a5, a6⟩⟩ := h1
  · omega
  · injection hv with q1 q2 q3
    subst q1
    obtain ⟨_, _, c0, _⟩ := hcc g cap' (by rw [q2, q3]) j x hj
    exact ⟨g, 0, rfl, by omega, (Array.getElem?_eq_some_iff.1 hblk).1, by rw [Nat.zero_add]; exact c0⟩
/-- A block that no cells lie in. -/
def NT (W : World) (b : Nat) : Prop := ∃ (cur : Array Value) (t : TypeId), W.heap[b]? = some (.cells cur t (0, 0)) ∧ t ≠ 40
theorem NT.keep {W W' : World} {b : Nat} (h : NT W b) (hk : W'.heap[b]? = W.heap[b]?) : NT W' b := by
  obtain ⟨cur, t, h1, h2⟩ := h
  exact ⟨cur, t, hk.trans h1, h2⟩
theorem COwn.at2 {w : World} {lo hi g o : Nat} {c : Cel} (h : COwn w lo hi g o c) : CelAt w (fun b => lo ≤ b ∧ b < hi ∧ b < w.heap.size ∧ NT w b) g o c := by
  obtain ⟨nv, vv, c0, c1, c2, c3, c4, c5, hs, hv, b1, b2⟩ := h
  obtain ⟨an, cn, rfl, l1⟩ := hs.slice
  obtain ⟨av, cv, rfl, l2⟩ := hv.slice
  exact ⟨an, cn, av, cv, c0, c1, c2, c3, c4, c5, hs.row.keep fun b hb => ⟨⟨(hs.blk hb).1, b1 b hb, (hs.blk hb).2.1, by obtain ⟨_, _, cur, q⟩ := hs.blk hb; exact ⟨cur, 9, q, by decide⟩⟩, rfl⟩, hv.row.keep fun b hb => ⟨⟨(hv.blk hb).1, b2 b hb, (hv.blk hb).2.1, by obtain ⟨_, _, cur, q⟩ := hv.blk hb; exact ⟨cur, 26, q, by decide⟩⟩, rfl⟩, l1, l2⟩
/-- A row of cells in blocks behind the cursor. -/
def RowCc (W : World) (c : Nat) (a : Option Addr) (h : List Cel) : Prop := ∀ i x, h[i]? = some x → ∃ b o, a = some ⟨b, o, none⟩ ∧ c < b ∧ b < W.heap.size ∧ CelAt W (fun b => c < b ∧ b < W.heap.size ∧ NT W b) b (o + i * 6) x
theorem RowCc.keep {W W' : World} {c : Nat} {d : Code1} {a : Option Addr} {h : List Cel} (hr : RowCc W c a h) (hc : Cw W c d W') : RowCc W' c a h := by
  intro i x hx
  obtain ⟨b, o, h1, h2, h3, h4⟩ := hr i x hx
  have hk : ∀ b, c < b → b < W.heap.size → W'.heap[b]? = W.heap[b]? := fun b h5 h6 => hc.2.1.block b h6 fun e => by have : b = c := Option.some.inj e; omega
  exact ⟨b, o, h1, h2, Nat.lt_of_lt_of_le h3 hc.2.1.size, h4.keep (hk b h2 h3) fun b' hb' => ⟨⟨hb'.1, Nat.lt_of_lt_of_le hb'.2.1 hc.2.1.size, hb'.2.2.keep (hk b' hb'.1 hb'.2.1)⟩, hk b' hb'.1 hb'.2.1⟩⟩
theorem RowCc.row {W : World} {c : Nat} {a : Option Addr} {h : List Cel} (hr : RowCc W c a h) : RowC W W.heap.size a h := by
  intro i x hx
  obtain ⟨b, o, h1, h2, h3, h4⟩ := hr i x hx
  exact ⟨b, o, h1, h3, h4.keep rfl fun b' hb' => ⟨hb'.2.1, rfl⟩⟩
theorem RowCc.kinds {W : World} {c : Nat} {a : Option Addr} {h : List Cel} (hr : RowCc W c a h) : KindsAt W c a h := by
  intro i x hx
  obtain ⟨b, o, h1, h2, h3, an, cn, av, cv, h4, _⟩ := hr i x hx
  exact ⟨b, o, h1, by omega, h3, h4⟩
theorem OwnH.rowc {U : World} {B T c n cap : Nat} {a : Option Addr} {h : List Cel} (ho : OwnH U B T (.slice a n cap) h) (hc : c < B) : RowCc U c a h := by
  obtain ⟨⟨xs, h1⟩, h2, β, b0, bm, bt, hcc⟩ := ho
  intro j x hj
  have hjl := (List.getElem?_eq_some_iff.1 hj).1
  obtain ⟨hl, ⟨hv, h0⟩ | ⟨g, cap', cur, hv, a1, hblk, a3, a4, a5, a6⟩⟩ := h1
  · omega
  · injection hv with q1 q2 q3
    subst q1
    have q4 : β 0 ≤ β j := beta_mono bm (by omega)
    refine ⟨g, 0, rfl, by omega, (Array.getElem?_eq_some_iff.1 hblk).1, ?_⟩
    rw [Nat.zero_add]
    exact (hcc g cap' (by rw [q2, q3]) j x hj).at2.keep rfl fun b hb => ⟨⟨by have := hb.1; omega, hb.2.2⟩, rfl⟩
/-- One cell turned, its rows its own; the others as they were. -/
theorem rowc_mod {U U' : World} {B c g k : Nat} {β : Nat → Nat} {h : List Cel} {x' : Cel} {cur : Array Value} (hg : U.heap[g]? = some (.cells cur 40 (0, 0))) (hB : B ≤ g) (b0 : B ≤ β 0) (bm : ∀ j, β j ≤ β (j + 1)) (hcc : ∀ j x, h[j]? = some x → COwn U (β j) (β (j + 1)) g (j * 6) x) (hc : c < B)
    (hcell : ∀ o, (o < k * 6 ∨ k * 6 + 6 ≤ o) → U'.cell? ⟨g, o, none⟩ = U.cell? ⟨g, o, none⟩)
    (hoth : ∀ b, b < U.heap.size → b ≠ g → b ≠ c → (b < β k ∨ β (k + 1) ≤ b) → U'.heap[b]? = U.heap[b]?) (hsz : U.heap.size ≤ U'.heap.size)
    (hnew : CelAt U' (fun b => c < b ∧ b < U'.heap.size ∧ NT U' b) g (k * 6) x') : RowCc U' c (some ⟨g, 0, none⟩) (h.set k x') := by
  intro j x hj
  have hgl : g < U.heap.size := (Array.getElem?_eq_some_iff.1 hg).1
  refine ⟨g, 0, rfl, by omega, by omega, ?_⟩
  rw [Nat.zero_add]
  rw [List.getElem?_set] at hj
  by_cases hji : k = j
  · subst hji
    rw [if_pos rfl] at hj
    split at hj
    · obtain rfl := Option.some.inj hj
      exact hnew
    · cases hj
  · rw [if_neg hji] at hj
    have q4 : β 0 ≤ β j := beta_mono bm (by omega)
    refine ((hcc j x hj).keep (fun q hq => hcell _ (by omega)) fun b k1 k2 k3 ⟨cu, k4⟩ => hoth b k3 ?_ (by omega) ?_).at2.keep rfl fun b hb => ⟨⟨by have := hb.1; omega, hb.2.2⟩, rfl⟩
    · rintro rfl
      rw [hg] at k4
      simp at k4
    · by_cases hlt : j < k
      · have : β (j + 1) ≤ β k := beta_mono bm (by omega)
        omega
      · have : β (k + 1) ≤ β j := beta_mono bm (by omega)
        omega
/-- The row of cells itself may be appended to. -/
def TopO (W : World) (c : Nat) (v : Value) (n : Nat) : Prop := ∃ xs, W.ownsRow (c + 1) 40 6 v n xs
theorem TopO.keep {W W' : World} {c n : Nat} {d : Code1} {v : Value} (h : TopO W c v n) (hc : Cw W c d W') : TopO W' c v n := by
  obtain ⟨xs, h⟩ := h
  exact ⟨xs, own_keep h fun b hb => hc.2.1.block b (own_blk h hb).2.1 (fun e => by have := (own_blk h hb).1; have := Option.some.inj e; omega)⟩
theorem OwnH.top {U : World} {B T c n cap : Nat} {a : Option Addr} {h : List Cel} (ho : OwnH U B T (.slice a n cap) h) (hc : c < B) : TopO U c (.slice a n cap) h.length := by
  obtain ⟨⟨xs, h1⟩, _⟩ := ho
  exact ⟨xs, own_weak h1 (by omega)⟩
theorem OwnH.set_t {U : World} {B T c g cap k o : Nat} {h : List Cel} {x : Cel} (f : Nat) {v : Value} (ho : OwnH U B T (.slice (some ⟨g, 0, none⟩) h.length cap) h) (hc : c < B) (hx : h[k]? = some x) (hof : o = k * 6 + f) (hf : f < 6) : TopO (U.setCell ⟨g, o, none⟩ v) c (.slice (some ⟨g, 0, none⟩) h.length cap) h.length := by
  obtain ⟨⟨xs, h1⟩, _⟩ := ho
  have hk := (List.getElem?_eq_some_iff.1 hx).1
  exact ⟨_, own_set v (own_weak h1 (by omega)) (by omega)⟩
/-- What l6Heap leaves. -/
def HdPost (W : World) (c : Nat) (d : Code1) (e : Ending) (W' : World) : Prop := ∃ (h : List Cel) (a : Option Addr) (cap : Nat), e = .returned (.slice a h.length cap) ∧ h.length ≤ 20 ∧ h.length ≤ cap ∧ (∀ x ∈ h, x.tiny) ∧ RowCc W' c a h ∧ TopO W' c (.slice a h.length cap) h.length ∧ Cw W c d W'
theorem OwnH.parts {U : World} {B T oc : Nat} {oa : Option Addr} {h : List Cel} (ho : OwnH U B T (.slice oa h.length oc) h) (hn : 0 < h.length) : ∃ g cur, oa = some ⟨g, 0, none⟩ ∧ U.heap[g]? = some (.cells cur 40 (0, 0)) ∧ B ≤ g ∧ g < T := by
  obtain ⟨⟨xs, hl, ⟨hv, h0⟩ | ⟨g, cap', cur, hv, a1, hblk, _⟩⟩, h2, _⟩ := ho
  · omega
  · injection hv with q1 q2 q3
    subst q1
    exact ⟨g, cur, rfl, hblk, a1, h2 g rfl⟩
theorem ne_ty {U : World} {b g : Nat} {c1 c2 : Array Value} {t1 t2 : TypeId} (h1 : U.heap[b]? = some (.cells c1 t1 (0, 0))) (h2 : U.heap[g]? = some (.cells c2 t2 (0, 0))) (ht : t1 ≠ t2) : b ≠ g := by
  rintro rfl
  rw [h1] at h2
  injection Option.some.inj h2 with q1 q2
  exact ht q2
theorem OwnH.cells {U : World} {B T oc g k : Nat} {h : List Cel} {x : Cel} (ho : OwnH U B T (.slice (some ⟨g, 0, none⟩) h.length oc) h) (hx : h[k]? = some x) : ∃ nv av cv cur, U.heap[g]? = some (.cells cur 40 (0, 0)) ∧ U.cell? ⟨g, k * 6, none⟩ = some (.int .i64 x.k) ∧ U.cell? ⟨g, k * 6 + 1, none⟩ = some (.string x.s) ∧ U.cell? ⟨g, k * 6 + 2, none⟩ = some (.int .i64 x.a) ∧ U.cell? ⟨g, k * 6 + 4, none⟩ = some nv ∧ U.cell? ⟨g, k * 6 + 5, none⟩ = some (.slice av x.vals.length cv) ∧ OwnV U B (.slice av x.vals.length cv) x.vals ∧ (∀ b, (Value.slice av x.vals.length cv).ownBlock = some b → b < T) := by
  obtain ⟨⟨xs, h1⟩, h2, β, b0, bm, bt, hcc⟩ := ho
  obtain ⟨nv, vv, c0, c1, c2, c3, c4, c5, hs, hv, l1, l2⟩ := hcc g oc rfl k x hx
  obtain ⟨av, cv, rfl, _⟩ := hv.slice
  have hkl := (List.getElem?_eq_some_iff.1 hx).1
  have q : β 0 ≤ β k := beta_mono bm (by omega)
  have q2 : β (k + 1) ≤ β h.length := beta_mono bm (by omega)
  obtain ⟨_, _, cur, _, _, _, hblk, _⟩ := own_blk h1 rfl
  exact ⟨nv, av, cv, cur, hblk, c0, c1, c2, c4, c5, hv.weak (by omega), fun b hb => by have := l2 b hb; omega⟩
theorem OwnH.set_f {U : World} {B T c g cap k o : Nat} {h : List Cel} {x x' : Cel} (f : Nat) {v : Value} (ho : OwnH U B T (.slice (some ⟨g, 0, none⟩) h.length cap) h) (hc : c < B) (hx : h[k]? = some x) (hof : o = k * 6 + f) (hf3 : f < 3) (hn : x'.names = x.names) (hvs : x'.vals = x.vals) (hb : x'.b = x.b) (h0 : (f = 0 ∧ v = .int .i64 x'.k) ∨ (f ≠ 0 ∧ x'.k = x.k)) (h1 : (f = 1 ∧ v = .string x'.s) ∨ (f ≠ 1 ∧ x'.s = x.s)) (h2 : (f = 2 ∧ v = .int .i64 x'.a) ∨ (f ≠ 2 ∧ x'.a = x.a)) :
    RowCc (U.setCell ⟨g, o, none⟩ v) c (some ⟨g, 0, none⟩) (h.set k x') := by
  obtain ⟨⟨xs, hr⟩, hT, β, b0, bm, bt, hcc⟩ := ho
  have hcc' := hcc g cap rfl
  obtain ⟨nv, vv, c0, c1, c2, c3, c4, c5, hs, hv, l1, l2⟩ := hcc' k x hx
  obtain ⟨hBg, hgl, cur, cap', _, _, hblk, _⟩ := own_blk hr rfl
  have q : β 0 ≤ β k := beta_mono bm (by omega)
  have hoth : ∀ b, b < U.heap.size → b ≠ g → (U.setCell ⟨g, o, none⟩ v).heap[b]? = U.heap[b]? := fun b hb hne => (gb_set U g o v).block b hb fun e => hne (Option.some.inj e)
  have hne : ∀ o' u, o' ≠ o → U.cell? ⟨g, o', none⟩ = some u → (U.setCell ⟨g, o, none⟩ v).cell? ⟨g, o', none⟩ = some u := fun o' u hoo hu => (Cu.sc_other U g o o' v (Ne.symm hoo)).trans hu
  refine rowc_mod hblk hBg b0 bm hcc' hc (fun o' ho' => Cu.sc_other U g o o' v (by omega)) (fun b hb h3 _ _ => hoth b hb h3) (gb_set U g o v).size ?_
  refine (show COwn (U.setCell ⟨g, o, none⟩ v) (β k) (β (k + 1)) g (k * 6) x' from ⟨nv, vv, ?_, ?_, ?_, ?_, hne _ _ (by omega) c4, hne _ _ (by omega) c5, ?_, ?_, l1, l2⟩).at2.keep rfl fun b hb => ⟨⟨by have := hb.1; omega, hb.2.2⟩, rfl⟩
  · rcases h0 with ⟨rfl, rfl⟩ | ⟨h0, e⟩
    · subst hof
      exact Cu.sc_same c0
    · rw [e]
      exact hne _ _ (by omega) c0
  · rcases h1 with ⟨rfl, rfl⟩ | ⟨h0, e⟩
    · subst hof
      exact Cu.sc_same c1
    · rw [e]
      exact hne _ _ (by omega) c1
  · rcases h2 with ⟨rfl, rfl⟩ | ⟨h0, e⟩
    · subst hof
      exact Cu.sc_same c2
    · rw [e]
      exact hne _ _ (by omega) c2
  · rw [hb]
    exact hne _ _ (by omega) c3
  · rw [hn]
    exact hs.keep fun b hb => by
      obtain ⟨_, q2, cu, q3⟩ := hs.blk hb
      exact hoth b q2 (ne_ty q3 hblk (by decide))
  · rw [hvs]
    exact hv.keep fun b hb => by
      obtain ⟨_, q2, cu, q3⟩ := hv.blk hb
      exact hoth b q2 (ne_ty q3 hblk (by decide))
theorem OwnV.push {w w' : World} {B : Nat} {v' : Value} {l : List Val} {y : Val} {xs : List Value} (hxl : xs.length = l.length * 3) (hx : ∀ j d, l[j]? = some d → xs[j * 3]? = some (.int .i64 d.k) ∧ xs[j * 3 + 1]? = some (.int .i64 d.n) ∧ xs[j * 3 + 2]? = some (.string d.s))
    (h' : w'.ownsRow B 26 3 v' (l.length + 1) (xs ++ [.int .i64 y.k, .int .i64 y.n, .string y.s])) : OwnV w' B v' (l ++ [y]) := by
  refine ⟨xs ++ [.int .i64 y.k, .int .i64 y.n, .string y.s], by rw [List.length_append]; exact h', fun j d hj => ?_⟩
  by_cases hjl : j < l.length
  · rw [List.getElem?_append_left hjl] at hj
    rw [List.getElem?_append_left (by omega), List.getElem?_append_left (by omega), List.getElem?_append_left (by omega)]
    exact hx j d hj
  · have : j < l.length + 1 := by have := (List.getElem?_eq_some_iff.1 hj).1; simpa using this
    obtain rfl : j = l.length := by omega
    rw [List.getElem?_append_right (Nat.le_refl _)] at hj
    simp at hj
    subst hj
    rw [List.getElem?_append_right (by omega), List.getElem?_append_right (by omega), List.getElem?_append_right (by omega), show l.length * 3 - xs.length = 0 by omega, show l.length * 3 + 1 - xs.length = 1 by omega, show l.length * 3 + 2 - xs.length = 2 by omega]
    exact ⟨rfl, rfl, rfl⟩
theorem OwnH.set_vals {U U' : World} {B T c g cap k o : Nat} {h : List Cel} {x : Cel} {vv vv' : Value} {y : List Val} (ho : OwnH U B T (.slice (some ⟨g, 0, none⟩) h.length cap) h) (hc : c < B) (hx : h[k]? = some x) (hof : o = k * 6 + 5) (h5 : U.cell? ⟨g, k * 6 + 5, none⟩ = some vv) (hgr : U.grownBy U' vv.ownBlock) (hv' : OwnV U' B vv' y) :
    RowCc (U'.setCell ⟨g, o, none⟩ vv') c (some ⟨g, 0, none⟩) (h.set k { x with vals := y }) := by
  obtain ⟨⟨xs, hr⟩, hT, β, b0, bm, bt, hcc⟩ := ho
  have hcc' := hcc g cap rfl
  obtain ⟨nv, vv0, c0, c1, c2, c3, c4, c5, hs, hv, l1, l2⟩ := hcc' k x hx
  obtain rfl := Option.some.inj (h5.symm.trans c5)
  obtain ⟨hBg, hgl, cur, cap', _, _, hblk, _⟩ := own_blk hr rfl
  have q : β 0 ≤ β k := beta_mono bm (by omega)
  have hgv : some g ≠ vv.ownBlock := fun e => by
    obtain ⟨_, _, cu, q3⟩ := hv.blk e.symm
    exact ne_ty q3 hblk (by decide) rfl
  have hgg : U'.heap[g]? = U.heap[g]? := hgr.block g hgl hgv
  have hoth : ∀ b, b < U'.heap.size → b ≠ g → (U'.setCell ⟨g, o, none⟩ vv').heap[b]? = U'.heap[b]? := fun b hb hne => (gb_set U' g o vv').block b hb fun e => hne (Option.some.inj e)
  have hcl : ∀ o', U'.cell? ⟨g, o', none⟩ = U.cell? ⟨g, o', none⟩ := fun o' => World.cell?_of_block (w := U) (a := ⟨g, o', none⟩) hgg
  have hne : ∀ o' u, o' ≠ o → U.cell? ⟨g, o', none⟩ = some u → (U'.setCell ⟨g, o, none⟩ vv').cell? ⟨g, o', none⟩ = some u := fun o' u hoo hu => (Cu.sc_other U' g o o' vv' (Ne.symm hoo)).trans ((hcl o').trans hu)
  have hszs : (U'.setCell ⟨g, o, none⟩ vv').heap.size = U'.heap.size := by simp
  refine rowc_mod hblk hBg b0 bm hcc' hc (fun o' ho' => (Cu.sc_other U' g o o' vv' (by omega)).trans (hcl o')) (fun b hb h3 _ h5 => (hoth b (Nat.lt_of_lt_of_le hb hgr.size) h3).trans (hgr.block b hb fun e => ?_)) (by rw [hszs]; exact hgr.size) ?_
  · have := l2 b e.symm
    have := (hv.blk e.symm).1
    omega
  · refine (show COwn (U'.setCell ⟨g, o, none⟩ vv') B (U'.setCell ⟨g, o, none⟩ vv').heap.size g (k * 6) { x with vals := y } from ⟨nv, vv', hne _ _ (by omega) c0, hne _ _ (by omega) c1, hne _ _ (by omega) c2, hne _ _ (by omega) c3, hne _ _ (by omega) c4, ?_, ?_, ?_, ?_, ?_⟩).at2.keep rfl fun b hb => ⟨⟨by have := hb.1; omega, hb.2.2⟩, rfl⟩
    · subst hof
      exact Cu.sc_same ((hcl _).trans c5)
    · refine (hs.weak (by omega)).keep fun b hb => ?_
      obtain ⟨_, q2, cu, q3⟩ := hs.blk hb
      refine (hoth b (Nat.lt_of_lt_of_le q2 hgr.size) (ne_ty q3 hblk (by decide))).trans (hgr.block b q2 fun e => ?_)
      obtain ⟨_, _, cu2, q4⟩ := hv.blk e.symm
      exact ne_ty q3 q4 (by decide) rfl
    · refine hv'.keep fun b hb => hoth b (hv'.blk hb).2.1 ?_
      obtain ⟨_, q2, cu, q3⟩ := hv'.blk hb
      exact ne_ty q3 (hgg.trans hblk) (by decide)
    · intro b hb
      obtain ⟨_, q2, cu, q3⟩ := hs.blk hb
      have := hgr.size
      rw [hszs]
      omega
    · intro b hb
      rw [hszs]
      exact (hv'.blk hb).2.1
theorem OwnH.vals_t {U U' : World} {B T c g cap k o : Nat} {h : List Cel} {x : Cel} {vv vv' : Value} (ho : OwnH U B T (.slice (some ⟨g, 0, none⟩) h.length cap) h) (hc : c < B) (hx : h[k]? = some x) (hof : o = k * 6 + 5) (h5 : U.cell? ⟨g, k * 6 + 5, none⟩ = some vv) (hgr : U.grownBy U' vv.ownBlock) : TopO (U'.setCell ⟨g, o, none⟩ vv') c (.slice (some ⟨g, 0, none⟩) h.length cap) h.length := by
  obtain ⟨⟨xs, h1⟩, hT, β, b0, bm, bt, hcc⟩ := ho
  obtain ⟨nv, vv0, c0, c1, c2, c3, c4, c5, hs, hv, l1, l2⟩ := hcc g cap rfl k x hx
  obtain rfl := Option.some.inj (h5.symm.trans c5)
  obtain ⟨hBg, hgl, cur, cap', _, _, hblk, _⟩ := own_blk h1 rfl
  have hgv : some g ≠ vv.ownBlock := fun e => by
    obtain ⟨_, _, cu, q3⟩ := hv.blk e.symm
    exact ne_ty q3 hblk (by decide) rfl
  have hk := (List.getElem?_eq_some_iff.1 hx).1
  have h2 : U'.ownsRow (c + 1) 40 6 (.slice (some ⟨g, 0, none⟩) h.length cap) h.length xs := own_keep (own_weak h1 (by omega)) fun b hb => by
    have : b = g := (Option.some.inj hb).symm
    subst this
    exact hgr.block b hgl hgv
  exact ⟨_, own_set vv' h2 (by omega)⟩
theorem step_call21 {ops : Array Oper} {o : Oper} {a : Act} {w : World} {K : Act → World → Prop} {Q : Exit → Act → World → Prop} {E : Prop} (hgd : o.guard = none) (x y : Operand) (t u : TypeId)
    (ho : o.op = .call { callee := .value (.func 17), args := #[x, y], argTypes := #[t, u] }) (v1 v2 : Value) (hx : a.eval x = v1) (hy : a.eval y = v2) (R : Ending → World → Prop) (hc : Calls Tryd.prog 17 #[v1, v2] w R) (h : ∀ e w', R e w' → ∃ u, e = .returned u ∧ K (a.put o.dst u) w') :
    if Region.wanted o (yielded ops a.tmps) = true then Oper.wp Tryd.prog o a w K Q else E := by
  have hw : Region.wanted o (yielded ops a.tmps) = true := by simp [Region.wanted, hgd]
  rw [if_pos hw]
  unfold Oper.wp
  have hf : a.eval (Operand.func 17) = .func (.func 17) #[] #[] := rfl
  simp [execOp, ho, resolve, invoke, hx, hy, hf, Deferred.ofValue]
  refine hc.mono fun e w' hr => ?_
  obtain ⟨u, rfl, hk⟩ := h e w' hr
  exact hk
theorem info29 : (Tryd.prog.info? 26).map (fun i => (i.zero, i.size, i.bytes)) = some (some (.agg #[.int .i64 0, .int .i64 0, .string ⟨#[]⟩]), 3, 32) := by kernel_rfl
theorem al_same (W : World) (o : Obj) {b : Nat} (h : b < W.heap.size) : (W.alloc o).heap[b]? = W.heap[b]? := by
  show (Array.push _ _)[b]? = _
  rw [Array.getElem?_push_lt h, Array.getElem?_eq_getElem h]
theorem mem_set {h : List Cel} {k : Nat} {x' : Cel} {P : Cel → Prop} (hP : ∀ x ∈ h, P x) (hx' : P x') : ∀ x ∈ h.set k x', P x := fun x hx => by
  rcases List.mem_or_eq_of_mem_set hx with h1 | rfl
  · exact hP x h1
  · exact hx'
end Go.Proofs.YtkbpnjigoipgeaaDoor
