/- Draws of chapter 2: data. -/
import Derived.Test.YtgfkmppkeolckaaDoorDxy
import Derived.Test.YtgfkmppkeolckaaDoorRdq
set_option linter.unusedVariables false
namespace Go.Proofs.YtgfkmppkeolckaaDoor.Cu
open Go.ChangeShapes Go.WideShapes Go.ChangeAt Go.RowKit
/-- Data in memory, whatever they are. -/
def DtW (W : World) (v : Value) : Prop := ∃ (a b : Option Addr) (ca cb : Nat) (cs : List Dat) (ts : List Int), v = .agg #[.slice a cs.length ca, .slice b ts.length cb] ∧ RowD W W.heap.size a cs ∧ RowI W W.heap.size b ts ∧ (∀ d ∈ cs, d.wf) ∧ bulkD cs + ts.length ≤ 1048576
theorem grownBy_below {a b c : World} {r : Option Nat} (h : a.grownBy b r) (hb : Below b.heap.size b c) : a.grownBy c r :=
  ⟨hb.os.trans h.os, hb.tape.trans h.tape, hb.output.trans h.output, Nat.le_trans h.size hb.size, fun i hi hn => (hb.block i (Nat.lt_of_lt_of_le hi h.size)).trans (h.block i hi hn)⟩
/-- A cell of a block that came later. -/
theorem Cw.set {w W : World} {c : Nat} {d : Code1} (h : Cw w c d W) {g j : Nat} (hg : w.heap.size ≤ g) (v : Value) : Cw w c d (W.setCell ⟨g, j, none⟩ v) := by
  have hlt := h.2.2
  obtain ⟨⟨s, hs⟩, hgr, hl⟩ := h
  refine ⟨⟨s, cur_blocks hs fun k hk => heap_setCell_other _ _ _ _ (by show k ≠ g; omega)⟩, ⟨hgr.os, hgr.tape, hgr.output, by simpa using hgr.size, fun i hi hn => (heap_setCell_other _ _ _ _ (by show i ≠ g; omega)).trans (hgr.block i hi hn)⟩, hl⟩
theorem Cw.below {w W W' : World} {c : Nat} {d : Code1} (h : Cw w c d W) (hb : Below W.heap.size W W') : Cw w c d W' := by
  have hlt := h.lt
  obtain ⟨⟨s, hs⟩, hg, hl⟩ := h
  exact ⟨⟨s, cur_blocks hs fun k hk => hb.block k (by omega)⟩, grownBy_below hg hb, hl⟩
theorem Cw.grown {w W W' : World} {c : Nat} {d : Code1} (h : Cw w c d W) {r : Option Nat} (hg : W.grownBy W' r) (hr : ∀ k, r = some k → w.heap.size ≤ k) : Cw w c d W' := by
  have hlt := h.2.2
  have hlt' := h.lt
  obtain ⟨⟨s, hs⟩, hgr, hl⟩ := h
  refine ⟨⟨s, cur_blocks hs fun k hk => hg.block k (by omega) (fun e => by have := hr k e.symm; omega)⟩, ⟨hg.os.trans hgr.os, hg.tape.trans hgr.tape, hg.output.trans hgr.output, Nat.le_trans hgr.size hg.size, fun i hi hn => (hg.block i (Nat.lt_of_lt_of_le hi hgr.size) (fun e => by have := hr i e.symm; omega)).trans (hgr.block i hi hn)⟩, hl⟩
theorem ok_wf {cs : List Dat} (h : okC cs) (hn : cs.length ≤ 1000) : ∀ d ∈ cs, d.wf := by
  intro d hd
  have hs := ok_size h d hd
  obtain ⟨i, hi⟩ := List.mem_iff_getElem?.1 hd
  have hlt := (List.getElem?_eq_some_iff.1 hi).1
  rcases h i d hi with ⟨k, _, n1, n2, l, r⟩ | ⟨k, _, n, l, r⟩ | ⟨k, _, n, l, r⟩ | ⟨k, _, n, l, r⟩ | ⟨k, _, n, l1, l2, r1, r2⟩
  all_goals
    refine ⟨⟨?_, ?_⟩, ⟨?_, ?_⟩, ⟨?_, ?_⟩, ⟨?_, ?_⟩, ?_⟩ <;> omega
theorem Cw.self {w W : World} {c : Nat} {d : Code1} (h : Cw w c d W) : Cw W c d W := ⟨h.1, grownBy_refl _ _, h.lt⟩
theorem Cw.trans {w W W' : World} {c : Nat} {d : Code1} (h : Cw w c d W) (g : Cw W c d W') : Cw w c d W' := ⟨g.1, grownBy_trans h.2.1 g.2.1, h.2.2⟩
theorem Cw.blk {w W : World} {c : Nat} {d : Code1} (h : Cw w c d W) {k : Nat} {o : Obj} (hk : w.heap[k]? = some o) (hc : k ≠ c) : W.heap[k]? = some o := (h.2.1.block k (Array.getElem?_eq_some_iff.1 hk).1 (fun e => hc (Option.some.inj e))).trans hk
theorem info28s : (Tryd.prog.info? 28).map (·.size) = some 2 := by kernel_rfl
/-- The result's block laid and handed back. -/
theorem ret28 {fn : Func} {p : Tmp} {W : World} {g : Nat} {x0 x1 : Value} {tmps : Array Value} (hf : fn.results = #[.cell p 28]) (hp : tmps.getD p undef = .pointer (some ⟨g, 0, none⟩)) (v0 v1 : Value) (h : W.heap[g]? = some (.cells #[x0, x1] 28 (0, 0))) :
    (results fn tmps).run Tryd.prog ((W.setCell ⟨g, 0, none⟩ v0).setCell ⟨g, 1, none⟩ v1) = .ok (.agg #[v0, v1]) ((W.setCell ⟨g, 0, none⟩ v0).setCell ⟨g, 1, none⟩ v1) :=
  results_cell_row hf _ _ g 28 #[v0, v1] (0, 0) _ hp (heap_setCell_same _ _ 1 _ _ v1 (heap_setCell_same _ _ 0 _ _ v0 h)) Tryd.underlying28 rfl info28s
theorem RowD.off {w w' : World} {a : Option Addr} {cs : List Dat} {x : Nat} (h : RowD w w.heap.size a cs) (hs : w'.heap.size = w.heap.size) (hk : ∀ b, b ≠ x → w'.heap[b]? = w.heap[b]?) (ha : ∀ b o, a = some ⟨b, o, none⟩ → b ≠ x) : RowD w' w'.heap.size a cs := by
  intro i d hd
  obtain ⟨b, o, h1, h2, h3⟩ := h i d hd
  exact ⟨b, o, h1, by omega, h3.block (hk b (ha b o h1))⟩
theorem RowI.off {w w' : World} {a : Option Addr} {ts : List Int} {x : Nat} (h : RowI w w.heap.size a ts) (hs : w'.heap.size = w.heap.size) (hk : ∀ b, b ≠ x → w'.heap[b]? = w.heap[b]?) (ha : ∀ b o, a = some ⟨b, o, none⟩ → b ≠ x) : RowI w' w'.heap.size a ts := by
  intro i d hd
  obtain ⟨b, o, h1, h2, h3⟩ := h i d hd
  exact ⟨b, o, h1, by omega, (World.cell?_of_block (a := ⟨b, o + i, none⟩) (hk b (ha b o h1))).trans h3⟩
/-- Data that are handed back by way of the block R. -/
theorem dt_ret {W : World} {R : Nat} {a b : Option Addr} {ca cb : Nat} {cs : List Dat} {ts : List Int} (h1 : RowD W W.heap.size a cs) (h2 : RowI W W.heap.size b ts) (ha : ∀ x o, a = some ⟨x, o, none⟩ → x ≠ R) (hb : ∀ x o, b = some ⟨x, o, none⟩ → x ≠ R) (hw : ∀ d ∈ cs, d.wf) (hk : bulkD cs + ts.length ≤ 1048576) : DtW ((W.setCell ⟨R, 0, none⟩ (.slice a cs.length ca)).setCell ⟨R, 1, none⟩ (.slice b ts.length cb)) (.agg #[.slice a cs.length ca, .slice b ts.length cb]) := by
  have ot : ∀ x, x ≠ R → ((W.setCell ⟨R, 0, none⟩ (.slice a cs.length ca)).setCell ⟨R, 1, none⟩ (.slice b ts.length cb)).heap[x]? = W.heap[x]? := fun x hx => (heap_setCell_other _ _ _ _ hx).trans (heap_setCell_other _ _ _ _ hx)
  exact ⟨a, b, ca, cb, cs, ts, rfl, RowD.off h1 (by simp) ot ha, RowI.off h2 (by simp) ot hb, hw, hk⟩
/-- The cells of a datum. -/
def vd (d : Dat) : Nat → Value
  | 0 => .int .i64 d.k
  | 1 => .int .i64 d.n
  | 2 => .string d.s
  | 3 => .int .i64 d.l
  | _ => .int .i64 d.r
def ArrD (X : Array Value) (cs : List Dat) : Prop := ∀ (i : Nat) (d : Dat), cs[i]? = some d → ∀ j, j < 5 → X[i * 5 + j]? = some (vd d j)
theorem arr_of {cur : Array Value} {cs : List Dat} {n : Nat} (h : List.take n cur.toList = flatD cs) : ArrD cur cs := by
  intro i d hd j hj
  obtain ⟨f0, f1, f2, f3, f4⟩ := flatD_get cs i d hd
  match j, hj with
  | 0, _ => exact take_get h f0
  | 1, _ => exact take_get h f1
  | 2, _ => exact take_get h f2
  | 3, _ => exact take_get h f3
  | 4, _ => exact take_get h f4
theorem arr_row {W : World} {g : Nat} {X : Array Value} {cs : List Dat} (hb : W.heap[g]? = some (.cells X 67 (0, 0))) (h : ArrD X cs) : RowD W W.heap.size (some ⟨g, 0, none⟩) cs := by
  intro i d hd
  refine ⟨g, 0, rfl, (Array.getElem?_eq_some_iff.1 hb).1, ?_⟩
  rw [Nat.zero_add]
  exact ⟨cell_blk hb (h i d hd 0 (by omega)), cell_blk hb (h i d hd 1 (by omega)), cell_blk hb (h i d hd 2 (by omega)), cell_blk hb (h i d hd 3 (by omega)), cell_blk hb (h i d hd 4 (by omega))⟩
theorem arr_set {X : Array Value} {cs : List Dat} {k j : Nat} {d d' : Dat} (h : ArrD X cs) (hk : cs[k]? = some d) (hj : j < 5) (ho : ∀ i, i < 5 → i ≠ j → vd d' i = vd d i) : ArrD (X.setIfInBounds (k * 5 + j) (vd d' j)) (cs.set k d') := by
  intro i e he i2 hi2
  have hsz : k * 5 + j < X.size := (Array.getElem?_eq_some_iff.1 (h k d hk j hj)).1
  rw [List.getElem?_set] at he
  rw [Array.getElem?_setIfInBounds]
  by_cases hik : k = i
  · subst hik
    have hlt := (List.getElem?_eq_some_iff.1 hk).1
    rw [if_pos rfl, if_pos hlt] at he
    obtain rfl := Option.some.inj he
    by_cases hjj : j = i2
    · subst hjj
      rw [if_pos rfl, if_pos hsz]
    · rw [if_neg (by omega), h k d hk i2 hi2, ho i2 hi2 (fun e => hjj e.symm)]
  · rw [if_neg hik] at he
    rw [if_neg (by omega)]
    exact h i e he i2 hi2
theorem pick_drew (L : List ByteArray) (w : World) (c : Nat) (d : Code1) (g cap : Nat) (W : World) (h : Cw w c d W) (hg : g = W.heap.size) (hL : 0 < L.length) (hL2 : L.length ≤ 256) (arr : Array Value) (harr : arr = (L.map Value.string).toArray) (hsz : ∀ x ∈ L, x.size ≤ 40) : Calls Tryd.prog 48 #[.pointer (some ⟨c, 0, none⟩), .slice (some ⟨g, 0, none⟩) L.length cap] (W.alloc (.cells arr 9)).drew fun e W' => ∃ t, e = .returned (.string t) ∧ t.size ≤ 40 ∧ Cw w c d W' :=
  pick_cw L w c d g cap W.drew (h.drew 1) hg hL hL2 arr harr hsz
def L4 : List ByteArray := [⟨#[97, 32, 98]⟩, ⟨#[]⟩, ⟨#[55]⟩, ⟨#[120]⟩]
theorem wrapI (y : Int) (h1 : -1000000000 ≤ y) (h2 : y ≤ 1000000000) : IntKind.i64.wrap y = y := by
  simp [IntKind.wrap, IntKind.bits, IntKind.signed]
  omega
theorem vd_k (d : Dat) (x : Int) : ∀ i, i < 5 → i ≠ 0 → vd { d with k := x } i = vd d i := by
  intro i hi hn
  match i, hi with
  | 0, _ => exact absurd rfl hn
  | 1, _ => rfl
  | 2, _ => rfl
  | 3, _ => rfl
  | 4, _ => rfl
theorem vd_n (d : Dat) (x : Int) : ∀ i, i < 5 → i ≠ 1 → vd { d with n := x } i = vd d i := by
  intro i hi hn
  match i, hi with
  | 0, _ => rfl
  | 1, _ => exact absurd rfl hn
  | 2, _ => rfl
  | 3, _ => rfl
  | 4, _ => rfl
theorem vd_s (d : Dat) (x : ByteArray) : ∀ i, i < 5 → i ≠ 2 → vd { d with s := x } i = vd d i := by
  intro i hi hn
  match i, hi with
  | 0, _ => rfl
  | 1, _ => rfl
  | 2, _ => exact absurd rfl hn
  | 3, _ => rfl
  | 4, _ => rfl
theorem vd_l (d : Dat) (x : Int) : ∀ i, i < 5 → i ≠ 3 → vd { d with l := x } i = vd d i := by
  intro i hi hn
  match i, hi with
  | 0, _ => rfl
  | 1, _ => rfl
  | 2, _ => rfl
  | 3, _ => exact absurd rfl hn
  | 4, _ => rfl
theorem bulk_le' : ∀ (cs : List Dat), (∀ d ∈ cs, d.s.size ≤ 40) → bulkD cs ≤ 41 * cs.length
  | [], _ => by simp [bulkD]
  | d :: cs, h => by
    have h1 := h d (by simp)
    have h2 := bulk_le' cs fun x hx => h x (by simp [hx])
    simp only [bulkD, List.length_cons]
    omega
/-- One cell of the row is another one: handed back. -/
theorem dt_mod {w v2 W6 : World} {c R g k j ca cb : Nat} {d : Code1} {b : Option Addr} {cs : List Dat} {ts : List Int} {cur : Array Value} {dk d' : Dat} (H2 : Cw w c d v2) (h6 : Cw v2 c d W6) (g6 : W6.heap[g]? = some (.cells cur 67 (0, 0))) (i6 : RowI W6 W6.heap.size b ts) (hb : ∀ x o, b = some ⟨x, o, none⟩ → x ≠ g ∧ x ≠ R) (harr : ArrD cur cs) (hdk : cs[k]? = some dk) (hj : j < 5) (ho : ∀ i, i < 5 → i ≠ j → vd d' i = vd dk i) (hgR : ¬ g = R) (hw : ∀ x ∈ cs.set k d', x.wf) (hbk : bulkD (cs.set k d') + ts.length ≤ 1048576) (hgw : w.heap.size ≤ g) (hRw : w.heap.size ≤ R) :
    DtW (((W6.setCell ⟨g, k * 5 + j, none⟩ (vd d' j)).setCell ⟨R, 0, none⟩ (.slice (some ⟨g, 0, none⟩) cs.length ca)).setCell ⟨R, 1, none⟩ (.slice b ts.length cb)) (.agg #[.slice (some ⟨g, 0, none⟩) cs.length ca, .slice b ts.length cb]) ∧ Cw w c d (((W6.setCell ⟨g, k * 5 + j, none⟩ (vd d' j)).setCell ⟨R, 0, none⟩ (.slice (some ⟨g, 0, none⟩) cs.length ca)).setCell ⟨R, 1, none⟩ (.slice b ts.length cb)) := by
  have hl : (cs.set k d').length = cs.length := List.length_set
  have hr : RowD (W6.setCell ⟨g, k * 5 + j, none⟩ (vd d' j)) (W6.setCell ⟨g, k * 5 + j, none⟩ (vd d' j)).heap.size (some ⟨g, 0, none⟩) (cs.set k d') := arr_row (heap_setCell_same _ _ _ _ _ _ g6) (arr_set harr hdk hj ho)
  have hi : RowI (W6.setCell ⟨g, k * 5 + j, none⟩ (vd d' j)) (W6.setCell ⟨g, k * 5 + j, none⟩ (vd d' j)).heap.size b ts := RowI.off i6 (by simp) (fun x hx => heap_setCell_other _ _ _ _ hx) (fun x o e => (hb x o e).1)
  have h := dt_ret (R := R) (ca := ca) (cb := cb) hr hi (fun x o e => by injection e with e; injection e with e; rw [← e]; exact hgR) (fun x o e => (hb x o e).2) hw hbk
  rw [hl] at h
  exact ⟨h, (((H2.trans h6).set hgw _).set hRw _).set hRw _⟩
set_option maxRecDepth 100000 in
set_option maxHeartbeats 2000000 in
theorem data_cw (w : World) (c : Nat) (d : Code1) (m : Nat) (hm : m ≤ 5) (W : World) (h : Cw w c d W) : Calls Tryd.prog 33 #[.pointer (some ⟨c, 0, none⟩), .int .i64 (m : Int)] W fun e W' => ∃ v, e = .returned v ∧ DtW W' v ∧ Cw w c d W' := by
  obtain ⟨W0, hW0⟩ : ∃ W0, W0 = W.alloc (Obj.cells #[Value.slice none 0 0, Value.slice none 0 0] 28) := ⟨_, rfl⟩
  have h0 : Cw w c d W0 := by rw [hW0]; exact h.alloc _
  have k0 : W0.heap[W.heap.size]? = some (Obj.cells #[Value.slice none 0 0, Value.slice none 0 0] 28) := by rw [hW0]; exact blk_at _ _ _ rfl
  have hRc : W.heap.size ≠ c := by have := h.lt; omega
  have hRw : w.heap.size ≤ W.heap.size := h.2.1.size
  have H0 : Hid (Cw w c d W0) := h0
  have K0 : Hid (W0.heap[W.heap.size]? = some (Obj.cells #[Value.slice none 0 0, Value.slice none 0 0] 28)) := k0
  have HW0 : Hid (W0 = W.alloc (Obj.cells #[Value.slice none 0 0, Value.slice none 0 0] 28)) := hW0
  obtain ⟨R, hR⟩ : ∃ R, R = W.heap.size := ⟨_, rfl⟩
  have HRR : Hid (R = W.heap.size) := hR
  rw [← hR] at hRc hRw K0
  clear h h0 k0 hW0 hR
  go_enter Tryd.func33, Tryd.ntmps33
  go_wp2_with fail
  rw [← HW0.out, ← HRR.out]
  clear HW0 HRR
  refine (text_cw W0 c d m hm _ H0.out.self).mono ?_
  rintro e W1 ⟨t, rfl, ht, h1⟩
  obtain ⟨cs, ts, p, hts, hrd, _, hcase⟩ := reads_all t (by omega)
  have hokc : okC cs ∧ cs.length ≤ 1000 ∧ ts.length ≤ 20000 := by
    rcases hcase with ⟨_, g1, g2, g3, _⟩ | ⟨_, _, g1, g2⟩
    · exact ⟨g1, g2, by omega⟩
    · rw [g1, g2]
      exact ⟨fun i d hd => by simp at hd, by simp, by simp⟩
  have HOK : Hid (okC cs ∧ cs.length ≤ 1000 ∧ ts.length ≤ 20000) := hokc
  have hcl : cs.length ≤ 1000 := hokc.2.1
  have htl : ts.length ≤ 20000 := hokc.2.2
  have HRD : Hid (Calls Tryd.prog 9 #[.string t] W1 fun e w' => RdO cs ts p W1 e w') := hrd W1
  have H1 : Hid (Cw w c d W1) := H0.out.trans h1
  have K1 : Hid (W1.heap[R]? = some (Obj.cells #[Value.slice none 0 0, Value.slice none 0 0] 28)) := h1.blk K0.out hRc
  clear hokc hcase hrd h1 H0 K0 ht
  go_wp2_with fail
  refine HRD.out.mono ?_
  rintro e W2 ⟨a, b, ca, cb, rfl, o2, i2, hb2, _⟩
  clear HRD
  obtain ⟨v2, hv2⟩ : ∃ v2, v2 = W2.alloc (Obj.cells #[Value.slice a cs.length ca, Value.slice b ts.length cb] 28) := ⟨_, rfl⟩
  have hbv : Below W2.heap.size W2 v2 := by rw [hv2]; exact (Below.refl _ _).alloc (Nat.le_refl _) _
  have kd : v2.heap[W2.heap.size]? = some (Obj.cells #[Value.slice a cs.length ca, Value.slice b ts.length cb] 28) := by rw [hv2]; exact blk_at _ _ _ rfl
  have hz2 := hb2.size
  have hB2 : Below W1.heap.size W1 v2 := hb2.trans (hbv.mono hz2)
  have H2 : Hid (Cw w c d v2) := H1.out.below hB2
  have k2 : v2.heap[R]? = some (Obj.cells #[Value.slice none 0 0, Value.slice none 0 0] 28) := (hB2.block _ (Array.getElem?_eq_some_iff.1 K1.out).1).trans K1.out
  have hR1 := (Array.getElem?_eq_some_iff.1 K1.out).1
  have hc1 := H1.out.lt
  have O2 : Hid (v2.ownsRow W1.heap.size 67 5 (.slice a cs.length ca) cs.length (flatD cs)) := own_other o2 fun x hx => hbv.block x (o2.lt _ hx).2
  have I2 : Hid (v2.ownsRow W1.heap.size 3 1 (.slice b ts.length cb) ts.length (ts.map (Value.int .i64 ·))) := own_other i2 fun x hx => hbv.block x (i2.lt _ hx).2
  obtain ⟨D, hD⟩ : ∃ D, D = W2.heap.size := ⟨_, rfl⟩
  have HDD : Hid (D = W2.heap.size) := hD
  rw [← hD] at kd
  have hDc : D ≠ c := by omega
  have hDR : ¬ D = R := by omega
  have hRD : ¬ R = D := by omega
  have HD1 : Hid (W1.heap.size ≤ D) := by show _ ≤ _; omega
  have K2 : Hid (v2.heap[R]? = some (Obj.cells #[Value.slice none 0 0, Value.slice none 0 0] 28)) := k2
  have KD : Hid (v2.heap[D]? = some (Obj.cells #[Value.slice a cs.length ca, Value.slice b ts.length cb] 28)) := kd
  have HV2 : Hid (v2 = W2.alloc (Obj.cells #[Value.slice a cs.length ca, Value.slice b ts.length cb] 28)) := hv2
  have HaR : Hid (∀ x o, a = some ⟨x, o, none⟩ → W1.heap.size ≤ x) := fun x o e => (O2.out.lt x (by rw [e]; rfl)).1
  have HbR : Hid (∀ x o, b = some ⟨x, o, none⟩ → W1.heap.size ≤ x) := fun x o e => (I2.out.lt x (by rw [e]; rfl)).1
  have HBK : Hid (bulkD cs + ts.length ≤ 1048576) := by
    show _ ≤ _
    have := bulk_le cs (ok_size HOK.out.1)
    omega
  -- the facts of the cells, in the world that the walk shows
  have e0 := cell_blk (j := 0) k2 rfl
  have e1 := cell_blk (j := 1) k2 rfl
  have f0 := frozen_blk k2 0
  have f1 := frozen_blk k2 1
  have z0 := cell_blk (j := 0) kd rfl
  have z1 := cell_blk (j := 1) kd rfl
  by_cases hcs : cs.length = 0
  · have hq : ((cs.length : Int) == 0) = true := by rw [hcs]; rfl
    have HCS : Hid (cs.length = 0) := hcs
    rw [hv2] at e0 e1 f0 f1
    clear o2 i2 hb2 hv2 hbv kd hB2 k2 z0 z1 hD hcs
    go_wp2
    rw [← HV2.out]
    refine bodyPost_ret (ret28 rfl rfl _ _ K2.out) rfl ?_
    exact ⟨_, rfl, dt_ret (own_rowD O2.out) (own_rowI I2.out) (fun x o e => by have := HaR.out x o e; omega) (fun x o e => by have := HbR.out x o e; omega) (ok_wf HOK.out.1 HOK.out.2.1) HBK.out, (H2.out.set hRw _).set hRw _⟩
  · have hq : ((cs.length : Int) == 0) = false := by rw [beq_eq_false_iff_ne]; omega
    have HON : Hid (Calls Tryd.prog 22 #[.pointer (some ⟨c, 0, none⟩), .int .i64 6] v2 fun e W' => ∃ b : Bool, e = .returned (.bool b) ∧ Cw v2 c d W') := once_cw v2 c d 6 v2 H2.out.self (by decide) (by decide)
    clear o2 i2 hb2 hbv kd hB2 k2 z0 z1 e0 e1 f0 f1 hv2
    go_wp2_with fail
    rw [← HV2.out, ← HDD.out]
    clear HV2 HDD hD
    refine HON.out.mono ?_
    rintro e W3 ⟨b3, rfl, h3⟩
    have H3 : Hid (Cw v2 c d W3) := h3
    have k3 := h3.blk K2.out hRc
    have d3 := h3.blk KD.out hDc
    have e0 := cell_blk (j := 0) k3 rfl
    have e1 := cell_blk (j := 1) k3 rfl
    have f0 := frozen_blk k3 0
    have f1 := frozen_blk k3 1
    have z0 := cell_blk (j := 0) d3 rfl
    have z1 := cell_blk (j := 1) d3 rfl
    have K3 : Hid (W3.heap[R]? = some (Obj.cells #[Value.slice none 0 0, Value.slice none 0 0] 28)) := k3
    clear h3 HON d3 k3
    cases b3 with
    | false =>
      go_wp2
      refine bodyPost_ret (ret28 rfl rfl _ _ K3.out) rfl ?_
      have hrow : ∀ x, W1.heap.size ≤ x → x < v2.heap.size → W3.heap[x]? = v2.heap[x]? := fun x h1 h2 => H3.out.2.1.block x h2 (fun e => by have := Option.some.inj e; omega)
      have O3 := own_other O2.out fun x hx => hrow x (O2.out.lt _ hx).1 (O2.out.lt _ hx).2
      have I3 := own_other I2.out fun x hx => hrow x (I2.out.lt _ hx).1 (I2.out.lt _ hx).2
      exact ⟨_, rfl, dt_ret (own_rowD O3) (own_rowI I3) (fun x o e => by have := HaR.out x o e; omega) (fun x o e => by have := HbR.out x o e; omega) (ok_wf HOK.out.1 HOK.out.2.1) HBK.out, ((H2.out.trans H3.out).set hRw _).set hRw _⟩
    | true =>
      clear e0 e1 f0 f1 K3
      obtain ⟨g, cap, cur, hav, hg1, hgb, hg3, hg4, hg5, hg6⟩ : ∃ g cap cur, Value.slice a cs.length ca = .slice (some ⟨g, 0, none⟩) cs.length cap ∧ W1.heap.size ≤ g ∧ v2.heap[g]? = some (.cells cur 67 (0, 0)) ∧ cs.length ≤ cap ∧ cap ≤ maxLen ∧ cur.size = cap * 5 ∧ List.take (cs.length * 5) cur.toList = flatD cs := by
        rcases O2.out.2 with ⟨_, h0⟩ | ⟨g, cap, cur, h⟩
        · exact absurd h0 hcs
        · exact ⟨g, cap, cur, h⟩
      injection hav with ha1 _ ha3
      subst ha1
      subst ha3
      have HARR : Hid (ArrD cur cs) := arr_of hg6
      have KG : Hid (v2.heap[g]? = some (.cells cur 67 (0, 0))) := hgb
      have hgc : g ≠ c := by omega
      have hgR : ¬ g = R := by omega
      have hgD : ¬ g = D := by
        rintro rfl
        have := KD.out.symm.trans hgb
        simp at this
      have hDg : ¬ D = g := fun e => hgD e.symm
      have hRg : ¬ R = g := fun e => hgR e.symm
      clear hg6 hgb
      have HKB : Hid (Calls Tryd.prog 46 #[.pointer (some ⟨c, 0, none⟩), .int .i64 (cs.length : Int)] W3 fun e W' => ∃ k : Nat, e = .returned (.int .i64 (k : Int)) ∧ k < cs.length ∧ Cw v2 c d W') := below_cw v2 c d cs.length W3 H3.out (by omega) (by omega)
      go_wp2_with fail
      refine HKB.out.mono ?_
      rintro e W4 ⟨k, rfl, hk, h4⟩
      clear HKB H3 z0 z1
      go_wp2_with fail
      refine (below_cw v2 c d 5 W4 h4 (by decide) (by decide)).mono ?_
      rintro e W5 ⟨q, rfl, hq5, h5⟩
      clear h4
      have hki : (k : Int) < (cs.length : Int) := by omega
      obtain ⟨dk, hdk⟩ : ∃ dk, cs[k]? = some dk := ⟨_, List.getElem?_eq_getElem hk⟩
      have HDK : Hid (cs[k]? = some dk) := hdk
      have hwk := ok_wf HOK.out.1 HOK.out.2.1 dk (List.mem_of_getElem? hdk)
      have HWK : Hid dk.wf := hwk
      have hks : k * 5 + 5 ≤ cur.size := by rw [hg5]; omega
      have H5 : Hid (Cw v2 c d W5) := h5
      -- what stands in any world that the draws leave
      have HST : Hid (∀ W', Cw v2 c d W' → W'.heap[D]? = some (Obj.cells #[Value.slice (some ⟨g, 0, none⟩) cs.length ca, Value.slice b ts.length cb] 28) ∧ W'.heap[R]? = some (Obj.cells #[Value.slice none 0 0, Value.slice none 0 0] 28) ∧ W'.heap[g]? = some (.cells cur 67 (0, 0)) ∧ RowI W' W'.heap.size b ts) := fun W' hW' => ⟨hW'.blk KD.out hDc, hW'.blk K2.out hRc, hW'.blk KG.out hgc, own_rowI (own_other I2.out fun x hx => hW'.2.1.block x (I2.out.lt _ hx).2 (fun e => by have := Option.some.inj e; have := (I2.out.lt _ hx).1; omega))⟩
      have HSM : Hid (∀ d' : Dat, d'.wf → d'.s.size ≤ 40 → (∀ x ∈ cs.set k d', x.wf) ∧ bulkD (cs.set k d') + ts.length ≤ 1048576) := fun d' h1 h2 => by
        refine ⟨fun x hx => ?_, ?_⟩
        · rcases List.mem_or_eq_of_mem_set hx with hx | rfl
          · exact ok_wf HOK.out.1 HOK.out.2.1 x hx
          · exact h1
        · have := bulk_le' (cs.set k d') fun x hx => by
            rcases List.mem_or_eq_of_mem_set hx with hx | rfl
            · have := ok_size HOK.out.1 x hx
              omega
            · exact h2
          rw [List.length_set] at this
          omega
      have hskz := ok_size HOK.out.1 dk (List.mem_of_getElem? hdk)
      have HBG : Hid (∀ x o, b = some ⟨x, o, none⟩ → x ≠ g ∧ x ≠ R) := fun x o e => by
        refine ⟨?_, by have := HbR.out x o e; omega⟩
        rintro rfl
        obtain ⟨_, cur', hc'⟩ := T3.blk (w := W1) (v := .slice b ts.length cb) I2.out (by rw [e]; rfl)
        have := KG.out.symm.trans hc'
        simp at this
      clear h5 hdk hwk
      have hqs : q = 0 ∨ q = 1 ∨ q = 2 ∨ q = 3 ∨ q = 4 := by omega
      clear hq5
      obtain ⟨d5, r5, g5, _⟩ := HST.out W5 H5.out
      have z0 := cell_blk (j := 0) d5 rfl
      have z1 := cell_blk (j := 1) d5 rfl
      rcases hqs with rfl | rfl | rfl | rfl | rfl
      · clear d5 r5 g5
        go_wp2_with fail
        go_region_with (go_at_call 46; refine (below_cw v2 c d 7 _ ?_ (by decide) (by decide)).mono ?_; exact H5.out.drew _; rintro e W6 ⟨x, rfl, hx, h6⟩; obtain ⟨d6, r6, g6, i6⟩ := HST.out W6 h6; have y0 := cell_blk (j := 0) d6 rfl; have y1 := cell_blk (j := 1) d6 rfl; obtain ⟨u0, w0⟩ := cell_blk' g6 (k * 5) (by omega); have p0 := frozen_blk g6 (k * 5))
        all_goals
          have D7 : (W6.setCell ⟨g, k * 5, none⟩ (.int .i64 (x : Int))).heap[D]? = some (Obj.cells #[Value.slice (some ⟨g, 0, none⟩) cs.length ca, Value.slice b ts.length cb] 28) := (heap_setCell_other _ _ _ _ hDg).trans d6
          have R7 : (W6.setCell ⟨g, k * 5, none⟩ (.int .i64 (x : Int))).heap[R]? = some (Obj.cells #[Value.slice none 0 0, Value.slice none 0 0] 28) := (heap_setCell_other _ _ _ _ hRg).trans r6
          have a0 := cell_blk (j := 0) D7 rfl
          have a1 := cell_blk (j := 1) D7 rfl
          have b0 := cell_blk (j := 0) R7 rfl
          have b1 := cell_blk (j := 1) R7 rfl
          have c0 := frozen_blk R7 0
          have c1 := frozen_blk R7 1
          have HR7 : Hid _ := R7
          have HFIN := dt_mod (w := w) (j := 0) (ca := ca) (cb := cb) (d' := { dk with k := (x : Int) }) H2.out h6 g6 i6 HBG.out HARR.out HDK.out (by decide) (vd_k dk _) hgR (HSM.out { dk with k := (x : Int) } (⟨⟨by show (-9223372036854775808 : Int) ≤ x; omega, by show (x : Int) ≤ 9223372036854775807; omega⟩, HWK.out.2⟩) (by show dk.s.size ≤ 40; omega)).1 (HSM.out { dk with k := (x : Int) } (⟨⟨by show (-9223372036854775808 : Int) ≤ x; omega, by show (x : Int) ≤ 9223372036854775807; omega⟩, HWK.out.2⟩) (by show dk.s.size ≤ 40; omega)).2 (by have := H2.out.2.1.size; have := H1.out.2.1.size; omega) hRw
          have HFF : Hid _ := HFIN
          clear D7 R7 HFIN d6 r6 g6 i6 h6 y0 y1
          go_wp2
          refine bodyPost_ret (ret28 rfl rfl _ _ HR7.out) rfl ?_
          exact ⟨_, rfl, HFF.out⟩
      · obtain ⟨_, _, _, i5⟩ := HST.out W5 H5.out
        have hn5 := cell_blk (j := k * 5 + 1) g5 (HARR.out k dk HDK.out 1 (by decide))
        have q5 := frozen_blk g5 (k * 5 + 1)
        simp only [vd] at hn5
        have hnb := HWK.out.2.1
        go_wp2_with fail
        go_region
        have hnk : -1000000 ≤ dk.n ∧ dk.n ≤ 1000000 := by
          rcases HOK.out.1 k dk HDK.out with ⟨_, _, n1, n2, _⟩ | ⟨_, _, n1, _⟩ | ⟨_, _, n1, _⟩ | ⟨_, _, n1, _⟩ | ⟨_, _, n1, _⟩ <;> omega
        have hwn : wrap64 (dk.n + 1) = dk.n + 1 := by
          unfold wrap64
          omega
        rw [hwn]
        obtain ⟨W7, hW7⟩ : ∃ W7, W7 = (W5.setCell ⟨g, k * 5 + 1, none⟩ (.int .i64 (dk.n + 1))).drew := ⟨_, rfl⟩
        have D7 : W7.heap[D]? = some (Obj.cells #[Value.slice (some ⟨g, 0, none⟩) cs.length ca, Value.slice b ts.length cb] 28) := by rw [hW7]; exact (heap_setCell_other _ _ _ _ hDg).trans d5
        have R7 : W7.heap[R]? = some (Obj.cells #[Value.slice none 0 0, Value.slice none 0 0] 28) := by rw [hW7]; exact (heap_setCell_other _ _ _ _ hRg).trans r5
        have C7 : Cw w c d W7 := by rw [hW7]; exact ((H2.out.trans H5.out).set (by have := H2.out.2.1.size; have := H1.out.2.1.size; omega) _).drew 1
        have G7 : W7.heap[g]? = some (.cells (cur.setIfInBounds (k * 5 + 1) (vd { dk with n := dk.n + 1 } 1)) 67 (0, 0)) := by rw [hW7]; exact heap_setCell_same _ _ _ _ _ _ g5
        have S7 : W7.heap.size = W5.heap.size := by rw [hW7]; simp
        have I7 : RowI W7 W7.heap.size b ts := RowI.off i5 S7 (fun x hx => by rw [hW7]; exact heap_setCell_other _ _ _ _ hx) (fun x o e => (HBG.out x o e).1)
        have RD7 := arr_row G7 (arr_set (d' := { dk with n := dk.n + 1 }) HARR.out HDK.out (by decide) (vd_n dk _))
        have hsm := HSM.out { dk with n := dk.n + 1 } ⟨HWK.out.1, ⟨by show (-9223372036854775808 : Int) ≤ dk.n + 1; omega, by show dk.n + 1 ≤ 9223372036854775807; omega⟩, HWK.out.2.2⟩ (by show dk.s.size ≤ 40; omega)
        have hfin := dt_ret (R := R) (ca := ca) (cb := cb) RD7 I7 (fun x o e => by injection e with e; injection e with e; rw [← e]; exact hgR) (fun x o e => (HBG.out x o e).2) hsm.1 hsm.2
        rw [List.length_set] at hfin
        have HFIN : Hid _ := hfin
        have HC7 : Hid (Cw w c d W7) := C7
        have HR7 : Hid (W7.heap[R]? = some (Obj.cells #[Value.slice none 0 0, Value.slice none 0 0] 28)) := R7
        have a0 := cell_blk (j := 0) D7 rfl
        have a1 := cell_blk (j := 1) D7 rfl
        have b0 := cell_blk (j := 0) R7 rfl
        have b1 := cell_blk (j := 1) R7 rfl
        have c0 := frozen_blk R7 0
        have c1 := frozen_blk R7 1
        rw [← hW7]
        clear hfin C7 D7 R7 G7 I7 RD7 hW7 d5 r5 g5 i5 z0 z1 hn5 q5 S7
        go_wp2
        refine bodyPost_ret (ret28 rfl rfl _ _ HR7.out) rfl ?_
        exact ⟨_, rfl, HFIN.out, (HC7.out.set hRw _).set hRw _⟩
      · clear d5 r5 g5
        go_wp2_with fail
        go_region_with (go_at_call 46; refine (below_cw v2 c d 5 _ ?_ (by decide) (by decide)).mono ?_; exact H5.out.drew _; rintro e W6 ⟨x, rfl, hx, h6⟩; obtain ⟨d6, r6, g6, i6⟩ := HST.out W6 h6; have y0 := cell_blk (j := 0) d6 rfl; have y1 := cell_blk (j := 1) d6 rfl; obtain ⟨u0, w0⟩ := cell_blk' g6 (k * 5 + 3) (by omega); have p0 := frozen_blk g6 (k * 5 + 3))
        all_goals
          rw [wrapI ((x : Int) - 1) (by omega) (by omega)]
          have D7 : (W6.setCell ⟨g, k * 5 + 3, none⟩ (.int .i64 ((x : Int) - 1))).heap[D]? = some (Obj.cells #[Value.slice (some ⟨g, 0, none⟩) cs.length ca, Value.slice b ts.length cb] 28) := (heap_setCell_other _ _ _ _ hDg).trans d6
          have R7 : (W6.setCell ⟨g, k * 5 + 3, none⟩ (.int .i64 ((x : Int) - 1))).heap[R]? = some (Obj.cells #[Value.slice none 0 0, Value.slice none 0 0] 28) := (heap_setCell_other _ _ _ _ hRg).trans r6
          have a0 := cell_blk (j := 0) D7 rfl
          have a1 := cell_blk (j := 1) D7 rfl
          have b0 := cell_blk (j := 0) R7 rfl
          have b1 := cell_blk (j := 1) R7 rfl
          have c0 := frozen_blk R7 0
          have c1 := frozen_blk R7 1
          have HR7 : Hid _ := R7
          have HFIN := dt_mod (w := w) (j := 3) (ca := ca) (cb := cb) (d' := { dk with l := (x : Int) - 1 }) H2.out h6 g6 i6 HBG.out HARR.out HDK.out (by decide) (vd_l dk _) hgR (HSM.out { dk with l := (x : Int) - 1 } (⟨HWK.out.1, HWK.out.2.1, ⟨by show (-9223372036854775808 : Int) ≤ (x : Int) - 1; omega, by show (x : Int) - 1 ≤ 9223372036854775807; omega⟩, HWK.out.2.2.2⟩) (by show dk.s.size ≤ 40; omega)).1 (HSM.out { dk with l := (x : Int) - 1 } (⟨HWK.out.1, HWK.out.2.1, ⟨by show (-9223372036854775808 : Int) ≤ (x : Int) - 1; omega, by show (x : Int) - 1 ≤ 9223372036854775807; omega⟩, HWK.out.2.2.2⟩) (by show dk.s.size ≤ 40; omega)).2 (by have := H2.out.2.1.size; have := H1.out.2.1.size; omega) hRw
          have HFF : Hid _ := HFIN
          clear D7 R7 HFIN d6 r6 g6 i6 h6 y0 y1
          go_wp2
          refine bodyPost_ret (ret28 rfl rfl _ _ HR7.out) rfl ?_
          exact ⟨_, rfl, HFF.out⟩
      · have HOW : Hid (∀ W', Cw v2 c d W' → W'.ownsRow W1.heap.size 3 1 (.slice b ts.length cb) ts.length (ts.map (Value.int .i64 ·))) := fun W' hW' => own_other I2.out fun x hx => hW'.2.1.block x (I2.out.lt _ hx).2 (fun e => by have := Option.some.inj e; have := (I2.out.lt _ hx).1; omega)
        have hvD : (Value.slice b ts.length cb).ownBlock ≠ some D := by
          intro e
          obtain ⟨_, cur', hc'⟩ := T3.blk (w := W1) (v := .slice b ts.length cb) I2.out e
          have := KD.out.symm.trans hc'
          simp at this
        have hvR : (Value.slice b ts.length cb).ownBlock ≠ some R := by
          intro e
          have := (I2.out.lt _ e).1
          omega
        have hvg : (Value.slice b ts.length cb).ownBlock ≠ some g := by
          intro e
          obtain ⟨_, cur', hc'⟩ := T3.blk (w := W1) (v := .slice b ts.length cb) I2.out e
          have := KG.out.symm.trans hc'
          simp at this
        obtain ⟨i3, hi3, hz30, hz31, hz32⟩ := info_parts bldInfo3
        clear g5 d5 r5
        go_wp2_with fail
        go_region_law
          (first
            | (go_simp; go_at_call 46; refine (below_cw v2 c d 6 _ ?_ (by decide) (by decide)).mono ?_; exact H5.out.drew _; rintro e W6 ⟨x, rfl, hx, h6⟩; obtain ⟨d6, r6, g6, i6⟩ := HST.out W6 h6; have y0 := cell_blk (j := 0) d6 rfl; have y1 := cell_blk (j := 1) d6 rfl; have HO6 : Hid (W6.ownsRow W1.heap.size 3 1 (.slice b ts.length cb) ts.length (ts.map (Value.int .i64 ·))) := HOW.out W6 h6; have hD6 := (Array.getElem?_eq_some_iff.1 d6).1; have hs6 : W1.heap.size ≤ W6.heap.size := Nat.le_trans HD1.out (Nat.le_of_lt hD6); have y2 : (W6.alloc (Obj.cells #[Value.int .i64 (IntKind.i64.wrap ((x : Int) - 1))] 3)).cell? ⟨D, 1, none⟩ = some (Value.slice b ts.length cb) := cell_blk (j := 1) (blk_past d6) rfl)
            | (refine step_append_lies _ (by rfl) _ _ _ (by rfl) W1.heap.size 3 i3 _ 1 8 Tryd.underlying26 hi3 hz30 hz31 hz32 rfl (by omega) (.slice b ts.length cb) ts.length (ts.map (Value.int .i64 ·)) (by rfl) (HO6.out.alloc _) ⟨W6.heap.size, 0, none⟩ 1 1 [.int .i64 (IntKind.i64.wrap ((x : Int) - 1))] (by rfl) (by rfl) (World.news_of_block (blk_at _ _ _ rfl)) (by intro u hu; simp at hu; rw [hu]; rfl) (by omega) (by simp [maxLen]; omega) (by omega) (by simp; omega) (W6.heap.size + 1) (by simp) ?_; intro gg cap' w7 hown7 hgrow hat hlt; have d7 := (hgrow.block D (by simp; omega) (Ne.symm hvD)).trans (blk_past d6); have y3 := cell_blk (j := 1) d7 rfl; have y4 := frozen_blk d7 1))
        all_goals
          have hR6 := (Array.getElem?_eq_some_iff.1 r6).1
          have hg6' := (Array.getElem?_eq_some_iff.1 g6).1
          have r7 := (hgrow.block R (by simp; omega) (Ne.symm hvR)).trans (blk_past r6)
          have g7 := (hgrow.block g (by simp; omega) (Ne.symm hvg)).trans (blk_past g6)
          have hggD : gg ≠ D := by
            rcases hat with h | h
            · intro e; exact hvD (by rw [← e]; exact h)
            · omega
          have hggR : gg ≠ R := by
            rcases hat with h | h
            · intro e; exact hvR (by rw [← e]; exact h)
            · omega
          have C7 : Cw w c d w7 := Cw.grown ((H2.out.trans h6).alloc _) hgrow (fun k hk => by have := (I2.out.lt k hk).1; have := H1.out.2.1.size; omega)
          obtain ⟨W8, hW8⟩ : ∃ W8, W8 = w7.setCell ⟨D, 1, none⟩ (Value.slice (some ⟨gg, 0, none⟩) (ts.length + 1) cap') := ⟨_, rfl⟩
          have D8 : W8.heap[D]? = some (Obj.cells #[Value.slice (some ⟨g, 0, none⟩) cs.length ca, Value.slice (some ⟨gg, 0, none⟩) (ts.length + 1) cap'] 28) := by rw [hW8]; exact heap_setCell_same _ _ _ _ _ _ d7
          have R8 : W8.heap[R]? = some (Obj.cells #[Value.slice none 0 0, Value.slice none 0 0] 28) := by rw [hW8]; exact (heap_setCell_other _ _ _ _ hRD).trans r7
          have G8 : W8.heap[g]? = some (.cells cur 67 (0, 0)) := by rw [hW8]; exact (heap_setCell_other _ _ _ _ hgD).trans g7
          have C8 : Cw w c d W8 := by rw [hW8]; exact C7.set (by have := HD1.out; have := H1.out.2.1.size; omega) _
          have hl8 : (ts ++ [(x : Int) - 1]).length = ts.length + 1 := by simp
          have I8 : RowI W8 W8.heap.size (some ⟨gg, 0, none⟩) (ts ++ [(x : Int) - 1]) := by
            refine own_rowI (B := W1.heap.size) (cap := cap') ?_
            rw [hl8, List.map_append, hW8]
            rw [wrapI ((x : Int) - 1) (by omega) (by omega)] at hown7
            exact own_other hown7 fun y hy => heap_setCell_other _ _ _ _ (by rintro rfl; exact hggD (Option.some.inj hy))
          have hsm8 : bulkD cs + (ts ++ [(x : Int) - 1]).length ≤ 1048576 := by
            have := bulk_le' cs fun y hy => by have := ok_size HOK.out.1 y hy; omega
            omega
          have hfin := dt_ret (R := R) (ca := ca) (cb := cap') (arr_row G8 HARR.out) I8 (fun x o e => by injection e with e; injection e with e; rw [← e]; exact hgR) (fun x o e => by injection e with e; injection e with e; rw [← e]; exact hggR) (ok_wf HOK.out.1 HOK.out.2.1) hsm8
          rw [hl8] at hfin
          have HFIN : Hid _ := hfin
          have HC8 : Hid (Cw w c d W8) := C8
          have HR8 : Hid (W8.heap[R]? = some (Obj.cells #[Value.slice none 0 0, Value.slice none 0 0] 28)) := R8
          have a0 := cell_blk (j := 0) D8 rfl
          have a1 := cell_blk (j := 1) D8 rfl
          have b0 := cell_blk (j := 0) R8 rfl
          have b1 := cell_blk (j := 1) R8 rfl
          have c0 := frozen_blk R8 0
          have c1 := frozen_blk R8 1
          rw [← hW8]
          clear hfin C8 C7 D8 R8 G8 I8 hW8 d6 r6 g6 i6 h6 d7 r7 g7 y0 y1 y2 y3 y4 hown7 hgrow hat hlt hsm8
          go_wp2
          refine bodyPost_ret (ret28 rfl rfl _ _ HR8.out) rfl ?_
          exact ⟨_, rfl, HFIN.out, (HC8.out.set hRw _).set hRw _⟩
      · have zA0 : (W5.alloc (Obj.cells #[Value.string ⟨#[97, 32, 98]⟩, Value.string ⟨#[]⟩, Value.string ⟨#[55]⟩, Value.string ⟨#[120]⟩] 9)).cell? ⟨D, 0, none⟩ = some (Value.slice (some ⟨g, 0, none⟩) cs.length ca) := cell_blk (j := 0) (blk_past d5) rfl
        clear d5 r5 g5
        go_wp2_with fail
        go_region_with (go_at_call 48; refine (pick_drew L4 v2 c d _ 4 _ H5.out rfl (by decide) (by decide) _ rfl (by decide)).mono ?_; rintro e W6 ⟨x, rfl, hx, h6⟩; obtain ⟨d6, r6, g6, i6⟩ := HST.out W6 h6; have y0 := cell_blk (j := 0) d6 rfl; have y1 := cell_blk (j := 1) d6 rfl; obtain ⟨u0, w0⟩ := cell_blk' g6 (k * 5 + 2) (by omega); have p0 := frozen_blk g6 (k * 5 + 2))
        all_goals
          have D7 : (W6.setCell ⟨g, k * 5 + 2, none⟩ (.string x)).heap[D]? = some (Obj.cells #[Value.slice (some ⟨g, 0, none⟩) cs.length ca, Value.slice b ts.length cb] 28) := (heap_setCell_other _ _ _ _ hDg).trans d6
          have R7 : (W6.setCell ⟨g, k * 5 + 2, none⟩ (.string x)).heap[R]? = some (Obj.cells #[Value.slice none 0 0, Value.slice none 0 0] 28) := (heap_setCell_other _ _ _ _ hRg).trans r6
          have a0 := cell_blk (j := 0) D7 rfl
          have a1 := cell_blk (j := 1) D7 rfl
          have b0 := cell_blk (j := 0) R7 rfl
          have b1 := cell_blk (j := 1) R7 rfl
          have c0 := frozen_blk R7 0
          have c1 := frozen_blk R7 1
          have HR7 : Hid _ := R7
          have HFIN := dt_mod (w := w) (j := 2) (ca := ca) (cb := cb) (d' := { dk with s := x }) H2.out h6 g6 i6 HBG.out HARR.out HDK.out (by decide) (vd_s dk _) hgR (HSM.out { dk with s := x } (⟨HWK.out.1, HWK.out.2.1, HWK.out.2.2.1, HWK.out.2.2.2.1, by show x.size ≤ 9223372036854775807; omega⟩) (hx)).1 (HSM.out { dk with s := x } (⟨HWK.out.1, HWK.out.2.1, HWK.out.2.2.1, HWK.out.2.2.2.1, by show x.size ≤ 9223372036854775807; omega⟩) (hx)).2 (by have := H2.out.2.1.size; have := H1.out.2.1.size; omega) hRw
          have HFF : Hid _ := HFIN
          clear D7 R7 HFIN d6 r6 g6 i6 h6 y0 y1
          go_wp2
          refine bodyPost_ret (ret28 rfl rfl _ _ HR7.out) rfl ?_
          exact ⟨_, rfl, HFF.out⟩
end Go.Proofs.YtgfkmppkeolckaaDoor.Cu
