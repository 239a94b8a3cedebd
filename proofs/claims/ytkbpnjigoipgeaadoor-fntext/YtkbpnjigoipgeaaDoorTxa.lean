/- Bytes of one's own, a text or a byte put behind them. -/
import Derived.Test.YtkbpnjigoipgeaaDoorTxp
import Derived.Deep.AppendSrc
import Derived.Laws.AppendOwn
set_option linter.unusedVariables false
namespace Go.Proofs.YtkbpnjigoipgeaaDoor
open Go.ChangeShapes Go.WideShapes Go.ChangeAt Go.RowKit
/-- Bytes as cells. -/
def bts (l : List UInt8) : List Value := l.map fun b => Value.int .u8 b.toNat
theorem bts_append (a b : List UInt8) : bts (a ++ b) = bts a ++ bts b := by simp [bts]
theorem bts_length (a : List UInt8) : (bts a).length = a.length := by simp [bts]
/-- A slice of bytes in a block of its own. -/
def OwnB (w : World) (B : Nat) (v : Value) (l : List UInt8) : Prop := w.ownsRow B 5 1 v l.length (bts l)
theorem run_append_room_b (w : World) (ty tx : TypeId) (i : TypeInfo) (hi : Tryd.prog.info? 5 = some i) (hsize : i.size = 1)
    (g sLen sCap : Nat) (cur : Array Value) (hg : w.heap[g]? = some (.cells cur 5 (0, 0))) (x : Value) (t : List UInt8) (hs : Src Tryd.prog 1 tx x t.length (bts t) w)
    (hroom : sLen + t.length ≤ sCap) (hfit : sLen + t.length ≤ cur.size) :
    (Builtin.append_ #[22, tx] ty #[.slice (some ⟨g, 0, none⟩) sLen sCap, x]).run Tryd.prog w =
      .ok (.slice (some ⟨g, 0, none⟩) (sLen + t.length) sCap) (w.setRow g (cur.toList.take sLen ++ bts t ++ cur.toList.drop (sLen + t.length)).toArray) := by
  have hst := run_storeCells_at Tryd.prog g (sLen * i.size) 5 (bts t) 0 cur w hg (by rw [hsize, bts_length]; simpa using hfit) hs.one
  simp only [Nat.add_zero] at hst
  rw [hsize, bts_length, Nat.mul_one] at hst
  rcases hs.kind with ⟨e', hk⟩ | hk
  · simp [Builtin.append_, run_underlying Tryd.underlying22, run_underlying hk, sizeOf, typeInfo, hi, hsize, hs.len, hroom, hs.cells, Addr.add_lit, hst]
  · simp [Builtin.append_, run_underlying Tryd.underlying22, run_underlying hk, sizeOf, typeInfo, hi, hsize, hs.len, hroom, hs.cells, Addr.add_lit, hst]
theorem run_append_b (w : World) (base : Nat) (ty tx : TypeId) (v : Value) (l : List UInt8) (hown : OwnB w base v l) (x : Value) (t : List UInt8) (hs : Src Tryd.prog 1 tx x t.length (bts t) w) (hb : l.length + t.length ≤ 16777216) (hbase : base ≤ w.heap.size) :
    ∃ v' w', (Builtin.append_ #[22, tx] ty #[v, x]).run Tryd.prog w = .ok v' w' ∧ OwnB w' base v' (l ++ t) ∧ w.grownBy w' v.ownBlock ∧ (v'.ownBlock = v.ownBlock ∨ ∀ k, v'.ownBlock = some k → w.heap.size ≤ k) := by
  obtain ⟨i, hi, hz, hsize, hby⟩ := info_parts Tryd.info5
  have hbl := bts_length t
  have hlen : (l ++ t).length = l.length + t.length := by rw [List.length_append]
  have hcells : bts (l ++ t) = bts l ++ bts t := bts_append l t
  have hml : maxLen = 9223372036854775807 := rfl
  have hx := bts_length l
  have grown : ∀ (old : Nat), old < l.length + t.length → ∀ (row : Option Nat),
      OwnB (w.drew.alloc (.cells ((bts l ++ bts t).toArray ++ Builtin.zeroCells (Value.int .u8 0).cells (grownCap w (l.length + t.length) old 5 - (l.length + t.length))) 5)) base
        (.slice (some ⟨w.heap.size, 0, none⟩) (l.length + t.length) (grownCap w (l.length + t.length) old 5)) (l ++ t) ∧
      w.grownBy (w.drew.alloc (.cells ((bts l ++ bts t).toArray ++ Builtin.zeroCells (Value.int .u8 0).cells (grownCap w (l.length + t.length) old 5 - (l.length + t.length))) 5)) row := by
    intro old ho row
    have hge := grownCap_ge w (l.length + t.length) old 5
    have hcm : grownCap w (l.length + t.length) old 5 ≤ maxLen := grownCap_le_maxLen w (l.length + t.length) old 5 (by omega)
    refine ⟨?_, ⟨rfl, rfl, rfl, by simp, fun k hk _ => (Array.getElem?_push_lt hk).trans (Array.getElem?_eq_getElem hk).symm⟩⟩
    unfold OwnB
    rw [hlen, hcells]
    refine ⟨by rw [List.length_append, hx, hbl]; omega, .inr ⟨w.heap.size, _, _, rfl, hbase, heap_alloc_new w.drew _, hge, hcm, ?_, ?_⟩⟩
    · simp only [Array.size_append, List.size_toArray, size_zeroCells, List.length_append, hx, hbl]
      have : (Value.int IntKind.u8 0).cells.size = 1 := rfl
      rw [this]
      omega
    · simp only [Array.toList_append]
      rw [List.take_append_of_le_length (by simp [hx, hbl]), List.take_of_length_le (by simp [hx, hbl])]
  unfold OwnB at hown
  rcases hown.2 with ⟨rfl, hn0⟩ | ⟨g, cap, cur, rfl, hbg, hg, hnc, hcm, hcs, htake⟩
  · have hl0 : l = [] := List.eq_nil_of_length_eq_zero hn0
    subst hl0
    by_cases hm : t = []
    · subst hm
      refine ⟨.slice none 0 0, w, ?_, World.ownsRow_nil w base 5 1, ⟨rfl, rfl, rfl, Nat.le_refl _, fun _ _ _ => rfl⟩, .inl rfl⟩
      have hlen0 := hs.len
      have hc0 := hs.cells
      simp only [List.length_nil] at hlen0 hc0
      rcases hs.kind with ⟨e', hk⟩ | hk
      · simp [Builtin.append_, run_underlying Tryd.underlying22, run_underlying hk, sizeOf, typeInfo, hi, hsize, hlen0, hc0, bts]
      · simp [Builtin.append_, run_underlying Tryd.underlying22, run_underlying hk, sizeOf, typeInfo, hi, hsize, hlen0, hc0, bts]
    · have hm0 : 0 < t.length := List.length_pos_iff.2 hm
      have hr := run_append_grow_src (P := Tryd.prog) w 22 tx ty 5 i (.int .u8 0) Tryd.underlying22 hi hz none 0 0 [] (by rw [hsize]; exact run_firstCells_none w.drew 1 0 0 0) x t.length (bts t) (by rw [hsize]; exact hs) (by omega) (by omega) (by rw [hby]; have := growslice_fits (need := 0 + t.length) (old := 0) (bytes := 1) (by omega) (by omega); omega)
      have hgr := grown 0 (by simp; omega) (Value.ownBlock (.slice none 0 0))
      have e0 : bts [] = [] := rfl
      simp only [List.length_nil, Nat.zero_add, e0, List.nil_append] at hr hgr
      exact ⟨_, _, hr, hgr.1, hgr.2, .inr fun k hk => by simp [Value.ownBlock] at hk; omega⟩
  · by_cases hroom : l.length + t.length ≤ cap
    · have hcs' : cur.size = cap := by omega
      have hr := run_append_room_b w ty tx i hi hsize g l.length cap cur hg x t hs hroom (by omega)
      refine ⟨_, _, hr, ?_, ⟨rfl, rfl, rfl, by simp, fun k _ hk => setRow_other w g k _ (fun e => hk (by simp [Value.ownBlock, e]))⟩, .inl rfl⟩
      unfold OwnB
      rw [hlen, hcells]
      have htake' : cur.toList.take l.length = bts l := by simpa using htake
      refine ⟨by rw [List.length_append, hx, hbl]; omega, .inr ⟨g, cap, _, rfl, hbg, setRow_heap w g cur _ 5 _ hg, hroom, hcm, ?_, ?_⟩⟩
      · simp only [List.size_toArray, List.length_append, List.length_take, List.length_drop, Array.length_toList, hbl]
        omega
      · rw [htake']
        simp only [Nat.mul_one]
        rw [List.take_append_of_le_length (by simp [hx, hbl]), List.take_of_length_le (by simp [hx, hbl])]
    · have holds : ∀ j u, (bts l)[j]? = some u → w.cell? ((⟨g, 0, none⟩ : Addr).add j) = some u := World.ownsRow.cells (g := g) hown rfl
      have hr := run_append_grow_src (P := Tryd.prog) w 22 tx ty 5 i (.int .u8 0) Tryd.underlying22 hi hz (some ⟨g, 0, none⟩) l.length cap (bts l) (by rw [hsize]; exact run_firstCells_some w.drew 1 l.length _ l.length cap (bts l) (by rw [hx]; omega) (by simpa using holds)) x t.length (bts t) (by rw [hsize]; exact hs) (by omega) (by omega) (by rw [hby]; have := growslice_fits (need := l.length + t.length) (old := cap) (bytes := 1) (by omega) (by omega); omega)
      have hgr := grown cap (by omega) (Value.ownBlock (.slice (some ⟨g, 0, none⟩) l.length cap))
      exact ⟨_, _, hr, hgr.1, hgr.2, .inr fun k hk => by simp [Value.ownBlock] at hk; omega⟩
/-- At an append, in a walk. -/
theorem wpList_append_b {ops : Array Oper} {rest : List Oper} {o : Oper} {a : Act} {w : World} {Q : Exit → Act → World → Prop} (hgd : o.guard = none) (s x : Operand) (tx : TypeId)
    (ho : o.op = .call { callee := .builtin .append, args := #[s, x], argTypes := #[22, tx] }) (B : Nat) (v : Value) (l : List UInt8) (hs : a.eval s = v) (hown : OwnB w B v l) (xv : Value) (t : List UInt8) (hx : a.eval x = xv) (hsrc : Src Tryd.prog 1 tx xv t.length (bts t) w)
    (hb : l.length + t.length ≤ 16777216) (hB : B ≤ w.heap.size)
    (h : ∀ v' w', OwnB w' B v' (l ++ t) → w.grownBy w' v.ownBlock → (v'.ownBlock = v.ownBlock ∨ ∀ k, v'.ownBlock = some k → w.heap.size ≤ k) → wpList Tryd.prog ops Q rest (a.put o.dst v') w') : wpList Tryd.prog ops Q (o :: rest) a w := by
  obtain ⟨v', w', hr, h2, h3, h4⟩ := run_append_b w B o.type tx v l hown xv t hsrc hb hB
  refine wpList_plain hgd fun _ hK => ?_
  unfold Oper.wp execOp
  simp only [ho, resolve, invoke, builtin, Sem.run_bind, Sem.run_pure, Result.andThen_ok, List.map_toArray, List.map_cons, List.map_nil, hs, hx, hr]
  exact hK _ _ (h v' w' h2 h3 h4)
theorem step_append_b {ops : Array Oper} {o : Oper} {a : Act} {w : World} {K : Act → World → Prop} {Q : Exit → Act → World → Prop} {E : Prop} (hgd : o.guard = none) (s x : Operand) (tx : TypeId)
    (ho : o.op = .call { callee := .builtin .append, args := #[s, x], argTypes := #[22, tx] }) (B : Nat) (v : Value) (l : List UInt8) (hs : a.eval s = v) (hown : OwnB w B v l) (xv : Value) (t : List UInt8) (hx : a.eval x = xv) (hsrc : Src Tryd.prog 1 tx xv t.length (bts t) w)
    (hb : l.length + t.length ≤ 16777216) (hB : B ≤ w.heap.size)
    (h : ∀ v' w', OwnB w' B v' (l ++ t) → w.grownBy w' v.ownBlock → (v'.ownBlock = v.ownBlock ∨ ∀ k, v'.ownBlock = some k → w.heap.size ≤ k) → K (a.put o.dst v') w') :
    if Region.wanted o (yielded ops a.tmps) = true then Oper.wp Tryd.prog o a w K Q else E := by
  obtain ⟨v', w', hr, h2, h3, h4⟩ := run_append_b w B o.type tx v l hown xv t hsrc hb hB
  have hw : Region.wanted o (yielded ops a.tmps) = true := by simp [Region.wanted, hgd]
  rw [if_pos hw]
  unfold Oper.wp execOp
  simp only [ho, resolve, invoke, builtin, Sem.run_bind, Sem.run_pure, Result.andThen_ok, List.map_toArray, List.map_cons, List.map_nil, hs, hx, hr]
  exact h v' w' h2 h3 h4
theorem src_str (w : World) (s : ByteArray) : Src Tryd.prog 1 9 (.string s) s.data.toList.length (bts s.data.toList) w := Src.ofString w Tryd.underlying9 s
theorem src_byte (w : World) (b : Nat) (c : UInt8) (x : Int) (t : TypeId) (hxc : x = c.toNat) (h : w.heap[b]? = some (.cells #[.int .u8 x] t)) : Src Tryd.prog 1 22 (.slice (some ⟨b, 0, none⟩) 1 1) [c].length (bts [c]) w :=
  Src.ofSlice w Tryd.underlying22 _ _ _ _ (by simp [bts]) (fun j u hu => by
    have hj : j = 0 := by
      have := (List.getElem?_eq_some_iff.1 hu).1
      simp [bts] at this
      omega
    subst hj
    have hu : Value.int .u8 c.toNat = u := by simpa [bts] using hu
    subst hu
    have : (⟨b, 0, none⟩ : Addr).add 0 = ⟨b, 0, none⟩ := by unfold Addr.add; split <;> simp_all
    rw [this, ← hxc]
    exact cell_blk (j := 0) h rfl) (fun u hu => by
    have : u = Value.int .u8 c.toNat := by simpa [bts] using hu
    subst this
    rfl)
theorem gbt_below {w w' : World} (r : Option Nat) (h : Below w.heap.size w w') : w.grownBy w' r := ⟨h.os, h.tape, h.output, h.size, fun i hi _ => h.block i hi⟩
theorem gbt_trans {w w1 w2 : World} {r r1 : Option Nat} (h : w.grownBy w1 r) (g : w1.grownBy w2 r1) (hn : r1 = r ∨ ∀ k, r1 = some k → w.heap.size ≤ k) : w.grownBy w2 r := by
  refine ⟨g.os.trans h.os, g.tape.trans h.tape, g.output.trans h.output, Nat.le_trans h.size g.size, fun i hi hne => ?_⟩
  refine (g.block i (Nat.lt_of_lt_of_le hi h.size) (fun e => ?_)).trans (h.block i hi hne)
  rcases hn with rfl | hn
  · exact hne e
  · have := hn i e.symm
    omega
end Go.Proofs.YtkbpnjigoipgeaaDoor
