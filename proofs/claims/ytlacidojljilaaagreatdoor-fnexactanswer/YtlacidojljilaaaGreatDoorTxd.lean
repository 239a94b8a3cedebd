/- The text of a value, as a relation: what it is, that there is one, that there is one alone. Bytes of one's own, a text or a byte put behind them. The model's text of a value that is no pair. The model's text of a value, pairs too. The model's Text. -/
import Derived.Test.YtlacidojljilaaaGreatDoorHvx
import Derived.Deep.AppendSrc
import Derived.Laws.AppendOwn
set_option linter.unusedVariables false
set_option maxRecDepth 100000
set_option maxHeartbeats 8000000
namespace Go.Proofs.YtlacidojljilaaaGreatDoor
open Go.ChangeShapes Go.WideShapes Go.ChangeAt Go.RowKit
def bcs (l : List UInt8) : List Value := l.map fun b => Value.int .u8 (b.toNat : Int)
theorem Tryz.info5 : (Tryz.prog.info? 5).map (fun i => (i.zero, i.size, i.bytes)) = some (some (.int .u8 0), 1, 1) := by kernel_rfl
theorem conv_own {B : Nat} {w : World} {v : Value} {l : List UInt8} (h : w.ownsRow B 5 1 v l.length (bcs l)) :
  (convert 132 9 v).run Tryz.prog w = .ok (.string ⟨l.toArray⟩) w := by
 obtain ⟨_, ⟨rfl, hn⟩ | ⟨g, cap, cur, rfl, h1, h2, h3, h4, h5, h6⟩⟩ := h
 ·have : l = [] := List.eq_nil_of_length_eq_zero hn
  subst this
  exact run_convert_bytes_nil w 132 5 Tryz.underlying132 Tryz.underlying5 0 0 9 Tryz.underlying9
 ·refine run_convert_bytes_back w 132 9 5 ⟨g, 0, none⟩ cap l Tryz.underlying132 Tryz.underlying5 Tryz.underlying9 fun j hj => ?_
  have hc : (bcs l)[j]? = some (Value.int .u8 (l[j].toNat : Int)) := by simp [bcs, hj]
  have hz : cur[j]? = some (Value.int .u8 (l[j].toNat : Int)) := by
   rw [← h6] at hc
   rw [List.getElem?_take_of_lt (by omega)] at hc
   simpa using hc
  have hp : (⟨g, 0, none⟩ : Addr).add j = ⟨g, j, none⟩ := by unfold Addr.add; split <;> simp_all
  rw [hp]
  simp [World.cell?, h2, hz]
def flatT (h : List Cel) (v : Val) : List UInt8 :=
 if v.k = 1 then decL v.n
 else if v.k = 2 then (if v.n = 1 then [35, 116] else [35, 102])
 else if v.k = 3 then [40, 41]
 else if v.k = 4 then v.s.data.toList
 else if v.k = 6 then [102, 110]
 else 35 :: ((h[v.n.toNat]?).map (·.s.data.toList)).getD []
inductive Tel (h : List Cel) : Bool → Val → List UInt8 → Prop
 | flat (v : Val) : v.k ≠ 5 → Tel h false v (flatT h v)
 | pair (v : Val) (c : Cel) (x y : Val) (tx ty : List UInt8) : v.k = 5 → h[v.n.toNat]? = some c → c.vals[0]? = some x → c.vals[1]? = some y → Tel h false x tx → Tel h true y ty → Tel h false v (40 :: (tx ++ (ty ++ [41])))
 | more (v : Val) (c : Cel) (x y : Val) (tx ty : List UInt8) : v.k = 5 → h[v.n.toNat]? = some c → c.vals[0]? = some x → c.vals[1]? = some y → Tel h false x tx → Tel h true y ty → Tel h true v (32 :: (tx ++ ty))
 | last (v : Val) : v.k = 3 → Tel h true v []
 | dot (v : Val) : v.k ≠ 5 → v.k ≠ 3 → Tel h true v (32 :: 46 :: 32 :: flatT h v)
theorem Tel.unique {h : List Cel} {b : Bool} {v : Val} {t : List UInt8} (h1 : Tel h b v t) : ∀ {t' : List UInt8}, Tel h b v t' → t = t' := by
 induction h1 with
 | flat v hk =>
  intro t' h2
  cases h2 with
  | flat => rfl
  | pair _ c x y tx ty hk' => exact absurd hk' hk
 | pair v c x y tx ty hk hc hx hy _ _ ih1 ih2 =>
  intro t' h2
  cases h2 with
  | flat _ hk' => exact absurd hk hk'
  | pair _ c' x' y' tx' ty' _ hc' hx' hy' h3 h4 =>
   obtain rfl := Option.some.inj (hc.symm.trans hc')
   obtain rfl := Option.some.inj (hx.symm.trans hx')
   obtain rfl := Option.some.inj (hy.symm.trans hy')
   rw [ih1 h3, ih2 h4]
 | more v c x y tx ty hk hc hx hy _ _ ih1 ih2 =>
  intro t' h2
  cases h2 with
  | more _ c' x' y' tx' ty' _ hc' hx' hy' h3 h4 =>
   obtain rfl := Option.some.inj (hc.symm.trans hc')
   obtain rfl := Option.some.inj (hx.symm.trans hx')
   obtain rfl := Option.some.inj (hy.symm.trans hy')
   rw [ih1 h3, ih2 h4]
  | last _ hk' => rw [hk] at hk'; exact absurd hk' (by decide)
  | dot _ hk' => exact absurd hk hk'
 | last v hk =>
  intro t' h2
  cases h2 with
  | more _ c' x' y' tx' ty' hk' => rw [hk] at hk'; exact absurd hk' (by decide)
  | last => rfl
  | dot _ _ hk' => exact absurd hk hk'
 | dot v hk hk3 =>
  intro t' h2
  cases h2 with
  | more _ c' x' y' tx' ty' hk' => exact absurd hk' hk
  | last _ hk' => exact absurd hk' hk3
  | dot => rfl
theorem pair_parts {h : List Cel} (hp : HeapP h) {v : Val} (hv : v.ok h = true) (hk : v.k = 5) :
  ∃ (n : Nat) (c : Cel) (x y : Val), v.n = n ∧ h[n]? = some c ∧ c.k = 1 ∧ c.vals = [x, y] ∧ x.ok (h.take n) = true ∧ y.ok (h.take n) = true := by
 have hs : v.s.size = 0 := by
  by_cases hq : v.s.size = 0
  ·exact hq
  ·rw [vokS (by rw [hk]; decide) hq] at hv; cases hv
 rw [vok5 hk hs] at hv
 unfold cellB at hv
 simp only [Bool.and_eq_true, decide_eq_true_eq, beq_iff_eq] at hv
 obtain ⟨h0, h1⟩ := hv
 cases hc : h[v.n.toNat]? with
 | none => rw [hc] at h1; cases h1
 | some c =>
  rw [hc] at h1
  have hck : c.k = 1 := by simpa using h1
  have hok := hp.2 _ _ hc
  unfold Cel.ok Cel.shape Cel.fits at hok
  rw [if_pos hck, if_neg (by rw [hck]; decide)] at hok
  simp only [Bool.and_eq_true, decide_eq_true_eq] at hok
  obtain ⟨⟨_, hl⟩, hf⟩ := hok
  match hcv : c.vals, hl with
  | [x, y], _ =>
   rw [hcv] at hf
   simp at hf
   exact ⟨v.n.toNat, c, x, y, by omega, hc, hck, hcv, hf.1, hf.2⟩
theorem ok_of_take {h : List Cel} {n : Nat} {v : Val} (hv : v.ok (h.take n) = true) : v.ok h = true := by
 rw [Val.ok_take, Bool.and_eq_true] at hv
 exact hv.1
theorem below_of_take {h : List Cel} {n : Nat} {v : Val} (hv : v.ok (h.take n) = true) (hk : v.k = 5) : v.n < n := by
 rw [Val.ok_take, Bool.and_eq_true] at hv
 have := hv.2
 unfold Val.points at this
 simp [hk] at this
 omega
theorem Tel.exists {h : List Cel} (hp : HeapP h) : ∀ (n : Nat) (b : Bool) (v : Val), v.ok h = true → (v.k = 5 → v.n < n) → ∃ t, Tel h b v t := by
 intro n
 induction n with
 | zero =>
  intro b v hv hn
  by_cases hk : v.k = 5
  ·obtain ⟨m, c, x, y, hm, _⟩ := pair_parts hp hv hk
   have := hn hk
   omega
  ·cases b
   ·exact ⟨_, .flat v hk⟩
   ·by_cases h3 : v.k = 3
    ·exact ⟨_, .last v h3⟩
    ·exact ⟨_, .dot v hk h3⟩
 | succ n ih =>
  intro b v hv hn
  by_cases hk : v.k = 5
  ·obtain ⟨m, c, x, y, hm, hc, hck, hcv, hx, hy⟩ := pair_parts hp hv hk
   have hmn := hn hk
   obtain ⟨tx, htx⟩ := ih false x (ok_of_take hx) fun hq => by have := below_of_take hx hq; omega
   obtain ⟨ty, hty⟩ := ih true y (ok_of_take hy) fun hq => by have := below_of_take hy hq; omega
   have hc' : h[v.n.toNat]? = some c := by rw [hm, Int.toNat_natCast]; exact hc
   cases b
   ·exact ⟨_, .pair v c x y tx ty hk hc' (by rw [hcv]; rfl) (by rw [hcv]; rfl) htx hty⟩
   ·exact ⟨_, .more v c x y tx ty hk hc' (by rw [hcv]; rfl) (by rw [hcv]; rfl) htx hty⟩
  ·cases b
   ·exact ⟨_, .flat v hk⟩
   ·by_cases h3 : v.k = 3
    ·exact ⟨_, .last v h3⟩
    ·exact ⟨_, .dot v hk h3⟩
def Cut (x y : List UInt8) : Prop := x.take 100000 = y.take 100000
theorem Cut.refl (x : List UInt8) : Cut x x := rfl
theorem Cut.trans {x y z : List UInt8} (h : Cut x y) (h' : Cut y z) : Cut x z := Eq.trans h h'
theorem take_append_take (M : Nat) (a b : List UInt8) : (a ++ b).take M = ((a.take M) ++ b).take M := by
 rw [List.take_append, List.take_append, List.take_take, Nat.min_self, List.length_take]
 by_cases h : a.length ≤ M
 ·rw [Nat.min_eq_right h]
 ·have e1 : M - a.length = 0 := by omega
  have e2 : M - min M a.length = 0 := by omega
  rw [e1, e2]
theorem Cut.append {x y : List UInt8} (h : Cut x y) (z : List UInt8) : Cut (x ++ z) (y ++ z) := by
 unfold Cut at *
 rw [take_append_take, h, ← take_append_take]
theorem Cut.over {x y : List UInt8} (h : Cut x y) (hx : 100000 ≤ x.length) (z z' : List UInt8) : Cut (x ++ z) (y ++ z') := by
 have hy : 100000 ≤ y.length := by
  have := congrArg List.length h
  rw [List.length_take, List.length_take] at this
  omega
 unfold Cut at *
 rw [List.take_append_of_le_length hx, List.take_append_of_le_length hy, h]
def bts (l : List UInt8) : List Value := l.map fun b => Value.int .u8 b.toNat
theorem bts_append (a b : List UInt8) : bts (a ++ b) = bts a ++ bts b := by simp [bts]
theorem bts_length (a : List UInt8) : (bts a).length = a.length := by simp [bts]
def OwnB (w : World) (B : Nat) (v : Value) (l : List UInt8) : Prop := w.ownsRow B 5 1 v l.length (bts l)
theorem run_append_room_b (w : World) (ty tx : TypeId) (i : TypeInfo) (hi : Tryz.prog.info? 5 = some i) (hsize : i.size = 1)
  (g sLen sCap : Nat) (cur : Array Value) (hg : w.heap[g]? = some (.cells cur 5 (0, 0))) (x : Value) (t : List UInt8) (hs : Src Tryz.prog 1 tx x t.length (bts t) w)
  (hroom : sLen + t.length ≤ sCap) (hfit : sLen + t.length ≤ cur.size) :
  (Builtin.append_ #[132, tx] ty #[.slice (some ⟨g, 0, none⟩) sLen sCap, x]).run Tryz.prog w =
   .ok (.slice (some ⟨g, 0, none⟩) (sLen + t.length) sCap) (w.setRow g (cur.toList.take sLen ++ bts t ++ cur.toList.drop (sLen + t.length)).toArray) := by
 have hst := run_storeCells_at Tryz.prog g (sLen * i.size) 5 (bts t) 0 cur w hg (by rw [hsize, bts_length]; simpa using hfit) hs.one
 simp only [Nat.add_zero] at hst
 rw [hsize, bts_length, Nat.mul_one] at hst
 rcases hs.kind with ⟨e', hk⟩ | hk
 ·simp [Builtin.append_, run_underlying Tryz.underlying132, run_underlying hk, sizeOf, typeInfo, hi, hsize, hs.len, hroom, hs.cells, Addr.add_lit, hst]
 ·simp [Builtin.append_, run_underlying Tryz.underlying132, run_underlying hk, sizeOf, typeInfo, hi, hsize, hs.len, hroom, hs.cells, Addr.add_lit, hst]
theorem run_append_b (w : World) (base : Nat) (ty tx : TypeId) (v : Value) (l : List UInt8) (hown : OwnB w base v l) (x : Value) (t : List UInt8) (hs : Src Tryz.prog 1 tx x t.length (bts t) w) (hb : l.length + t.length ≤ 16777216) (hbase : base ≤ w.heap.size) :
  ∃ v' w', (Builtin.append_ #[132, tx] ty #[v, x]).run Tryz.prog w = .ok v' w' ∧ OwnB w' base v' (l ++ t) ∧ w.grownBy w' v.ownBlock ∧ (v'.ownBlock = v.ownBlock ∨ ∀ k, v'.ownBlock = some k → w.heap.size ≤ k) := by
 obtain ⟨i, hi, hz, hsize, hby⟩ := info_parts Tryz.info5
 have hbl := bts_length t
 have hlen : (l ++ t).length = l.length + t.length := by rw [List.length_append]
 have hcells : bts (l ++ t) = bts l ++ bts t := bts_append l t
 have hml : maxLen = 9223372036854775807 := rfl
 have hx := bts_length l
 have grown : ∀ (old : Nat), old < l.length + t.length → ∀ (row : Option Nat),
   OwnB (w.drew.alloc (.cells ((bts l ++ bts t).toArray ++ Builtin.zeroCells (Value.int .u8 0).cells (grownCap w (l.length + t.length) old 5 - (l.length + t.length))) 5)) base
    (.slice (some ⟨w.heap.size, 0, none⟩) (l.length + t.length) (grownCap w (l.length + t.length) old 5)) (l ++ t) ∧
   w.grownBy (w.drew.alloc (.cells ((bts l ++ bts t).toArray ++ Builtin.zeroCells (Value.int .u8 0).cells (grownCap w (l.length + t.length) old 5 - (l.length + t.length))) 5)) row := by
  intro old ho row
  have hge := grownCap_ge w (l.length + t.length) old 5
  have hcm : grownCap w (l.length + t.length) old 5 ≤ maxLen := grownCap_le_maxLen w (l.length + t.length) old 5 (by omega)
  refine ⟨?_, ⟨rfl, rfl, rfl, by simp, fun k hk _ => (Array.getElem?_push_lt hk).trans (Array.getElem?_eq_getElem hk).symm⟩⟩
  unfold OwnB
  rw [hlen, hcells]
  refine ⟨by rw [List.length_append, hx, hbl]; omega, .inr ⟨w.heap.size, _, _, rfl, hbase, heap_alloc_new w.drew _, hge, hcm, ?_, ?_⟩⟩
  ·simp only [Array.size_append, List.size_toArray, size_zeroCells, List.length_append, hx, hbl]
   have : (Value.int IntKind.u8 0).cells.size = 1 := rfl
   rw [this]
   omega
  ·simp only [Array.toList_append]
   rw [List.take_append_of_le_length (by simp [hx, hbl]), List.take_of_length_le (by simp [hx, hbl])]
 unfold OwnB at hown
 rcases hown.2 with ⟨rfl, hn0⟩ | ⟨g, cap, cur, rfl, hbg, hg, hnc, hcm, hcs, htake⟩
 ·have hl0 : l = [] := List.eq_nil_of_length_eq_zero hn0
  subst hl0
  by_cases hm : t = []
  ·subst hm
   refine ⟨.slice none 0 0, w, ?_, World.ownsRow_nil w base 5 1, ⟨rfl, rfl, rfl, Nat.le_refl _, fun _ _ _ => rfl⟩, .inl rfl⟩
   have hlen0 := hs.len
   have hc0 := hs.cells
   simp only [List.length_nil] at hlen0 hc0
   rcases hs.kind with ⟨e', hk⟩ | hk
   ·simp [Builtin.append_, run_underlying Tryz.underlying132, run_underlying hk, sizeOf, typeInfo, hi, hsize, hlen0, hc0, bts]
   ·simp [Builtin.append_, run_underlying Tryz.underlying132, run_underlying hk, sizeOf, typeInfo, hi, hsize, hlen0, hc0, bts]
  ·have hm0 : 0 < t.length := List.length_pos_iff.2 hm
   have hr := run_append_grow_src (P := Tryz.prog) w 132 tx ty 5 i (.int .u8 0) Tryz.underlying132 hi hz none 0 0 [] (by rw [hsize]; exact run_firstCells_none w.drew 1 0 0 0) x t.length (bts t) (by rw [hsize]; exact hs) (by omega) (by omega) (by rw [hby]; have := growslice_fits (need := 0 + t.length) (old := 0) (bytes := 1) (by omega) (by omega); omega)
   have hgr := grown 0 (by simp; omega) (Value.ownBlock (.slice none 0 0))
   have e0 : bts [] = [] := rfl
   simp only [List.length_nil, Nat.zero_add, e0, List.nil_append] at hr hgr
   exact ⟨_, _, hr, hgr.1, hgr.2, .inr fun k hk => by simp [Value.ownBlock] at hk; omega⟩
 ·by_cases hroom : l.length + t.length ≤ cap
  ·have hcs' : cur.size = cap := by omega
   have hr := run_append_room_b w ty tx i hi hsize g l.length cap cur hg x t hs hroom (by omega)
   refine ⟨_, _, hr, ?_, ⟨rfl, rfl, rfl, by simp, fun k _ hk => setRow_other w g k _ (fun e => hk (by simp [Value.ownBlock, e]))⟩, .inl rfl⟩
   unfold OwnB
   rw [hlen, hcells]
   have htake' : cur.toList.take l.length = bts l := by simpa using htake
   refine ⟨by rw [List.length_append, hx, hbl]; omega, .inr ⟨g, cap, _, rfl, hbg, setRow_heap w g cur _ 5 _ hg, hroom, hcm, ?_, ?_⟩⟩
   ·simp only [List.size_toArray, List.length_append, List.length_take, List.length_drop, Array.length_toList, hbl]
    omega
   ·rw [htake']
    simp only [Nat.mul_one]
    rw [List.take_append_of_le_length (by simp [hx, hbl]), List.take_of_length_le (by simp [hx, hbl])]
  ·have holds : ∀ j u, (bts l)[j]? = some u → w.cell? ((⟨g, 0, none⟩ : Addr).add j) = some u := World.ownsRow.cells (g := g) hown rfl
   have hr := run_append_grow_src (P := Tryz.prog) w 132 tx ty 5 i (.int .u8 0) Tryz.underlying132 hi hz (some ⟨g, 0, none⟩) l.length cap (bts l) (by rw [hsize]; exact run_firstCells_some w.drew 1 l.length _ l.length cap (bts l) (by rw [hx]; omega) (by simpa using holds)) x t.length (bts t) (by rw [hsize]; exact hs) (by omega) (by omega) (by rw [hby]; have := growslice_fits (need := l.length + t.length) (old := cap) (bytes := 1) (by omega) (by omega); omega)
   have hgr := grown cap (by omega) (Value.ownBlock (.slice (some ⟨g, 0, none⟩) l.length cap))
   exact ⟨_, _, hr, hgr.1, hgr.2, .inr fun k hk => by simp [Value.ownBlock] at hk; omega⟩
theorem wpList_append_b {ops : Array Oper} {rest : List Oper} {o : Oper} {a : Act} {w : World} {Q : Exit → Act → World → Prop} (hgd : o.guard = none) (s x : Operand) (tx : TypeId)
  (ho : o.op = .call { callee := .builtin .append, args := #[s, x], argTypes := #[132, tx] }) (B : Nat) (v : Value) (l : List UInt8) (hs : a.eval s = v) (hown : OwnB w B v l) (xv : Value) (t : List UInt8) (hx : a.eval x = xv) (hsrc : Src Tryz.prog 1 tx xv t.length (bts t) w)
  (hb : l.length + t.length ≤ 16777216) (hB : B ≤ w.heap.size)
  (h : ∀ v' w', OwnB w' B v' (l ++ t) → w.grownBy w' v.ownBlock → (v'.ownBlock = v.ownBlock ∨ ∀ k, v'.ownBlock = some k → w.heap.size ≤ k) → wpList Tryz.prog ops Q rest (a.put o.dst v') w') : wpList Tryz.prog ops Q (o :: rest) a w := by
 obtain ⟨v', w', hr, h2, h3, h4⟩ := run_append_b w B o.type tx v l hown xv t hsrc hb hB
 refine wpList_plain hgd fun _ hK => ?_
 unfold Oper.wp execOp
 simp only [ho, resolve, invoke, builtin, Sem.run_bind, Sem.run_pure, Result.andThen_ok, List.map_toArray, List.map_cons, List.map_nil, hs, hx, hr]
 exact hK _ _ (h v' w' h2 h3 h4)
theorem step_append_b {ops : Array Oper} {o : Oper} {a : Act} {w : World} {K : Act → World → Prop} {Q : Exit → Act → World → Prop} {E : Prop} (hgd : o.guard = none) (s x : Operand) (tx : TypeId)
  (ho : o.op = .call { callee := .builtin .append, args := #[s, x], argTypes := #[132, tx] }) (B : Nat) (v : Value) (l : List UInt8) (hs : a.eval s = v) (hown : OwnB w B v l) (xv : Value) (t : List UInt8) (hx : a.eval x = xv) (hsrc : Src Tryz.prog 1 tx xv t.length (bts t) w)
  (hb : l.length + t.length ≤ 16777216) (hB : B ≤ w.heap.size)
  (h : ∀ v' w', OwnB w' B v' (l ++ t) → w.grownBy w' v.ownBlock → (v'.ownBlock = v.ownBlock ∨ ∀ k, v'.ownBlock = some k → w.heap.size ≤ k) → K (a.put o.dst v') w') :
  if Region.wanted o (yielded ops a.tmps) = true then Oper.wp Tryz.prog o a w K Q else E := by
 obtain ⟨v', w', hr, h2, h3, h4⟩ := run_append_b w B o.type tx v l hown xv t hsrc hb hB
 have hw : Region.wanted o (yielded ops a.tmps) = true := by simp [Region.wanted, hgd]
 rw [if_pos hw]
 unfold Oper.wp execOp
 simp only [ho, resolve, invoke, builtin, Sem.run_bind, Sem.run_pure, Result.andThen_ok, List.map_toArray, List.map_cons, List.map_nil, hs, hx, hr]
 exact h v' w' h2 h3 h4
theorem src_str (w : World) (s : ByteArray) : Src Tryz.prog 1 9 (.string s) s.data.toList.length (bts s.data.toList) w := Src.ofString w Tryz.underlying9 s
theorem src_byte (w : World) (b : Nat) (c : UInt8) (x : Int) (t : TypeId) (hxc : x = c.toNat) (h : w.heap[b]? = some (.cells #[.int .u8 x] t)) : Src Tryz.prog 1 132 (.slice (some ⟨b, 0, none⟩) 1 1) [c].length (bts [c]) w :=
 Src.ofSlice w Tryz.underlying132 _ _ _ _ (by simp [bts]) (fun j u hu => by
  have hj : j = 0 := by
   have := (List.getElem?_eq_some_iff.1 hu).1
   simp [bts] at this
   omega
  subst hj
  have hu : Value.int .u8 c.toNat = u := by simpa [bts] using hu
  subst hu
  have : (⟨b, 0, none⟩ : Addr).add 0 = ⟨b, 0, none⟩ := by unfold Addr.add; split <;> simp_all
  rw [this, ← hxc]
  exact cell_blk (j := 0) h rfl) (fun u hu => by
  have : u = Value.int .u8 c.toNat := by simpa [bts] using hu
  subst this
  rfl)
theorem gb_below {w w' : World} (r : Option Nat) (h : Below w.heap.size w w') : w.grownBy w' r := ⟨h.os, h.tape, h.output, h.size, fun i hi _ => h.block i hi⟩
theorem gb_trans {w w1 w2 : World} {r r1 : Option Nat} (h : w.grownBy w1 r) (g : w1.grownBy w2 r1) (hn : r1 = r ∨ ∀ k, r1 = some k → w.heap.size ≤ k) : w.grownBy w2 r := by
 refine ⟨g.os.trans h.os, g.tape.trans h.tape, g.output.trans h.output, Nat.le_trans h.size g.size, fun i hi hne => ?_⟩
 refine (g.block i (Nat.lt_of_lt_of_le hi h.size) (fun e => ?_)).trans (h.block i hi hne)
 rcases hn with rfl | hn
 ·exact hne e
 ·have := hn i e.symm
  omega
def PutPost (B : Nat) (ov : Value) (l t : List UInt8) (D : Nat) (w : World) (e : Ending) (w' : World) : Prop :=
 ∃ (ov' : Value) (l' : List UInt8), e = .returned ov' ∧ OwnB w' B ov' l' ∧ w.grownBy w' ov.ownBlock ∧ (ov'.ownBlock = ov.ownBlock ∨ ∀ k, ov'.ownBlock = some k → w.heap.size ≤ k) ∧ Cut l' (l ++ t) ∧ l'.length ≤ max l.length D
theorem put_end {B : Nat} {ov v' : Value} {l t : List UInt8} {D : Nat} {w w1 w2 : World} (hb : Below w.heap.size w w1) (ho : OwnB w2 B v' (l ++ t)) (hg : w1.grownBy w2 ov.ownBlock) (hn : v'.ownBlock = ov.ownBlock ∨ ∀ k, v'.ownBlock = some k → w1.heap.size ≤ k) (hD : (l ++ t).length ≤ D) :
  PutPost B ov l t D w (.returned v') w2 :=
 ⟨v', l ++ t, rfl, ho, gb_trans (gb_below _ hb) hg (.inl rfl), hn.imp id fun h k hk => Nat.le_trans hb.size (h k hk), Cut.refl _, Nat.le_trans hD (Nat.le_max_right _ _)⟩
theorem OwnB.keep {w w' : World} {B : Nat} {v : Value} {l : List UInt8} (h : OwnB w B v l) (hb : Below w.heap.size w w') : OwnB w' B v l := by
 unfold OwnB at *
 refine ⟨h.1, h.2.imp id ?_⟩
 rintro ⟨g, cap, cur, rfl, hbg, hg, rest⟩
 exact ⟨g, cap, cur, rfl, hbg, (hb.block g (Array.getElem?_eq_some_iff.1 hg).1).trans hg, rest⟩
theorem OwnB.slice {w : World} {B : Nat} {v : Value} {l : List UInt8} (h : OwnB w B v l) : ∃ a c, v = .slice a l.length c ∧ l.length ≤ c := by
 unfold OwnB at h
 rcases h.2 with ⟨rfl, h0⟩ | ⟨g, cap, cur, rfl, _, _, hle, _⟩
 ·exact ⟨none, 0, by rw [h0], by omega⟩
 ·exact ⟨_, cap, rfl, hle⟩
theorem OwnB.at {w : World} {B : Nat} {v : Value} {l : List UInt8} (h : OwnB w B v l) {k : Nat} (hk : v.ownBlock = some k) : B ≤ k ∧ k < w.heap.size := World.ownsRow.lt h k hk
theorem fr_step {W W' : World} {v v' : Value} {b : Nat} {o : Obj} (hb : W.heap[b]? = some o) (hne : some b ≠ v.ownBlock) (hg : W.grownBy W' v.ownBlock) (hn : v'.ownBlock = v.ownBlock ∨ ∀ k, v'.ownBlock = some k → W.heap.size ≤ k) : W'.heap[b]? = some o ∧ some b ≠ v'.ownBlock := by
 have hlt := (Array.getElem?_eq_some_iff.1 hb).1
 refine ⟨(hg.block b hlt hne).trans hb, ?_⟩
 rcases hn with e | h
 ·rw [e]; exact hne
 ·intro e
  have := h b e.symm
  omega
theorem low_step {W W' : World} {B : Nat} {v : Value} {l : List UInt8} (ho : OwnB W B v l) (hB : B ≤ W.heap.size) (hg : W.grownBy W' v.ownBlock) : Below B W W' :=
 (Below.refl B W).grown hg hB fun k hk => (ho.at hk).1
theorem l6Put_full (hv : Value) (d : Val) (B : Nat) (ov : Value) (l t : List UInt8) (D : Nat) (w : World) (ho : OwnB w B ov l) (hl : 100000 ≤ l.length) (hm : l.length ≤ 16777216) :
  Calls Tryz.prog 110 #[hv, .agg #[.int .i64 d.k, .int .i64 d.n, .string d.s], ov] w fun e w' => PutPost B ov l t D w e w' := by
 obtain ⟨a, c, rfl, _⟩ := ho.slice
 have HO : Hid (OwnB w B (.slice a l.length c) l) := ho
 clear ho
 have hbA : Below w.heap.size w (w.alloc (Obj.cells #[.int .i64 d.k, .int .i64 d.n, .string d.s] 44)) := bR _ _
 have g0 : decide ((100000 : Int) ≤ (l.length : Int)) = true := by simp; omega
 go_enter Tryz.func110, Tryz.ntmps110
 go_wp2
 go_ret
 refine ⟨_, l, rfl, HO.out.keep hbA, gb_below _ hbA, .inl rfl, ?_, Nat.le_max_left _ _⟩
 have := Cut.over (Cut.refl l) hl [] t
 rwa [List.append_nil] at this
theorem l6Put_flat (a : Option Addr) (h : List Cel) (ca : Nat) (d : Val) (B : Nat) (ov : Value) (l : List UInt8) (w : World) (hh : h.length ≤ 1048576) (hsm : ∀ c ∈ h, c.small) (hd : d.small) (hok : d.ok h = true) (hk : d.k ≠ 5) (hr : RowC w B a h) (hB : B ≤ w.heap.size) (ho : OwnB w B ov l) (hl : l.length < 100000) :
  Calls Tryz.prog 110 #[.slice a h.length ca, .agg #[.int .i64 d.k, .int .i64 d.n, .string d.s], ov] w fun e w' => PutPost B ov l (flatT h d) 2197152 w e w' := by
 obtain ⟨ao, co, rfl, hco⟩ := ho.slice
 have hbA : Below w.heap.size w (w.alloc (Obj.cells #[.int .i64 d.k, .int .i64 d.n, .string d.s] 44)) := bR _ _
 have HO : Hid (OwnB w B (.slice ao l.length co) l) := ho
 have HA : Hid (OwnB (w.alloc (Obj.cells #[.int .i64 d.k, .int .i64 d.n, .string d.s] 44)) B (.slice ao l.length co) l) := ho.keep hbA
 have hBA : B ≤ (w.alloc (Obj.cells #[.int .i64 d.k, .int .i64 d.n, .string d.s] 44)).heap.size := Nat.le_trans hB hbA.size
 clear ho
 have g0 : decide ((100000 : Int) ≤ (l.length : Int)) = false := by simp; omega
 obtain ⟨k, n, s⟩ := d
 obtain ⟨d1, d2, d3⟩ := hd
 simp only at *
 by_cases h3 : k = 3
 ·subst h3
  have HT : Hid (flatT h ⟨3, n, s⟩ = [40, 41]) := rfl
  rw [HT.out]
  go_enter Tryz.func110, Tryz.ntmps110
  go_wp2_with (at_builtin; refine wpList_append_b rfl _ _ 9 rfl B (.slice ao l.length co) l rfl HA.out (.string ⟨#[40, 41]⟩) [40, 41] rfl (src_str _ _) (by simp; omega) hBA ?_; intro v' w2 ho2 hg2 hn2)
  go_ret
  exact put_end hbA ho2 hg2 hn2 (by simp; omega)
 by_cases h6 : k = 6
 ·subst h6
  have HT : Hid (flatT h ⟨6, n, s⟩ = [102, 110]) := rfl
  rw [HT.out]
  go_enter Tryz.func110, Tryz.ntmps110
  go_wp2_with (at_builtin; refine wpList_append_b rfl _ _ 9 rfl B (.slice ao l.length co) l rfl HA.out (.string ⟨#[102, 110]⟩) [102, 110] rfl (src_str _ _) (by simp; omega) hBA ?_; intro v' w2 ho2 hg2 hn2)
  go_ret
  exact put_end hbA ho2 hg2 hn2 (by simp; omega)
 by_cases h2 : k = 2
 ·subst h2
  by_cases h1 : n = 1
  ·subst h1
   have HT : Hid (flatT h ⟨2, 1, s⟩ = [35, 116]) := rfl
   rw [HT.out]
   go_enter Tryz.func110, Tryz.ntmps110
   go_wp2_with (at_builtin; refine wpList_append_b rfl _ _ 9 rfl B (.slice ao l.length co) l rfl HA.out (.string ⟨#[35, 116]⟩) [35, 116] rfl (src_str _ _) (by simp; omega) hBA ?_; intro v' w2 ho2 hg2 hn2)
   go_ret
   exact put_end hbA ho2 hg2 hn2 (by simp; omega)
  ·have HT : Hid (flatT h ⟨2, n, s⟩ = [35, 102]) := by show _ = _; unfold flatT; simp [h1]
   rw [HT.out]
   go_enter Tryz.func110, Tryz.ntmps110
   go_wp2_with (at_builtin; refine wpList_append_b rfl _ _ 9 rfl B (.slice ao l.length co) l rfl HA.out (.string ⟨#[35, 102]⟩) [35, 102] rfl (src_str _ _) (by simp; omega) hBA ?_; intro v' w2 ho2 hg2 hn2)
   go_ret
   exact put_end hbA ho2 hg2 hn2 (by simp; omega)
 by_cases h4 : k = 4
 ·subst h4
  have HT : Hid (flatT h ⟨4, n, s⟩ = s.data.toList) := rfl
  have hsl : s.data.toList.length = s.size := rfl
  rw [HT.out]
  go_enter Tryz.func110, Tryz.ntmps110
  go_wp2_with (at_builtin; refine wpList_append_b rfl _ _ 9 rfl B (.slice ao l.length co) l rfl HA.out (.string s) s.data.toList rfl (src_str _ _) (by rw [hsl]; omega) hBA ?_; intro v' w2 ho2 hg2 hn2)
  go_ret
  exact put_end hbA ho2 hg2 hn2 (by rw [List.length_append, hsl]; omega)
 by_cases h1 : k = 1
 ·subst h1
  have HT : Hid (flatT h ⟨1, n, s⟩ = decL n) := rfl
  rw [HT.out]
  have hs0 : s.size = 0 := by
   by_cases hq : s.size = 0
   ·exact hq
   ·rw [vokS (by simp) hq] at hok; cases hok
  have hn := hok
  rw [vok1 rfl hs0] at hn
  simp only [Bool.and_eq_true, decide_eq_true_eq] at hn
  have hdl := (of_dec n (by omega) (by omega)).1
  have HD : Hid (∀ w, Calls Tryz.prog 132 #[.int .i64 n] w fun e w' => e = .returned (.string ⟨(decL n).toArray⟩) ∧ Below w.heap.size w w') := fun w => specDec_any n w d2.1 d2.2
  clear hok hn hs0
  go_enter Tryz.func110, Tryz.ntmps110
  go_wp2_with fail
  refine (HD.out _).mono ?_
  rintro e w1 ⟨rfl, hb1⟩
  have hb2 : Below w.heap.size w w1 := bT hbA hb1
  have HB1 : Hid (OwnB w1 B (.slice ao l.length co) l) := HO.out.keep hb2
  have hB1 : B ≤ w1.heap.size := Nat.le_trans hB hb2.size
  go_wp2_with (at_builtin; refine wpList_append_b rfl _ _ 9 rfl B (.slice ao l.length co) l rfl HB1.out (.string ⟨(decL n).toArray⟩) (decL n) rfl (src_str _ _) (by omega) hB1 ?_; intro v' w2 ho2 hg2 hn2)
  go_ret
  exact put_end hb2 ho2 hg2 hn2 (by rw [List.length_append]; omega)
 by_cases h7 : k = 7
 ·subst h7
  have hs0 : s.size = 0 := by
   by_cases hq : s.size = 0
   ·exact hq
   ·rw [vokS (by simp) hq] at hok; cases hok
  rw [vok7 rfl hs0] at hok
  unfold cellB at hok
  simp only [Bool.and_eq_true, decide_eq_true_eq, beq_iff_eq] at hok
  obtain ⟨hn0, hn1⟩ := hok
  obtain ⟨m, rfl⟩ : ∃ m : Nat, n = m := ⟨n.toNat, by omega⟩
  rw [Int.toNat_natCast] at hn1
  cases hc : h[m]? with
  | none => rw [hc] at hn1; cases hn1
  | some c =>
   have HT : Hid (flatT h ⟨7, (m : Int), s⟩ = 35 :: c.s.data.toList) := by show _ = _; unfold flatT; simp [hc]
   rw [HT.out]
   have hml : m < h.length := (List.getElem?_eq_some_iff.1 hc).1
   have hcs : c.s.size ≤ 1048576 := (hsm c (List.mem_of_getElem? hc)).2.2.2.1
   have hsl : c.s.data.toList.length = c.s.size := rfl
   obtain ⟨b1, o1, rfl, hbb, an, cn, av, cv, c0, c1, _⟩ := hr m c hc
   have i0 : (0 : Int) ≤ (m : Int) := by omega
   have i1 : (m : Int) < (h.length : Int) := by omega
   have HC1 : Hid (w.cell? ⟨b1, o1 + m * 6 + 1, none⟩ = some (.string c.s)) := c1
   clear hn1 hc hs0 hr hsm c0 c1
   have hbC : Below w.heap.size w ((w.alloc (Obj.cells #[.int .i64 7, .int .i64 (m : Int), .string s] 44)).alloc (Obj.cells #[.int .u8 35] 5)) := hbA.alloc hbA.size _
   have HB1 : Hid (OwnB ((w.alloc (Obj.cells #[.int .i64 7, .int .i64 (m : Int), .string s] 44)).alloc (Obj.cells #[.int .u8 35] 5)) B (.slice ao l.length co) l) := HO.out.keep hbC
   have HSB : Hid (Src Tryz.prog 1 132 (.slice (some ⟨w.heap.size + 1, 0, none⟩) 1 1) [(35 : UInt8)].length (bts [35]) ((w.alloc (Obj.cells #[.int .i64 7, .int .i64 (m : Int), .string s] 44)).alloc (Obj.cells #[.int .u8 35] 5))) := src_byte _ _ 35 35 5 rfl (blk_at _ _ _ (by simp))
   have k0 : ((w.alloc (Obj.cells #[.int .i64 7, .int .i64 (m : Int), .string s] 44)).alloc (Obj.cells #[.int .u8 35] 5)).heap[w.heap.size]? = some (Obj.cells #[.int .i64 7, .int .i64 (m : Int), .string s] 44) := blk_past (blk_at _ _ _ rfl)
   have hne0 : some w.heap.size ≠ (Value.slice ao l.length co).ownBlock := fun e => by have := (HO.out.at e.symm).2; omega
   have hBC : B ≤ ((w.alloc (Obj.cells #[.int .i64 7, .int .i64 (m : Int), .string s] 44)).alloc (Obj.cells #[.int .u8 35] 5)).heap.size := Nat.le_trans hB hbC.size
   have HK0 : Hid _ := k0
   clear k0
   go_enter Tryz.func110, Tryz.ntmps110
   go_wp2_with (first
    | (at_builtin; refine wpList_append_b rfl _ _ 132 rfl B (.slice ao l.length co) l rfl HB1.out _ [35] rfl HSB.out (by simp; omega) hBC ?_; intro v1 w1 ho1 hg1 hn1; obtain ⟨k1, hne1⟩ := fr_step HK0.out hne0 hg1 hn1; have x1 := cell_blk (j := 1) k1 rfl; have hlow1 := low_step HB1.out hBC hg1; have y1 := cell_keep (cell_keep HC1.out hbC (by omega)) hlow1 hbb; have HO1 : Hid (OwnB w1 B v1 (l ++ [35])) := ho1; clear ho1)
    | (at_builtin; refine wpList_append_b rfl _ _ 9 rfl B v1 (l ++ [35]) rfl HO1.out (.string c.s) c.s.data.toList rfl (src_str _ _) (by rw [List.length_append, hsl]; simp; omega) (Nat.le_trans hBC hg1.size) ?_; intro v2 w2 ho2 hg2 hn2))
   go_ret
   have hgw : w.grownBy w1 (Value.slice ao l.length co).ownBlock := gb_trans (gb_below _ hbC) hg1 (.inl rfl)
   have hn1' : v1.ownBlock = (Value.slice ao l.length co).ownBlock ∨ ∀ k, v1.ownBlock = some k → w.heap.size ≤ k := hn1.imp id fun h k hk => Nat.le_trans hbC.size (h k hk)
   refine ⟨v2, _, rfl, ho2, gb_trans hgw hg2 hn1', ?_, ?_, ?_⟩
   ·rcases hn2 with e | hq
    ·rw [e]; exact hn1'
    ·exact .inr fun k hk => Nat.le_trans hgw.size (hq k hk)
   ·rw [List.append_assoc]; exact Cut.refl _
   ·rw [List.length_append, List.length_append, hsl]
    simp
    omega
 ·rw [vok0 h1 h2 h3 h4 hk h6 h7] at hok
  cases hok
def Dn (n : Nat) : Nat := 2197152 + 8 * n
theorem PutPost.mono {B : Nat} {ov : Value} {l t : List UInt8} {D D' : Nat} {w : World} {e : Ending} {w' : World} (h : PutPost B ov l t D w e w') (hD : D ≤ D') : PutPost B ov l t D' w e w' := by
 obtain ⟨ov', l', h1, h2, h3, h4, h5, h6⟩ := h
 exact ⟨ov', l', h1, h2, h3, h4, h5, Nat.le_trans h6 (by omega)⟩
def rm (wr : World) (R : Nat) : Nat := match wr.cell? ⟨R, 0, none⟩, wr.cell? ⟨R, 1, none⟩ with
 | some (.int _ k), some (.int _ n) => if k = 5 then n.toNat + 1 else 0
 | _, _ => 0
theorem pair_cells {w : World} {B : Nat} {a : Option Addr} {h : List Cel} (hr : RowC w B a h) {m : Nat} {c : Cel} {x y : Val} (hc : h[m]? = some c) (hcv : c.vals = [x, y]) :
  ∃ b o b2 o2 cv, a = some ⟨b, o, none⟩ ∧ b < B ∧ b2 < B ∧ w.cell? ⟨b, o + m * 6 + 5, none⟩ = some (.slice (some ⟨b2, o2, none⟩) 2 cv) ∧ 2 ≤ cv ∧ ValAt w b2 o2 x ∧ ValAt w b2 (o2 + 3) y := by
 obtain ⟨b, o, rfl, hb, an, cn, av, cv, c0, c1, c2, c3, c4, c5, hrs, hrv, l1, l2⟩ := hr m c hc
 have e0 : c.vals[0]? = some x := by rw [hcv]; rfl
 have e1 : c.vals[1]? = some y := by rw [hcv]; rfl
 obtain ⟨b2, o2, rfl, hb2, hx⟩ := hrv 0 x e0
 obtain ⟨b3, o3, he, hb3, hy⟩ := hrv 1 y e1
 injection he with he
 injection he with h1 h2
 subst h1 h2
 have hl : c.vals.length = 2 := by rw [hcv]; rfl
 rw [hl] at c5 l2
 exact ⟨b, o, b2, o2, cv, rfl, hb, hb2, c5, l2, by simpa using hx, by simpa using hy⟩
theorem Tel.more_inv {h : List Cel} {v : Val} {t : List UInt8} {c : Cel} {x y : Val} (ht : Tel h true v t) (hk : v.k = 5) (hc : h[v.n.toNat]? = some c) (hcv : c.vals = [x, y]) : ∃ tx ty, t = 32 :: (tx ++ ty) ∧ Tel h false x tx ∧ Tel h true y ty := by
 cases ht with
 | more _ c' x' y' tx' ty' _ hc' hx' hy' h3 h4 =>
  obtain rfl := Option.some.inj (hc.symm.trans hc')
  rw [hcv] at hx' hy'
  obtain rfl : x = x' := by simpa using hx'
  obtain rfl : y = y' := by simpa using hy'
  exact ⟨_, _, rfl, h3, h4⟩
 | last _ hk' => rw [hk] at hk'; exact absurd hk' (by decide)
 | dot _ hk' => exact absurd hk hk'
theorem ok_mono {h : List Cel} {m n : Nat} {v : Val} (hv : v.ok (h.take m) = true) (hmn : m ≤ n) : v.ok (h.take n) = true := by
 rw [Val.ok_take, Bool.and_eq_true] at *
 refine ⟨hv.1, ?_⟩
 have := hv.2
 simp only [Bool.not_eq_true', Bool.and_eq_false_iff, decide_eq_false_iff_not] at *
 rcases this with h1 | h1
 ·exact .inl h1
 ·exact .inr (by omega)
theorem OwnB.set {W : World} {B : Nat} {v : Value} {l : List UInt8} (h : OwnB W B v l) {R : Nat} (hne : some R ≠ v.ownBlock) (j : Nat) (x : Value) : OwnB (W.setCell ⟨R, j, none⟩ x) B v l := by
 unfold OwnB at *
 refine ⟨h.1, h.2.imp id ?_⟩
 rintro ⟨g, cap, cur, rfl, hbg, hg, rest⟩
 refine ⟨g, cap, cur, rfl, hbg, (heap_setCell_other _ _ _ _ ?_).trans hg, rest⟩
 intro e
 have e' : g = R := e
 exact hne (by rw [← e']; rfl)
theorem gb_set {w W : World} {r : Option Nat} (h : w.grownBy W r) {R : Nat} (hR : w.heap.size ≤ R) (j : Nat) (x : Value) : w.grownBy (W.setCell ⟨R, j, none⟩ x) r := by
 refine gb_trans h (r1 := some R) ⟨rfl, rfl, rfl, by simp, fun i hi hne => heap_setCell_other _ _ _ _ (fun e => hne (by have e' : i = R := e; rw [e']))⟩ (.inr fun k hk => by have := Option.some.inj hk; omega)
theorem rm_at {W : World} {R : Nat} {y : Val} (h : W.heap[R]? = some (Obj.cells #[.int .i64 y.k, .int .i64 y.n, .string y.s] 44)) : rm W R = if y.k = 5 then y.n.toNat + 1 else 0 := by
 unfold rm
 rw [cell_blk (j := 0) h rfl, cell_blk (j := 1) h rfl]
 rfl
theorem l6Put_pair (a : Option Addr) (h : List Cel) (ca : Nat) (B : Nat) (hh : h.length ≤ 1048576) (hp : HeapP h) (hsm : ∀ c ∈ h, c.small) (n : Nat)
  (ih : ∀ (v : Val) (t : List UInt8) (ov : Value) (l : List UInt8) (w : World), v.ok (h.take n) = true → v.small → Tel h false v t → RowC w B a h → B ≤ w.heap.size → OwnB w B ov l → l.length ≤ 4000000 →
   Calls Tryz.prog 110 #[.slice a h.length ca, .agg #[.int .i64 v.k, .int .i64 v.n, .string v.s], ov] w fun e w' => PutPost B ov l t (Dn n) w e w')
  (s : ByteArray) (c : Cel) (x y : Val) (tx ty : List UInt8) (hc : h[n]? = some c) (hcv : c.vals = [x, y]) (hx : x.ok (h.take n) = true) (hy : y.ok (h.take n) = true) (htx : Tel h false x tx) (hty : Tel h true y ty)
  (ov : Value) (l : List UInt8) (w : World) (hr : RowC w B a h) (hB : B ≤ w.heap.size) (ho : OwnB w B ov l) (hl : l.length < 100000) :
  Calls Tryz.prog 110 #[.slice a h.length ca, .agg #[.int .i64 5, .int .i64 n, .string s], ov] w fun e w' => PutPost B ov l (40 :: (tx ++ (ty ++ [41]))) (Dn (n + 1)) w e w' := by
 have hn : n < h.length := (List.getElem?_eq_some_iff.1 hc).1
 have hn3 : n < 300 := by have := hp.1; omega
 have hcs := hsm c (List.mem_of_getElem? hc)
 have hxs : x.small := hcs.2.2.2.2.2.2.2 x (by rw [hcv]; simp)
 have hys : y.small := hcs.2.2.2.2.2.2.2 y (by rw [hcv]; simp)
 obtain ⟨ao, co, rfl, hco⟩ := ho.slice
 obtain ⟨b, o, b2, o2, cv, rfl, hb, hb2, z5, hcv2, hvx, hvy⟩ := pair_cells hr hc hcv
 have IH : Hid (∀ (v : Val) (t : List UInt8) (ov : Value) (l : List UInt8) (w : World), v.ok (h.take n) = true → v.small → Tel h false v t → RowC w B (some ⟨b, o, none⟩) h → B ≤ w.heap.size → OwnB w B ov l → l.length ≤ 4000000 →
   Calls Tryz.prog 110 #[.slice (some ⟨b, o, none⟩) h.length ca, .agg #[.int .i64 v.k, .int .i64 v.n, .string v.s], ov] w fun e w' => PutPost B ov l t (Dn n) w e w') := ih
 have HR : Hid (RowC w B (some ⟨b, o, none⟩) h) := hr
 have HO : Hid (OwnB w B (.slice ao l.length co) l) := ho
 have HP : Hid (HeapP h) := hp
 have HSM : Hid (∀ c ∈ h, c.small) := hsm
 have HVX : Hid (ValAt w b2 o2 x) := hvx
 have HVY : Hid (ValAt w b2 (o2 + 3) y) := hvy
 have HZ5 : Hid (w.cell? ⟨b, o + n * 6 + 5, none⟩ = some (.slice (some ⟨b2, o2, none⟩) 2 cv)) := z5
 have HTX : Hid (Tel h false x tx) := htx
 have HTY : Hid (Tel h true y ty) := hty
 have HX : Hid (x.ok (h.take n) = true) := hx
 have HY : Hid (y.ok (h.take n) = true) := hy
 have HXS : Hid x.small := hxs
 have HYS : Hid y.small := hys
 have g0 : decide ((100000 : Int) ≤ (l.length : Int)) = false := by simp; omega
 have i0 : (0 : Int) ≤ (n : Int) := by omega
 have i1 : (n : Int) < (h.length : Int) := by omega
 have hbA : Below w.heap.size w (w.alloc (Obj.cells #[.int .i64 5, .int .i64 (n : Int), .string s] 44)) := bR _ _
 have hbC : Below w.heap.size w ((w.alloc (Obj.cells #[.int .i64 5, .int .i64 (n : Int), .string s] 44)).alloc (Obj.cells #[.int .u8 40] 5)) := hbA.alloc hbA.size _
 have HB1 : Hid (OwnB ((w.alloc (Obj.cells #[.int .i64 5, .int .i64 (n : Int), .string s] 44)).alloc (Obj.cells #[.int .u8 40] 5)) B (.slice ao l.length co) l) := ho.keep hbC
 have HSB : Hid (Src Tryz.prog 1 132 (.slice (some ⟨w.heap.size + 1, 0, none⟩) 1 1) [(40 : UInt8)].length (bts [40]) ((w.alloc (Obj.cells #[.int .i64 5, .int .i64 (n : Int), .string s] 44)).alloc (Obj.cells #[.int .u8 40] 5))) := src_byte _ _ 40 40 5 rfl (blk_at _ _ _ (by simp))
 have k0 : ((w.alloc (Obj.cells #[.int .i64 5, .int .i64 (n : Int), .string s] 44)).alloc (Obj.cells #[.int .u8 40] 5)).heap[w.heap.size]? = some (Obj.cells #[.int .i64 5, .int .i64 (n : Int), .string s] 44) := blk_past (blk_at _ _ _ rfl)
 have hne0 : some w.heap.size ≠ (Value.slice ao l.length co).ownBlock := fun e => by have := (ho.at e.symm).2; omega
 have hBC : B ≤ ((w.alloc (Obj.cells #[.int .i64 5, .int .i64 (n : Int), .string s] 44)).alloc (Obj.cells #[.int .u8 40] 5)).heap.size := Nat.le_trans hB hbC.size
 have HK0 : Hid _ := k0
 clear k0 ih hr ho hp hsm hvx hvy z5 htx hty hx hy hxs hys hc hcv hcs
 go_enter Tryz.func110, Tryz.ntmps110
 go_wp2_with (at_builtin; refine wpList_append_b rfl _ _ 132 rfl B (.slice ao l.length co) l rfl HB1.out _ [40] rfl HSB.out (by simp; omega) hBC ?_; intro v1 w1 ho1 hg1 hn1; obtain ⟨k1, hne1⟩ := fr_step HK0.out hne0 hg1 hn1; have x1 := cell_blk (j := 1) k1 rfl; have hlow1 := low_step HB1.out hBC hg1; have hlow : Below B w w1 := (hbC.mono hB).trans hlow1; have y5 := cell_keep HZ5.out hlow hb; have u0 := cell_keep HVX.out.1 hlow hb2; have u1 := cell_keep HVX.out.2.1 hlow hb2; have u2 := cell_keep HVX.out.2.2 hlow hb2; have HO1 : Hid (OwnB w1 B v1 (l ++ [40])) := ho1; have K1 : Hid _ := k1; clear ho1 k1)
 have hB1 : B ≤ w1.heap.size := Nat.le_trans hBC hg1.size
 refine (IH.out x tx v1 (l ++ [40]) w1 HX.out HXS.out HTX.out ((HR.out.below hlow)) hB1 HO1.out (by simp; omega)).mono ?_
 rintro e w2 ⟨v2, l2, rfl, ho2, hg2, hn2, hcut2, hlen2⟩
 obtain ⟨k2, hne2⟩ := fr_step K1.out hne1 hg2 hn2
 have xx1 := zB 1 k2 rfl
 have hlow2 : Below B w w2 := hlow.trans (low_step HO1.out hB1 hg2)
 have yy5 := cell_keep HZ5.out hlow2 hb
 have uu0 := cell_keep HVY.out.1 hlow2 hb2
 have uu1 := cell_keep HVY.out.2.1 hlow2 hb2
 have uu2 := cell_keep HVY.out.2.2 hlow2 hb2
 have hn1' : v1.ownBlock = (Value.slice ao l.length co).ownBlock ∨ ∀ k, v1.ownBlock = some k → w.heap.size ≤ k := hn1.imp id fun h k hk => Nat.le_trans hbC.size (h k hk)
 have hgw1 : w.grownBy w1 (Value.slice ao l.length co).ownBlock := gb_trans (gb_below _ hbC) hg1 (.inl rfl)
 have hgw2 : w.grownBy w2 (Value.slice ao l.length co).ownBlock := gb_trans hgw1 hg2 hn1'
 have hn2' : v2.ownBlock = (Value.slice ao l.length co).ownBlock ∨ ∀ k, v2.ownBlock = some k → w.heap.size ≤ k := by
  rcases hn2 with e | hq
  ·rw [e]; exact hn1'
  ·exact .inr fun k hk => Nat.le_trans hgw1.size (hq k hk)
 have HO2 : Hid (OwnB w2 B v2 l2) := ho2
 have hl2 : l2.length ≤ Dn n := Nat.le_trans hlen2 (by unfold Dn; simp; omega)
 have HC2 : Hid (Cut (l2 ++ (ty ++ [41])) (l ++ (40 :: (tx ++ (ty ++ [41]))))) := by
  show Cut _ _
  have := hcut2.append (ty ++ [41])
  simpa using this
 have hbR : Below w2.heap.size w2 (w2.alloc (Obj.cells #[.int .i64 y.k, .int .i64 y.n, .string y.s] 44)) := bR _ _
 have hB2 : B ≤ w2.heap.size := Nat.le_trans hB1 hg2.size
 have HOR : Hid (OwnB (w2.alloc (Obj.cells #[.int .i64 y.k, .int .i64 y.n, .string y.s] 44)) B v2 l2) := ho2.keep hbR
 have HGR : Hid (w.grownBy (w2.alloc (Obj.cells #[.int .i64 y.k, .int .i64 y.n, .string y.s] 44)) (Value.slice ao l.length co).ownBlock) := gb_trans hgw2 (gb_below (Value.slice ao l.length co).ownBlock hbR) (.inl rfl)
 have HNR : Hid (some w2.heap.size ≠ v2.ownBlock) := fun e => by have := (ho2.at e.symm).2; omega
 have HKR : Hid ((w2.alloc (Obj.cells #[.int .i64 y.k, .int .i64 y.n, .string y.s] 44)).heap[w2.heap.size]? = some (Obj.cells #[.int .i64 y.k, .int .i64 y.n, .string y.s] 44)) := blk_at _ _ _ rfl
 have HLR : Hid (Below B w (w2.alloc (Obj.cells #[.int .i64 y.k, .int .i64 y.n, .string y.s] 44))) := hlow2.trans (hbR.mono hB2)
 have hwR : w.heap.size ≤ w2.heap.size := hgw2.size
 have hRl : w2.heap.size < (w2.alloc (Obj.cells #[.int .i64 y.k, .int .i64 y.n, .string y.s] 44)).heap.size := by simp
 clear k2 hcut2 hlen2 hn2 hg2 hne2 hne1 hne0 HK0 K1 HSB HB1 hlow hlow1 x1 y5 u0 u1 u2 HZ5 HVX HVY HTX HX HXS hg1 hn1 hbC hbA hBC ho2 hlow2 hn1' hgw1 HO1 hB1
 go_wp2
 clear xx1 yy5 uu0 uu1 uu2
 generalize hR : w2.heap.size = R at *
 generalize w2.alloc (Obj.cells #[.int .i64 y.k, .int .i64 y.n, .string y.s] 44) = w3 at *
 go_loopw [2] (fun o2 wr => ∃ (vv : Value) (lx : List UInt8) (yy : Val) (tyy : List UInt8), o2 = vv ∧ OwnB wr B vv lx ∧ w.grownBy wr (Value.slice ao l.length co).ownBlock ∧ (vv.ownBlock = (Value.slice ao l.length co).ownBlock ∨ ∀ k, vv.ownBlock = some k → w.heap.size ≤ k) ∧ some R ≠ vv.ownBlock ∧ wr.heap[R]? = some (Obj.cells #[.int .i64 yy.k, .int .i64 yy.n, .string yy.s] 44) ∧ Below B w wr ∧ yy.ok (h.take n) = true ∧ yy.small ∧ Tel h true yy tyy ∧ Cut (lx ++ (tyy ++ [41])) (l ++ (40 :: (tx ++ (ty ++ [41])))) ∧ lx.length ≤ Dn n)
  (fun _ wr => rm wr R)
 case atStart => exact ⟨v2, l2, y, ty, rfl, HOR.out, HGR.out, hn2', HNR.out, HKR.out, HLR.out, HY.out, HYS.out, HTY.out, HC2.out, hl2⟩
 case round =>
  clear HOR HGR HNR HKR HLR HC2 hl2 hn2'
  obtain ⟨vv, lx, yy, tyy, rfl, hov, hgr, hnv, hneR, hkR, hlow, hyok, hysm, hty', hcut, hlx⟩ := hrel
  obtain ⟨av, cvv, rfl, hcvv⟩ := hov.slice
  obtain ⟨x0, x1, x2⟩ := zn3 hkR rfl rfl rfl
  have hBr : B ≤ wr.heap.size := Nat.le_trans hB hgr.size
  have HOV : Hid (OwnB wr B (.slice av lx.length cvv) lx) := hov
  have HKV : Hid (wr.heap[R]? = some (Obj.cells #[.int .i64 yy.k, .int .i64 yy.n, .string yy.s] 44)) := hkR
  have HLW : Hid (Below B w wr) := hlow
  have HYO : Hid (yy.ok (h.take n) = true) := hyok
  have HYM : Hid yy.small := hysm
  have HCU : Hid (Cut (lx ++ (tyy ++ [41])) (l ++ (40 :: (tx ++ (ty ++ [41]))))) := hcut
  have HTT : Hid (Tel h true yy tyy) := hty'
  clear hov hkR hlow hysm hcut hty'
  by_cases h5 : yy.k = 5
  ·obtain ⟨m, c', x', y', hm, hc', hck, hcv', hx', hy'⟩ := pair_parts HP.out (ok_of_take hyok) h5
   have hmn : m < n := by have := below_of_take hyok h5; omega
   by_cases hM : lx.length < 100000
   ·have e5 : (yy.k == 5) = true := by simp [h5]
    have eM : decide ((lx.length : Int) < 100000) = true := by simp; omega
    obtain ⟨b', o', b3, o3, cv3, heq, _, hb3, z5, hcv3, hvx, hvy⟩ := pair_cells (HR.out.below HLW.out) hc' hcv'
    injection heq with heq
    injection heq with hq1 hq2
    subst hq1 hq2
    have hcn : h[yy.n.toNat]? = some c' := by rw [hm, Int.toNat_natCast]; exact hc'
    obtain ⟨tx', ty', htt, htx', hty''⟩ := HTT.out.more_inv h5 hcn hcv'
    have hcs' := HSM.out c' (List.mem_of_getElem? hc')
    have HXS' : Hid x'.small := hcs'.2.2.2.2.2.2.2 x' (by rw [hcv']; simp)
    have HYS' : Hid y'.small := hcs'.2.2.2.2.2.2.2 y' (by rw [hcv']; simp)
    have HX' : Hid (x'.ok (h.take n) = true) := ok_mono hx' (by omega)
    have HY' : Hid (y'.ok (h.take n) = true) := ok_mono hy' (by omega)
    have HYM' : Hid (y'.k = 5 → 0 ≤ y'.n ∧ y'.n < m) := fun hq => by obtain ⟨q, _, _, _, hq1, _⟩ := pair_parts HP.out (ok_of_take hy') hq; have := below_of_take hy' hq; omega
    have HTX' : Hid (Tel h false x' tx') := htx'
    have HTY' : Hid (Tel h true y' ty') := hty''
    have HTT' : Hid (tyy = 32 :: (tx' ++ ty')) := htt
    have HVX' : Hid (ValAt wr b3 o3 x') := hvx
    have HVY' : Hid (ValAt wr b3 (o3 + 3) y') := hvy
    have HZ5' : Hid (wr.cell? ⟨b, o + m * 6 + 5, none⟩ = some (.slice (some ⟨b3, o3, none⟩) 2 cv3)) := z5
    have HRM : Hid (rm wr R = m + 1) := by show _ = _; rw [rm_at HKV.out, if_pos h5, hm, Int.toNat_natCast]
    have hml : m < h.length := by omega
    rw [hm] at x1
    have j0 : (0 : Int) ≤ (m : Int) := by omega
    have j1 : (m : Int) < (h.length : Int) := by omega
    have hbS : Below wr.heap.size wr (wr.alloc (Obj.cells #[.int .u8 32] 5)) := bR _ _
    have HOS : Hid (OwnB (wr.alloc (Obj.cells #[.int .u8 32] 5)) B (.slice av lx.length cvv) lx) := HOV.out.keep hbS
    have HSS : Hid (Src Tryz.prog 1 132 (.slice (some ⟨wr.heap.size, 0, none⟩) 1 1) [(32 : UInt8)].length (bts [32]) (wr.alloc (Obj.cells #[.int .u8 32] 5))) := src_byte _ _ 32 32 5 rfl (blk_at _ _ _ rfl)
    have hBS : B ≤ (wr.alloc (Obj.cells #[.int .u8 32] 5)).heap.size := Nat.le_trans hBr hbS.size
    have HKS : Hid ((wr.alloc (Obj.cells #[.int .u8 32] 5)).heap[R]? = some (Obj.cells #[.int .i64 yy.k, .int .i64 yy.n, .string yy.s] 44)) := blk_past HKV.out
    have HLS : Hid (Below B wr (wr.alloc (Obj.cells #[.int .u8 32] 5))) := hbS.mono hBr
    have HM : Hid (yy.n = m) := hm
    clear hyok h5 hx' hy' hc' hck hcv' hm hvx hvy z5 htx' hty'' htt hcs' hcn
    go_wp2_with (at_builtin; refine wpList_append_b rfl _ _ 132 rfl B (.slice av lx.length cvv) lx rfl HOS.out _ [32] rfl HSS.out (by simp; omega) hBS ?_; intro v4 w4 ho4 hg4 hn4; obtain ⟨k4, hne4⟩ := fr_step HKS.out hneR hg4 hn4; rw [HM.out] at k4; have z0 := cell_blk (j := 0) k4 rfl; have z1 := cell_blk (j := 1) k4 rfl; have z2 := cell_blk (j := 2) k4 rfl; have hlow4 := HLS.out.trans (low_step HOS.out hBS hg4); have y5 := cell_keep HZ5'.out hlow4 hb; have u0 := cell_keep HVX'.out.1 hlow4 hb3; have u1 := cell_keep HVX'.out.2.1 hlow4 hb3; have u2 := cell_keep HVX'.out.2.2 hlow4 hb3; have HO4 : Hid (OwnB w4 B v4 (lx ++ [32])) := ho4; have K4 : Hid _ := k4; clear ho4 k4)
    have hB4 : B ≤ w4.heap.size := Nat.le_trans hBS hg4.size
    have hgw4 : w.grownBy w4 (Value.slice ao l.length co).ownBlock := gb_trans hgr (gb_trans (gb_below _ hbS) hg4 (.inl rfl)) hnv
    have hn4' : v4.ownBlock = (Value.slice ao l.length co).ownBlock ∨ ∀ k, v4.ownBlock = some k → w.heap.size ≤ k := by
     rcases hn4 with e | hq
     ·rw [e]; exact hnv
     ·exact .inr fun k hk => Nat.le_trans (Nat.le_trans hgr.size hbS.size) (hq k hk)
    refine (IH.out x' tx' v4 (lx ++ [32]) w4 HX'.out HXS'.out HTX'.out (HR.out.below (HLW.out.trans hlow4)) hB4 HO4.out (by simp; omega)).mono ?_
    rintro e w5 ⟨v5, l5, rfl, ho5, hg5, hn5, hcut5, hlen5⟩
    obtain ⟨k5, hne5⟩ := fr_step K4.out hne4 hg5 hn5
    have hlow5 : Below B wr w5 := hlow4.trans (low_step HO4.out hB4 hg5)
    obtain ⟨zz0, zz1, zz2⟩ := zn3 k5 rfl rfl rfl
    have f0 := frozen_blk k5 0
    have f1 := frozen_blk k5 1
    have f2 := frozen_blk k5 2
    have yy5 := cell_keep HZ5'.out hlow5 hb
    have uu0 := cell_keep HVY'.out.1 hlow5 hb3
    have uu1 := cell_keep HVY'.out.2.1 hlow5 hb3
    have uu2 := cell_keep HVY'.out.2.2 hlow5 hb3
    have hgw5 : w.grownBy w5 (Value.slice ao l.length co).ownBlock := gb_trans hgw4 hg5 hn4'
    have hn5' : v5.ownBlock = (Value.slice ao l.length co).ownBlock ∨ ∀ k, v5.ownBlock = some k → w.heap.size ≤ k := by
     rcases hn5 with e | hq
     ·rw [e]; exact hn4'
     ·exact .inr fun k hk => Nat.le_trans hgw4.size (hq k hk)
    have hl5 : l5.length ≤ Dn n := by
     have h5' := hlen5
     rw [List.length_append] at h5'
     simp at h5'
     unfold Dn at *
     omega
    have HC5 : Hid (Cut (l5 ++ (ty' ++ [41])) (l ++ (40 :: (tx ++ (ty ++ [41]))))) := by
     show Cut _ _
     have h1 := hcut5.append (ty' ++ [41])
     have h2 := HCU.out
     rw [HTT'.out] at h2
     exact h1.trans (by simpa using h2)
    have HO5 : Hid (OwnB w5 B v5 l5) := ho5
    have K5 : Hid _ := k5
    have HL5 : Hid (Below B w w5) := HLW.out.trans hlow5
    clear z0 z1 z2 y5 u0 u1 u2 hcut5 hlen5 ho5 k5 hg5 hn5 HO4 hg4 hn4 hne4 hlow4 hlow5 K4 x0 x1 x2
    go_wp2
    go_roundw
    case rel =>
     refine ⟨v5, l5, y', ty', rfl, ((HO5.out.set hne5 _ _).set hne5 _ _).set hne5 _ _, gb_set (gb_set (gb_set hgw5 (by omega) _ _) (by omega) _ _) (by omega) _ _, hn5', hne5, ?_, ?_, HY'.out, HYS'.out, HTY'.out, HC5.out, hl5⟩
     ·exact heap_setCell_same _ _ _ _ _ _ (heap_setCell_same _ _ _ _ _ _ (heap_setCell_same _ _ _ _ _ _ K5.out))
     ·exact ((HL5.out.setCell (p := ⟨R, _, none⟩) (by simp; omega) _).setCell (p := ⟨R, _, none⟩) (by simp; omega) _).setCell (p := ⟨R, _, none⟩) (by simp; omega) _
    case measure =>
     rw [HRM.out, rm_at (y := y') (heap_setCell_same _ _ _ _ _ _ (heap_setCell_same _ _ _ _ _ _ (heap_setCell_same _ _ _ _ _ _ K5.out)))]
     split
     ·next hq => have := HYM'.out hq; omega
     ·omega
   ·have e5 : (yy.k == 5) = true := by simp [h5]
    have e3 : (yy.k != 3) = true := by simp [h5]
    have eM : decide ((lx.length : Int) < 100000) = false := by simp; omega
    obtain ⟨tf, htf⟩ := Tel.exists HP.out n false yy (ok_of_take hyok) fun _ => by omega
    have HTF : Hid (Tel h false yy tf) := htf
    clear hyok htf h5 hx' hy' hc' hck hcv' hm
    have hMM : 100000 ≤ lx.length := by omega
    go_wp2_with (at_builtin; refine wpList_append_b rfl _ _ 9 rfl B (.slice av lx.length cvv) lx rfl HOV.out (.string ⟨#[32, 46, 32]⟩) [32, 46, 32] rfl (src_str _ _) (by unfold Dn at *; simp; omega) hBr ?_; intro v4 w4 ho4 hg4 hn4; obtain ⟨k4, hne4⟩ := fr_step HKV.out hneR hg4 hn4; have z0 := cell_blk (j := 0) k4 rfl; have z1 := cell_blk (j := 1) k4 rfl; have z2 := cell_blk (j := 2) k4 rfl; have hlow4 := HLW.out.trans (low_step HOV.out hBr hg4); have HO4 : Hid (OwnB w4 B v4 (lx ++ [32, 46, 32])) := ho4; clear ho4 k4)
    have hB4 : B ≤ w4.heap.size := Nat.le_trans hBr hg4.size
    have hgw4 : w.grownBy w4 (Value.slice ao l.length co).ownBlock := gb_trans hgr hg4 hnv
    have hn4' : v4.ownBlock = (Value.slice ao l.length co).ownBlock ∨ ∀ k, v4.ownBlock = some k → w.heap.size ≤ k := by
     rcases hn4 with e | hq
     ·rw [e]; exact hnv
     ·exact .inr fun k hk => Nat.le_trans hgr.size (hq k hk)
    refine (IH.out yy tf v4 (lx ++ [32, 46, 32]) w4 HYO.out HYM.out HTF.out (HR.out.below hlow4) hB4 HO4.out (by unfold Dn at *; simp; omega)).mono ?_
    rintro e w5 ⟨v5, l5, rfl, ho5, hg5, hn5, hcut5, hlen5⟩
    have hB5 : B ≤ w5.heap.size := Nat.le_trans hB4 hg5.size
    have hgw5 : w.grownBy w5 (Value.slice ao l.length co).ownBlock := gb_trans hgw4 hg5 hn4'
    have hn5' : v5.ownBlock = (Value.slice ao l.length co).ownBlock ∨ ∀ k, v5.ownBlock = some k → w.heap.size ≤ k := by
     rcases hn5 with e | hq
     ·rw [e]; exact hn4'
     ·exact .inr fun k hk => Nat.le_trans hgw4.size (hq k hk)
    have hl5 : l5.length ≤ Dn n + 3 := by
     have h5' := hlen5
     rw [List.length_append] at h5'
     simp at h5'
     omega
    have HC5 : Hid (Cut (l5 ++ [41]) (l ++ (40 :: (tx ++ (ty ++ [41]))))) := by show Cut _ _; exact ((hcut5.append [41]).trans (by rw [List.append_assoc, List.append_assoc]; exact Cut.over (Cut.refl lx) hMM _ (tyy ++ [41]))).trans HCU.out
    have HO5 : Hid (OwnB w5 B v5 l5) := ho5
    clear z0 z1 z2 hcut5 hlen5 ho5 hg5 hn5 HO4 hg4 hn4 hne4 hlow4
    have hbZ : Below w5.heap.size w5 (w5.alloc (Obj.cells #[.int .u8 41] 5)) := bR _ _
    have HOZ : Hid (OwnB (w5.alloc (Obj.cells #[.int .u8 41] 5)) B v5 l5) := HO5.out.keep hbZ
    have HSZ : Hid (Src Tryz.prog 1 132 (.slice (some ⟨w5.heap.size, 0, none⟩) 1 1) [(41 : UInt8)].length (bts [41]) (w5.alloc (Obj.cells #[.int .u8 41] 5))) := src_byte _ _ 41 41 5 rfl (blk_at _ _ _ rfl)
    have hBZ : B ≤ (w5.alloc (Obj.cells #[.int .u8 41] 5)).heap.size := Nat.le_trans hB5 hbZ.size
    have hlZ : l5.length + 1 ≤ 16777216 := by have := hl5; unfold Dn at *; omega
    go_wp2_with (at_builtin; refine wpList_append_b rfl _ _ 132 rfl B v5 l5 rfl HOZ.out _ [41] rfl HSZ.out (by simpa using hlZ) hBZ ?_; intro v9 w9 ho9 hg9 hn9)
    go_ret
    refine ⟨v9, _, rfl, ho9, gb_trans hgw5 (gb_trans (gb_below _ hbZ) hg9 (.inl rfl)) hn5', ?_, HC5.out, ?_⟩
    ·rcases hn9 with e | hq
     ·rw [e]; exact hn5'
     ·exact .inr fun k hk => Nat.le_trans (Nat.le_trans hgw5.size hbZ.size) (hq k hk)
    ·rw [List.length_append]
     have := hl5
     unfold Dn at *
     simp
     omega
  ·have e5 : (yy.k == 5) = false := by simp [h5]
   by_cases h3 : yy.k = 3
   ·have e3 : (yy.k != 3) = false := by simp [h3]
    have HTE : Hid (tyy = []) := HTT.out.unique (.last yy h3)
    clear h3 h5 hyok
    have hbZ : Below wr.heap.size wr (wr.alloc (Obj.cells #[.int .u8 41] 5)) := bR _ _
    have HOZ : Hid (OwnB (wr.alloc (Obj.cells #[.int .u8 41] 5)) B (.slice av lx.length cvv) lx) := HOV.out.keep hbZ
    have HSZ : Hid (Src Tryz.prog 1 132 (.slice (some ⟨wr.heap.size, 0, none⟩) 1 1) [(41 : UInt8)].length (bts [41]) (wr.alloc (Obj.cells #[.int .u8 41] 5))) := src_byte _ _ 41 41 5 rfl (blk_at _ _ _ rfl)
    have hBZ : B ≤ (wr.alloc (Obj.cells #[.int .u8 41] 5)).heap.size := Nat.le_trans hBr hbZ.size
    have hlZ : lx.length + 1 ≤ 16777216 := by have := hlx; unfold Dn at *; omega
    go_wp2_with (at_builtin; refine wpList_append_b rfl _ _ 132 rfl B (.slice av lx.length cvv) lx rfl HOZ.out _ [41] rfl HSZ.out (by simpa using hlZ) hBZ ?_; intro v9 w9 ho9 hg9 hn9)
    go_ret
    refine ⟨v9, _, rfl, ho9, gb_trans hgr (gb_trans (gb_below _ hbZ) hg9 (.inl rfl)) hnv, ?_, (by have := HCU.out; rw [HTE.out] at this; simpa using this), ?_⟩
    ·rcases hn9 with e | hq
     ·rw [e]; exact hnv
     ·exact .inr fun k hk => Nat.le_trans (Nat.le_trans hgr.size hbZ.size) (hq k hk)
    ·rw [List.length_append]
     have := hlx
     unfold Dn at *
     simp
     omega
   ·have e3 : (yy.k != 3) = true := by simp [h3]
    have HTE : Hid (tyy = 32 :: 46 :: 32 :: flatT h yy) := HTT.out.unique (.dot yy h5 h3)
    have HTF : Hid (Tel h false yy (flatT h yy)) := .flat yy h5
    clear h3 h5 hyok
    go_wp2_with (at_builtin; refine wpList_append_b rfl _ _ 9 rfl B (.slice av lx.length cvv) lx rfl HOV.out (.string ⟨#[32, 46, 32]⟩) [32, 46, 32] rfl (src_str _ _) (by unfold Dn at *; simp; omega) hBr ?_; intro v4 w4 ho4 hg4 hn4; obtain ⟨k4, hne4⟩ := fr_step HKV.out hneR hg4 hn4; have z0 := cell_blk (j := 0) k4 rfl; have z1 := cell_blk (j := 1) k4 rfl; have z2 := cell_blk (j := 2) k4 rfl; have hlow4 := HLW.out.trans (low_step HOV.out hBr hg4); have HO4 : Hid (OwnB w4 B v4 (lx ++ [32, 46, 32])) := ho4; clear ho4 k4)
    have hB4 : B ≤ w4.heap.size := Nat.le_trans hBr hg4.size
    have hgw4 : w.grownBy w4 (Value.slice ao l.length co).ownBlock := gb_trans hgr hg4 hnv
    have hn4' : v4.ownBlock = (Value.slice ao l.length co).ownBlock ∨ ∀ k, v4.ownBlock = some k → w.heap.size ≤ k := by
     rcases hn4 with e | hq
     ·rw [e]; exact hnv
     ·exact .inr fun k hk => Nat.le_trans hgr.size (hq k hk)
    refine (IH.out yy (flatT h yy) v4 (lx ++ [32, 46, 32]) w4 HYO.out HYM.out HTF.out (HR.out.below hlow4) hB4 HO4.out (by unfold Dn at *; simp; omega)).mono ?_
    rintro e w5 ⟨v5, l5, rfl, ho5, hg5, hn5, hcut5, hlen5⟩
    have hB5 : B ≤ w5.heap.size := Nat.le_trans hB4 hg5.size
    have hgw5 : w.grownBy w5 (Value.slice ao l.length co).ownBlock := gb_trans hgw4 hg5 hn4'
    have hn5' : v5.ownBlock = (Value.slice ao l.length co).ownBlock ∨ ∀ k, v5.ownBlock = some k → w.heap.size ≤ k := by
     rcases hn5 with e | hq
     ·rw [e]; exact hn4'
     ·exact .inr fun k hk => Nat.le_trans hgw4.size (hq k hk)
    have hl5 : l5.length ≤ Dn n + 3 := by
     have h5' := hlen5
     rw [List.length_append] at h5'
     simp at h5'
     omega
    have HC5 : Hid (Cut (l5 ++ [41]) (l ++ (40 :: (tx ++ (ty ++ [41]))))) := by show Cut _ _; have h1 := hcut5.append [41]; have h2 := HCU.out; rw [HTE.out] at h2; exact h1.trans (by simpa using h2)
    have HO5 : Hid (OwnB w5 B v5 l5) := ho5
    clear z0 z1 z2 hcut5 hlen5 ho5 hg5 hn5 HO4 hg4 hn4 hne4 hlow4
    have hbZ : Below w5.heap.size w5 (w5.alloc (Obj.cells #[.int .u8 41] 5)) := bR _ _
    have HOZ : Hid (OwnB (w5.alloc (Obj.cells #[.int .u8 41] 5)) B v5 l5) := HO5.out.keep hbZ
    have HSZ : Hid (Src Tryz.prog 1 132 (.slice (some ⟨w5.heap.size, 0, none⟩) 1 1) [(41 : UInt8)].length (bts [41]) (w5.alloc (Obj.cells #[.int .u8 41] 5))) := src_byte _ _ 41 41 5 rfl (blk_at _ _ _ rfl)
    have hBZ : B ≤ (w5.alloc (Obj.cells #[.int .u8 41] 5)).heap.size := Nat.le_trans hB5 hbZ.size
    have hlZ : l5.length + 1 ≤ 16777216 := by have := hl5; unfold Dn at *; omega
    go_wp2_with (at_builtin; refine wpList_append_b rfl _ _ 132 rfl B v5 l5 rfl HOZ.out _ [41] rfl HSZ.out (by simpa using hlZ) hBZ ?_; intro v9 w9 ho9 hg9 hn9)
    go_ret
    refine ⟨v9, _, rfl, ho9, gb_trans hgw5 (gb_trans (gb_below _ hbZ) hg9 (.inl rfl)) hn5', ?_, HC5.out, ?_⟩
    ·rcases hn9 with e | hq
     ·rw [e]; exact hn5'
     ·exact .inr fun k hk => Nat.le_trans (Nat.le_trans hgw5.size hbZ.size) (hq k hk)
    ·rw [List.length_append]
     have := hl5
     unfold Dn at *
     simp
     omega
theorem l6Put_any (a : Option Addr) (h : List Cel) (ca : Nat) (B : Nat) (hh : h.length ≤ 1048576) (hp : HeapP h) (hsm : ∀ c ∈ h, c.small) : ∀ (n : Nat) (v : Val) (t : List UInt8) (ov : Value) (l : List UInt8) (w : World), v.ok (h.take n) = true → v.small → Tel h false v t → RowC w B a h → B ≤ w.heap.size → OwnB w B ov l → l.length ≤ 4000000 →
   Calls Tryz.prog 110 #[.slice a h.length ca, .agg #[.int .i64 v.k, .int .i64 v.n, .string v.s], ov] w fun e w' => PutPost B ov l t (Dn n) w e w' := by
 intro n
 induction n using Nat.strongRecOn with
 | ind n ih =>
 intro v t ov l w hv hvs ht hr hB ho hl
 by_cases hM : 100000 ≤ l.length
 ·exact l6Put_full _ v B ov l t (Dn n) w ho hM (by omega)
 ·by_cases hk : v.k = 5
  ·obtain ⟨m, c, x, y, hm, hc, hck, hcv, hx, hy⟩ := pair_parts hp (ok_of_take hv) hk
   have hmn : m < n := by have := below_of_take hv hk; omega
   have hc' : h[v.n.toNat]? = some c := by rw [hm, Int.toNat_natCast]; exact hc
   cases ht with
   | flat _ hk' => exact absurd hk hk'
   | pair _ c' x' y' tx ty _ hc2 hx2 hy2 h3 h4 =>
    obtain rfl := Option.some.inj (hc'.symm.trans hc2)
    rw [hcv] at hx2 hy2
    obtain rfl : x = x' := by simpa using hx2
    obtain rfl : y = y' := by simpa using hy2
    obtain ⟨k, vn, s⟩ := v
    simp only at *
    subst hk hm
    refine (l6Put_pair a h ca B hh hp hsm m (ih m hmn) s c x y tx ty hc hcv hx hy h3 h4 ov l w hr hB ho (by omega)).mono fun e w' hq => hq.mono ?_
    unfold Dn
    omega
  ·cases ht with
   | flat =>
    refine (l6Put_flat a h ca v B ov l w hh hsm hvs (ok_of_take hv) hk hr hB ho (by omega)).mono fun e w' hq => hq.mono ?_
    unfold Dn
    omega
   | pair _ c' x' y' tx ty hk' => exact absurd hk' hk
def TextIs (h : List Cel) (v : Val) (s : List UInt8) : Prop := (HeapP h ∧ v.ok h = true → ∃ t, Tel h false v t ∧ s = t.take 100000) ∧ (¬ (HeapP h ∧ v.ok h = true) → s = [])
theorem TextIs.unique {h : List Cel} {v : Val} {s s' : List UInt8} (h1 : TextIs h v s) (h2 : TextIs h v s') : s = s' := by
 by_cases hq : HeapP h ∧ v.ok h = true
 ·obtain ⟨t, ht, rfl⟩ := h1.1 hq
  obtain ⟨t', ht', rfl⟩ := h2.1 hq
  rw [ht.unique ht']
 ·rw [h1.2 hq, h2.2 hq]
def TxPost (h : List Cel) (v : Val) (w : World) (e : Ending) (w' : World) : Prop := ∃ s : List UInt8, e = .returned (.string ⟨s.toArray⟩) ∧ TextIs h v s ∧ Below w.heap.size w w'
theorem ownB_nil {W : World} {B g : Nat} (h : W.heap[g]? = some (.cells #[] 5 (0, 0))) (hB : B ≤ g) : OwnB W B (.slice (some ⟨g, 0, none⟩) 0 0) [] := ⟨rfl, .inr ⟨g, 0, #[], rfl, hB, h, Nat.le_refl _, Nat.zero_le _, rfl, rfl⟩⟩
theorem OwnB.cut {W : World} {B : Nat} {a : Option Addr} {c : Nat} {l : List UInt8} (h : OwnB W B (.slice a l.length c) l) {k : Nat} (hk : k ≤ l.length) (h0 : 0 < k) : OwnB W B (.slice a k c) (l.take k) := by
 unfold OwnB at *
 have hl : (l.take k).length = k := by rw [List.length_take]; omega
 rw [hl]
 obtain ⟨_, ⟨hv, hn⟩ | ⟨g, cap, cur, hv, h1, h2, h3, h4, h5, h6⟩⟩ := h
 ·omega
 ·injection hv with e1 e2 e3
  subst e1 e3
  refine ⟨by rw [bts_length, hl]; omega, .inr ⟨g, c, cur, rfl, h1, h2, by omega, h4, h5, ?_⟩⟩
  simp only [Nat.mul_one] at *
  have : cur.toList.take k = (cur.toList.take l.length).take k := by rw [List.take_take, Nat.min_eq_left hk]
  rw [this, h6]
  simp [bts]
theorem conv_b {B : Nat} {w : World} {v : Value} {l : List UInt8} (h : OwnB w B v l) : (convert 132 9 v).run Tryz.prog w = .ok (.string ⟨l.toArray⟩) w := conv_own h
theorem l6Text_any (a : Option Addr) (h : List Cel) (ca : Nat) (d : Val) (t : List UInt8) (w : World) (hh : h.length ≤ 1048576) (hp : HeapP h) (hsm : ∀ c ∈ h, c.small) (hd : d.small) (hok : d.ok h = true) (ht : Tel h false d t) (hr : RowC w w.heap.size a h) :
  Calls Tryz.prog 76 #[.slice a h.length ca, .agg #[.int .i64 d.k, .int .i64 d.n, .string d.s]] w fun e w' => Ans w (.string ⟨(t.take 100000).toArray⟩) e w' := by
 have hok' : d.ok (h.take h.length) = true := by rw [List.take_length]; exact hok
 have IH : Hid (∀ (ov : Value) (l : List UInt8) (w1 : World), RowC w1 w.heap.size a h → w.heap.size ≤ w1.heap.size → OwnB w1 w.heap.size ov l → l.length ≤ 4000000 →
   Calls Tryz.prog 110 #[.slice a h.length ca, .agg #[.int .i64 d.k, .int .i64 d.n, .string d.s], ov] w1 fun e w' => PutPost w.heap.size ov l t (Dn h.length) w1 e w') := fun ov l w1 h1 h2 h3 h4 => l6Put_any a h ca w.heap.size hh hp hsm h.length d t ov l w1 hok' hd ht h1 h2 h3 h4
 have hn3 : h.length ≤ 300 := hp.1
 have HR : Hid (RowC w w.heap.size a h) := hr
 clear hr hp hsm hok hok' ht
 go_enter Tryz.func76, Tryz.ntmps76
 go_wp2_with fail
 have hbA : Below w.heap.size w ((w.alloc (Obj.cells #[.int .i64 d.k, .int .i64 d.n, .string d.s] 44)).alloc (Obj.cells #[] 5)) := (bR _ _).alloc (by simp) _
 have hoA : OwnB ((w.alloc (Obj.cells #[.int .i64 d.k, .int .i64 d.n, .string d.s] 44)).alloc (Obj.cells #[] 5)) w.heap.size (.slice (some ⟨w.heap.size + 1, 0, none⟩) 0 0) [] := ownB_nil (blk_at _ _ _ (by simp)) (by omega)
 refine (IH.out _ [] _ (HR.out.below hbA) hbA.size hoA (by simp)).mono ?_
 rintro e w1 ⟨v1, l1, rfl, ho1, hg1, hn1, hcut, hlen⟩
 have hb1 : Below w.heap.size w w1 := hbA.grown hg1 hbA.size fun k hk => by
  have : w.heap.size + 1 = k := by simpa [Value.ownBlock] using hk
  omega
 have hl1 : l1.length ≤ 2199552 := by unfold Dn at hlen; simp at hlen; omega
 obtain ⟨a1, c1, rfl, hc1⟩ := ho1.slice
 rw [List.nil_append] at hcut
 have HCT : Hid (l1.take 100000 = t.take 100000) := hcut
 clear hcut hlen hn1 hg1 hoA hbA
 by_cases hM : 100000 < l1.length
 ·have e1 : decide ((100000 : Int) < (l1.length : Int)) = true := by simp; omega
  have hcv := conv_b (ho1.cut (k := 100000) (by omega) (by omega))
  rw [HCT.out] at hcv
  have q1 : (100000 : Int) ≤ (c1 : Int) := by omega
  go_wp2
  go_ret
  exact ⟨rfl, hb1⟩
 ·have e1 : decide ((100000 : Int) < (l1.length : Int)) = false := by simp; omega
  have hcv := conv_b ho1
  have hlt : l1 = t.take 100000 := by rw [← HCT.out, List.take_of_length_le (by omega)]
  have HLT : Hid (l1 = t.take 100000) := hlt
  clear hlt
  go_wp2
  go_ret
  exact ⟨by rw [HLT.out]; rfl, hb1⟩
theorem specText_any (a : Option Addr) (h : List Cel) (ca : Nat) (d : Val) (w : World) (hh : h.length ≤ 1048576) (hsm : ∀ c ∈ h, c.small) (hd : d.small) (hr : RowC w w.heap.size a h) :
  Calls Tryz.prog 49 #[.slice a h.length ca, .agg #[.int .i64 d.k, .int .i64 d.n, .string d.s]] w fun e w' => TxPost h d w e w' := by
 have HH : Hid (∀ w1, Below w.heap.size w w1 → Calls Tryz.prog 70 #[.slice a h.length ca] w1 fun e w' => HpPost h w1 e w') := fun w1 hb => specHeap_any a h ca w1 hh hsm ((hr.below hb).mono hb.size)
 have HV : Hid (∀ w1, Below w.heap.size w w1 → Calls Tryz.prog 48 #[.slice a h.length ca, .agg #[.int .i64 d.k, .int .i64 d.n, .string d.s]] w1 fun e w' => Ans w1 (.bool (d.ok h)) e w') := fun w1 hb => specVal_any d a h ca w1 hh hd.2.2 ((hr.below hb).mono hb.size)
 have HL : Hid (∀ w1 t, Below w.heap.size w w1 → HeapP h → d.ok h = true → Tel h false d t → Calls Tryz.prog 76 #[.slice a h.length ca, .agg #[.int .i64 d.k, .int .i64 d.n, .string d.s]] w1 fun e w' => Ans w1 (.string ⟨(t.take 100000).toArray⟩) e w') := fun w1 t hb hp hok ht => l6Text_any a h ca d t w1 hh hp hsm hd hok ht ((hr.below hb).mono hb.size)
 have hbA : Below w.heap.size w (w.alloc (Obj.cells #[.int .i64 d.k, .int .i64 d.n, .string d.s] 44)) := bR _ _
 have kA := blk_alloc w (Obj.cells #[.int .i64 d.k, .int .i64 d.n, .string d.s] 44)
 clear hr hsm
 go_enter Tryz.func49, Tryz.ntmps49
 go_wp2_with fail
 refine (HH.out _ hbA).mono ?_
 rintro e w1 ⟨b1, rfl, hq1, hb1⟩
 have hb2 := bT hbA hb1
 have k1 := blk_keep kA hb1 (by simp)
 have hs1 : w.heap.size < w1.heap.size := (Array.getElem?_eq_some_iff.1 k1).1
 obtain ⟨x0, x1, x2⟩ := zn3 k1 rfl rfl rfl
 have K1 : Hid _ := k1
 have HQ1 : Hid (b1 = true ↔ HeapP h) := hq1
 clear kA k1 hq1 hb1 hbA
 cases b1
 ·go_wp2
  go_ret
  exact ⟨[], rfl, ⟨fun hq => absurd (HQ1.out.2 hq.1) (by simp), fun _ => rfl⟩, hb2⟩
 ·have hp : HeapP h := HQ1.out.1 rfl
  cases hv : d.ok h
  ·rw [hv] at HV
   have HVV : Hid (d.ok h = false) := hv
   clear hv
   go_wp2_with (go_at_call 48; refine (HV.out _ hb2).mono ?_; rintro e w2 ⟨rfl, hb3⟩)
   go_ret
   exact ⟨[], rfl, ⟨fun hq => absurd (HVV.out.symm.trans hq.2) (by simp), fun _ => rfl⟩, bT hb2 hb3⟩
  ·rw [hv] at HV
   obtain ⟨t, ht⟩ := Tel.exists hp (h.length + 1) false d hv fun hk => by obtain ⟨m, c, _, _, hm, hc, _⟩ := pair_parts hp hv hk; have := (List.getElem?_eq_some_iff.1 hc).1; omega
   have HT : Hid (TextIs h d (t.take 100000)) := ⟨fun _ => ⟨t, ht, rfl⟩, fun hq => absurd ⟨hp, hv⟩ hq⟩
   have HL2 : Hid (∀ w1, Below w.heap.size w w1 → Calls Tryz.prog 76 #[.slice a h.length ca, .agg #[.int .i64 d.k, .int .i64 d.n, .string d.s]] w1 fun e w' => Ans w1 (.string ⟨(t.take 100000).toArray⟩) e w') := fun w1 hb => HL.out w1 t hb hp hv ht
   clear hv hp ht HL
   go_wp2_with (first
    | (go_at_call 48; refine (HV.out _ hb2).mono ?_; rintro e w2 ⟨rfl, hb3⟩; have hb4 := bT hb2 hb3; have k2 := blk_keep K1.out hb3 hs1; have z0 := cell_blk (j := 0) k2 rfl; have z1 := cell_blk (j := 1) k2 rfl; have z2 := cell_blk (j := 2) k2 rfl)
    | (go_at_call 76; refine (HL2.out _ hb4).mono ?_; rintro e w3 ⟨rfl, hb5⟩))
   go_ret
   exact ⟨_, rfl, HT.out, bT hb4 hb5⟩
end Go.Proofs.YtlacidojljilaaaGreatDoor
