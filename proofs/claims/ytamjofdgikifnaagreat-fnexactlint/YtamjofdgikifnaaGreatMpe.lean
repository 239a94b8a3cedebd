/- A map by a name and a way, its elements numbers: what it says, key by key. A row of texts onto a row of texts, be it empty or not, as one step of a region. What the program counts while it goes through a node: how often a name is bound around, and whether it is told. A key of the map counted up or down: its entry, and what is stored there. -/
import Derived.Test.YtamjofdgikifnaaGreatKmp
import Derived.Test.YtamjofdgikifnaaGreatFrp
import Derived.DeepKeys4
import Derived.Deep.RegionLaw
import Derived.Deep.AppendLies
import Derived.WideKeyEntry
namespace Go.Proofs.YtamjofdgikifnaaGreat.Fr
open Go.ChangeShapes Go.WideShapes Go.ChangeAt Go.RowKit
open Go.Maps (Keyed has)
theorem Tryz.laidOut1 : laidOutB Tryz.prog = true := by kernel_rfl
theorem Tryz.row50 : (104 : Nat) < Tryz.prog.types.size := by
 have h : Tryz.prog.types.size = 178 := by kernel_rfl
 rw [h]
 omega
theorem Tryz.law50 : Keyed Tryz.prog 104 := Keyed.of_law (deep_law_laid Tryz.laidOut1 (m := 2) (by omega) Tryz.row50 (by kernel_rfl) (by kernel_rfl))
theorem Tryz.keyType50 : Tryz.prog.keyType 104 = true := by kernel_rfl
theorem Tryz.cells50 : Tryz.prog.cellsOf 104 = 2 := by kernel_rfl
theorem Tryz.cells9 : Tryz.prog.cellsOf 9 = 1 := by kernel_rfl
theorem Tryz.cells3 : Tryz.prog.cellsOf 3 = 1 := by kernel_rfl
def Ks (s : ByteArray) (h : Int) : Value := .agg #[.string s, .int .i64 h]
def ksl (s : ByteArray) (h : Int) : Lit := .string (keyBytes [.string s.data.toList, .int .i64 h])
theorem keyOf_S {s : ByteArray} {h : Int} (hs : s.size ≤ 1048576) (hh : i64B h) : keyOf Tryz.prog 104 (Ks s h) = some (ksl s h) := by
 have wb := lit_wf hh
 have wa : s.size ≤ maxLen := by simp [maxLen]; omega
 obtain ⟨m, hm⟩ := Tryz.size99
 unfold keyOf Ks ksl
 simp only [Tryz.underlying104]
 rw [if_pos (by simp [Tryz.keyType50, Value.formed, Tryz.underlying104, Tryz.cells50]), hm]
 unfold Program.keyLits
 simp only [Tryz.underlying104, Value.cells]
 rw [if_pos (by rw [Tryz.cells50]; exact ⟨rfl, by simp⟩)]
 simp [List.mapM_cons, Tryz.cells9, Tryz.cells3, Program.keyLits, Tryz.underlying3, Tryz.underlying9, wa, wb]
theorem ksl_inj {s s' : ByteArray} {h h' : Int} (hs : s.size ≤ 1048576) (hs' : s'.size ≤ 1048576) (hh : i64B h) (hh' : i64B h') (e : ksl s h = ksl s' h') : s = s' ∧ h = h' := by
 have h1 := keyOf_S hs hh
 have h2 := keyOf_S hs' hh'
 rw [← e] at h2
 have := Tryz.law50.inj h1 h2
 simpa [Ks] using this
def ReI (v : Value) : Option (DataW Unit × List MemPlace) :=
 match v with
 | .int .i64 n => some (.lit (.int .i64 n), [])
 | _ => none
theorem ReI_mk (n : Int) : ReI (.int .i64 n) = some (.lit (.int .i64 n), []) := rfl
theorem ReI_inv {v : Value} {n : Int} {ps : List MemPlace} (e : ReI v = some (.lit (.int .i64 n), ps)) : v = .int .i64 n := by
 unfold ReI at e
 split at e
 ·simp at e
  rw [e.1]
 ·cases e
theorem ksl_key (s : ByteArray) (h : Int) : WideAt.IsKeyLit (ksl s h) := trivial
def MapC (w : World) (m : Nat) (L : List Value) (F : ByteArray → Int → Int) : Prop :=
 ∃ D : DataW Unit, w.ownsMap Tryz.prog 104 ReI m L.length D ∧ (∀ es clock, w.heap[m]? = some (.map es clock) → ∀ x ∈ es.toList, x.key ∈ L) ∧ ∀ s h, s.size ≤ 1048576 → i64B h → D.atKey (ksl s h) (.lit (.int .i64 0)) = .lit (.int .i64 (F s h))
def updC (F : ByteArray → Int → Int) (s0 : ByteArray) (h0 v : Int) : ByteArray → Int → Int := fun s h => if s = s0 ∧ h = h0 then v else F s h
theorem MapC.made (w : World) (L : List Value) : MapC (w.alloc (.map #[] 0)) w.heap.size L (fun _ _ => 0) := by
 obtain ⟨es, clock, h1, h2, h3, h4⟩ := World.ownsMap_made w Tryz.prog 104 ReI
 refine ⟨_, ⟨es, clock, h1, h2, Nat.le_trans h3 (Nat.zero_le _), h4⟩, fun es' clock' h x hx => ?_, fun _ _ _ _ => rfl⟩
 have e : (w.alloc (.map #[] 0)).heap[w.heap.size]? = some (.map #[] 0) := blk_at _ _ _ rfl
 have := e.symm.trans h
 simp at this
 rw [this.1] at hx
 simp at hx
theorem MapC.same {w w' : World} {m : Nat} {L : List Value} {F : ByteArray → Int → Int} (h : MapC w m L F) (hb : w'.heap[m]? = w.heap[m]?) : MapC w' m L F := by
 obtain ⟨D, ⟨es, clock, h1, h2⟩, hk, hD⟩ := h
 exact ⟨D, ⟨es, clock, hb.trans h1, h2⟩, fun es' clock' h => hk es' clock' (hb.symm.trans h), hD⟩
theorem MapC.lt {w : World} {m : Nat} {L : List Value} {F : ByteArray → Int → Int} (h : MapC w m L F) : m < w.heap.size := by
 obtain ⟨D, ho, _⟩ := h
 exact ho.lt
theorem MapC.eq {w : World} {m : Nat} {L : List Value} {F G : ByteArray → Int → Int} (h : MapC w m L F) (e : ∀ s k, F s k = G s k) : MapC w m L G := by
 have : F = G := funext fun s => funext fun k => e s k
 exact this ▸ h
theorem MapC.store {w : World} {m : Nat} {L : List Value} {F : ByteArray → Int → Int} (h : MapC w m L F) (hn : L.length < maxLen) {s0 : ByteArray} {h0 : Int} (hs : s0.size ≤ 1048576) (hh : i64B h0) (hL : Ks s0 h0 ∈ L) (v : Int) :
  ∃ w', (Instr.mapUpdate 101 (.map (some m)) (Ks s0 h0) (.int .i64 v)).run Tryz.prog w = .ok () w' ∧ MapC w' m L (updC F s0 h0 v) ∧ w.grownBy w' (some m) := by
 obtain ⟨D, ho, hkeys, hD⟩ := h
 have hm := ho.isMap
 obtain ⟨es, clock, hb, F0, hsz, hDe⟩ := id ho
 obtain ⟨w', hr, ho', hg⟩ := ho.update Tryz.law50 Tryz.underlying101 hn (keyOf_S hs hh) (ReI_mk v)
 obtain ⟨es', clock', hrun, _, _, _, _, hwho⟩ := Maps.fit_store (R' := ReI) Tryz.law50 Tryz.underlying101 hb F0 (Nat.lt_of_le_of_lt hsz hn) (fun _ _ _ _ hz => hz) (keyOf_S hs hh) (ReI_mk v)
 have hw : w' = ChangeMaps.setBlock w m (.map es' clock') := by rw [hr] at hrun; simpa using hrun
 have hb' : w'.heap[m]? = some (.map es' clock') := by rw [hw]; exact ChangeMaps.heap_setBlock_same hb _
 obtain ⟨es2, clock2, hb2, F2, hsz2, hD2⟩ := ho'
 obtain ⟨rfl, rfl⟩ : es2 = es' ∧ clock2 = clock' := by have := hb2.symm.trans hb'; simpa using this
 have hk2 : ∀ x ∈ es2.toList, x.key ∈ L := by
  intro x hx
  rcases hwho x hx with ⟨h1, _⟩ | ⟨h1, _⟩
  ·exact hkeys es clock hb x h1
  ·rw [h1]; exact hL
 have hlen : es2.size ≤ L.length := by
  letI : DecidableEq Value := fun a b => Classical.propDecidable (a = b)
  have := nodup_le (es2.toList.map (·.key)) L (List.pairwise_map.2 ((MapKept.stamped_iff es2 clock2).1 F2.stamped).2.2) (fun y hy => by
   obtain ⟨x, hx, rfl⟩ := List.mem_map.1 hy
   exact hk2 x hx)
  simpa using this
 refine ⟨w', hr, ⟨_, ⟨es2, clock2, hb2, F2, hlen, hD2⟩, fun es3 clock3 h3 x hx => ?_, fun s k hs' hk' => ?_⟩, hg⟩
 ·obtain ⟨rfl, rfl⟩ : es3 = es2 ∧ clock3 = clock2 := by have := h3.symm.trans hb2; simpa using this
  exact hk2 x hx
 ·by_cases he : s = s0 ∧ k = h0
  ·obtain ⟨rfl, rfl⟩ := he
   rw [show updC F s k v s k = v from if_pos ⟨rfl, rfl⟩]
   exact Maps.atKey_put_same hm (ksl_key _ _) _ _
  ·rw [show updC F s0 h0 v s k = F s k from if_neg he]
   have hne : ksl s k ≠ ksl s0 h0 := fun e => he (ksl_inj hs' hs hk' hh e)
   rw [Maps.atKey_put_other hne]
   exact hD s k hs' hk'
theorem Tryz.zero3 (w : World) : (zeroValue 3).run Tryz.prog w = .ok (.int .i64 0) w := by kernel_rfl
theorem MapC.look {w : World} {m : Nat} {L : List Value} {F : ByteArray → Int → Int} (h : MapC w m L F) {s : ByteArray} {k : Int} (hs : s.size ≤ 1048576) (hh : i64B k) :
  (Instr.lookup 101 (.map (some m)) (Ks s k) false).run Tryz.prog w = .ok (.int .i64 (F s k)) w := by
 obtain ⟨D, ho, _, hD⟩ := h
 obtain ⟨v, ps, hr, hv⟩ := ho.lookup Tryz.law50 Tryz.underlying101 (Tryz.zero3 w) (ReI_mk 0) (keyOf_S hs hh)
 rw [hD s k hs hh] at hv
 rw [ReI_inv hv] at hr
 exact hr
end Go.Proofs.YtamjofdgikifnaaGreat.Fr
set_option linter.unusedVariables false
namespace Go.Proofs.YtamjofdgikifnaaGreat.Fr
open Go.ChangeShapes Go.WideShapes Go.ChangeAt Go.RowKit
theorem append_none (w : World) (i : TypeInfo) (hi : Tryz.prog.info? 9 = some i) (ty : TypeId) (base a : Option Addr) (n c cx : Nat) (hle : n ≤ c) :
  (Builtin.append_ #[22, 22] ty #[.slice base n c, .slice a 0 cx]).run Tryz.prog w = .ok (.slice base n c) w := by
 cases base <;> cases a <;> simp [Builtin.append_, run_underlying Tryz.underlying22, sizeOf, typeInfo, hi, hle, storeCells, Builtin.lenOf, Builtin.firstCells, loadCells, loadCellsFrom]
theorem OwnS.cap {w : World} {B n c : Nat} {a : Option Addr} {l : List ByteArray} (h : OwnS w B (.slice a n c) l) : n = l.length ∧ n ≤ c := by
 obtain ⟨hl, ⟨hv, h0⟩ | ⟨g, cap', cur, hv, a1, hblk, a3, _⟩⟩ := h
 ·injection hv with h1 h2 h3
  omega
 ·injection hv with h1 h2 h3
  omega
set_option maxRecDepth 100000 in
theorem step_append_S {ops : Array Oper} {o : Oper} {a : Act} {w : World} {K : Act → World → Prop} {Q : Exit → Act → World → Prop} {E : Prop} (hgd : o.guard = none) (s x : Operand)
  (ho : o.op = .call { callee := .builtin .append, args := #[s, x], argTypes := #[22, 22] }) (B : Nat) (v : Value) (l m : List ByteArray) (hs : a.eval s = v) (hown : OwnS w B v l) (ax : Option Addr) (cx : Nat) (hx : a.eval x = .slice ax m.length cx) (hr : RowS w w.heap.size ax m)
  (hlen : l.length + m.length ≤ 1048576) (hB : B ≤ w.heap.size)
  (h : ∀ v' w', OwnS w' B v' (l ++ m) → w.grownBy w' v.ownBlock → (v'.ownBlock = v.ownBlock ∨ ∀ k, v'.ownBlock = some k → w.heap.size ≤ k) → K (a.put o.dst v') w') :
  if Region.wanted o (yielded ops a.tmps) = true then Oper.wp Tryz.prog o a w K Q else E := by
 obtain ⟨i9, hi9, hz90, hz91, hz92⟩ := info_parts Tryz.inf9
 by_cases hm : m = []
 ·subst hm
  obtain ⟨av, cv, rfl⟩ := hown.slice
  have hc := hown.cap.2
  have hw : Region.wanted o (yielded ops a.tmps) = true := by simp [Region.wanted, hgd]
  rw [if_pos hw]
  have hrun := append_none w i9 hi9 o.type av ax l.length cv cx hc
  have hK := h (.slice av l.length cv) w (by simpa using hown) ⟨rfl, rfl, rfl, Nat.le_refl _, fun _ _ _ => rfl⟩ (.inl rfl)
  unfold Oper.wp
  simp [execOp, ho, resolve, invoke, builtin, hs, hx, hrun, Result.andThen]
  exact hK
 ·have h0 : 0 < m.length := List.length_pos_iff.2 hm
  obtain ⟨y, hy⟩ : ∃ y, m[0]? = some y := ⟨_, List.getElem?_eq_getElem h0⟩
  obtain ⟨b, of, hax, hbl, _⟩ := hr 0 y hy
  subst hax
  refine step_append_lies w hgd s x 22 ho B 9 i9 _ 1 16 Tryz.underlying22 hi9 hz90 hz91 hz92 rfl (by omega) v l.length (l.map Value.string) hs hown ⟨b, of, none⟩ m.length cx (m.map Value.string) hx (by simp) ?_ ?_ h0 (by simp [maxLen]; omega) (by omega) hB w.heap.size rfl ?_
  ·intro j u hu
   rw [List.getElem?_map] at hu
   cases hmj : m[j]? with
   | none => rw [hmj] at hu; cases hu
   | some z =>
    rw [hmj] at hu
    injection hu with hu
    subst hu
    obtain ⟨b', o', e1, _, e3⟩ := hr j z hmj
    simp only [Option.some.injEq, Addr.mk.injEq, and_true] at e1
    obtain ⟨rfl, rfl⟩ := e1
    have : (⟨b, of, none⟩ : Addr).add j = ⟨b, of + j, none⟩ := by unfold Addr.add; split <;> simp_all
    rw [this]
    exact e3
  ·intro u hu
   obtain ⟨z, _, rfl⟩ := List.mem_map.1 hu
   rfl
  ·intro g cap w' hown' hgrow hat hlt
   refine h _ w' ?_ hgrow ?_
   ·show World.ownsRow _ _ _ _ _ _ _
    rw [List.length_append, List.map_append]
    exact hown'
   ·rcases hat with h1 | h1
    ·left; rw [h1]; rfl
    ·right
     intro k hk
     have : g = k := Option.some.inj hk
     omega
end Go.Proofs.YtamjofdgikifnaaGreat.Fr
set_option linter.unusedVariables false
namespace Go.Proofs.YtamjofdgikifnaaGreat.Fr
open Go.ChangeShapes Go.WideShapes Go.ChangeAt Go.RowKit
def cbS (b : List ByteArray) (s : ByteArray) : Nat := b.countP fun t => decide (t = s)
def FB (b out : List ByteArray) (s : ByteArray) (h : Int) : Int := if h = 0 then (cbS b s : Nat) else if h = 1 then (if hasS out s = true then 1 else 0) else 0
theorem FB_nil (s : ByteArray) (k : Int) : (0 : Int) = FB [] [] s k := by
 unfold FB
 split
 ·rfl
 ·split
  ·rfl
  ·rfl
theorem cbS_zero {b : List ByteArray} {s : ByteArray} : cbS b s = 0 ↔ hasS b s = false := by
 unfold cbS
 rw [List.countP_eq_zero, hasS_not]
 constructor
 ·intro h hm
  have := h s hm
  simp at this
 ·intro h t ht
  simp
  rintro rfl
  exact h ht
theorem cbS_le (b : List ByteArray) (s : ByteArray) : cbS b s ≤ b.length := List.countP_le_length
theorem FB_0 (b out : List ByteArray) (s : ByteArray) : FB b out s 0 = (cbS b s : Nat) := if_pos rfl
theorem FB_1 (b out : List ByteArray) (s : ByteArray) : FB b out s 1 = if hasS out s = true then 1 else 0 := by
 unfold FB
 rw [if_neg (by omega), if_pos rfl]
theorem FB_bind (b out : List ByteArray) (s0 s : ByteArray) (k : Int) : updC (FB b out) s0 0 ((cbS b s0 : Nat) + 1) s k = FB (b ++ [s0]) out s k := by
 unfold updC
 by_cases h : s = s0 ∧ k = 0
 ·obtain ⟨rfl, rfl⟩ := h
  rw [if_pos ⟨rfl, rfl⟩, FB_0]
  simp [cbS]
 ·rw [if_neg h]
  by_cases hk : k = 0
  ·subst hk
   have hs : ¬ s0 = s := fun e => h ⟨e.symm, rfl⟩
   rw [FB_0, FB_0]
   simp [cbS, hs]
  ·unfold FB
   rw [if_neg hk, if_neg hk]
theorem FB_unbind (b r out : List ByteArray) (s0 s : ByteArray) (k : Int) : updC (FB (b ++ s0 :: r) out) s0 0 ((cbS (b ++ s0 :: r) s0 : Nat) - 1) s k = FB (b ++ r) out s k := by
 unfold updC
 by_cases h : s = s0 ∧ k = 0
 ·obtain ⟨rfl, rfl⟩ := h
  rw [if_pos ⟨rfl, rfl⟩, FB_0]
  simp [cbS]
  omega
 ·rw [if_neg h]
  by_cases hk : k = 0
  ·subst hk
   have hs : ¬ s0 = s := fun e => h ⟨e.symm, rfl⟩
   rw [FB_0, FB_0]
   simp [cbS, hs]
  ·unfold FB
   rw [if_neg hk, if_neg hk]
theorem FB_tell (b out : List ByteArray) (s0 : ByteArray) (s : ByteArray) (k : Int) : updC (FB b out) s0 1 1 s k = FB b (out ++ [s0]) s k := by
 unfold updC
 have ha : ∀ t, hasS (out ++ [s0]) t = (hasS out t || s0.toList == t.toList) := fun t => by unfold hasS; simp
 by_cases h : s = s0 ∧ k = 1
 ·obtain ⟨rfl, rfl⟩ := h
  rw [if_pos ⟨rfl, rfl⟩, FB_1, ha]
  simp
 ·rw [if_neg h]
  by_cases hk : k = 1
  ·subst hk
   have hs : ¬ s0 = s := fun e => h ⟨e.symm, rfl⟩
   have : hasS (out ++ [s0]) s = hasS out s := by
    cases hq : hasS out s
    ·rw [hasS_not] at hq ⊢
     simp [hq]
     exact fun e => hs e.symm
    ·rw [hasS_iff] at hq ⊢
     simp [hq]
   rw [FB_1, FB_1, this]
  ·unfold FB
   by_cases h0 : k = 0
   ·rw [if_pos h0, if_pos h0]
   ·rw [if_neg h0, if_neg h0, if_neg hk, if_neg hk]
def Lk (ns : List Nod) : List Value := (ns.flatMap fun d => d.s :: d.names).flatMap fun s => [Ks s 0, Ks s 1]
theorem Lk_s {ns : List Nod} {i : Nat} {d : Nod} (h : ns[i]? = some d) : Ks d.s 1 ∈ Lk ns := by
 refine List.mem_flatMap.2 ⟨d.s, List.mem_flatMap.2 ⟨d, List.mem_of_getElem? h, by simp⟩, by simp⟩
theorem Lk_n {ns : List Nod} {i : Nat} {d : Nod} {s : ByteArray} (h : ns[i]? = some d) (hs : s ∈ d.names) : Ks s 0 ∈ Lk ns := by
 refine List.mem_flatMap.2 ⟨s, List.mem_flatMap.2 ⟨d, List.mem_of_getElem? h, by simp [hs]⟩, by simp⟩
theorem Lk_len (ns : List Nod) : (Lk ns).length = 2 * (ns.flatMap fun d => d.s :: d.names).length := by
 unfold Lk
 generalize (ns.flatMap fun d => d.s :: d.names) = l
 induction l with
 | nil => rfl
 | cons x l ih => simp only [List.flatMap_cons, List.length_append, ih, List.length_cons]; simp; omega
def nmsF (d : Nod) : List ByteArray := if d.k = 7 then d.names else []
theorem bndF_eq (d : Nod) (b : List ByteArray) : bndF d b = b ++ nmsF d := by
 unfold bndF nmsF
 split <;> simp
set_option maxRecDepth 100000 in
theorem boundBy_any (d : Nod) (an aa : Option Addr) (cn ca : Nat) (w : World) (hk : i64B d.k) : Calls Tryz.prog 69 #[.agg #[.int .i64 d.k, .int .i64 d.n, .string d.s, .slice an d.names.length cn, .slice aa d.args.length ca]] w fun e w' => e = .returned (if d.k = 7 then .slice an d.names.length cn else .slice none 0 0) ∧ Below w.heap.size w w' := by
 have hb : Below w.heap.size w (w.alloc (Obj.cells #[.int .i64 d.k, .int .i64 d.n, .string d.s, .slice an d.names.length cn, .slice aa d.args.length ca] 96)) := (Below.refl _ _).alloc (Nat.le_refl _) _
 by_cases h : d.k = 7
 ·rw [if_pos h]
  have h1 : (d.k != 7) = false := by rw [h]; rfl
  clear h
  go_enter Tryz.func69, Tryz.ntmps69
  go_wp2
  go_ret
  exact ⟨rfl, hb⟩
 ·rw [if_neg h]
  have h1 : (d.k != 7) = true := by rw [bne_iff_ne]; exact h
  clear h
  go_enter Tryz.func69, Tryz.ntmps69
  go_wp2
  go_ret
  exact ⟨rfl, hb⟩
end Go.Proofs.YtamjofdgikifnaaGreat.Fr
namespace Go.Proofs.YtamjofdgikifnaaGreat.Fr
open Go.ChangeShapes Go.WideShapes Go.ChangeAt Go.RowKit
open Go.ChangeMaps (setBlock)
theorem Tryz.klaw50 : WideMaps.KeyLaw Tryz.prog 104 := deep_law_laid Tryz.laidOut1 (m := 2) (by omega) Tryz.row50 (by kernel_rfl) (by kernel_rfl)
theorem entry_all {w : World} {m : Nat} {es : Array MapEntry} {clock : Nat} (hb : w.heap[m]? = some (.map es clock)) (F : WideElems.Fit Tryz.prog 104 ReI es clock) {key : Value} {kl : Lit} (hkey : keyOf Tryz.prog 104 key = some kl) :
  ∃ (v0 : Value) (st : Nat) (w1 : World), (Instr.mapEntry 101 (.map (some m)) key).run Tryz.prog w = .ok (.tuple #[v0, goInt st]) w1 ∧ (Instr.mapUpdate 101 (.map (some m)) key v0).run Tryz.prog w = .ok () w1 ∧ (Instr.lookup 101 (.map (some m)) key false).run Tryz.prog w = .ok v0 w := by
 have K := Tryz.klaw50
 have g1 := MapKept.run_getObj_map (P := Tryz.prog) hb
 have g2 := fun o => MapKept.run_setObj_map (P := Tryz.prog) o hb
 have c1 := K.check w false hkey
 have c2 := K.check w es.isEmpty hkey
 rcases K.find w hkey es.toList F.keys with ⟨h1, _⟩ | ⟨j, e0, h1, h2, h3⟩
 ·refine ⟨.int .i64 0, clock, setBlock w m (.map (es.push ⟨key, .int .i64 0, clock⟩) (clock + 1)), ?_, ?_, ?_⟩
  ·simp [Instr.mapEntry, run_underlying Tryz.underlying101, g1, c1, h1, g2, Result.andThen, setBlock]
  ·simp [Instr.mapUpdate, run_underlying Tryz.underlying101, g1, c1, h1, g2, Result.andThen, setBlock]
  ·simp [Instr.lookup, run_underlying Tryz.underlying101, g1, c2, h1]
 ·have hj : es[j]? = some e0 := by simpa using h2
  have hm : ∀ (f : MapEntry → MapEntry), f e0 = e0 → es.modify j f = es := by
   intro f hf
   apply Array.ext'
   rw [Array.toList_modify]
   apply List.ext_getElem?
   intro i
   rw [List.getElem?_modify]
   by_cases hij : j = i
   ·subst hij
    simp [h2, hf]
   ·simp [hij]
  have hst := K.stays w hkey
  refine ⟨e0.val, e0.born, setBlock w m (.map es clock), ?_, ?_, ?_⟩
  ·simp [Instr.mapEntry, run_underlying Tryz.underlying101, g1, c1, h1, hj, h3, hst, g2, Result.andThen, setBlock]
   rw [hm _ (by rw [← h3])]
  ·simp [Instr.mapUpdate, run_underlying Tryz.underlying101, g1, c1, h1, hj, h3, hst, g2, Result.andThen, setBlock]
   rw [hm _ (by rw [← h3])]
  ·simp [Instr.lookup, run_underlying Tryz.underlying101, g1, c2, h1]
theorem MapC.entry {w : World} {m : Nat} {L : List Value} {F : ByteArray → Int → Int} (h : MapC w m L F) (hn : L.length < maxLen) {s : ByteArray} {k : Int} (hs : s.size ≤ 1048576) (hh : i64B k) (hL : Ks s k ∈ L) :
  ∃ (st : Nat) (w1 : World), (Instr.mapEntry 101 (.map (some m)) (Ks s k)).run Tryz.prog w = .ok (.tuple #[.int .i64 (F s k), goInt st]) w1 ∧ MapC w1 m L F ∧ w.grownBy w1 (some m) ∧
   ∀ (w2 : World) (v : Int), w2.heap[m]? = w1.heap[m]? → ∃ w3, (Instr.entryStore 101 (.map (some m)) (goInt st) (.int .i64 v)).run Tryz.prog w2 = .ok () w3 ∧ MapC w3 m L (updC F s k v) ∧ w2.grownBy w3 (some m) := by
 obtain ⟨D, ho, hkeys, hD⟩ := id h
 obtain ⟨es, clock, hb, F0, hsz, hDe⟩ := id ho
 obtain ⟨v0, st, w1, r1, r2, r3⟩ := entry_all hb F0 (keyOf_S hs hh)
 obtain rfl : v0 = .int .i64 (F s k) := by
  have := (h.look hs hh).symm.trans r3
  simpa using this.symm
 obtain ⟨v0', st', es1, clock1, hrun, _, hst⟩ := WideElems.entry_then_store Tryz.klaw50 Tryz.underlying101 Tryz.zero3 hb F0 (keyOf_S hs hh)
 have heq := r1.symm.trans hrun
 simp only [Result.ok.injEq, Value.tuple.injEq] at heq
 obtain ⟨hv, hw1⟩ := heq
 have hg : goInt st' = goInt st := by
  have := congrArg (fun (xs : Array Value) => xs[1]?) hv
  simpa using this.symm
 obtain ⟨w', hr, hm', hgr⟩ := h.store hn hs hh hL (F s k)
 obtain rfl : w' = w1 := by
  have := hr.symm.trans r2
  simpa using this
 refine ⟨st, w', r1, hm'.eq (fun s' k' => ?_), hgr, fun w2 v hw2 => ?_⟩
 ·unfold updC
  split
  ·rename_i he
   rw [he.1, he.2]
  ·rfl
 ·have hb1 : w'.heap[m]? = some (.map es1 clock1) := by rw [hw1]; exact ChangeMaps.heap_setBlock_same hb _
  obtain ⟨es', clock', q1, q2⟩ := hst w2 (.int .i64 v) (hw2.trans hb1)
  obtain ⟨w'', hr2, hm2, _⟩ := h.store hn hs hh hL v
  obtain rfl : w'' = setBlock w m (.map es' clock') := by
   have := hr2.symm.trans q2
   simpa using this
  rw [hg] at q1
  have hb2 := hw2.trans hb1
  refine ⟨_, q1, hm2.same ?_, ⟨rfl, rfl, rfl, by simp [setBlock], fun i _ hi => ChangeMaps.heap_setBlock_other hb2 _ (fun e => hi (by rw [e]))⟩⟩
  rw [ChangeMaps.heap_setBlock_same hb2 _, ChangeMaps.heap_setBlock_same hb _]
end Go.Proofs.YtamjofdgikifnaaGreat.Fr
