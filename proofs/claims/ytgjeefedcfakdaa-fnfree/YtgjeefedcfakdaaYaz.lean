/- A program of one's own, changed: what stands ahead and behind. One element appended to a row: in its place, or in a new block. Calls of Go functions as steps of a region: l1Below, l1Pick. -/
import Derived.Test.YtgjeefedcfakdaaYpw
import Derived.Test.YtgjeefedcfakdaaXli
import Derived.Maps.AppendAt
import Derived.Laws.Tables
import Derived.Test.YtgjeefedcfakdaaYap
set_option linter.unusedVariables false
namespace Go.Proofs.Ytgjeefedcfakdaa
open Go.ChangeShapes Go.WideShapes Go.ChangeAt Go.RowKit
open Cu (Cw Code1 CurS)
def PwPost (w : World) (c : Nat) (d : Code1) (e : Ending) (w' : World) : Prop :=
 ∃ (a : Option Addr) (cap : Nat) (ns : List Nod) (root : Int), e = .returned (.agg #[.slice a ns.length cap, .int .i64 root]) ∧ RowG w' (w.heap.size + 1) a ns ∧ ns.length ≤ 401 ∧ (∀ d ∈ ns, NSw d) ∧ i64B root ∧ Cw w c d w'
structure PwAt (w W : World) (c : Nat) (d : Code1) (g5 : Nat) (a : Option Addr) (cap : Nat) (ns : List Nod) (root : Int) : Prop where
 own : OwnN (fun g => g < w.heap.size + 1) W (w.heap.size + 1) (.slice a ns.length cap) ns
 cw : Cw w c d W
 z : W.heap[w.heap.size]? = some (Obj.cells #[.slice none 0 0, .int .i64 0] 26)
 p : W.heap[g5]? = some (Obj.cells #[.slice a ns.length cap, .int .i64 root] 26)
 g : w.heap.size < g5
theorem PwAt.step {w W W' : World} {c : Nat} {d : Code1} {g5 : Nat} {a : Option Addr} {cap : Nat} {ns : List Nod} {root : Int} (h : PwAt w W c d g5 a cap ns root) (hc : c < w.heap.size) (g : Cw W c d W') : PwAt w W' c d g5 a cap ns root := by
 have hg := h.g
 have hw := h.cw.2.1.size
 refine ⟨?_, Cw_trans h.cw g, Cw_blk g h.z (by omega), Cw_blk g h.p (by omega), hg⟩
 have h1 := (OwnN.cw (w := (w.alloc (Obj.cells #[] 0))) (h.own.weak (fun g h => by simpa using h) (by simp)) g.2.1 (by simp; omega))
 exact h1.weak (fun g h => by simpa using h) (by simp)
theorem pw_end {w W : World} {c : Nat} {d : Code1} {a : Option Addr} {cap : Nat} {ns : List Nod} {root : Int} (h : RowG W (w.heap.size + 1) a ns) (hcw : Cw w c d W) (hl : ns.length ≤ 401) (hs : ∀ d ∈ ns, NSw d) (hr : i64B root) (x y : Value) : PwPost w c d (.returned (.agg #[.slice a ns.length cap, .int .i64 root])) ((W.setCell ⟨w.heap.size, 0, none⟩ x).setCell ⟨w.heap.size, 1, none⟩ y) :=
 ⟨a, cap, ns, root, rfl, (h.set (by omega)).set (by omega), hl, hs, hr, Cw_set (Cw_set hcw (Nat.le_refl _)) (Nat.le_refl _)⟩
def PwR (w : World) (c : Nat) (d : Code1) (g5 : Nat) (W : World) : Prop := ∃ (a : Option Addr) (cap : Nat) (ns : List Nod) (root : Int), RowG W (w.heap.size + 1) a ns ∧ ns.length ≤ 401 ∧ (∀ d ∈ ns, NSw d) ∧ i64B root ∧ Cw w c d W ∧ W.heap[w.heap.size]? = some (Obj.cells #[.slice none 0 0, .int .i64 0] 26) ∧ W.heap[g5]? = some (Obj.cells #[.slice a ns.length cap, .int .i64 root] 26)
theorem nsw_set {ns : List Nod} (h : ∀ d ∈ ns, NSm d) (k : Nat) {d' : Nod} (hd : NSw d') : ∀ d ∈ ns.set k d', NSw d := by
 intro d hm
 rcases List.mem_or_eq_of_mem_set hm with hm | rfl
 ·exact (h d hm).w
 ·exact hd
theorem PwAt.set {w W : World} {c : Nat} {d : Code1} {g5 : Nat} {a : Option Addr} {cap : Nat} {ns : List Nod} {root : Int} (h : PwAt w W c d g5 a cap ns root) (hc : c < w.heap.size) (hne : ns ≠ []) (h5 : ∀ d ∈ ns, NSm d) (h7 : i64B root) (h4 : ns.length ≤ 400) {g k : Nat} (ha : a = some ⟨g, 0, none⟩) {x : Nod} (hx : ns[k]? = some x) (i : Nat) (y : Value) (d' : Nod) (hd' : NSw d')
  (hi : (i = 0 ∧ y = .int .i64 d'.k ∧ d' = { x with k := d'.k }) ∨ (i = 1 ∧ y = .int .i64 d'.n ∧ d' = { x with n := d'.n }) ∨ (i = 2 ∧ y = .string d'.s ∧ d' = { x with s := d'.s })) : PwR w c d g5 (W.setCell ⟨g, k * 5 + i, none⟩ y) := by
 obtain ⟨g', cur, hg', h1, h2, h3⟩ := own_cells h.own hne
 obtain rfl : g = g' := by
  rw [ha] at hg'
  injection hg' with e
  injection e
 have hg := h.g
 have n5 : g5 ≠ g := by
  rintro rfl
  have hp := h.p
  rw [h2] at hp
  injection Option.some.inj hp with _ q
  exact absurd q (by decide)
 exact ⟨a, cap, ns.set k d', root, rown_set h.own hne ha hx i y d' hi, by rw [List.length_set]; omega, nsw_set h5 k hd', h7, Cw_set h.cw (by show w.heap.size ≤ g; omega), (heap_setCell_other _ _ _ _ (by show w.heap.size ≠ g; omega)).trans h.z, by rw [List.length_set]; exact (heap_setCell_other _ _ _ _ (by show g5 ≠ g; exact n5)).trans h.p⟩
theorem own_more {lo : Nat} {W W' : World} {v : Value} {xs : List Value} {ns : List Nod} {gg : Nat} {cur : Array Value} {nd : Nod} (hnd : ∀ (j : Nat) (d : Nod), ns[j]? = some d → ∃ an cn aa ca,
   xs[j * 5]? = some (.int .i64 d.k) ∧ xs[j * 5 + 1]? = some (.int .i64 d.n) ∧ xs[j * 5 + 2]? = some (.string d.s) ∧ xs[j * 5 + 3]? = some (.slice an d.names.length cn) ∧ xs[j * 5 + 4]? = some (.slice aa d.args.length ca) ∧ NodX W (NP (fun g => g < lo) W v) an cn aa ca d)
  (hx : xs.length = ns.length * 5) (how : W'.heap[gg]? = some (Obj.cells cur 35)) (hcur : cur.toList.take ((ns.length + 1) * 5) = xs ++ [.int .i64 nd.k, .int .i64 nd.n, .string nd.s, .slice none 0 0, .slice none 0 0]) (hlo : lo ≤ gg)
  (hk : ∀ b, NP (fun g => g < lo) W v b → W'.heap[b]? = W.heap[b]?) (hs : W.heap.size ≤ W'.heap.size) (h1 : nd.names = []) (h2 : nd.args = []) : RowG W' lo (some ⟨gg, 0, none⟩) (ns ++ [nd]) := by
 have key : ∀ (r : Nat) (u : Value), r < (ns.length + 1) * 5 → (xs ++ [.int .i64 nd.k, .int .i64 nd.n, .string nd.s, .slice none 0 0, .slice none 0 0])[r]? = some u → cur[r]? = some u := fun r u hr he => by
  rw [← hcur, List.getElem?_take_of_lt hr] at he
  rw [← Array.getElem?_toList]
  exact he
 refine rown_of how (fun j d hd => ?_) hlo
 by_cases hj : j < ns.length
 ·rw [List.getElem?_append_left hj] at hd
  obtain ⟨an, cn, aa, ca, e0, e1, e2, e3, e4, hr⟩ := hnd j d hd
  have f : ∀ {i : Nat} {u : Value}, i < 5 → xs[j * 5 + i]? = some u → cur[j * 5 + i]? = some u := fun {i u} hi he => key _ _ (by omega) (by rw [List.getElem?_append_left (by omega)]; exact he)
  exact ⟨an, cn, aa, ca, ⟨f (i := 0) (by omega) e0, f (by omega) e1, f (by omega) e2, f (by omega) e3, f (by omega) e4⟩, hr.1.keep fun b hb => ⟨⟨Nat.le_of_not_lt hb.2.2.2, by have := hb.1; omega⟩, hk b hb⟩⟩
 ·have hj' : j = ns.length := by
   have := (llt hd)
   simp at this
   omega
  subst hj'
  rw [List.getElem?_append_right (Nat.le_refl _), Nat.sub_self] at hd
  obtain rfl : nd = d := Option.some.inj hd
  have f : ∀ {i : Nat} {u : Value}, i < 5 → ([.int .i64 nd.k, .int .i64 nd.n, .string nd.s, .slice none 0 0, .slice none 0 0] : List Value)[i]? = some u → cur[ns.length * 5 + i]? = some u := fun {i u} hi he => key _ _ (by omega) (by rw [List.getElem?_append_right (by omega), hx, Nat.add_sub_cancel_left]; exact he)
  exact ⟨none, 0, none, 0, ⟨f (i := 0) (by omega) rfl, f (i := 1) (by omega) rfl, f (i := 2) (by omega) rfl, f (i := 3) (by omega) (by rw [h1]; rfl), f (i := 4) (by omega) (by rw [h2]; rfl)⟩, ⟨fun i x h => by rw [h1] at h; simp at h, fun i x h => by rw [h2] at h; simp at h, by rw [h1]; simp, by rw [h2]; simp⟩⟩
theorem pick_drew (L : List ByteArray) (w : World) (c : Nat) (d : Code1) (g cap : Nat) (W : World) (h : Cw w c d W) (hg : g = W.heap.size) (hL : 0 < L.length) (hL2 : L.length ≤ 256) (arr : Array Value) (harr : arr = (L.map Value.string).toArray) (hsz : ∀ x ∈ L, x.size ≤ 40) : Calls Try.prog 29 #[.pointer (some ⟨c, 0, none⟩), .slice (some ⟨g, 0, none⟩) L.length cap] (W.alloc (.cells arr 9)).drew fun e W' => ∃ t, e = .returned (.string t) ∧ t.size ≤ 40 ∧ Cw w c d W' :=
 Cu.pick_cw L w c d g cap W.drew (h.drew 1) hg hL hL2 arr harr hsz
def L6 : List ByteArray := [⟨#[]⟩, ⟨#[120]⟩, ⟨#[105, 102]⟩, ⟨#[43]⟩, ⟨#[37, 116]⟩, ⟨#[55]⟩]
end Go.Proofs.Ytgjeefedcfakdaa
set_option linter.unusedVariables false
set_option maxRecDepth 100000
set_option maxHeartbeats 8000000
namespace Go.Proofs.Ytgjeefedcfakdaa
open Go.ChangeShapes Go.WideShapes Go.ChangeAt Go.RowKit
def OneMore (w : World) (e : TypeId) (v : Value) (n : Nat) (xs : List Value) (u : Value) (v' : Value) (w' : World) : Prop :=
 (∃ (g cap : Nat) (cur cur2 : Array Value), v = .slice (some ⟨g, 0, none⟩) n cap ∧ w.heap[g]? = some (Obj.cells cur e) ∧ n + 1 ≤ cap ∧ cur.size = cap ∧ v' = .slice (some ⟨g, 0, none⟩) (n + 1) cap ∧ w.grownBy w' (some g) ∧ w'.heap[g]? = some (Obj.cells cur2 e) ∧ cur2.size = cap ∧ cur2[n]? = some u ∧ ∀ j, j ≠ n → cur2[j]? = cur[j]?) ∨
 (∃ cap', v' = .slice (some ⟨w.heap.size, 0, none⟩) (n + 1) cap' ∧ w'.ownsRow w.heap.size e 1 v' (n + 1) (xs ++ [u]) ∧ w.grownBy w' none)
theorem run_append_one (w : World) (base : Nat) (t ty e : TypeId) (i : TypeInfo) (z : Value) (bytes : Nat) (ht : Try.prog.underlying t = some (.slice e)) (hi : Try.prog.info? e = some i) (hz : i.zero = some z) (hsize : i.size = 1) (hby : i.bytes = bytes) (hzs : z.cells.size = 1)
  (v : Value) (n : Nat) (xs : List Value) (hown : w.ownsRow base e 1 v n xs) (ad : Addr) (c : Nat) (u : Value) (hu : w.cell? (ad.add 0) = some u) (h1 : u.oneCell' = true) (h63 : n + 1 ≤ maxLen) (hbytes : (n + 1) * bytes ≤ 140737488355328) :
  ∃ v' w', (Builtin.append_ #[t, t] ty #[v, .slice (some ad) 1 c]).run Try.prog w = .ok v' w' ∧ OneMore w e v n xs u v' w' := by
 have hl : ([u] : List Value).length = 1 * 1 := rfl
 have hnews : ∀ j x, ([u] : List Value)[j]? = some x → w.cell? (ad.add j) = some x := fun j x h => by
  match j, h with
  | 0, h => rw [← Option.some.inj h]; exact hu
 have h1' : ∀ x ∈ ([u] : List Value), x.oneCell' = true := fun x h => by rw [List.mem_singleton.1 h]; exact h1
 by_cases hr : ∃ g cap, v = .slice (some ⟨g, 0, none⟩) n cap ∧ n + 1 ≤ cap
 ·obtain ⟨g, cap, rfl, hroom⟩ := hr
  rcases hown.2 with ⟨hv, _⟩ | ⟨g', cap', cur, hv, hbg, hg, hnc, hcm, hcs, htake⟩
  ·cases hv
  ·injection hv with e1 e2 e3
   have e1 := Option.some.inj e1
   injection e1 with e1
   subst e1
   subst e3
   have hcs' : cur.size = cap := by omega
   have hrun := run_append_room (P := Try.prog) w t ty e i ht hi g n cap cur hg ad 1 c [u] (by rw [hsize]; rfl) hnews h1' hroom (by rw [hsize]; simp; omega)
   rw [hsize, Nat.mul_one] at hrun
   refine ⟨_, _, hrun, .inl ⟨g, cap, cur, _, rfl, hg, hroom, hcs', rfl, ⟨rfl, rfl, rfl, by simp, fun k _ hk => setRow_other w g k _ (fun e => hk (by rw [e]))⟩, setRow_heap w g cur _ e _ hg, ?_, ?_, ?_⟩⟩
   ·simp
    omega
   ·have hlt : (cur.toList.take n).length = n := by simp; omega
    rw [List.getElem?_toArray, List.append_assoc, List.getElem?_append_right (by omega), hlt, Nat.sub_self]
    rfl
   ·intro j hj
    have hlt : (cur.toList.take n).length = n := by simp; omega
    rw [List.getElem?_toArray, List.append_assoc]
    by_cases hjn : j < n
    ·rw [List.getElem?_append_left (by omega), List.getElem?_take_of_lt hjn, Array.getElem?_toList]
    ·have h1l : ([u] : List Value).length = 1 := rfl
     rw [List.getElem?_append_right (by omega), hlt, List.getElem?_append_right (by omega), List.getElem?_drop, Array.getElem?_toList, h1l]
     have hidx : n + 1 + (j - n - 1) = j := by omega
     rw [hidx]
 ·have grown : ∀ (old : Nat), old < n + 1 → ∀ k, k = grownCap w (n + 1) old e →
    OneMore w e v n xs u (.slice (some ⟨w.heap.size, 0, none⟩) (n + 1) k) (w.drew.alloc (.cells (xs.toArray ++ ([u] : List Value).toArray ++ Builtin.zeroCells z.cells (k - (n + 1))) e)) := by
   intro old ho k hk
   have hge := grownCap_ge w (n + 1) old e
   have hcm : grownCap w (n + 1) old e ≤ maxLen := grownCap_le_maxLen w (n + 1) old e h63
   rw [← hk] at hge hcm
   have hxl := hown.1
   refine .inr ⟨k, rfl, ⟨by simp; omega, .inr ⟨w.heap.size, _, _, rfl, Nat.le_refl _, Go.heap_alloc_new w.drew _, hge, hcm, ?_, ?_⟩⟩, ⟨rfl, rfl, rfl, by simp, fun k hk _ => by first | exact Go.heap_alloc_old w.drew _ k hk | exact Go.heap_alloc_old w.drew _ hk⟩⟩
   ·simp only [Array.size_append, List.size_toArray, size_zeroCells, hzs, List.length_singleton]
    omega
   ·simp only [Array.toList_append, List.append_assoc]
    rw [← List.append_assoc]
    have : (n + 1) * 1 = (xs ++ [u]).length := by simp; omega
    rw [this]
    exact List.take_left
  rcases hown.2 with ⟨rfl, rfl⟩ | ⟨g, cap, cur, rfl, hbg, hg, hnc, hcm, hcs, htake⟩
  ·have hx : xs = [] := List.eq_nil_of_length_eq_zero (by simpa using hown.1)
   subst hx
   have hrun := run_append_nil (P := Try.prog) w t ty e i z ht hi hz ad 1 c [u] (by rw [hsize]; rfl) hnews (by omega) (by omega) (by rw [hby]; omega)
   have hgr := grown 0 (by omega) _ rfl
   simp only [Nat.zero_add, Array.empty_append] at hgr hrun ⊢
   exact ⟨_, _, hrun, hgr⟩
  ·have holds : ∀ j u, xs[j]? = some u → w.cell? ((⟨g, 0, none⟩ : Addr).add j) = some u := hown.cells (g := g) rfl
   have hnr : ¬ n + 1 ≤ cap := fun h => hr ⟨g, cap, rfl, h⟩
   have hrun := run_append_grow (P := Try.prog) w t ty e i z ht hi hz ⟨g, 0, none⟩ n cap xs (by rw [hsize]; exact hown.1) holds ad 1 c [u] (by rw [hsize]; rfl) hnews (by omega) (by simp only [maxLen] at h63; omega) (growslice_fits (by omega) (by rw [hby]; exact hbytes))
   exact ⟨_, _, hrun, grown cap (by omega) _ rfl⟩
theorem step_append_one {ops : Array Oper} {o : Oper} {a : Act} {w : World} {K : Act → World → Prop} {Q : Exit → Act → World → Prop} {E : Prop} (hgd : o.guard = none) (s x : Operand) (t : TypeId)
  (ho : o.op = .call { callee := .builtin .append, args := #[s, x], argTypes := #[t, t] }) (base : Nat) (e : TypeId) (i : TypeInfo) (z : Value) (bytes : Nat) (ht : Try.prog.underlying t = some (.slice e)) (hi : Try.prog.info? e = some i) (hz : i.zero = some z) (hsize : i.size = 1) (hby : i.bytes = bytes) (hzs : z.cells.size = 1)
  (v : Value) (n : Nat) (xs : List Value) (hs : a.eval s = v) (hown : w.ownsRow base e 1 v n xs) (ad : Addr) (c : Nat) (u : Value) (hx : a.eval x = .slice (some ad) 1 c) (hu : w.cell? (ad.add 0) = some u) (h1 : u.oneCell' = true) (h63 : n + 1 ≤ maxLen) (hbytes : (n + 1) * bytes ≤ 140737488355328)
  (h : ∀ v' w', OneMore w e v n xs u v' w' → K (a.put o.dst v') w') :
  if Region.wanted o (yielded ops a.tmps) = true then Oper.wp Try.prog o a w K Q else E := by
 have hw : Region.wanted o (yielded ops a.tmps) = true := by simp [Region.wanted, hgd]
 rw [if_pos hw]
 obtain ⟨v', w', hr, h2⟩ := run_append_one w base t o.type e i z bytes ht hi hz hsize hby hzs v n xs hown ad c u hu h1 h63 hbytes
 unfold Oper.wp execOp
 simp only [ho, resolve, invoke, builtin, Sem.run_bind, Sem.run_pure, Result.andThen_ok, List.map_toArray, List.map_cons, List.map_nil, hs, hx, hr]
 exact h v' w' h2
end Go.Proofs.Ytgjeefedcfakdaa
set_option linter.unusedVariables false
set_option maxRecDepth 100000
set_option maxHeartbeats 8000000
namespace Go.Proofs.Ytgjeefedcfakdaa
open Go.ChangeShapes Go.WideShapes Go.ChangeAt Go.RowKit
theorem step_call17 {ops : Array Oper} {o : Oper} {a : Act} {w : World} {K : Act → World → Prop} {Q : Exit → Act → World → Prop} {E : Prop} (hgd : o.guard = none) (x y : Operand) (t u : TypeId)
  (ho : o.op = .call { callee := .value (.func 17), args := #[x, y], argTypes := #[t, u] }) (v1 v2 : Value) (hx : a.eval x = v1) (hy : a.eval y = v2) (R : Ending → World → Prop) (hc : Calls Try.prog 17 #[v1, v2] w R) (h : ∀ e w', R e w' → ∃ u, e = .returned u ∧ K (a.put o.dst u) w') :
  if Region.wanted o (yielded ops a.tmps) = true then Oper.wp Try.prog o a w K Q else E := by
 have hw : Region.wanted o (yielded ops a.tmps) = true := by simp [Region.wanted, hgd]
 rw [if_pos hw]
 unfold Oper.wp
 have hf : a.eval (Operand.func 17) = .func (.func 17) #[] #[] := rfl
 simp [execOp, ho, resolve, invoke, hx, hy, hf, Deferred.ofValue]
 refine hc.mono fun e w' hr => ?_
 obtain ⟨u, rfl, hk⟩ := h e w' hr
 exact hk
theorem step_call29 {ops : Array Oper} {o : Oper} {a : Act} {w : World} {K : Act → World → Prop} {Q : Exit → Act → World → Prop} {E : Prop} (hgd : o.guard = none) (x y : Operand) (t u : TypeId)
  (ho : o.op = .call { callee := .value (.func 29), args := #[x, y], argTypes := #[t, u] }) (v1 v2 : Value) (hx : a.eval x = v1) (hy : a.eval y = v2) (R : Ending → World → Prop) (hc : Calls Try.prog 29 #[v1, v2] w R) (h : ∀ e w', R e w' → ∃ u, e = .returned u ∧ K (a.put o.dst u) w') :
  if Region.wanted o (yielded ops a.tmps) = true then Oper.wp Try.prog o a w K Q else E := by
 have hw : Region.wanted o (yielded ops a.tmps) = true := by simp [Region.wanted, hgd]
 rw [if_pos hw]
 unfold Oper.wp
 have hf : a.eval (Operand.func 29) = .func (.func 29) #[] #[] := rfl
 simp [execOp, ho, resolve, invoke, hx, hy, hf, Deferred.ofValue]
 refine hc.mono fun e w' hr => ?_
 obtain ⟨u, rfl, hk⟩ := h e w' hr
 exact hk
end Go.Proofs.Ytgjeefedcfakdaa
