/- What is free in a node, as a plain function. A row of texts onto a row of texts, be it empty or not, as one step of a region. The model's expander: l4Params. The model's expander: l4Binds. -/
import Derived.Test.YtgjeefedcfakdaaSts
import Derived.Test.YtgjeefedcfakdaaXli
set_option linter.unusedVariables false
set_option maxRecDepth 100000
set_option maxHeartbeats 8000000
namespace Go.Proofs.Ytgjeefedcfakdaa
open Go.ChangeShapes Go.WideShapes Go.ChangeAt Go.RowKit
def tellF (b out : List ByteArray) (s : ByteArray) : List ByteArray := if hasS b s = false ∧ hasS out s = false then out ++ [s] else out
def bndF (d : Nod) (b : List ByteArray) : List ByteArray := if d.k = 7 then b ++ d.names else b
def freeF (ns : List Nod) : Nat → Int → List ByteArray → List ByteArray → List ByteArray
 | 0, _, _, out => out
 | f + 1, i, b, out =>
  match ns[i.toNat]? with
  | none => out
  | some d => if d.k = 5 then tellF b out d.s else d.args.foldl (fun o a => freeF ns f a (bndF d b) o) out
theorem freeF_var {ns : List Nod} {f i : Nat} {d : Nod} {b out : List ByteArray} (h : ns[i]? = some d) (hk : d.k = 5) : freeF ns (f + 1) (i : Int) b out = tellF b out d.s := by
 simp only [freeF, Int.toNat_natCast, h, hk, if_true]
theorem freeF_else {ns : List Nod} {f i : Nat} {d : Nod} {b out : List ByteArray} (h : ns[i]? = some d) (hk : ¬ d.k = 5) : freeF ns (f + 1) (i : Int) b out = d.args.foldl (fun o a => freeF ns f a (bndF d b) o) out := by
 simp only [freeF, Int.toNat_natCast, h, hk, if_false]
theorem hasS_iff {l : List ByteArray} {s : ByteArray} : hasS l s = true ↔ s ∈ l := by
 unfold hasS
 rw [List.any_eq_true]
 constructor
 ·rintro ⟨t, ht, he⟩
  have : t.toList = s.toList := by simpa using he
  have : t = s := by
   rw [ByteArray.toList_eq, ByteArray.toList_eq] at this
   cases t; cases s
   simpa using this
  exact this ▸ ht
 ·intro h
  exact ⟨s, h, by simp⟩
theorem hasS_not {l : List ByteArray} {s : ByteArray} : hasS l s = false ↔ s ∉ l := by
 rw [← hasS_iff]
 simp
theorem nodup_le {α : Type} [DecidableEq α] : ∀ (l m : List α), l.Nodup → (∀ x ∈ l, x ∈ m) → l.length ≤ m.length
 | [], _, _, _ => by simp
 | x :: l, m, hn, hs => by
  rw [List.nodup_cons] at hn
  have hx := hs x (by simp)
  have := nodup_le l (m.erase x) hn.2 fun y hy => (List.mem_erase_of_ne (by rintro rfl; exact hn.1 hy)).2 (hs y (by simp [hy]))
  rw [List.length_erase_of_mem hx] at this
  have := List.length_pos_of_mem hx
  simp only [List.length_cons]
  omega
def Fnd (ns : List Nod) (out : List ByteArray) : Prop := out.Nodup ∧ ∀ s ∈ out, s ∈ ns.map (·.s)
theorem Fnd.len {ns : List Nod} {out : List ByteArray} (h : Fnd ns out) : out.length ≤ ns.length := by
 have := nodup_le out _ h.1 h.2
 simpa using this
theorem Fnd.tell {ns : List Nod} {i : Nat} {d : Nod} {b out : List ByteArray} (h : Fnd ns out) (hd : ns[i]? = some d) : Fnd ns (tellF b out d.s) := by
 unfold tellF
 split
 ·rename_i hc
  have hno := hasS_not.1 hc.2
  refine ⟨?_, fun s hs => ?_⟩
  ·rw [List.nodup_append]
   exact ⟨h.1, by simp, fun x hx y hy => by rw [List.mem_singleton.1 hy]; rintro rfl; exact hno hx⟩
  ·rcases List.mem_append.1 hs with hs | hs
   ·exact h.2 s hs
   ·rw [List.mem_singleton.1 hs]
    exact List.mem_map.2 ⟨d, List.mem_of_getElem? hd, rfl⟩
 ·exact h
theorem Fnd.free {ns : List Nod} (hin : inR ns) : ∀ (f : Nat) (i : Nat) (b out : List ByteArray), i < f → Fnd ns out → Fnd ns (freeF ns f (i : Int) b out)
 | 0, i, b, out, h, ho => absurd h (by omega)
 | f + 1, i, b, out, h, ho => by
  cases hd : ns[i]? with
  | none =>
   simp only [freeF, Int.toNat_natCast, hd]
   exact ho
  | some d =>
   by_cases hk : d.k = 5
   ·rw [freeF_var hd hk]
    exact ho.tell hd
   ·rw [freeF_else hd hk]
    have : ∀ (l : List Int) (o : List ByteArray), (∀ a ∈ l, 0 ≤ a ∧ a < (i : Int)) → Fnd ns o → Fnd ns (l.foldl (fun o a => freeF ns f a (bndF d b) o) o) := by
     intro l
     induction l with
     | nil => intro o _ ho; exact ho
     | cons a l ih =>
      intro o hl ho
      obtain ⟨h1, h2⟩ := hl a (by simp)
      obtain ⟨A, rfl⟩ := Int.eq_ofNat_of_zero_le h1
      exact ih _ (fun a' ha' => hl a' (by simp [ha'])) (Fnd.free hin f A _ o (by omega) ho)
    exact this d.args out (hin i d hd) ho
def argsF (ns : List Nod) (f : Nat) (b : List ByteArray) (l : List Int) (out : List ByteArray) : List ByteArray := l.foldl (fun o a => freeF ns f a b o) out
theorem argsF_snoc (ns : List Nod) (f : Nat) (b : List ByteArray) (l : List Int) (x : Int) (out : List ByteArray) : argsF ns f b (l ++ [x]) out = freeF ns f x b (argsF ns f b l out) := by simp [argsF]
theorem Fnd.args {ns : List Nod} (hin : inR ns) {f i : Nat} {d : Nod} (hd : ns[i]? = some d) (hf : i ≤ f) (b out : List ByteArray) (ho : Fnd ns out) (k : Nat) : Fnd ns (argsF ns f b (d.args.take k) out) := by
 have : ∀ (l : List Int) (o : List ByteArray), (∀ a ∈ l, 0 ≤ a ∧ a < (i : Int)) → Fnd ns o → Fnd ns (argsF ns f b l o) := by
  intro l
  induction l with
  | nil => intro o _ ho; exact ho
  | cons a l ih =>
   intro o hl ho
   obtain ⟨h1, h2⟩ := hl a (by simp)
   obtain ⟨A, rfl⟩ := Int.eq_ofNat_of_zero_le h1
   exact ih _ (fun a' ha' => hl a' (by simp [ha'])) (Fnd.free hin f A _ o (by omega) ho)
 exact this _ out (fun a ha => hin i d hd a (List.mem_of_mem_take ha)) ho
theorem Fnd.nil (ns : List Nod) : Fnd ns [] := ⟨by simp, fun s h => by cases h⟩
theorem ok_var {d : Nod} (h : d.ok = true) (hk : d.k = 5) : d.args = [] := by
 unfold Nod.ok spB at h
 rw [hk] at h
 simp at h
 exact h.1.1.2
theorem ok_lam {d : Nod} (h : d.ok = true) (hk : d.k = 7) : d.names.length ≤ 8 := by
 unfold Nod.ok spB at h
 rw [hk] at h
 simp at h
 exact h.1.1.1.1
end Go.Proofs.Ytgjeefedcfakdaa
set_option linter.unusedVariables false
set_option maxRecDepth 100000
set_option maxHeartbeats 8000000
namespace Go.Proofs.Ytgjeefedcfakdaa
open Go.ChangeShapes Go.WideShapes Go.ChangeAt Go.RowKit
theorem append_none (w : World) (i : TypeInfo) (hi : Try.prog.info? 9 = some i) (ty : TypeId) (base a : Option Addr) (n c cx : Nat) (hle : n ≤ c) :
  (Builtin.append_ #[29, 29] ty #[.slice base n c, .slice a 0 cx]).run Try.prog w = .ok (.slice base n c) w := by
 cases base <;> cases a <;> simp [Builtin.append_, run_underlying Try.underlying29, sizeOf, typeInfo, hi, hle, storeCells, Builtin.lenOf, Builtin.firstCells, loadCells, loadCellsFrom]
theorem OwnS.cap {w : World} {B n c : Nat} {a : Option Addr} {l : List ByteArray} (h : OwnS w B (.slice a n c) l) : n = l.length ∧ n ≤ c := by
 obtain ⟨hl, ⟨hv, h0⟩ | ⟨g, cap', cur, hv, a1, hblk, a3, _⟩⟩ := h
 ·injection hv with h1 h2 h3
  omega
 ·injection hv with h1 h2 h3
  omega
theorem step_append_S {ops : Array Oper} {o : Oper} {a : Act} {w : World} {K : Act → World → Prop} {Q : Exit → Act → World → Prop} {E : Prop} (hgd : o.guard = none) (s x : Operand)
  (ho : o.op = .call { callee := .builtin .append, args := #[s, x], argTypes := #[29, 29] }) (B : Nat) (v : Value) (l m : List ByteArray) (hs : a.eval s = v) (hown : OwnS w B v l) (ax : Option Addr) (cx : Nat) (hx : a.eval x = .slice ax m.length cx) (hr : RowS w w.heap.size ax m)
  (hlen : l.length + m.length ≤ 1048576) (hB : B ≤ w.heap.size)
  (h : ∀ v' w', OwnS w' B v' (l ++ m) → w.grownBy w' v.ownBlock → (v'.ownBlock = v.ownBlock ∨ ∀ k, v'.ownBlock = some k → w.heap.size ≤ k) → K (a.put o.dst v') w') :
  if Region.wanted o (yielded ops a.tmps) = true then Oper.wp Try.prog o a w K Q else E := by
 obtain ⟨i9, hi9, hz90, hz91, hz92⟩ := info_parts Try.info9
 by_cases hm : m = []
 ·subst hm
  obtain ⟨av, cv, rfl⟩ := hown.slice
  have hc := hown.cap.2
  have hw : Region.wanted o (yielded ops a.tmps) = true := by simp [Region.wanted, hgd]
  rw [if_pos hw]
  have hrun := append_none w i9 hi9 o.type av ax l.length cv cx hc
  have hK := h (.slice av l.length cv) w (by simpa using hown) ⟨rfl, rfl, rfl, Nat.le_refl _, fun _ _ _ => rfl⟩ (.inl rfl)
  unfold Oper.wp
  simp [execOp, ho, resolve, invoke, builtin, hs, hx, hrun, Result.andThen]
  exact hK
 ·have h0 : 0 < m.length := List.length_pos_iff.2 hm
  obtain ⟨y, hy⟩ : ∃ y, m[0]? = some y := ⟨_, List.getElem?_eq_getElem h0⟩
  obtain ⟨b, of, hax, hbl, _⟩ := hr 0 y hy
  subst hax
  refine step_append_lies w hgd s x 29 ho B 9 i9 _ 1 16 Try.underlying29 hi9 hz90 hz91 hz92 rfl (by omega) v l.length (l.map Value.string) hs hown ⟨b, of, none⟩ m.length cx (m.map Value.string) hx (by simp) ?_ ?_ h0 (by simp [maxLen]; omega) (by omega) hB w.heap.size rfl ?_
  ·intro j u hu
   rw [List.getElem?_map] at hu
   cases hmj : m[j]? with
   | none => rw [hmj] at hu; cases hu
   | some z =>
    rw [hmj] at hu
    have hu : Value.string z = u := Option.some.inj hu
    subst hu
    obtain ⟨b', o', e1, _, e3⟩ := hr j z hmj
    simp only [Option.some.injEq, Addr.mk.injEq, and_true] at e1
    obtain ⟨rfl, rfl⟩ := e1
    have : (⟨b, of, none⟩ : Addr).add j = ⟨b, of + j, none⟩ := by unfold Addr.add; split <;> simp_all
    rw [this]
    exact e3
  ·intro u hu
   obtain ⟨z, _, rfl⟩ := List.mem_map.1 hu
   rfl
  ·intro g cap w' hown' hgrow hat hlt
   refine h _ w' ?_ hgrow ?_
   ·show World.ownsRow _ _ _ _ _ _ _
    rw [List.length_append, List.map_append]
    exact hown'
   ·rcases hat with h1 | h1
    ·left; rw [h1]; rfl
    ·right
     intro k hk
     have : g = k := Option.some.inj hk
     omega
end Go.Proofs.Ytgjeefedcfakdaa
set_option linter.unusedVariables false
set_option maxRecDepth 100000
set_option maxHeartbeats 8000000
namespace Go.Proofs.Ytgjeefedcfakdaa
open Go.ChangeShapes Go.WideShapes Go.ChangeAt Go.RowKit
theorem nms_snoc (cs : List Dat) (x : Int) : ∀ (l : List Int), nmsOf cs (l ++ [x]) = (nmsOf cs l).bind fun ss => (nmOf cs x).map fun s => ss ++ [s]
 | [] => by
  show (nmOf cs x).bind (fun s => (nmsOf cs []).map (s :: ·)) = _
  cases nmOf cs x <;> rfl
 | i :: l => by
  show (nmOf cs i).bind (fun s => (nmsOf cs (l ++ [x])).map (s :: ·)) = ((nmOf cs i).bind fun s => (nmsOf cs l).map (s :: ·)).bind _
  rw [nms_snoc cs x l]
  cases nmOf cs i with
  | none => rfl
  | some s =>
   cases nmsOf cs l with
   | none => rfl
   | some ss => cases nmOf cs x <;> rfl
theorem nms_bad {cs : List Dat} {x : Int} (h : nmOf cs x = none) : ∀ {l : List Int}, x ∈ l → nmsOf cs l = none
 | i :: l, hm => by
  show (nmOf cs i).bind (fun s => (nmsOf cs l).map (s :: ·)) = none
  rcases List.mem_cons.1 hm with rfl | hm
  ·rw [h]; rfl
  ·rw [nms_bad h hm]
   cases nmOf cs i <;> rfl
theorem nm_at {cs : List Dat} {k : Nat} {d : Dat} (h : cs[k]? = some d) : nmOf cs (k : Int) = if (decide (d.k = 3) && naL d.s.toList) = true then some d.s else none := by
 unfold nmOf
 rw [cel_of h]
 by_cases h3 : d.k = 3
 ·simp [h3]
 ·simp [h3]
def PEnd (cs : List Dat) (l : List Int) (w : World) (e : Ending) (w' : World) : Prop := ∃ (v : Value) (ss : List ByteArray) (ok : Bool), e = .returned (.tuple #[v, .bool ok]) ∧ OwnS w' w.heap.size v ss ∧ ss.length ≤ l.length ∧ (∀ x ∈ ss, x.size ≤ 1048576) ∧ Below w.heap.size w w' ∧ (if ok = true then parsOf cs l = some ss else parsOf cs l = none)
theorem ownS_nil {W : World} {B g : Nat} (h : W.heap[g]? = some (.cells #[] 9 (0, 0))) (hB : B ≤ g) : OwnS W B (.slice (some ⟨g, 0, none⟩) 0 0) [] := ⟨rfl, .inr ⟨g, 0, #[], rfl, hB, h, Nat.le_refl _, Nat.zero_le _, rfl, rfl⟩⟩
theorem OwnS.mono {w : World} {B B' : Nat} {v : Value} {l : List ByteArray} (h : OwnS w B v l) (hB : B' ≤ B) : OwnS w B' v l := by
 obtain ⟨hl, h | ⟨g, cap', cur, hv, a1, h2⟩⟩ := h
 ·exact ⟨hl, .inl h⟩
 ·exact ⟨hl, .inr ⟨g, cap', cur, hv, Nat.le_trans hB a1, h2⟩⟩
theorem l4Params_any (b o : Nat) (cc : Nat) (st : Value) (al : Option Addr) (l : List Int) (cl : Nat) (w : World) (cs : List Dat) (hl : l.length ≤ 1048576) (hn : cs.length ≤ 1048576) (hin : ∀ x ∈ l, 0 ≤ x ∧ x < (cs.length : Int)) (hrl : RowI w w.heap.size al l) (hrow : RowD w w.heap.size (some ⟨b, o, none⟩) cs) (hsz : ∀ d ∈ cs, d.s.size ≤ 1048576) :
  Calls Try.prog 88 #[.agg #[.slice (some ⟨b, o, none⟩) cs.length cc, st], .slice al l.length cl] w fun e w' => PEnd cs l w e w' := by
 have HROW : Hid (RowD w w.heap.size (some ⟨b, o, none⟩) cs) := hrow
 have HRL : Hid (RowI w w.heap.size al l) := hrl
 have HIN : Hid (∀ x ∈ l, 0 ≤ x ∧ x < (cs.length : Int)) := hin
 have HSZ : Hid (∀ d ∈ cs, d.s.size ≤ 1048576) := hsz
 have HB0 : Hid (Below w.heap.size w ((w.alloc (Obj.cells #[.slice (some ⟨b, o, none⟩) cs.length cc, st] 66)).alloc (Obj.cells #[] 9))) := (bR _ _).alloc (by simp) _
 have HP0 : Hid (((w.alloc (Obj.cells #[.slice (some ⟨b, o, none⟩) cs.length cc, st] 66)).alloc (Obj.cells #[] 9)).heap[w.heap.size]? = some (Obj.cells #[.slice (some ⟨b, o, none⟩) cs.length cc, st] 66)) := blk_past (blk_at _ _ _ rfl)
 have HO0 : Hid (OwnS ((w.alloc (Obj.cells #[.slice (some ⟨b, o, none⟩) cs.length cc, st] 66)).alloc (Obj.cells #[] 9)) (w.heap.size + 1) (.slice (some ⟨w.heap.size + 1, 0, none⟩) 0 0) [])   := ownS_nil (blk_at _ _ _ (by simp)) (Nat.le_refl _)
 obtain ⟨i9, hi9, hz90, hz91, hz92⟩ := info_parts Try.info9
 clear hrow hrl hin hsz
 go_enter Try.func88, Try.ntmps88
 go_wp2_with fail
 go_loopw [6, 7] (fun ov iv wr => ∃ (acc : List ByteArray) (oa : Option Addr) (oc : Nat), ov = .slice oa acc.length oc ∧ iv = .int .i64 acc.length ∧ acc.length ≤ l.length ∧ OwnS wr (w.heap.size + 1) (.slice oa acc.length oc) acc ∧ Below w.heap.size w wr ∧ wr.heap[w.heap.size]? = some (Obj.cells #[.slice (some ⟨b, o, none⟩) cs.length cc, st] 66) ∧ nmsOf cs (l.take acc.length) = some acc ∧ ∀ x ∈ acc, x.size ≤ 1048576) (fun _ iv _ => l.length - (intOf iv).toNat)
 case atStart => exact ⟨[], _, 0, rfl, rfl, by simp, HO0.out, HB0.out, HP0.out, by simp [nmsOf], fun x hx => by cases hx⟩
 case round =>
  obtain ⟨acc, oa, oc, rfl, rfl, hi, hown, hbw, hkp, hnm, hac⟩ := hrel
  obtain ⟨p0, p1⟩ := zn2 hkp rfl rfl
  have hbs := hbw.size
  have hps := (alt hkp)
  have HOW : Hid (OwnS wr (w.heap.size + 1) (.slice oa acc.length oc) acc) := hown
  have HBW : Hid (Below w.heap.size w wr) := hbw
  have HKP : Hid (wr.heap[w.heap.size]? = some (Obj.cells #[.slice (some ⟨b, o, none⟩) cs.length cc, st] 66)) := hkp
  have HAC : Hid (∀ x ∈ acc, x.size ≤ 1048576) := hac
  have HNM : Hid (nmsOf cs (l.take acc.length) = some acc) := hnm
  clear hown hbw hkp hac hnm
  by_cases hlt : acc.length < l.length
  ·obtain ⟨x, hx⟩ : ∃ x, l[acc.length]? = some x := ⟨_, List.getElem?_eq_getElem hlt⟩
   obtain ⟨ba, ob, rfl, hba, y0⟩ := (HRL.out.below HBW.out) acc.length x hx
   obtain ⟨hx0, hx1⟩ := HIN.out x (List.mem_of_getElem? hx)
   obtain ⟨k, rfl⟩ := Int.eq_ofNat_of_zero_le hx0
   obtain ⟨d, hd⟩ : ∃ d, cs[k]? = some d := ⟨_, List.getElem?_eq_getElem (by omega)⟩
   have hds := HSZ.out d (List.mem_of_getElem? hd)
   obtain ⟨b1, o1, hbo, hbb, hda⟩ := (HROW.out.below HBW.out) k d hd
   obtain ⟨rfl, rfl⟩ : b = b1 ∧ o = o1 := by simpa using hbo
   have HNA : Hid (Calls Try.prog 87 #[.agg #[.slice (some ⟨b, o, none⟩) cs.length cc, st], .int .i64 k] (wr.drewN 1) fun e w' => Ans (wr.drewN 1) (.tuple #[.string d.s, .bool (decide (d.k = 3) && naL d.s.toList)]) e w') := l4Name_any b o cs.length cc st k d (wr.drewN 1) (by omega) hn (by show b < wr.heap.size; omega) hds hda
   have HAT : Hid (nmOf cs (k : Int) = if (decide (d.k = 3) && naL d.s.toList) = true then some d.s else none) := nm_at hd
   have HMEM : Hid ((k : Int) ∈ l) := List.mem_of_getElem? hx
   have HTK : Hid (l.take (acc.length + 1) = l.take acc.length ++ [(k : Int)]) := by show _ = _; rw [List.take_add_one, hx]; rfl
   clear hda hd hbo
   cases hbn : (decide (d.k = 3) && naL d.s.toList)
   ·rw [hbn] at HNA HAT
    have HQ : Hid (parsOf cs l = none) := by
     show _ = _
     unfold parsOf
     rw [nms_bad (by rw [HAT.out]; simp) HMEM.out]
     rfl
    clear hbn hx
    go_wp2_with fail
    go_region_with (go_at_call 87; refine HNA.out.mono ?_; rintro e w2 ⟨rfl, hb2⟩)
    all_goals
     have HB2 : Hid (Below wr.heap.size wr w2) := (below_drewN (Below.refl _ _) 1).trans hb2
     go_wp2
     go_ret2
     exact ⟨.slice oa acc.length oc, acc, false, rfl, (HOW.out.mono (Nat.le_succ _)).below HB2.out, by omega, HAC.out, bT HBW.out HB2.out, by simpa using HQ.out⟩
   ·rw [hbn] at HNA HAT
    have HQ : Hid (nmsOf cs (l.take (acc.length + 1)) = some (acc ++ [d.s])) := by
     show _ = _
     rw [HTK.out, nms_snoc, HNM.out, HAT.out]
     rfl
    clear hbn hx
    go_wp2_with fail
    go_region_with (go_at_call 87; refine HNA.out.mono ?_; rintro e w2 ⟨rfl, hb2⟩)
    all_goals
     have HB2 : Hid (Below wr.heap.size wr w2) := (below_drewN (Below.refl _ _) 1).trans hb2
     have HO2 : Hid (OwnS w2 (w.heap.size + 1) (.slice oa acc.length oc) acc) := HOW.out.below HB2.out
     have HK2 : Hid (w2.heap[w.heap.size]? = some (Obj.cells #[.slice (some ⟨b, o, none⟩) cs.length cc, st] 66)) := blk_keep HKP.out HB2.out hps
     have HW2 : Hid (Below w.heap.size w w2) := bT HBW.out HB2.out
     have hbA : Below w2.heap.size w2 (w2.alloc (Obj.cells #[.string d.s] 9)) := bR _ _
     have HOA : Hid (OwnS (w2.alloc (Obj.cells #[.string d.s] 9)) (w.heap.size + 1) (.slice oa acc.length oc) acc) := HO2.out.below hbA
     have kA : (w2.alloc (Obj.cells #[.string d.s] 9)).heap[w2.heap.size]? = some (Obj.cells #[.string d.s] 9) := blk_at _ _ _ rfl
     have hAz : (w2.alloc (Obj.cells #[.string d.s] 9)).heap.size = w2.heap.size + 1 := by simp
     have h22 := HB2.out.size
     have hwA : w.heap.size + 1 ≤ (w2.alloc (Obj.cells #[.string d.s] 9)).heap.size := by rw [hAz]; omega
     have hob : ∀ kk, (Value.slice oa acc.length oc).ownBlock = some kk → w.heap.size + 1 ≤ kk ∧ kk < w2.heap.size := fun kk h => World.ownsRow.lt HO2.out kk h
     have HC : Hid (∀ w5, (w2.alloc (Obj.cells #[.string d.s] 9)).grownBy w5 (Value.slice oa acc.length oc).ownBlock → Below w.heap.size w w5 ∧ w5.heap[w.heap.size]? = some (Obj.cells #[.slice (some ⟨b, o, none⟩) cs.length cc, st] 66)) := by
      intro w5 hg
      have hsame : ∀ j, j < w.heap.size + 1 → w5.heap[j]? = w2.heap[j]? := fun j hj => by
       rw [hg.block j (by rw [hAz]; omega) (fun e => by have := (hob j e.symm).1; omega)]
       exact hbA.block j (by omega)
      exact ⟨⟨hg.os.trans HW2.out.os, hg.tape.trans HW2.out.tape, hg.output.trans HW2.out.output, by have := hg.size; rw [hAz] at this; omega, fun j hj => (hsame j (by omega)).trans (HW2.out.block j hj)⟩, (hsame _ (by omega)).trans HK2.out⟩
     clear hb2 p0 p1 y0 hob hbA
     go_wp2_with (at_builtin; (refine wpList_append_lies _ rfl _ _ 29 rfl (w.heap.size + 1) 9 i9 _ 1 16 Try.underlying29 hi9 hz90 hz91 hz92 rfl (by omega) (.slice oa acc.length oc) acc.length (acc.map Value.string) rfl HOA.out ⟨w2.heap.size, 0, none⟩ 1 1 [.string d.s] rfl rfl (World.news_of_block kA) (by intro u hu; simp at hu; rcases hu with rfl; rfl) (by omega) (by simp [maxLen]; omega) (by omega) hwA (w2.heap.size + 1) hAz ?_); intro gg cap' w5 hown5 hgr5 hat5 hlt5; obtain ⟨hB5, hK5⟩ := HC.out w5 hgr5)
     have HE : Hid (OwnS w5 (w.heap.size + 1) (.slice (some ⟨gg, 0, none⟩) (acc ++ [d.s]).length cap') (acc ++ [d.s])) := by
      show World.ownsRow _ _ _ _ _ _ _
      rw [List.length_append, List.map_append]
      exact hown5
     refine ⟨⟨acc ++ [d.s], some ⟨gg, 0, none⟩, cap', by simp, by simp, by simp; omega, HE.out, hB5, hK5, by rw [List.length_append]; exact HQ.out, fun x hx => by rcases List.mem_append.1 hx with hx | hx; exact HAC.out x hx; simp at hx; subst hx; exact hds⟩, ?_⟩
     simp [intOf]
     omega
  ·have hall : acc.length = l.length := by omega
   rw [hall, List.take_length] at HNM
   have hlt' : decide ((acc.length : Int) < (l.length : Int)) = false := by simp; omega
   have hcap := HOW.out.cap
   have HN3 : Hid (Calls Try.prog 37 #[.slice oa acc.length oc, .int .i64 8] wr fun e w' => Ans wr (.bool (decide (acc.length ≤ 8) && nmA acc)) e w') := l3Names_any oa acc oc wr (by omega) hcap.2 HOW.out.row.2 HAC.out
   have HQ : Hid (if (decide (acc.length ≤ 8) && nmA acc) = true then parsOf cs l = some acc else parsOf cs l = none) := by
    show ite _ _ _
    unfold parsOf
    rw [HNM.out]
    by_cases h1 : acc.length ≤ 8
    ·cases h2 : nmA acc
     ·simp [h1, h2]
     ·simp [h1, h2]
    ·simp [h1]
   clear hall
   go_wp2_with (go_at_call 37; refine HN3.out.mono ?_; rintro e w2 ⟨rfl, hb2⟩)
   go_ret2
   exact ⟨.slice oa acc.length oc, acc, _, rfl, (HOW.out.mono (Nat.le_succ _)).below hb2, by omega, HAC.out, bT HBW.out hb2, HQ.out⟩
end Go.Proofs.Ytgjeefedcfakdaa
set_option linter.unusedVariables false
set_option maxRecDepth 100000
set_option maxHeartbeats 8000000
namespace Go.Proofs.Ytgjeefedcfakdaa
open Go.ChangeShapes Go.WideShapes Go.ChangeAt Go.RowKit
theorem bnd_snoc (cs : List Dat) (x : Int) : ∀ (l : List Int), bndL cs (l ++ [x]) = (bndL cs l).bind fun r => (lstOf cs x).bind fun b => match b with
  | [y, e] => some (r.1 ++ [y], r.2 ++ [e])
  | _ => none
 | [] => by
  show ((lstOf cs x).bind fun b => match b with | [y, e] => (bndL cs []).map fun r => (y :: r.1, e :: r.2) | _ => none) = _
  rfl
 | i :: l => by
  show ((lstOf cs i).bind fun b => match b with | [y, e] => (bndL cs (l ++ [x])).map fun r => (y :: r.1, e :: r.2) | _ => none) = ((lstOf cs i).bind fun b => match b with | [y, e] => (bndL cs l).map fun r => (y :: r.1, e :: r.2) | _ => none).bind _
  rw [bnd_snoc cs x l]
  cases lstOf cs i with
  | none => rfl
  | some b =>
   match b with
   | [] => rfl
   | [_] => rfl
   | [y, e] =>
    cases bndL cs l with
    | none => rfl
    | some r =>
     cases lstOf cs x with
     | none => rfl
     | some b2 =>
      match b2 with
      | [] => rfl
      | [_] => rfl
      | [_, _] => rfl
      | _ :: _ :: _ :: _ => rfl
   | _ :: _ :: _ :: _ => rfl
theorem bnd_bad {cs : List Dat} {x : Int} (h : ∀ y e, lstOf cs x ≠ some [y, e]) : ∀ {l : List Int}, x ∈ l → bndL cs l = none
 | i :: l, hm => by
  show ((lstOf cs i).bind fun b => match b with | [y, e] => (bndL cs l).map fun r => (y :: r.1, e :: r.2) | _ => none) = none
  rcases List.mem_cons.1 hm with rfl | hm
  ·cases hx : lstOf cs x with
   | none => rfl
   | some b =>
    match b, hx with
    | [], _ => rfl
    | [_], _ => rfl
    | [y, e], hx => exact absurd hx (h y e)
    | _ :: _ :: _ :: _, _ => rfl
  ·rw [bnd_bad h hm]
   cases lstOf cs i with
   | none => rfl
   | some b =>
    match b with
    | [] => rfl
    | [_] => rfl
    | [_, _] => rfl
    | _ :: _ :: _ :: _ => rfl
theorem lst_mem {cs : List Dat} (ha : Ahead cs) : ∀ (k : Nat), k < cs.length → ∀ {l : List Int}, lstOf cs (k : Int) = some l → ∀ x ∈ l, 0 ≤ x ∧ x < (cs.length : Int) := by
 intro k
 induction k using Nat.strongRecOn with
 | ind k ih =>
  intro hk l hl x hx
  have hd : cs[k]? = some cs[k] := List.getElem?_eq_getElem hk
  by_cases h5 : cs[k].k = 5
  ·obtain ⟨h1, h2, h3, h4⟩ := ha k _ hd h5
   obtain ⟨q, hq⟩ := Int.eq_ofNat_of_zero_le h3
   rw [lst_pair ha hd h5 hq] at hl
   rw [hq] at h4
   cases hm : lstOf cs (q : Int) with
   | none => rw [hm] at hl; cases hl
   | some l' =>
    rw [hm] at hl
    have hl : cs[k].l :: l' = l := Option.some.inj hl
    subst hl
    rcases List.mem_cons.1 hx with rfl | hx
    ·exact ⟨h1, by omega⟩
    ·exact ih q (by omega) (by omega) hm x hx
  ·rw [lst_end hd h5] at hl
   split at hl
   ·have hl : [] = l := Option.some.inj hl
    subst hl
    cases hx
   ·cases hl
theorem lst_lt {cs : List Dat} (ha : Ahead cs) : ∀ (k : Nat), k < cs.length → ∀ {l : List Int}, lstOf cs (k : Int) = some l → ∀ x ∈ l, 0 ≤ x ∧ x < (k : Int) := by
 intro k
 induction k using Nat.strongRecOn with
 | ind k ih =>
  intro hk l hl x hx
  have hd : cs[k]? = some cs[k] := List.getElem?_eq_getElem hk
  by_cases h5 : cs[k].k = 5
  ·obtain ⟨h1, h2, h3, h4⟩ := ha k _ hd h5
   obtain ⟨q, hq⟩ := Int.eq_ofNat_of_zero_le h3
   rw [lst_pair ha hd h5 hq] at hl
   rw [hq] at h4
   cases hm : lstOf cs (q : Int) with
   | none => rw [hm] at hl; cases hl
   | some l' =>
    rw [hm] at hl
    have hl : cs[k].l :: l' = l := Option.some.inj hl
    subst hl
    rcases List.mem_cons.1 hx with rfl | hx
    ·exact ⟨h1, h2⟩
    ·have := ih q (by omega) (by omega) hm x hx
     exact ⟨this.1, by omega⟩
  ·rw [lst_end hd h5] at hl
   split at hl
   ·have hl : [] = l := Option.some.inj hl
    subst hl
    cases hx
   ·cases hl
theorem bnd_lt {cs : List Dat} (ha : Ahead cs) {m : Int} : ∀ {L : List Int} {ns fs : List Int}, (∀ x ∈ L, 0 ≤ x ∧ x < m) → m ≤ cs.length → bndL cs L = some (ns, fs) → (∀ x ∈ ns, 0 ≤ x ∧ x < m) ∧ ∀ x ∈ fs, 0 ≤ x ∧ x < m
 | [], ns, fs, _, _, h => by
  have h : ([], []) = (ns, fs) := Option.some.inj h
  injection h with h1 h2
  subst h1 h2
  exact ⟨fun x hx => (by cases hx), fun x hx => (by cases hx)⟩
 | i :: L, ns, fs, hm, hcs, h => by
  unfold bndL at h
  obtain ⟨hi0, hi1⟩ := hm i (by simp)
  obtain ⟨k, rfl⟩ := Int.eq_ofNat_of_zero_le hi0
  cases hb : lstOf cs (k : Int) with
  | none => rw [hb] at h; cases h
  | some b =>
   rw [hb] at h
   have hlt := lst_lt ha k (by omega) hb
   match b, h with
   | [], h => cases h
   | [_], h => cases h
   | _ :: _ :: _ :: _, h => cases h
   | [x, e], h =>
    simp only [Option.bind] at h
    cases hr : bndL cs L with
    | none => rw [hr] at h; cases h
    | some q =>
     obtain ⟨ns', fs'⟩ := q
     rw [hr] at h
     have h : (x :: ns', e :: fs') = (ns, fs) := Option.some.inj h
     injection h with h1 h2
     subst h1 h2
     obtain ⟨g1, g2⟩ := bnd_lt ha (fun y hy => hm y (by simp [hy])) hcs hr
     have hx := hlt x (by simp)
     have he := hlt e (by simp)
     refine ⟨fun y hy => ?_, fun y hy => ?_⟩
     ·rcases List.mem_cons.1 hy with rfl | hy
      ·exact ⟨hx.1, by omega⟩
      ·exact g1 y hy
     ·rcases List.mem_cons.1 hy with rfl | hy
      ·exact ⟨he.1, by omega⟩
      ·exact g2 y hy
def BEnd (cs : List Dat) (i : Nat) (w : World) (e : Ending) (w' : World) : Prop := ∃ (nv fv : Value) (ns fs : List Int) (ok : Bool), e = .returned (.tuple #[nv, fv, .bool ok]) ∧ OwnI w' w.heap.size nv ns ∧ OwnI w' w.heap.size fv fs ∧ ns.length ≤ i ∧ fs.length = ns.length ∧ Below w.heap.size w w' ∧ (if ok = true then bndOf cs (i : Int) = some (ns, fs) else bndOf cs (i : Int) = none) ∧ Hid ((∀ x ∈ ns, 0 ≤ x ∧ x < (i : Int)) ∧ ∀ x ∈ fs, 0 ≤ x ∧ x < (i : Int))
theorem OwnI.below {w w' : World} {B : Nat} {v : Value} {l : List Int} (h : OwnI w B v l) (hb : Below w.heap.size w w') : OwnI w' B v l := by
 obtain ⟨hl, h | ⟨g, cap', cur, hv, a1, h2, h3⟩⟩ := h
 ·exact ⟨hl, .inl h⟩
 ·exact ⟨hl, .inr ⟨g, cap', cur, hv, a1, (hb.block g (alt h2)).trans h2, h3⟩⟩
theorem OwnI.apart {w w' : World} {B : Nat} {v : Value} {r : Option Nat} {l : List Int} (h : OwnI w B v l) (hg : w.grownBy w' r) (hne : ∀ k, v.ownBlock = some k → r ≠ some k) : OwnI w' B v l := by
 obtain ⟨hl, h | ⟨g, cap', cur, hv, a1, h2, h3⟩⟩ := h
 ·exact ⟨hl, .inl h⟩
 ·refine ⟨hl, .inr ⟨g, cap', cur, hv, a1, (hg.block g (alt h2) fun e => hne g (by rw [hv]; rfl) e.symm).trans h2, h3⟩⟩
theorem OwnI.row {w : World} {B cap : Nat} {a : Option Addr} {l : List Int} (h : OwnI w B (.slice a l.length cap) l) : RowI w w.heap.size a l := by
 intro i x hi
 obtain ⟨hl, ⟨hv, h0⟩ | ⟨g, cap', cur, hv, a1, h2, h3, h4, h5, h6⟩⟩ := h
 ·have : l = [] := List.eq_nil_of_length_eq_zero h0
  subst this
  cases hi
 ·injection hv with e1 e2 e3
  subst e1
  have hil := (llt hi)
  refine ⟨g, 0, rfl, (alt h2), ?_⟩
  rw [Nat.zero_add]
  refine cell_blk h2 ?_
  have : (cur.toList.take (l.length * 1))[i]? = some (.int .i64 x) := by rw [h6, List.getElem?_map, hi]; rfl
  rw [List.getElem?_take_of_lt (by omega)] at this
  simpa using this
end Go.Proofs.Ytgjeefedcfakdaa
