/- The model's Sets. What is free in a node, as a plain function. -/
import Derived.Test.YtamjofdgikifnaaGreatVlp
import Derived.Test.YtamjofdgikifnaaGreatSnp
import Derived.Test.YtamjofdgikifnaaGreatSla
set_option linter.unusedVariables false
namespace Go.Proofs.YtamjofdgikifnaaGreat.Fr
open Go.ChangeShapes Go.WideShapes Go.ChangeAt Go.RowKit
theorem OwnS.lt {w : World} {B b : Nat} {v : Value} {l : List ByteArray} (h : OwnS w B v l) (hv : v.ownBlock = some b) : B ≤ b ∧ b < w.heap.size := World.ownsRow.lt h b hv
theorem OwnS.weak {w : World} {B B' : Nat} {v : Value} {l : List ByteArray} (h : OwnS w B v l) (hB : B' ≤ B) : OwnS w B' v l := by
 obtain ⟨hl, ⟨hv, h0⟩ | ⟨g, cap', cur, hv, a1, a3⟩⟩ := h
 ·exact ⟨hl, .inl ⟨hv, h0⟩⟩
 ·exact ⟨hl, .inr ⟨g, cap', cur, hv, Nat.le_trans hB a1, a3⟩⟩
theorem ownS_snoc {w : World} {B g cap : Nat} {l : List ByteArray} {s : ByteArray} (h : w.ownsRow B 9 1 (.slice (some ⟨g, 0, none⟩) (l.length + 1) cap) (l.length + 1) (l.map Value.string ++ [.string s])) : OwnS w B (.slice (some ⟨g, 0, none⟩) (l ++ [s]).length cap) (l ++ [s]) := by
 show World.ownsRow _ _ _ _ _ _ _
 rw [List.length_append, List.map_append]
 exact h
set_option maxRecDepth 100000 in
set_option maxHeartbeats 1000000 in
theorem specSets_yes (a : Option Addr) (ns : List Nod) (cap : Nat) (root : Int) (w : World) (hn : ns.length ≤ 1048576) (hfl : (flat ns).length ≤ 1048576) (hr : RowN w w.heap.size a ns) (hsm : ∀ d ∈ ns, d.small) (hok : OkP ns root) :
  Calls Tryz.prog 28 #[.agg #[.slice a ns.length cap, .int .i64 root]] w fun e w' => TellP (setsL ns) w e w' := by
 have HOK : Hid (∀ w1, Below w.heap.size w w1 → Calls Tryz.prog 58 #[.agg #[.slice a ns.length cap, .int .i64 root]] w1 fun e w' => OkPost ns root w1 e w') := fun w1 h => specOk_any a ns cap root w1 hn hfl ((hr.below h).mono h.size) hsm
 have HR : Hid (RowN w w.heap.size a ns) := hr
 have HS : Hid (∀ d ∈ ns, d.small) := hsm
 obtain ⟨hl1, hl2, -⟩ := id hok
 have HOKP : Hid (OkP ns root) := hok
 clear hr hsm hok
 obtain ⟨i9, hi9, hz90, hz91, hz92⟩ := info_parts Tryz.inf9
 go_enter Tryz.func28, Tryz.ntmps28
 go_wp2
 go_loopw [3, 4] (fun v o wr => ∃ (i : Nat), i ≤ ns.length ∧ o = .int .i64 i ∧ wr.heap[w.heap.size]? = some (Obj.cells #[.slice a ns.length cap, .int .i64 root] 54) ∧ OwnS wr (w.heap.size + 1) v (setsL (ns.take i)) ∧ Below w.heap.size w wr)
  (fun _ o _ => ns.length - (intOf o).toNat)
 case atStart =>
  refine ⟨0, by omega, rfl, blk_past (blk_at _ _ _ rfl), ?_, ((Below.refl _ _).alloc (Nat.le_refl _) _).alloc (by simp) _⟩
  exact ⟨rfl, .inr ⟨w.heap.size + 1, 0, #[], rfl, Nat.le_refl _, blk_at _ _ _ (by simp), Nat.le_refl _, Nat.zero_le _, rfl, rfl⟩⟩
 case round =>
  obtain ⟨i, hi, rfl, hkd, hown, hb⟩ := hrel
  obtain ⟨oa, oc, rfl⟩ := hown.slice
  have e0 := cell_blk (j := 0) hkd rfl
  have e1 := cell_blk (j := 1) hkd rfl
  have HKD : Hid (wr.heap[w.heap.size]? = some (Obj.cells #[.slice a ns.length cap, .int .i64 root] 54)) := hkd
  have HOW : Hid (OwnS wr (w.heap.size + 1) (.slice oa (setsL (ns.take i)).length oc) (setsL (ns.take i))) := hown
  have hws := (Array.getElem?_eq_some_iff.1 hkd).1
  have hsl : (setsL (ns.take i)).length ≤ i := setsL_len i _ (by rw [List.length_take]; omega)
  clear hkd hown
  by_cases hlt : i < ns.length
  ·obtain ⟨d, hd⟩ : ∃ d, ns[i]? = some d := ⟨_, List.getElem?_eq_getElem hlt⟩
   have HD : Hid (ns[i]? = some d) := hd
   obtain ⟨b1, o1, rfl, hbb, an, cn, aa, ca, v0, v1, v2, v3, v4, hrs, hri, hcn1, hca1⟩ := HR.out i d hd
   have HST : Hid (setsL (ns.take (i + 1)) = if d.k = 10 ∧ hasS (setsL (ns.take i)) d.s = false then setsL (ns.take i) ++ [d.s] else setsL (ns.take i)) := setsL_take hd
   have HO : Hid (Calls Tryz.prog 58 #[.agg #[.slice (some ⟨b1, o1, none⟩) ns.length cap, .int .i64 root]] wr fun e w' => OkPost ns root wr e w') := HOK.out wr hb
   have C0 : Hid (∀ w3, Below w.heap.size w w3 → w3.cell? ⟨b1, o1 + i * 5, none⟩ = some (.int .i64 d.k) ∧ w3.cell? ⟨b1, o1 + i * 5 + 2, none⟩ = some (.string d.s)) := fun w3 h3 => ⟨cell_keep v0 h3 hbb, cell_keep v2 h3 hbb⟩
   have hki := (HS.out d (List.mem_of_getElem? hd)).1
   clear hrs hri hd v0 v1 v2 v3 v4
   generalize setsL (ns.take i) = l at *
   go_wp2_with fail
   refine HO.out.mono ?_
   rintro e w2 ⟨b, rfl, hq, hb2⟩
   obtain rfl : b = true := hq.2 HOKP.out
   have hk2 := blk_keep HKD.out hb2 hws
   have HK2 : Hid (w2.heap[w.heap.size]? = some (Obj.cells #[.slice (some ⟨b1, o1, none⟩) ns.length cap, .int .i64 root] 54)) := hk2
   have HO2 : Hid (OwnS w2 (w.heap.size + 1) (.slice oa l.length oc) l) := HOW.out.below hb2
   have hb3 : Below w.heap.size w w2 := hb.trans (hb2.mono (Nat.le_of_lt hws))
   obtain ⟨c0, c2⟩ := C0.out w2 hb3
   have HIN : Hid (Calls Tryz.prog 27 #[.slice oa l.length oc, .string d.s] w2 fun e w' => Ans w2 (.bool (hasS l d.s)) e w') := l3In_any oa l oc d.s w2 (by omega) HO2.out.row.2
   have k0 := cell_blk (j := 0) hk2 rfl
   have hws2 := (Array.getElem?_eq_some_iff.1 hk2).1
   clear hq hb2 hb HO HKD HOW e0 e1 hk2
   by_cases hk : d.k = 10
   ·have hkb : (d.k == 10) = true := by rw [hk]; rfl
    cases hh : hasS l d.s
    ·rw [hh] at HIN HST
     have HST2 : Hid (setsL (ns.take (i + 1)) = l ++ [d.s]) := by have := HST.out; rw [if_pos ⟨hk, rfl⟩] at this; exact this
     clear HST hh hk
     go_wp2_with fail
     refine HIN.out.mono ?_
     rintro e w3 ⟨rfl, hb4⟩
     have hk3 := blk_keep HK2.out hb4 hws2
     have HK3 : Hid (w3.heap[w.heap.size]? = some (Obj.cells #[.slice (some ⟨b1, o1, none⟩) ns.length cap, .int .i64 root] 54)) := hk3
     have hb5 : Below w.heap.size w w3 := hb3.trans (hb4.mono (Nat.le_of_lt hws2))
     have hws3 := (Array.getElem?_eq_some_iff.1 hk3).1
     obtain ⟨_, d2⟩ := C0.out w3 hb5
     have m0 := cell_blk (j := 0) hk3 rfl
     have HO3 : Hid (OwnS w3 (w.heap.size + 1) (.slice oa l.length oc) l) := HO2.out.below hb4
     have HOA : Hid ((w3.alloc (.cells #[.string d.s] 9 (0, 0))).ownsRow (w.heap.size + 1) 9 1 (.slice oa l.length oc) l.length (l.map Value.string)) := World.ownsRow.alloc HO3.out _
     have kA : (w3.alloc (.cells #[.string d.s] 9 (0, 0))).heap[w3.heap.size]? = some (.cells #[.string d.s] 9 (0, 0)) := blk_at _ _ _ rfl
     have hAz : (w3.alloc (.cells #[.string d.s] 9 (0, 0))).heap.size = w3.heap.size + 1 := by simp
     have hwA : w.heap.size + 1 ≤ (w3.alloc (.cells #[.string d.s] 9 (0, 0))).heap.size := by rw [hAz]; omega
     have HBA : Hid (Below w.heap.size w (w3.alloc (.cells #[.string d.s] 9 (0, 0)))) := hb5.alloc (by omega) _
     clear hk3 hb3 hb4 c0 c2 k0 HO2 HK2 HIN
     go_wp2_with (at_builtin; refine wpList_append_lies _ rfl _ _ 22 rfl (w.heap.size + 1) 9 i9 _ 1 16 Tryz.underlying22 hi9 hz90 hz91 hz92 rfl (by omega) (.slice oa l.length oc) l.length (l.map Value.string) rfl HOA.out ⟨w3.heap.size, 0, none⟩ 1 1 [.string d.s] rfl rfl (World.news_of_block kA) (by intro u hu; simp at hu; subst hu; rfl) (by omega) (by simp [maxLen]; omega) (by omega) hwA (w3.heap.size + 1) hAz ?_)
     intro gg cap' w4 hown hgrow hat hlt4
     have HO4 : Hid (OwnS w4 (w.heap.size + 1) (.slice (some ⟨gg, 0, none⟩) (l ++ [d.s]).length cap') (l ++ [d.s])) := ownS_snoc hown
     have HK4 : Hid (w4.heap[w.heap.size]? = some (Obj.cells #[.slice (some ⟨b1, o1, none⟩) ns.length cap, .int .i64 root] 54)) := (hgrow.block _ (by rw [hAz]; omega) (fun e => by have := (World.ownsRow.lt HOA.out _ e.symm).1; omega)).trans (blk_past HK3.out)
     have HB4 : Hid (Below w.heap.size w w4) := HBA.out.trans ⟨hgrow.os, hgrow.tape, hgrow.output, hgrow.size, fun k hk => hgrow.block k (by rw [hAz]; omega) (fun e => by have := (World.ownsRow.lt HOA.out _ e.symm).1; omega)⟩
     have hln : (l ++ [d.s]).length = l.length + 1 := by simp
     clear hown hgrow hat hlt4 kA hAz hwA HBA HOA HK3 HO3 d2 m0
     go_wp2
     go_roundw
     case rel => exact ⟨i + 1, by omega, by go_num, HK4.out, by rw [HST2.out, ← hln]; exact HO4.out, HB4.out⟩
     case measure => simp [intOf]; omega
    ·rw [hh] at HIN HST
     have HST2 : Hid (setsL (ns.take (i + 1)) = l) := by have := HST.out; rw [if_neg (by simp)] at this; exact this
     clear HST hh hk
     go_wp2_with fail
     refine HIN.out.mono ?_
     rintro e w3 ⟨rfl, hb4⟩
     have HK3 : Hid (w3.heap[w.heap.size]? = some (Obj.cells #[.slice (some ⟨b1, o1, none⟩) ns.length cap, .int .i64 root] 54)) := blk_keep HK2.out hb4 hws2
     have HB3 : Hid (Below w.heap.size w w3) := hb3.trans (hb4.mono (Nat.le_of_lt hws2))
     have HO3 : Hid (OwnS w3 (w.heap.size + 1) (.slice oa l.length oc) l) := HO2.out.below hb4
     clear hb3 hb4 c0 c2 k0 HO2 HK2 HIN
     go_wp2
     go_roundw
     case rel => exact ⟨i + 1, by omega, by go_num, HK3.out, by rw [HST2.out]; exact HO3.out, HB3.out⟩
     case measure => simp [intOf]; omega
   ·have hkb : (d.k == 10) = false := by rw [beq_eq_false_iff_ne]; exact hk
    have HST2 : Hid (setsL (ns.take (i + 1)) = l) := by have := HST.out; rw [if_neg (by simp [hk])] at this; exact this
    clear HST hk
    go_wp2
    go_roundw
    case rel => exact ⟨i + 1, by omega, by go_num, HK2.out, by rw [HST2.out]; exact HO2.out, hb3⟩
    case measure => simp [intOf]; omega
  ·have hlt' : decide ((i : Int) < (ns.length : Int)) = false := by simp; omega
   obtain rfl : i = ns.length := by omega
   rw [List.take_length] at HOW ⊢
   clear hlt hi
   go_wp2
   go_ret
   exact ⟨.slice oa (setsL ns).length oc, rfl, HOW.out.weak (Nat.le_succ _), hb⟩
end Go.Proofs.YtamjofdgikifnaaGreat.Fr
set_option linter.unusedVariables false
namespace Go.Proofs.YtamjofdgikifnaaGreat.Fr
open Go.ChangeShapes Go.WideShapes Go.ChangeAt Go.RowKit
def tellF (b out : List ByteArray) (s : ByteArray) : List ByteArray := if hasS b s = false ∧ hasS out s = false then out ++ [s] else out
def bndF (d : Nod) (b : List ByteArray) : List ByteArray := if d.k = 7 then b ++ d.names else b
def freeF (ns : List Nod) : Nat → Int → List ByteArray → List ByteArray → List ByteArray
 | 0, _, _, out => out
 | f + 1, i, b, out =>
  match ns[i.toNat]? with
  | none => out
  | some d => if d.k = 5 then tellF b out d.s else d.args.foldl (fun o a => freeF ns f a (bndF d b) o) out
theorem freeF_var {ns : List Nod} {f i : Nat} {d : Nod} {b out : List ByteArray} (h : ns[i]? = some d) (hk : d.k = 5) : freeF ns (f + 1) (i : Int) b out = tellF b out d.s := by
 simp only [freeF, Int.toNat_natCast, h, hk, if_true]
theorem freeF_else {ns : List Nod} {f i : Nat} {d : Nod} {b out : List ByteArray} (h : ns[i]? = some d) (hk : ¬ d.k = 5) : freeF ns (f + 1) (i : Int) b out = d.args.foldl (fun o a => freeF ns f a (bndF d b) o) out := by
 simp only [freeF, Int.toNat_natCast, h, hk, if_false]
theorem hasS_iff {l : List ByteArray} {s : ByteArray} : hasS l s = true ↔ s ∈ l := by
 unfold hasS
 rw [List.any_eq_true]
 constructor
 ·rintro ⟨t, ht, he⟩
  have : t.toList = s.toList := by simpa using he
  have : t = s := by
   rw [ByteArray.toList_eq, ByteArray.toList_eq] at this
   cases t; cases s
   simpa using this
  exact this ▸ ht
 ·intro h
  exact ⟨s, h, by simp⟩
theorem hasS_not {l : List ByteArray} {s : ByteArray} : hasS l s = false ↔ s ∉ l := by
 rw [← hasS_iff]
 simp
theorem nodup_le {α : Type} [DecidableEq α] : ∀ (l m : List α), l.Nodup → (∀ x ∈ l, x ∈ m) → l.length ≤ m.length
 | [], _, _, _ => by simp
 | x :: l, m, hn, hs => by
  rw [List.nodup_cons] at hn
  have hx := hs x (by simp)
  have := nodup_le l (m.erase x) hn.2 fun y hy => (List.mem_erase_of_ne (by rintro rfl; exact hn.1 hy)).2 (hs y (by simp [hy]))
  rw [List.length_erase_of_mem hx] at this
  have := List.length_pos_of_mem hx
  simp only [List.length_cons]
  omega
def Fnd (ns : List Nod) (out : List ByteArray) : Prop := out.Nodup ∧ ∀ s ∈ out, s ∈ ns.map (·.s)
theorem Fnd.len {ns : List Nod} {out : List ByteArray} (h : Fnd ns out) : out.length ≤ ns.length := by
 have := nodup_le out _ h.1 h.2
 simpa using this
theorem Fnd.tell {ns : List Nod} {i : Nat} {d : Nod} {b out : List ByteArray} (h : Fnd ns out) (hd : ns[i]? = some d) : Fnd ns (tellF b out d.s) := by
 unfold tellF
 split
 ·rename_i hc
  have hno := hasS_not.1 hc.2
  refine ⟨?_, fun s hs => ?_⟩
  ·rw [List.nodup_append]
   exact ⟨h.1, by simp, fun x hx y hy => by rw [List.mem_singleton.1 hy]; rintro rfl; exact hno hx⟩
  ·rcases List.mem_append.1 hs with hs | hs
   ·exact h.2 s hs
   ·rw [List.mem_singleton.1 hs]
    exact List.mem_map.2 ⟨d, List.mem_of_getElem? hd, rfl⟩
 ·exact h
theorem Fnd.free {ns : List Nod} (hin : inR ns) : ∀ (f : Nat) (i : Nat) (b out : List ByteArray), i < f → Fnd ns out → Fnd ns (freeF ns f (i : Int) b out)
 | 0, i, b, out, h, ho => absurd h (by omega)
 | f + 1, i, b, out, h, ho => by
  cases hd : ns[i]? with
  | none =>
   simp only [freeF, Int.toNat_natCast, hd]
   exact ho
  | some d =>
   by_cases hk : d.k = 5
   ·rw [freeF_var hd hk]
    exact ho.tell hd
   ·rw [freeF_else hd hk]
    have : ∀ (l : List Int) (o : List ByteArray), (∀ a ∈ l, 0 ≤ a ∧ a < (i : Int)) → Fnd ns o → Fnd ns (l.foldl (fun o a => freeF ns f a (bndF d b) o) o) := by
     intro l
     induction l with
     | nil => intro o _ ho; exact ho
     | cons a l ih =>
      intro o hl ho
      obtain ⟨h1, h2⟩ := hl a (by simp)
      obtain ⟨A, rfl⟩ := Int.eq_ofNat_of_zero_le h1
      exact ih _ (fun a' ha' => hl a' (by simp [ha'])) (Fnd.free hin f A _ o (by omega) ho)
    exact this d.args out (hin i d hd) ho
def argsF (ns : List Nod) (f : Nat) (b : List ByteArray) (l : List Int) (out : List ByteArray) : List ByteArray := l.foldl (fun o a => freeF ns f a b o) out
theorem argsF_snoc (ns : List Nod) (f : Nat) (b : List ByteArray) (l : List Int) (x : Int) (out : List ByteArray) : argsF ns f b (l ++ [x]) out = freeF ns f x b (argsF ns f b l out) := by simp [argsF]
theorem Fnd.args {ns : List Nod} (hin : inR ns) {f i : Nat} {d : Nod} (hd : ns[i]? = some d) (hf : i ≤ f) (b out : List ByteArray) (ho : Fnd ns out) (k : Nat) : Fnd ns (argsF ns f b (d.args.take k) out) := by
 have : ∀ (l : List Int) (o : List ByteArray), (∀ a ∈ l, 0 ≤ a ∧ a < (i : Int)) → Fnd ns o → Fnd ns (argsF ns f b l o) := by
  intro l
  induction l with
  | nil => intro o _ ho; exact ho
  | cons a l ih =>
   intro o hl ho
   obtain ⟨h1, h2⟩ := hl a (by simp)
   obtain ⟨A, rfl⟩ := Int.eq_ofNat_of_zero_le h1
   exact ih _ (fun a' ha' => hl a' (by simp [ha'])) (Fnd.free hin f A _ o (by omega) ho)
 exact this _ out (fun a ha => hin i d hd a (List.mem_of_mem_take ha)) ho
theorem Fnd.nil (ns : List Nod) : Fnd ns [] := ⟨by simp, fun s h => by cases h⟩
theorem ok_var {d : Nod} (h : d.ok = true) (hk : d.k = 5) : d.args = [] := by
 unfold Nod.ok spB at h
 rw [hk] at h
 simp at h
 exact h.1.1.2
theorem ok_lam {d : Nod} (h : d.ok = true) (hk : d.k = 7) : d.names.length ≤ 8 := by
 unfold Nod.ok spB at h
 rw [hk] at h
 simp at h
 exact h.1.1.1.1
end Go.Proofs.YtamjofdgikifnaaGreat.Fr
