/- The model's expander: what a frame's callees do, from the world of the step ahead. The model's expander: rows that grow beside the nodes. The model's expander: l4All. -/
import Derived.Test.YtgjeefedcfakdaaYsf
import Derived.Laws.ResultCell
import Derived.Deep.DeepCutAuto
set_option linter.unusedVariables false
namespace Go.Proofs.Ytgjeefedcfakdaa
variable {Gz : Nat → Prop}
open Go.ChangeShapes Go.WideShapes Go.ChangeAt Go.RowKit
theorem blk_drew {W : World} {n : Nat} {o : Obj} (h : W.heap[n]? = some o) : W.drew.heap[n]? = some o := h
theorem XEnd.from {W V w' : World} {e : Ending} {B : Nat} {sc st : Value} {a3 : Option Addr} {n3 c3 : Nat} {root : Int} {r : Sx} (hb : Below W.heap.size W V) (h : XEnd Gz B sc st a3 n3 c3 root r V e w') : XEnd Gz B sc st a3 n3 c3 root r W e w' := by
 obtain ⟨a, n, c, code, he, hx, hg, hs⟩ := h
 refine ⟨a, n, c, code, he, hx, gb_trans (gb_below _ hb) hg (.inl rfl), ?_⟩
 rcases hs with h | h
 ·exact .inl h
 ·exact .inr fun k hk => Nat.le_trans hb.size (h k hk)
def NewI (w V : World) (aa : Option Addr) (l : List Int) (c : Nat) : Prop := (l = [] ∧ c = 0 ∧ aa = none) ∨ ∃ (g : Nat) (cur : Array Value), aa = some ⟨g, 0, none⟩ ∧ V.heap[g]? = some (Obj.cells cur 3) ∧ w.heap.size ≤ g ∧ cur.size = c ∧ l.length ≤ c ∧ c ≤ maxLen ∧ ∀ (i : Nat) (x : Int), l[i]? = some x → cur[i]? = some (Value.int .i64 x)
theorem NewI.nil (w V : World) (aa : Option Addr) (h : aa = none := by rfl) : NewI w V aa [] 0 := .inl ⟨rfl, rfl, h⟩
theorem NewI.lit {w V : World} {g : Nat} (l : List Int) (h : V.heap[g]? = some (Obj.cells (l.map (Value.int .i64)).toArray 3)) (hg : w.heap.size ≤ g) (hl : Nat.ble l.length 100 = true := by rfl) : NewI w V (some ⟨g, 0, none⟩) l l.length :=
 .inr ⟨g, _, rfl, h, hg, by simp, Nat.le_refl _, Nat.le_trans (Nat.le_of_ble_eq_true hl) (by decide), fun i x hi => by simp [hi]⟩
theorem NewI.kt {w V V' : World} {aa : Option Addr} {l : List Int} {c : Nat} (h : NewI w V aa l c) (k : KT V V') : NewI w V' aa l c := by
 rcases h with h | ⟨g, cur, h1, h2, h3⟩
 ·exact .inl h
 ·exact .inr ⟨g, cur, h1, k g cur 3 ⟨by decide, by decide⟩ h2, h3⟩
theorem NewI.of {w V : World} {B c : Nat} {a : Option Addr} {l : List Int} (h : OwnI V B (.slice a l.length c) l) (hB : w.heap.size ≤ B) : NewI w V a l c := by
 obtain ⟨hn, ⟨hv, h0⟩ | ⟨g, cap', cur, hv, a1, hblk, a3, a4, a5, a6⟩⟩ := h
 ·injection hv with e1 e2 e3
  exact .inl ⟨List.length_eq_zero_iff.1 h0, e3, e1⟩
 ·injection hv with e1 e2 e3
  subst e1
  subst e3
  refine .inr ⟨g, cur, rfl, hblk, by omega, by omega, a3, a4, fun i x hi => ?_⟩
  have hi' := (llt hi)
  rw [← Array.getElem?_toList]
  have h7 : (cur.toList.take (l.length * 1))[i]? = (l.map (Value.int .i64))[i]? := by rw [a6]
  rw [List.getElem?_take_of_lt (by omega), List.getElem?_map, hi] at h7
  exact h7
def NewS (w V : World) (aa : Option Addr) (l : List ByteArray) (c : Nat) : Prop := (l = [] ∧ c = 0 ∧ aa = none) ∨ ∃ (g : Nat) (cur : Array Value), aa = some ⟨g, 0, none⟩ ∧ V.heap[g]? = some (Obj.cells cur 9) ∧ w.heap.size ≤ g ∧ cur.size = c ∧ l.length ≤ c ∧ c ≤ maxLen ∧ ∀ (i : Nat) (x : ByteArray), l[i]? = some x → cur[i]? = some (Value.string x)
theorem NewS.nil (w V : World) (aa : Option Addr) (h : aa = none := by rfl) : NewS w V aa [] 0 := .inl ⟨rfl, rfl, h⟩
theorem NewS.lit {w V : World} {g : Nat} (l : List ByteArray) (h : V.heap[g]? = some (Obj.cells (l.map (Value.string)).toArray 9)) (hg : w.heap.size ≤ g) (hl : Nat.ble l.length 100 = true := by rfl) : NewS w V (some ⟨g, 0, none⟩) l l.length :=
 .inr ⟨g, _, rfl, h, hg, by simp, Nat.le_refl _, Nat.le_trans (Nat.le_of_ble_eq_true hl) (by decide), fun i x hi => by simp [hi]⟩
theorem NewS.kt {w V V' : World} {aa : Option Addr} {l : List ByteArray} {c : Nat} (h : NewS w V aa l c) (k : KT V V') : NewS w V' aa l c := by
 rcases h with h | ⟨g, cur, h1, h2, h3⟩
 ·exact .inl h
 ·exact .inr ⟨g, cur, h1, k g cur 9 ⟨by decide, by decide⟩ h2, h3⟩
theorem NewS.of {w V : World} {B c : Nat} {a : Option Addr} {l : List ByteArray} (h : OwnS V B (.slice a l.length c) l) (hB : w.heap.size ≤ B) : NewS w V a l c := by
 obtain ⟨hn, ⟨hv, h0⟩ | ⟨g, cap', cur, hv, a1, hblk, a3, a4, a5, a6⟩⟩ := h
 ·injection hv with e1 e2 e3
  exact .inl ⟨List.length_eq_zero_iff.1 h0, e3, e1⟩
 ·injection hv with e1 e2 e3
  subst e1
  subst e3
  refine .inr ⟨g, cur, rfl, hblk, by omega, by omega, a3, a4, fun i x hi => ?_⟩
  have hi' := (llt hi)
  rw [← Array.getElem?_toList]
  have h7 : (cur.toList.take (l.length * 1))[i]? = (l.map (Value.string))[i]? := by rw [a6]
  rw [List.getElem?_take_of_lt (by omega), List.getElem?_map, hi] at h7
  exact h7
section
variable {w W V : World} {B b o cc : Nat} {cs : List Dat} {a2 : Option Addr} {n2 c2 : Nat} {root : Int} {v0 : Value} {r : Sx} {a : Option Addr} {n c : Nat} {code : Int}
theorem form_at {fn : Nat} {i : Int} {F : Sx → Sx} (hI : FC B b o cc cs a2 n2 c2 root fn i F) (hF : Fx Gz w W B b o cs v0 (.slice a n c) n code r) (hG : ∀ g, Gz g → g < w.heap.size) (hb : Below W.heap.size W V := by repeat first | exact Below.refl _ _ | refine Below.drew ?_ | refine Below.alloc ?_ (by simp <;> omega) _) :
  Calls Try.prog fn #[xV (.slice (some ⟨b, o, none⟩) cs.length cc) (.slice a2 n2 c2) (.slice a n c) root code, .int .i64 i] V fun e w' => XEnd Gz B (.slice (some ⟨b, o, none⟩) cs.length cc) (.slice a2 n2 c2) a n c root (F r) W e w' :=
 (hI Gz V a n c code r (hF.below hb).bsz ((hF.below hb).gz hG) (hF.below hb).row (hF.below hb).rep).mono fun e w' h => h.from hb
theorem list_at {fn : Nat} {l : List Int} {F : Sx → Sx} (hI : LC B b o cc cs a2 n2 c2 root fn l F) (hF : Fx Gz w W B b o cs v0 (.slice a n c) n code r) (hG : ∀ g, Gz g → g < w.heap.size) {al : Option Addr} {cl : Nat} (hcl : l.length ≤ cl) (hr : RowT W al l) (hb : Below W.heap.size W V := by repeat first | exact Below.refl _ _ | refine Below.drew ?_ | refine Below.alloc ?_ (by simp <;> omega) _) :
  Calls Try.prog fn #[xV (.slice (some ⟨b, o, none⟩) cs.length cc) (.slice a2 n2 c2) (.slice a n c) root code, .slice al l.length cl] V fun e w' => XEnd Gz B (.slice (some ⟨b, o, none⟩) cs.length cc) (.slice a2 n2 c2) a n c root (F r) W e w' :=
 (hI Gz V a n c code r al cl (hF.below hb).bsz ((hF.below hb).gz hG) (hF.below hb).row (hF.below hb).rep hcl (hr.kt (KT.below hb))).mono fun e w' h => h.from hb
theorem bool_at (hF : Fx Gz w W B b o cs v0 (.slice a n c) n code r) (k : Int) (hb : Below W.heap.size W V := by repeat first | exact Below.refl _ _ | refine Below.drew ?_ | refine Below.alloc ?_ (by simp <;> omega) _) :
  Calls Try.prog 85 #[xV (.slice (some ⟨b, o, none⟩) cs.length cc) (.slice a2 n2 c2) (.slice a n c) root code, .int .i64 k] V fun e w' => XEnd Gz B (.slice (some ⟨b, o, none⟩) cs.length cc) (.slice a2 n2 c2) a n c root (putN r (boolN k)) W e w' :=
 (l4Bool_any B (some ⟨b, o, none⟩) a2 a cs.length n2 n cc c2 c root code k r V (hF.below hb).bsz (hF.below hb).rep).mono fun e w' h => h.from hb
theorem fail_at (hF : Fx Gz w W B b o cs v0 (.slice a n c) n code r) (hb : Below W.heap.size W V := by repeat first | exact Below.refl _ _ | refine Below.drew ?_ | refine Below.alloc ?_ (by simp <;> omega) _) :
  Calls Try.prog 80 #[xV (.slice (some ⟨b, o, none⟩) cs.length cc) (.slice a2 n2 c2) (.slice a n c) root code, .int .i64 1] V fun e w' => XEnd Gz B (.slice (some ⟨b, o, none⟩) cs.length cc) (.slice a2 n2 c2) a n c root (failN r 1) W e w' :=
 (l4Fail_rep B (some ⟨b, o, none⟩) a2 a cs.length n2 n cc c2 c root code 1 r V ⟨by decide, by decide⟩ (hF.below hb).rep).mono fun e w' h => h.from hb
theorem if_at (hF : Fx Gz w W B b o cs v0 (.slice a n c) n code r) (hG : ∀ g, Gz g → g < w.heap.size) (x y z : Int) (hb : Below W.heap.size W V := by repeat first | exact Below.refl _ _ | refine Below.drew ?_ | refine Below.alloc ?_ (by simp <;> omega) _) :
  Calls Try.prog 95 #[xV (.slice (some ⟨b, o, none⟩) cs.length cc) (.slice a2 n2 c2) (.slice a n c) root code, .int .i64 x, .int .i64 y, .int .i64 z] V fun e w' => XEnd Gz B (.slice (some ⟨b, o, none⟩) cs.length cc) (.slice a2 n2 c2) a n c root (putN r (ifN [x, y, z])) W e w' :=
 (l4If_any B (some ⟨b, o, none⟩) a2 a cs.length n2 n cc c2 c root code x y z r V (hF.below hb).bsz ((hF.below hb).gz hG) (hF.below hb).rep).mono fun e w' h => h.from hb
theorem put_at (hF : Fx Gz w W B b o cs v0 (.slice a n c) n code r) (hG : ∀ g, Gz g → g < w.heap.size) (d : Nod) {an aa : Option Addr} {cn ca : Nat} (hn : NewS w V an d.names cn) (ha : NewI w V aa d.args ca) (hcn : d.names.length ≤ cn) (hca : d.args.length ≤ ca) (hb : Below W.heap.size W V := by repeat first | exact Below.refl _ _ | refine Below.drew ?_ | refine Below.alloc ?_ (by simp <;> omega) _) :
  Calls Try.prog 79 #[xV (.slice (some ⟨b, o, none⟩) cs.length cc) (.slice a2 n2 c2) (.slice a n c) root code, .agg #[.int .i64 d.k, .int .i64 d.n, .string d.s, .slice an d.names.length cn, .slice aa d.args.length ca]] V fun e w' => XEnd Gz B (.slice (some ⟨b, o, none⟩) cs.length cc) (.slice a2 n2 c2) a n c root (putN r d) W e w' := by
 have hF' := hF.below hb
 have np9 : ∀ {g : Nat} {cur : Array Value}, V.heap[g]? = some (Obj.cells cur 9) → w.heap.size ≤ g → NP Gz V (.slice a n c) g := fun h2 h3 => hF'.rep.np h2 (.inr rfl) (fun h => by have := hG _ h; omega)
 have np3 : ∀ {g : Nat} {cur : Array Value}, V.heap[g]? = some (Obj.cells cur 3) → w.heap.size ≤ g → NP Gz V (.slice a n c) g := fun h2 h3 => hF'.rep.np h2 (.inl rfl) (fun h => by have := hG _ h; omega)
 refine (l4Put_any B (some ⟨b, o, none⟩) a2 a cs.length n2 n cc c2 c root code r d an aa cn ca V hF'.bsz hF'.rep ⟨⟨fun i x hi => ?_, fun i x hi => ?_, hcn, hca⟩, ?_, ?_⟩).mono fun e w' h => h.from hb
 ·rcases hn with ⟨h0, _⟩ | ⟨g, cur, h1, h2, h3, h4, h5, h6, h7⟩
  ·rw [h0] at hi
   simp at hi
  ·exact ⟨g, 0, h1, np9 h2 h3, by rw [Nat.zero_add]; exact cell_blk h2 (h7 i x hi)⟩
 ·rcases ha with ⟨h0, _⟩ | ⟨g, cur, h1, h2, h3, h4, h5, h6, h7⟩
  ·rw [h0] at hi
   simp at hi
  ·exact ⟨g, 0, h1, np3 h2 h3, by rw [Nat.zero_add]; exact cell_blk h2 (h7 i x hi)⟩
 ·rcases hn with ⟨h0, h1⟩ | ⟨g, cur, h1, h2, h3, h4, h5, h6, h7⟩
  ·exact .inl ⟨by rw [h0]; rfl, h1⟩
  ·exact .inr ⟨g, cur, np9 h2 h3, h1, h2, h4, h5, h6⟩
 ·rcases ha with ⟨h0, h1⟩ | ⟨g, cur, h1, h2, h3, h4, h5, h6, h7⟩
  ·exact .inl ⟨by rw [h0]; rfl, h1⟩
  ·exact .inr ⟨g, cur, np3 h2 h3, h1, h2, h4, h5, h6⟩
end
end Go.Proofs.Ytgjeefedcfakdaa
set_option linter.unusedVariables false
namespace Go.Proofs.Ytgjeefedcfakdaa
variable {Gz Gy : Nat → Prop}
open Go.ChangeShapes Go.WideShapes Go.ChangeAt Go.RowKit
theorem XRep.grow {w W : World} {B : Nat} {v : Value} {n : Nat} {code : Int} {r : Sx} {u : Option Nat} (h : XRep Gz w B v n code r) (hg : w.grownBy W u) (hu : ∀ k, u = some k → Gz k ∧ v.ownBlock ≠ some k) (hy : ∀ b, Gy b → Gz b ∨ w.heap.size ≤ b) : XRep Gy W B v n code r := by
 obtain ⟨h1, h2, h3, h4, ⟨xs, hx, hrows⟩⟩ := h
 have hsame : ∀ b, b < w.heap.size → u ≠ some b → W.heap[b]? = w.heap[b]? := fun b hb hne => hg.block b hb fun e => hne e.symm
 refine ⟨h1, h2, h3, h4, ⟨xs, ?_, fun j d hd => ?_⟩⟩
 ·refine hx.kept hg ?_
  cases hv : v.ownBlock with
  | none => exact .inl rfl
  | some k => exact .inr fun e => (hu k e.symm).2 hv
 ·obtain ⟨an, cn, aa, ca, e0, e1, e2, e3, e4, hr⟩ := hrows j d hd
  refine ⟨an, cn, aa, ca, e0, e1, e2, e3, e4, hr.keep fun b hq => ?_⟩
  have hs := hsame b hq.1 fun e => hq.2.2.2 (hu b e).1
  exact ⟨⟨Nat.lt_of_lt_of_le hq.1 hg.size, hq.2.1, hq.2.2.1.same hs, fun hgy => by rcases hy b hgy with h | h; exact hq.2.2.2 h; have := hq.1; omega⟩, hs⟩
theorem OwnI.blk {W : World} {B g : Nat} {u : Value} {l : List Int} (h : OwnI W B u l) (hu : u.ownBlock = some g) : ∃ c, W.heap[g]? = some (Obj.cells c 3) ∧ B ≤ g := by
 obtain ⟨_, ⟨hv, _⟩ | ⟨q, cap', cur, hv, a1, hblk, _⟩⟩ := h
 ·rw [hv] at hu
  cases hu
 ·rw [hv] at hu
  obtain rfl : q = g := by injection hu
  exact ⟨cur, hblk, a1⟩
theorem OwnI.kt {W W' : World} {B : Nat} {u : Value} {l : List Int} (h : OwnI W B u l) (k : KT W W') : OwnI W' B u l := by
 obtain ⟨hl, hx⟩ := h
 refine ⟨hl, ?_⟩
 rcases hx with hv | ⟨g, cap', cur, hv, a1, hblk, a3⟩
 ·exact .inl hv
 ·exact .inr ⟨g, cap', cur, hv, a1, k g cur 3 ⟨by decide, by decide⟩ hblk, a3⟩
theorem OwnI.kb {W W' : World} {B g : Nat} {u : Value} {l : List Int} {c : Array Value} {t : TypeId} (h : OwnI W B u l) (hg : W.grownBy W' u.ownBlock) (ht : t ≠ 3) (e : W.heap[g]? = some (Obj.cells c t)) : W'.heap[g]? = some (Obj.cells c t) := by
 refine (hg.block g (alt e) fun hv => ?_).trans e
 obtain ⟨c', h1, _⟩ := h.blk hv.symm
 rw [h1] at e
 injection Option.some.inj e with q1 q2
 exact ht q2.symm
def RowB (w W : World) (al : Option Addr) (l : List Int) : Prop := l ≠ [] → ∃ (g p : Nat) (c : Array Value), al = some ⟨g, p, none⟩ ∧ g < w.heap.size ∧ W.heap[g]? = some (Obj.cells c 3) ∧ ∀ (i : Nat) (x : Int), l[i]? = some x → c[p + i]? = some (.int .i64 x)
theorem RowB.of {w W : World} {al : Option Addr} {l : List Int} (h : RowT w al l) (k : KT w W) : RowB w W al l := by
 intro hl
 obtain ⟨g, p, c, h1, h2, h3⟩ := h hl
 exact ⟨g, p, c, h1, (alt h2), k g c 3 ⟨by decide, by decide⟩ h2, h3⟩
theorem RowB.kt {w W W' : World} {al : Option Addr} {l : List Int} (h : RowB w W al l) (k : KT W W') : RowB w W' al l := by
 intro hl
 obtain ⟨g, p, c, h1, h2, h3, h4⟩ := h hl
 exact ⟨g, p, c, h1, h2, k g c 3 ⟨by decide, by decide⟩ h3, h4⟩
theorem RowB.grow {w W W' : World} {al : Option Addr} {l : List Int} {u : Option Nat} (h : RowB w W al l) (hg : W.grownBy W' u) (hu : ∀ k, u = some k → w.heap.size ≤ k) : RowB w W' al l := by
 intro hl
 obtain ⟨g, p, c, h1, h2, h3, h4⟩ := h hl
 exact ⟨g, p, c, h1, h2, (hg.block g (alt h3) fun e => by have := hu g e.symm; omega).trans h3, h4⟩
theorem RowB.at {w W : World} {al : Option Addr} {l : List Int} (h : RowB w W al l) {i : Nat} {x : Int} (hi : l[i]? = some x) : ∃ g p, al = some ⟨g, p, none⟩ ∧ W.cell? ⟨g, p + i, none⟩ = some (.int .i64 x) := by
 obtain ⟨g, p, c, h1, h2, h3, h4⟩ := h (fun e => by rw [e] at hi; simp at hi)
 exact ⟨g, p, h1, cell_blk h3 (h4 i x hi)⟩
def Gx (Gz : Nat → Prop) (v : Value) : Nat → Prop := fun g => Gz g ∨ v.ownBlock = some g
theorem allX_snoc (R : Int → Sx → Sx) (x : Int) : ∀ (l : List Int) (s : Sx), allX R (l ++ [x]) s = (R x (allX R l s).1, (allX R l s).2 ++ [lastN (R x (allX R l s).1)])
 | [], s => rfl
 | i :: l, s => by
  show ((allX R (l ++ [x]) (R i s)).1, lastN (R i s) :: (allX R (l ++ [x]) (R i s)).2) = _
  rw [allX_snoc R x l]
  rfl
theorem allX_len (R : Int → Sx → Sx) : ∀ (l : List Int) (s : Sx), (allX R l s).2.length = l.length
 | [], s => rfl
 | i :: l, s => by show (allX R l (R i s)).2.length + 1 = _; rw [allX_len R l]; rfl
section
variable {w wp W W' : World} {B b o cc : Nat} {cs : List Dat} {a2 : Option Addr} {n2 c2 : Nat} {root : Int} {v0 : Value} {r r' : Sx}
theorem Pt.grow {u u' : Value} {l : List Int} {Bu gg : Nat} {o1 : Obj} (h : Pt (Gx Gz u) w wp W B b o cc cs a2 n2 c2 root v0 r) (hG : ∀ g, Gz g → g < w.heap.size) (hu : OwnI W Bu u l) (hB : w.heap.size ≤ Bu) (hg : (W.alloc o1).grownBy W' u.ownBlock) (hat : u.ownBlock = some gg ∨ gg = W.heap.size + 1) (hu' : u'.ownBlock = some gg) : Pt (Gx Gz u') w W' W' B b o cc cs a2 n2 c2 root v0 r := by
 obtain ⟨a, n, c, code, F, hX, hZ, hK⟩ := h
 have hg' : W.grownBy W' u.ownBlock := by
  have hb : Below W.heap.size W (W.alloc o1) := bR _ _
  exact gb_trans (gb_below _ hb) hg (.inl rfl)
 have hul : ∀ k, u.ownBlock = some k → w.heap.size ≤ k := fun k hk => by obtain ⟨_, _, h⟩ := hu.blk hk; omega
 have hsz := F.gr.size
 refine ⟨a, n, c, code, ⟨F.far, ⟨hg'.os.trans F.gr.os, hg'.tape.trans F.gr.tape, hg'.output.trans F.gr.output, Nat.le_trans F.gr.size hg'.size, fun k hk hne => (hg'.block k (by omega) fun e => by have := hul k e.symm; omega).trans (F.gr.block k hk hne)⟩, F.row.keep fun k hk => hg'.block k (by have := F.le; omega) fun e => by have := hul k e.symm; have := F.le; omega, ?_, F.le⟩, hu.kb hg' (by decide) hX, hu.kb hg' (by decide) hZ, KT.refl _⟩
 refine F.rep.grow hg' (fun k hk => ⟨.inr hk, fun hv => ?_⟩) (fun q hq => ?_)
 ·obtain ⟨c3, h3, _⟩ := hu.blk hk
  obtain ⟨xs, ⟨_, ⟨hv2, _⟩ | ⟨q, cap', cur, hv2, _, hblk, _⟩⟩, _⟩ := F.rep.2.2.2.2
  ·rw [hv2] at hv
   cases hv
  ·rw [hv2] at hv
   obtain rfl : q = k := by injection hv
   rw [hblk] at h3
   injection Option.some.inj h3 with q1 q2
   exact absurd q2 (by decide)
 ·rcases hq with hq | hq
  ·exact .inl (.inl hq)
  ·rw [hu'] at hq
   obtain rfl : gg = q := by injection hq
   rcases hat with h | h
   ·exact .inl (.inr h)
   ·exact .inr (by omega)
theorem Pt.fresh (h : Pt Gz w wp W B b o cc cs a2 n2 c2 root v0 r) (o1 : Obj) (u : Value) (hu : u.ownBlock = some W.heap.size) : Pt (Gx Gz u) w wp (W.alloc o1) B b o cc cs a2 n2 c2 root v0 r := by
 obtain ⟨a, n, c, code, F, hX, hZ, hK⟩ := h
 have hb : Below W.heap.size W (W.alloc o1) := bR _ _
 have F' := F.below hb
 refine ⟨a, n, c, code, ⟨F'.far, F'.gr, F'.row, F.rep.grow (gb_below none hb) (fun k hk => by cases hk) (fun q hq => ?_), F'.le⟩, blk_past hX, blk_past hZ, hK.trans (KT.below hb)⟩
 rcases hq with hq | hq
 ·exact .inl hq
 ·rw [hu] at hq
  exact .inr (by have := Option.some.inj hq; omega)
theorem Pt.weak {u : Value} (h : Pt (Gx Gz u) w wp W B b o cc cs a2 n2 c2 root v0 r) : Pt Gz w wp W B b o cc cs a2 n2 c2 root v0 r := by
 obtain ⟨a, n, c, code, F, hX, hZ, hK⟩ := h
 exact ⟨a, n, c, code, ⟨F.far, F.gr, F.row, F.rep.grow (u := none) (gb_below none (Below.refl _ _)) (fun k hk => by cases hk) (fun q hq => .inl (.inl hq)), F.le⟩, hX, hZ, hK⟩
theorem form_in {V : World} {a : Option Addr} {n c : Nat} {code : Int} {fn : Nat} {i : Int} {F : Sx → Sx} (hI : FC B b o cc cs a2 n2 c2 root fn i F) (hF : Fx Gz w W B b o cs v0 (.slice a n c) n code r) (hG : ∀ g, Gz g → g < W.heap.size) (hb : Below W.heap.size W V := by repeat first | exact Below.refl _ _ | refine Below.drew ?_ | refine Below.alloc ?_ (by simp <;> omega) _) :
  Calls Try.prog fn #[xV (.slice (some ⟨b, o, none⟩) cs.length cc) (.slice a2 n2 c2) (.slice a n c) root code, .int .i64 i] V fun e w' => XEnd Gz B (.slice (some ⟨b, o, none⟩) cs.length cc) (.slice a2 n2 c2) a n c root (F r) W e w' :=
 (hI Gz V a n c code r (hF.below hb).bsz (fun g hg => Nat.lt_of_lt_of_le (hG g hg) hb.size) (hF.below hb).row (hF.below hb).rep).mono fun e w' h => h.from hb
end
def AEnd (Gz : Nat → Prop) (B : Nat) (sc st : Value) (a3 : Option Addr) (n3 c3 : Nat) (root : Int) (s : Sx × List Int) (w : World) (e : Ending) (w' : World) : Prop :=
 ∃ (a : Option Addr) (n c : Nat) (code : Int) (u : Option Addr) (cu : Nat), e = .returned (.tuple #[xV sc st (.slice a n c) root code, .slice u s.2.length cu]) ∧ XRep Gz w' B (.slice a n c) n code s.1 ∧ w.grownBy w' (Value.slice a3 n3 c3).ownBlock ∧ ((Value.slice a n c).ownBlock = (Value.slice a3 n3 c3).ownBlock ∨ ∀ k, (Value.slice a n c).ownBlock = some k → w.heap.size ≤ k) ∧ OwnI w' w.heap.size (.slice u s.2.length cu) s.2
def AC (B b o cc : Nat) (cs : List Dat) (a2 : Option Addr) (n2 c2 : Nat) (root : Int) (R : Int → Sx → Sx) (l : List Int) : Prop :=
 ∀ (Gz : Nat → Prop) (W : World) (a3 : Option Addr) (n3 c3 : Nat) (code : Int) (r : Sx) (al : Option Addr) (cl : Nat), B ≤ W.heap.size → (∀ g, Gz g → g < W.heap.size) → RowD W B (some ⟨b, o, none⟩) cs → XRep Gz W B (.slice a3 n3 c3) n3 code r → l.length ≤ cl → RowT W al l →
  Calls Try.prog 83 #[xV (.slice (some ⟨b, o, none⟩) cs.length cc) (.slice a2 n2 c2) (.slice a3 n3 c3) root code, .slice al l.length cl] W fun e w' => AEnd Gz B (.slice (some ⟨b, o, none⟩) cs.length cc) (.slice a2 n2 c2) a3 n3 c3 root (allX R l r) W e w'
theorem fin104t {fn : Func} {p q : Tmp} {W : World} {g : Nat} {v0 v1 v2 v3 v4 u : Value} {tmps : Array Value} (hf : fn.results = #[.cell p 104, .tmp q]) (hp : tmps.getD p undef = .pointer (some ⟨g, 0, none⟩)) (hq : tmps.getD q undef = u) (h : W.heap[g]? = some (.cells #[v0, v1, v2, v3, v4] 104 (0, 0))) :
  (results fn tmps).run Try.prog W = .ok (.tuple #[.agg #[v0, v1, v2, v3, v4], u]) W := by
 rw [results_cell_tmp hf, hp, hq]
 simp [asAddr, run_loadVar_row W g 104 104 #[v0, v1, v2, v3, v4] (0, 0) _ h Try.underlying104 rfl info104, Result.andThen]
section
variable {w W V : World} {B b o cc : Nat} {cs : List Dat} {a2 : Option Addr} {n2 c2 : Nat} {root : Int} {R : Int → Sx → Sx} {v0 : Value} {r : Sx} {a : Option Addr} {n c : Nat} {code : Int}
theorem OwnI.cap {c : Nat} {u : Option Addr} {k : Nat} {l : List Int} (h : OwnI W B (.slice u k c) l) : l.length ≤ c := by
 obtain ⟨_, ⟨hv, h0⟩ | ⟨g, cap', cur, hv, _, _, h3, _⟩⟩ := h
 ·omega
 ·injection hv with e1 e2 e3
  omega
def APost (Gz : Nat → Prop) (w W : World) (B : Nat) (sc st : Value) (a3 : Option Addr) (n3 c3 : Nat) (root : Int) (q : Sx × List Int) (m : Nat) (e : Ending) (w' : World) : Prop :=
 ∃ (a : Option Addr) (n c : Nat) (code : Int) (u : Option Addr) (cu : Nat), e = .returned (.tuple #[xV sc st (.slice a n c) root code, .slice u m cu]) ∧ XRep Gz w' B (.slice a n c) n code q.1 ∧ W.grownBy w' (Value.slice a3 n3 c3).ownBlock ∧ ((Value.slice a n c).ownBlock = (Value.slice a3 n3 c3).ownBlock ∨ ∀ k, (Value.slice a n c).ownBlock = some k → W.heap.size ≤ k) ∧ NewI w w' u q.2 cu ∧ q.2.length = m ∧ m ≤ cu
theorem all_at {l : List Int} (hI : AC B b o cc cs a2 n2 c2 root R l) (hF : Fx Gz w W B b o cs v0 (.slice a n c) n code r) (hG : ∀ g, Gz g → g < w.heap.size) {al : Option Addr} {cl : Nat} (hcl : l.length ≤ cl) (hr : RowT W al l) (hb : Below W.heap.size W V := by repeat first | exact Below.refl _ _ | refine Below.drew ?_ | refine Below.alloc ?_ (by simp <;> omega) _) :
  Calls Try.prog 83 #[xV (.slice (some ⟨b, o, none⟩) cs.length cc) (.slice a2 n2 c2) (.slice a n c) root code, .slice al l.length cl] V fun e w' => APost Gz w W B (.slice (some ⟨b, o, none⟩) cs.length cc) (.slice a2 n2 c2) a n c root (allX R l r) l.length e w' := by
 refine (hI Gz V a n c code r al cl (hF.below hb).bsz ((hF.below hb).gz hG) (hF.below hb).row (hF.below hb).rep hcl (hr.kt (KT.below hb))).mono ?_
 rintro e w' ⟨a', n', c', k', u, cu, he, hx, hg, hs, ho⟩
 have hL := allX_len R l r
 have hw := hF.gr.size
 refine ⟨a', n', c', k', u, cu, by rw [he, hL], hx, gb_trans (gb_below _ hb) hg (.inl rfl), ?_, NewI.of ho (Nat.le_trans hw hb.size), hL, by have := ho.cap; omega⟩
 rcases hs with h | h
 ·exact .inl h
 ·exact .inr fun k hk => Nat.le_trans hb.size (h k hk)
theorem put_len (hF : Fx Gz w W B b o cs v0 (.slice a n c) n code r) (hG : ∀ g, Gz g → g < w.heap.size) (d : Nod) {an aa : Option Addr} {cn ca nn na : Nat} (hn : NewS w V an d.names cn) (ha : NewI w V aa d.args ca) (hnn : d.names.length = nn) (hna : d.args.length = na) (hcn : nn ≤ cn) (hca : na ≤ ca) (hb : Below W.heap.size W V := by repeat first | exact Below.refl _ _ | refine Below.drew ?_ | refine Below.alloc ?_ (by simp <;> omega) _) :
  Calls Try.prog 79 #[xV (.slice (some ⟨b, o, none⟩) cs.length cc) (.slice a2 n2 c2) (.slice a n c) root code, .agg #[.int .i64 d.k, .int .i64 d.n, .string d.s, .slice an nn cn, .slice aa na ca]] V fun e w' => XEnd Gz B (.slice (some ⟨b, o, none⟩) cs.length cc) (.slice a2 n2 c2) a n c root (putN r d) W e w' := by
 subst hnn hna
 exact put_at hF hG (hb := hb) d hn ha hcn hca
end
end Go.Proofs.Ytgjeefedcfakdaa
set_option linter.unusedVariables false
namespace Go.Proofs.Ytgjeefedcfakdaa
open Go.ChangeShapes Go.WideShapes Go.ChangeAt Go.RowKit
section
variable {B b o cc : Nat} {cs : List Dat} {a2 : Option Addr} {n2 c2 : Nat} {root : Int} {R : Int → Sx → Sx}
set_option maxRecDepth 100000 in
set_option maxHeartbeats 4000000 in
theorem l4All_any (l : List Int) (hn : cs.length ≤ 1048576) (hl : l.length ≤ 1048576) (hi : ∀ x ∈ l, FC B b o cc cs a2 n2 c2 root 70 x (R x)) : AC B b o cc cs a2 n2 c2 root R l := by
 intro Gz w a3 n3 c3 code r al cl hB hGl hrow hr hcl hal
 have hP0 : Pt Gz w w ((w.alloc (Obj.cells #[.slice (some ⟨b, o, none⟩) cs.length cc, .slice a2 n2 c2, .slice a3 n3 c3, .int .i64 root, .int .i64 code] 104)).alloc (Obj.cells #[.slice none 0 0, .slice none 0 0, .slice none 0 0, .int .i64 0, .int .i64 0] 104)) B b o cc cs a2 n2 c2 root (.slice a3 n3 c3) r := Pt.start hB hrow hr
 have HI : Hid (∀ x ∈ l, FC B b o cc cs a2 n2 c2 root 70 x (R x)) := hi
 have HGL : Hid (∀ g, Gz g → g < w.heap.size) := hGl
 have HAL : Hid (RowT w al l) := hal
 obtain ⟨i0, hi0, hz0, hz1, hz2⟩ := info_parts info3
 have hcl' : l.length ≤ cl := hcl
 have HP0 : Hid (Pt Gz w w ((w.alloc (Obj.cells #[.slice (some ⟨b, o, none⟩) cs.length cc, .slice a2 n2 c2, .slice a3 n3 c3, .int .i64 root, .int .i64 code] 104)).alloc (Obj.cells #[.slice none 0 0, .slice none 0 0, .slice none 0 0, .int .i64 0, .int .i64 0] 104)) B b o cc cs a2 n2 c2 root (.slice a3 n3 c3) r) := hP0
 clear hi hGl hal hrow hr hcl hP0
 unfold xV
 go_enter Try.func83, Try.ntmps83
 go_upto_region 1 with fail
 generalize hW0 : ((w.alloc (Obj.cells #[.slice (some ⟨b, o, none⟩) cs.length cc, .slice a2 n2 c2, .slice a3 n3 c3, .int .i64 root, .int .i64 code] 104)).alloc (Obj.cells #[.slice none 0 0, .slice none 0 0, .slice none 0 0, .int .i64 0, .int .i64 0] 104)) = W0 at *
 clear hW0
 have HP1 : Hid (Pt (Gx Gz (.slice (some ⟨W0.heap.size, 0, none⟩) 0 0)) w w (W0.alloc (Obj.cells #[] 3)) B b o cc cs a2 n2 c2 root (.slice a3 n3 c3) r) := HP0.out.fresh _ _ rfl
 have HO1 : Hid (OwnI (W0.alloc (Obj.cells #[] 3)) w.heap.size (.slice (some ⟨W0.heap.size, 0, none⟩) 0 0) []) := ownI_nil (blk_at _ _ _ rfl) (by obtain ⟨_, _, _, _, F, _⟩ := HP0.out; exact F.gr.size)
 have HR1 : Hid (RowB w (W0.alloc (Obj.cells #[] 3)) al l) := RowB.of HAL.out (by obtain ⟨_, _, _, _, _, _, _, hK⟩ := HP1.out; exact hK)
 clear HP0 HAL
 go_wp2_with fail
 go_loopw [6, 7] (fun ov iv wr => ∃ (k : Nat) (u : Option Addr) (cu : Nat), k ≤ l.length ∧ ov = .slice u k cu ∧ iv = .int .i64 k ∧ OwnI wr w.heap.size (.slice u k cu) (allX R (l.take k) r).2 ∧ Pt (Gx Gz (.slice u k cu)) w wr wr B b o cc cs a2 n2 c2 root (.slice a3 n3 c3) (allX R (l.take k) r).1 ∧ RowB w wr al l)
  (fun _ iv _ => l.length - (intOf iv).toNat)
 case atStart => exact ⟨0, _, 0, Nat.zero_le _, rfl, rfl, HO1.out, by obtain ⟨a, n, c, code, F, hX, hZ, hK⟩ := HP1.out; exact ⟨a, n, c, code, F, hX, hZ, KT.refl _⟩, HR1.out⟩
 case round =>
  obtain ⟨k, u, cu, hk, rfl, rfl, ho, hp, hrb⟩ := hrel
  have HO : Hid (OwnI wr w.heap.size (.slice u k cu) (allX R (l.take k) r).2) := ho
  have HP : Hid (Pt (Gx Gz (.slice u k cu)) w wr wr B b o cc cs a2 n2 c2 root (.slice a3 n3 c3) (allX R (l.take k) r).1) := hp
  have HRB : Hid (RowB w wr al l) := hrb
  clear ho hp hrb HP1 HO1 HR1
  by_cases hlt : k < l.length
  ·obtain ⟨x, hx⟩ : ∃ x, l[k]? = some x := ⟨_, List.getElem?_eq_getElem hlt⟩
   obtain ⟨g, p, rfl, c0⟩ := HRB.out.at hx
   have HIX : Hid (FC B b o cc cs a2 n2 c2 root 70 x (R x)) := HI.out x (List.mem_of_getElem? hx)
   have HSN : Hid (allX R (l.take (k + 1)) r = (R x (allX R (l.take k) r).1, (allX R (l.take k) r).2 ++ [lastN (R x (allX R (l.take k) r).1)])) := by
    show _ = _
    rw [List.take_add_one, hx]
    exact allX_snoc R x _ r
   have HLN : Hid ((allX R (l.take k) r).2.length = k) := by
    show _ = _
    rw [allX_len, List.length_take]
    omega
   have HGW : Hid (∀ q, Gx Gz (.slice u k cu) q → q < wr.heap.size) := fun q hq => by
    rcases hq with hq | hq
    ·have := HGL.out q hq
     obtain ⟨_, _, _, _, F, _⟩ := HP.out
     have := F.gr.size
     omega
    ·obtain ⟨_, h3, _⟩ := HO.out.blk hq
     exact (alt h3)
   obtain ⟨s, hs⟩ : ∃ s, s = (allX R (l.take k) r) := ⟨_, rfl⟩
   rw [← hs] at HO HP HSN HLN
   clear hs hx
   obtain ⟨a4, n4, c4, k4, F4, hX4, hZ4, hK4⟩ := HP.out
   have HF4 : Hid (Fx (Gx Gz (.slice u k cu)) w wr B b o cs (.slice a3 n3 c3) (.slice a4 n4 c4) n4 k4 s.1) := F4
   have HX4 : Hid _ := hX4
   have HZ4 : Hid _ := hZ4
   obtain ⟨x0, x1, x2, x3, x4, xf0, xf1, xf2, xf3, xf4⟩ := cells5 hX4
   obtain ⟨z0, z1, z2, z3, z4, zf0, zf1, zf2, zf3, zf4⟩ := cells5 hZ4
   clear HP F4 hX4 hZ4 hK4
   have hlt1 : decide ((k : Int) < (l.length : Int)) = true := by simp; omega
   go_upto_region 5 with fail
   go_cut [] (fun wx => Pt (Gx Gz (.slice u k cu)) w wr wx B b o cc cs a2 n2 c2 root (.slice a3 n3 c3) (R x s.1))
   case first =>
    go_region_with (go_at_call 70; (refine (form_in HIX.out HF4.out HGW.out).mono ?_; rintro e v1 ⟨qa, qn, qc, qk, rfl, hx1, hg1, hs1⟩; have HE : Hid _ := hx1; have HG : Hid _ := hg1; have HS : Hid _ := hs1; obtain ⟨y0, y1, y2, y3, y4, yf0, yf1, yf2, yf3, yf4⟩ := HF4.out.cells hg1 HX4.out; clear hx1 hg1 hs1; unfold xV))
    all_goals (go_wp2_with fail; go_meet; exact Pt.next HF4.out HX4.out HZ4.out (KT.refl _) HE.out HG.out HS.out)
   case rest =>
    clear HF4 HX4 HZ4 x0 x1 x2 x3 x4 xf0 xf1 xf2 xf3 xf4 z0 z1 z2 z3 z4 zf0 zf1 zf2 zf3 zf4 c0
    obtain ⟨W1, rfl⟩ : ∃ x, x = wc := ⟨_, rfl⟩
    obtain ⟨a5, n5, c5, k5, F5, hX5, hZ5, hK5⟩ := hcut
    have HF5 : Hid (Fx (Gx Gz (.slice u k cu)) w W1 B b o cs (.slice a3 n3 c3) (.slice a5 n5 c5) n5 k5 (R x s.1)) := F5
    have HX5 : Hid _ := hX5
    have HZ5 : Hid _ := hZ5
    have HO5 : Hid (OwnI W1 w.heap.size (.slice u k cu) s.2) := HO.out.kt hK5
    have HR5 : Hid (RowB w W1 (some ⟨g, p, none⟩) l) := HRB.out.kt hK5
    obtain ⟨x0, x1, x2, x3, x4, xf0, xf1, xf2, xf3, xf4⟩ := cells5 hX5
    have hnn : n5 ≤ 400 := F5.n400
    clear HO HRB F5 hX5 hZ5 hK5
    go_wp2_with fail
    refine (l4Last_any (some ⟨b, o, none⟩) a2 a5 cs.length n2 n5 cc c2 c5 root k5 W1 (by omega)).mono ?_
    rintro e W2 ⟨rfl, hb2⟩
    have HP6 : Hid (Pt (Gx Gz (.slice u k cu)) w W1 W2 B b o cc cs a2 n2 c2 root (.slice a3 n3 c3) (R x s.1)) := Pt.below HF5.out HX5.out HZ5.out (KT.refl _) hb2
    have HLV : Hid ((n5 : Int) - 1 = lastN (R x s.1)) := HF5.out.last
    have HO6 : Hid (OwnI W2 w.heap.size (.slice u k cu) s.2) := HO5.out.below hb2
    have HR6 : Hid (RowB w W2 (some ⟨g, p, none⟩) l) := HR5.out.kt (KT.below hb2)
    have hw2 : w.heap.size ≤ W2.heap.size := by
     obtain ⟨_, _, _, _, F, _⟩ := HP6.out
     exact F.gr.size
    have HOA : Hid ((W2.alloc (Obj.cells #[.int .i64 ((n5 : Int) - 1)] 3)).ownsRow w.heap.size 3 1 (.slice u k cu) k (s.2.map (Value.int .i64))) := by
     have := HO6.out
     unfold OwnI at this
     rw [HLN.out] at this
     exact World.ownsRow.alloc this _
    have kA : (W2.alloc (Obj.cells #[.int .i64 ((n5 : Int) - 1)] 3)).heap[W2.heap.size]? = some (Obj.cells #[.int .i64 ((n5 : Int) - 1)] 3) := blk_at _ _ _ rfl
    have hAz : (W2.alloc (Obj.cells #[.int .i64 ((n5 : Int) - 1)] 3)).heap.size = W2.heap.size + 1 := by simp
    have hwA : w.heap.size ≤ (W2.alloc (Obj.cells #[.int .i64 ((n5 : Int) - 1)] 3)).heap.size := by rw [hAz]; omega
    clear hb2 HF5 HX5 HZ5 HO5 HR5 x0 x1 x2 x3 x4 xf0 xf1 xf2 xf3 xf4
    go_wp2_with (at_builtin; refine wpList_append_lies _ rfl _ _ 33 rfl w.heap.size 3 i0 _ 1 8 Try.underlying33 hi0 hz0 hz1 hz2 rfl (by omega) (.slice u k cu) k (s.2.map (Value.int .i64)) rfl HOA.out ⟨W2.heap.size, 0, none⟩ 1 1 [.int .i64 ((n5 : Int) - 1)] rfl rfl (World.news_of_block kA) (by intro u hu; simp at hu; rcases hu with rfl; rfl) (by omega) (by simp [maxLen]; omega) (by omega) hwA (W2.heap.size + 1) hAz ?_; intro gg cap' w5 hown5 hgr5 hat5 hlt5)
    have HU : Hid (∀ q, (Value.slice u k cu).ownBlock = some q → w.heap.size ≤ q) := fun q hq => by obtain ⟨_, _, h⟩ := HO6.out.blk hq; exact h
    have hr5 : RowB w w5 (some ⟨g, p, none⟩) l := (HR6.out.kt (KT.below ((Below.refl _ _).alloc (Nat.le_refl _) (Obj.cells #[.int .i64 ((n5 : Int) - 1)] 3)))).grow hgr5 HU.out
    have hp5 : Pt (Gx Gz (.slice (some ⟨gg, 0, none⟩) (k + 1) cap')) w w5 w5 B b o cc cs a2 n2 c2 root (.slice a3 n3 c3) (R x s.1) := HP6.out.grow HGL.out HO6.out (Nat.le_refl _) hgr5 hat5 rfl
    have ho5 : OwnI w5 w.heap.size (.slice (some ⟨gg, 0, none⟩) (k + 1) cap') (s.2 ++ [(n5 : Int) - 1]) := by
     show World.ownsRow _ _ _ _ _ _ _
     rw [List.length_append, List.map_append, HLN.out]
     exact hown5
    refine ⟨⟨k + 1, some ⟨gg, 0, none⟩, cap', by omega, by simp, by simp, ?_, ?_, hr5⟩, ?_⟩
    ·rw [HSN.out, ← HLV.out]
     exact ho5
    ·rw [HSN.out]
     exact hp5
    ·simp [intOf]
     omega
  ·obtain rfl : k = l.length := by omega
   have hlt' : decide ((l.length : Int) < (l.length : Int)) = false := by simp
   rw [List.take_length] at HO HP
   have HLN : Hid ((allX R l r).2.length = l.length) := allX_len R l r
   obtain ⟨a4, n4, c4, k4, F4, hX4, hZ4, hK4⟩ := HP.out.weak
   have HF4 : Hid (Fx Gz w wr B b o cs (.slice a3 n3 c3) (.slice a4 n4 c4) n4 k4 (allX R l r).1) := F4
   have HZ4 : Hid _ := hZ4
   obtain ⟨x0, x1, x2, x3, x4, xf0, xf1, xf2, xf3, xf4⟩ := cells5 hX4
   obtain ⟨z0, z1, z2, z3, z4, zf0, zf1, zf2, zf3, zf4⟩ := cells5 hZ4
   clear HP F4 hX4 hZ4 hK4 HRB
   go_wp2
   refine bodyPost_ret (fin104t rfl rfl rfl (set5_same _ _ _ _ _ HZ4.out _ _ _ _ _)) rfl ?_
   have hq := HF4.out.lay HZ4.out (by omega : w.heap.size ≤ w.heap.size + 1) (.slice (some ⟨b, o, none⟩) cs.length cc) (.slice a2 n2 c2) (.slice a4 n4 c4) (.int .i64 root) (.int .i64 k4)
   refine ⟨a4, n4, c4, k4, u, cu, by rw [HLN.out]; rfl, hq.rep, hq.gr, hq.far, ?_⟩
   rw [HLN.out]
   exact HO.out.kt (KT.lay HZ4.out _ _ _ _ _)
end
end Go.Proofs.Ytgjeefedcfakdaa
