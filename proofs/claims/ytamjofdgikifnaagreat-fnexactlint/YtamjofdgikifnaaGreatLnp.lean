/- The size of a type by its name (the model's). What both Compares tell, in plain words. What is odd in a source, in plain words: as the program and as the model tell it. -/
import Derived.Test.YtamjofdgikifnaaGreatSli
import Derived.Test.YtamjofdgikifnaaGreatImc
import Derived.Test.YtamjofdgikifnaaGreatFrp
import Derived.Test.YtamjofdgikifnaaGreatNtx
set_option linter.unusedVariables false
namespace Go.Proofs.YtamjofdgikifnaaGreat
open Go.ChangeShapes Go.WideShapes Go.ChangeAt Go.RowKit
def szT : List Typ → ByteArray → Int
 | [], _ => -1
 | t :: l, s => if t.name.toList == s.toList then t.size else szT l s
theorem szT_drop {l : List Typ} {i : Nat} {t : Typ} (s : ByteArray) (h : l[i]? = some t) : szT (l.drop i) s = if t.name.toList == s.toList then t.size else szT (l.drop (i + 1)) s := by
 obtain ⟨h1, h2⟩ := List.getElem?_eq_some_iff.1 h
 rw [List.drop_eq_getElem_cons h1, h2]
 rfl
set_option maxRecDepth 100000 in
set_option maxHeartbeats 1000000 in
theorem l18Size_any (x : Srx) (a1 a2 a3 a4 a5 : Option Addr) (c1 c2 c3 c4 c5 : Nat) (s : ByteArray) (w : World) (hs : x.types.length ≤ 1048576) (hsm : ∀ t ∈ x.types, i64B t.size) (hr : ∀ w2, Below w.heap.size w w2 → rgT.Row w2 (fun b => b < w2.heap.size) a3 x.types) :
  Calls Tryz.prog 45 #[.agg #[.string x.name, .slice a1 x.imps.length c1, .slice a2 x.exps.length c2, .slice a3 x.types.length c3, .slice a4 x.defs.length c4, .slice a5 x.convs.length c5], .string s] w fun e w' => Ans w (.int .i64 (szT x.types s)) e w' := by
 have HR : Hid (∀ w2, Below w.heap.size w w2 → rgT.Row w2 (fun b => b < w2.heap.size) a3 x.types) := hr
 have HS : Hid (∀ t ∈ x.types, i64B t.size) := hsm
 clear hr hsm
 obtain ⟨w0, hw0⟩ : ∃ w0, w0 = w.alloc (Obj.cells #[.string x.name, .slice a1 x.imps.length c1, .slice a2 x.exps.length c2, .slice a3 x.types.length c3, .slice a4 x.defs.length c4, .slice a5 x.convs.length c5] 34) := ⟨_, rfl⟩
 have HW : Hid (w0 = _) := hw0
 have hb0 : Below w.heap.size w w0 := by rw [hw0]; exact (Below.refl _ _).alloc (Nat.le_refl _) _
 have k0 : w0.heap[w.heap.size]? = some (Obj.cells #[.string x.name, .slice a1 x.imps.length c1, .slice a2 x.exps.length c2, .slice a3 x.types.length c3, .slice a4 x.defs.length c4, .slice a5 x.convs.length c5] 34) := by rw [hw0]; exact blk_at _ _ _ rfl
 have e3 := cell_blk (j := 3) k0 rfl
 have E3 : Hid (w0.cell? ⟨w.heap.size, 3, none⟩ = some (.slice a3 x.types.length c3)) := e3
 have HB : Hid (Below w.heap.size w w0) := hb0
 clear hb0 k0 hw0 e3
 go_enter Tryz.func45, Tryz.ntmps45
 go_wp2_with fail
 rw [← HW.out]
 clear HW
 go_loopw [5] (fun o wr => wr = w0 ∧ ∃ i : Nat, i ≤ x.types.length ∧ o = .int .i64 i ∧ szT (x.types.drop i) s = szT x.types s)
  (fun o _ => x.types.length - (intOf o).toNat)
 case atStart => exact ⟨rfl, 0, by omega, rfl, rfl⟩
 case round =>
  obtain ⟨rfl, i, hi, rfl, hsz⟩ := hrel
  have e3 := E3.out
  by_cases hlt : i < x.types.length
  ·obtain ⟨d, hd⟩ : ∃ d, x.types[i]? = some d := ⟨_, List.getElem?_eq_getElem hlt⟩
   rw [szT_drop s hd] at hsz
   obtain ⟨b1, o1, cs, rfl, hbb, rfl, hl⟩ := HR.out _ HB.out i d hd
   have y0 : wr.cell? ⟨b1, o1 + i * 2, none⟩ = some (.string d.name) := hl 0 _ rfl
   have y1 : wr.cell? ⟨b1, o1 + i * 2 + 1, none⟩ = some (.int .i64 d.size) := hl 1 _ rfl
   clear hl hd
   cases he : (d.name.toList == s.toList)
   ·rw [he] at hsz
    have HSZ : Hid (szT (x.types.drop (i + 1)) s = szT x.types s) := hsz
    clear hsz
    go_wp2
    go_roundw
    case rel => exact ⟨by trivial, i + 1, by omega, by go_num, HSZ.out⟩
    case measure => simp [intOf]; omega
   ·rw [he] at hsz
    have HSZ : Hid (d.size = szT x.types s) := hsz
    clear hsz
    go_wp2
    go_ret
    exact ⟨congrArg (fun z => Ending.returned (Value.int .i64 z)) HSZ.out, HB.out⟩
  ·obtain rfl : i = x.types.length := by omega
   rw [List.drop_length] at hsz
   have HSZ : Hid (-1 = szT x.types s) := hsz
   have hlt' : decide ((x.types.length : Int) < (x.types.length : Int)) = false := by simp
   clear hsz
   go_wp2
   go_ret
   exact ⟨congrArg (fun z => Ending.returned (Value.int .i64 z)) HSZ.out, HB.out⟩
end Go.Proofs.YtamjofdgikifnaaGreat
set_option linter.unusedVariables false
namespace Go.Proofs.YtamjofdgikifnaaGreat
open Go.ChangeShapes Go.WideShapes Go.ChangeAt Go.RowKit
theorem toList_inj {a b : ByteArray} (h : a.toList = b.toList) : a = b := by
 rw [ByteArray.toList_eq, ByteArray.toList_eq] at h
 exact bytes_inj h
theorem hasS_mem (l : List ByteArray) (s : ByteArray) : hasS l s = true ↔ s ∈ l := by
 unfold hasS
 rw [List.any_eq_true]
 constructor
 ·rintro ⟨t, ht, he⟩
  exact toList_inj (by simpa using he) ▸ ht
 ·intro h
  exact ⟨s, h, by simp⟩
theorem hasS_holds (l : List ByteArray) (s : ByteArray) : hasS l s = holds (s ∈ l) := holds_of (hasS_mem l s)
theorem nodup_of_twA {l : List ByteArray} (h : twA l = false) : l.Nodup := by
 have hk : ∀ k, k ≤ l.length → (l.take k).Nodup := by
  intro k
  induction k with
  | zero => intro _; simp
  | succ k ih =>
   intro hk
   obtain ⟨x, hx⟩ : ∃ x, l[k]? = some x := ⟨_, List.getElem?_eq_getElem (by omega)⟩
   rw [take_snc hx, List.nodup_append]
   refine ⟨ih (by omega), by simp, fun a ha b hb => ?_⟩
   obtain rfl : b = x := by simpa using hb
   intro e
   subst e
   have := twA_true hx ((hasS_mem _ _).2 ha)
   rw [h] at this
   cases this
 have := hk l.length (Nat.le_refl _)
 rw [List.take_length] at this
 exact this
theorem apR_filter {α : Type} (s l : List α) (h : l.Nodup) : apR s l = l.filter fun x => !holds (x ∈ s) := by
 induction l generalizing s with
 | nil => rfl
 | cons x l ih =>
  rw [List.nodup_cons] at h
  rw [apR, ih _ h.2]
  have e : (l.filter fun y => !holds (y ∈ s ++ [x])) = l.filter fun y => !holds (y ∈ s) := by
   apply List.filter_congr
   intro y hy
   have : (y ∈ s ++ [x]) = (y ∈ s) := by
    apply propext
    simp only [List.mem_append, List.mem_singleton]
    exact ⟨fun h' => h'.elim id (fun e => absurd (e ▸ hy) h.1), .inl⟩
   rw [this]
  rw [e, List.filter_cons]
  cases holds (x ∈ s) <;> rfl
def nin (l m : List ByteArray) : List ByteArray := m.filter fun s => !hasS l s
theorem apR_nin {l m : List ByteArray} (h : m.Nodup) : apR l m = nin l m := by
 rw [apR_filter _ _ h]
 unfold nin
 apply List.filter_congr
 intro x _
 rw [hasS_holds]
def rsz1 (k : List Typ) (t : Typ) : Bool := decide (0 ≤ szT k t.name) && !(szT k t.name == t.size)
theorem szT_none {k : List Typ} {s : ByteArray} (h : s ∉ k.map (·.name)) : szT k s = -1 := by
 induction k with
 | nil => rfl
 | cons t k ih =>
  simp only [List.map_cons, List.mem_cons, not_or] at h
  unfold szT
  rw [if_neg (fun e => h.1 (toList_inj (by simpa using e)).symm)]
  exact ih h.2
theorem szT_some {k : List Typ} {t : Typ} (hn : (k.map (·.name)).Nodup) (h : t ∈ k) : szT k t.name = t.size := by
 induction k with
 | nil => cases h
 | cons u k ih =>
  simp only [List.map_cons, List.nodup_cons] at hn
  unfold szT
  rcases List.mem_cons.1 h with rfl | h
  ·simp
  ·have : u.name ≠ t.name := fun e => hn.1 (e ▸ List.mem_map.2 ⟨t, h, rfl⟩)
   rw [if_neg (fun e => this (toList_inj (by simpa using e)))]
   exact ih hn.2 h
theorem rsz1_eq {k : List Typ} (hn : (k.map (·.name)).Nodup) (hz : ∀ t ∈ k, 0 ≤ t.size) (t : Typ) : rsz1 k t = (!holds (t ∈ k) && holds (t.name ∈ k.map (·.name))) := by
 unfold rsz1
 by_cases h : t.name ∈ k.map (·.name)
 ·obtain ⟨u, hu, hun⟩ := List.mem_map.1 h
  have e := szT_some hn hu
  rw [hun] at e
  rw [e, holds_iff.2 h, Bool.and_true]
  have h0 := hz u hu
  rw [decide_eq_true h0, Bool.true_and]
  congr 1
  apply holds_of
  simp only [beq_iff_eq]
  constructor
  ·intro hs
   have : u = t := by
    cases u
    cases t
    simp only at hs hun
    subst hs hun
    rfl
   exact this ▸ hu
  ·intro ht
   rw [← e]
   exact szT_some hn ht
 ·rw [szT_none h]
  have : holds (t.name ∈ k.map (·.name)) = false := by
   cases e : holds (t.name ∈ k.map (·.name)) with
   | false => rfl
   | true => exact absurd (holds_iff.1 e) h
  rw [this]
  simp
theorem nodup_of_names {l : List Typ} (h : (l.map (·.name)).Nodup) : l.Nodup := by
 induction l with
 | nil => exact List.nodup_nil
 | cons t l ih =>
  simp only [List.map_cons, List.nodup_cons] at h
  exact List.nodup_cons.2 ⟨fun hm => h.1 (List.mem_map.2 ⟨t, hm, rfl⟩), ih h.2⟩
theorem nodup_filter_map {l : List Typ} (p : Typ → Bool) (h : (l.map (·.name)).Nodup) : ((l.filter p).map (·.name)).Nodup := by
 exact List.Nodup.sublist ((List.filter_sublist (p := p)).map _) h
theorem filter_map_name {l : List Typ} (p : Typ → Bool) (q : ByteArray → Bool) : ((l.filter p).map (·.name)).filter q = (l.filter fun t => p t && q t.name).map (·.name) := by
 induction l with
 | nil => rfl
 | cons t l ih =>
  simp only [List.filter_cons]
  cases hp : p t
  ·simp [ih]
  ·simp only [Bool.true_and, if_true, List.map_cons, List.filter_cons]
   cases hq : q t.name
   ·simp [ih]
   ·simp [ih]
theorem rszL_eq {l k : List Typ} (hl : (l.map (·.name)).Nodup) (hk : (k.map (·.name)).Nodup) (hz : ∀ t ∈ k, 0 ≤ t.size) : rszL l k = (l.filter (rsz1 k)).map (·.name) := by
 unfold rszL
 rw [apR_filter k l (nodup_of_names hl), apR_filter _ _ hl, apR_filter _ _ (nodup_filter_map _ hl), filter_map_name]
 congr 1
 apply List.filter_congr
 intro t ht
 rw [rsz1_eq hk hz]
 cases holds (t ∈ k)
 ·simp only [Bool.not_false, Bool.true_and]
  have hm : t.name ∈ l.map (·.name) := List.mem_map.2 ⟨t, ht, rfl⟩
  apply Bool.eq_iff_iff.2
  rw [holds_iff, Bool.not_eq_true', Bool.eq_false_iff, Ne, holds_iff, List.mem_filter]
  constructor
  ·intro h
   apply Classical.byContradiction
   intro hn
   exact h ⟨hm, by
    cases e : holds (t.name ∈ k.map (·.name)) with
    | false => rfl
    | true => exact absurd (holds_iff.1 e) hn⟩
  ·rintro h ⟨_, h2⟩
   rw [holds_iff.2 h] at h2
   cases h2
 ·rfl
def cmpM (x y : Srx) : List ByteArray := (nin x.exps y.exps).map (mkd pls) ++ ((nin y.exps x.exps).map (mkd mns) ++ ((x.types.filter (rsz1 y.types)).map (·.name)).map (mkd tld))
theorem ok_dup {x : Srx} (h : x.ok = true) : x.dup = false ∧ x.types.all Typ.ok = true := by
 unfold Srx.ok at h
 cases hd : x.dup
 ·refine ⟨rfl, ?_⟩
  cases ht : x.types.all Typ.ok
  ·rw [ht] at h; simp at h
  ·rfl
 ·rw [hd] at h
  simp at h
theorem ok_parts {x : Srx} (h : x.ok = true) : x.exps.Nodup ∧ (x.types.map (·.name)).Nodup ∧ ∀ t ∈ x.types, 0 ≤ t.size := by
 obtain ⟨h1, h2⟩ := ok_dup h
 unfold Srx.dup Srx.tns at h1
 cases e2 : twA x.exps
 ·cases e3 : twA (x.types.map (·.name))
  ·refine ⟨nodup_of_twA e2, nodup_of_twA e3, fun t ht => ?_⟩
   have := List.all_eq_true.1 h2 t ht
   unfold Typ.ok at this
   simp at this
   exact this.1
  ·rw [e3] at h1; simp at h1
 ·rw [e2] at h1; simp at h1
theorem cmpL_eq (x y : Srx) : cmpL x y = if x.ok && y.ok then cmpM x y else [] := by
 unfold cmpL
 cases hx : x.ok
 ·rfl
 ·cases hy : y.ok
  ·rfl
  ·obtain ⟨p1, p2, p3⟩ := ok_parts hx
   obtain ⟨q1, q2, q3⟩ := ok_parts hy
   simp only [Bool.and_true, if_true]
   unfold cmpY cmpM
   rw [apR_nin q1, apR_nin p1, rszL_eq p2 q2 q3]
end Go.Proofs.YtamjofdgikifnaaGreat
set_option linter.unusedVariables false
namespace Go.Proofs.YtamjofdgikifnaaGreat
open Go.ChangeShapes Go.WideShapes Go.ChangeAt Go.RowKit
def frP (p : Prg) : List ByteArray := Fr.freeF p.nodes p.nodes.length p.root [] []
def stP (p : Prg) : List ByteArray := Fr.setsL p.nodes
def Srx.all (x : Srx) : List Dfn := x.defs ++ x.convs
def frA (l : List Dfn) : List ByteArray := l.flatMap fun d => frP d.prog
def stA (l : List Dfn) : List ByteArray := l.flatMap fun d => stP d.prog
noncomputable def lintY (x : Srx) (g : List ByteArray) : List Nte := (apR (x.dns ++ g) (frA x.all)).map (Nte.mk 1) ++ ((apR (x.exps ++ frA x.all) x.dns).map (Nte.mk 2) ++ (apR x.dns (stA x.all)).map (Nte.mk 3))
noncomputable def lintL (x : Srx) (g : List ByteArray) : List Nte := if x.ok then lintY x g else []
def ddS (l : List ByteArray) : List ByteArray := l.foldl (fun o s => if hasS o s then o else o ++ [s]) []
theorem ddS_snoc (l : List ByteArray) (s : ByteArray) : ddS (l ++ [s]) = if hasS (ddS l) s then ddS l else ddS l ++ [s] := by
 unfold ddS
 rw [List.foldl_append]
 rfl
theorem snoc_rec {α : Type} {P : List α → Prop} (h0 : P []) (h1 : ∀ l x, P l → P (l ++ [x])) : ∀ (n : Nat) (l : List α), l.length = n → P l
 | 0, l, h => by
  obtain rfl := List.length_eq_zero_iff.1 h
  exact h0
 | n + 1, l, h => by
  have hne : l ≠ [] := by intro e; rw [e] at h; simp at h
  rw [← List.dropLast_concat_getLast hne]
  exact h1 _ _ (snoc_rec h0 h1 n _ (by simp; omega))
theorem ddS_mem (l : List ByteArray) : ∀ s, s ∈ ddS l ↔ s ∈ l := by
 refine snoc_rec (P := fun l => ∀ s, s ∈ ddS l ↔ s ∈ l) (by simp [ddS]) (fun l x ih s => ?_) _ l rfl
 rw [ddS_snoc]
 split
 ·rename_i h
  rw [ih, List.mem_append, List.mem_singleton]
  constructor
  ·exact .inl
  ·rintro (h1 | rfl)
   ·exact h1
   ·exact (ih _).1 ((hasS_mem _ _).1 h)
 ·rw [List.mem_append, List.mem_append, ih]
theorem ddS_len (l : List ByteArray) : (ddS l).length ≤ l.length := by
 refine snoc_rec (P := fun l => (ddS l).length ≤ l.length) (by simp [ddS]) (fun l x ih => ?_) _ l rfl
 rw [ddS_snoc]
 split
 ·simp; omega
 ·simp; omega
theorem apR_dd (L l : List ByteArray) : apR L l = (ddS l).filter fun s => !hasS L s := by
 refine snoc_rec (P := fun l => apR L l = (ddS l).filter fun s => !hasS L s) (by simp [apR, ddS]) (fun l x ih => ?_) _ l rfl
 rw [apR_snoc, ih, ddS_snoc]
 have hm : hasS (ddS l) x = holds (x ∈ l) := holds_of ((hasS_mem _ _).trans (ddS_mem l x))
 have hL := hasS_holds L x
 rw [hm]
 cases h1 : holds (x ∈ l)
 ·have h2 : holds (x ∈ L ++ l) = hasS L x := by
   rw [hL]
   exact (holds_of ((holds_iff (p := x ∈ L)).trans ⟨fun h => List.mem_append.2 (.inl h), fun h => (List.mem_append.1 h).elim id fun h3 => by rw [holds_iff.2 h3] at h1; cases h1⟩)).symm
  rw [h2]
  simp only [Bool.false_eq_true, if_false, List.filter_append]
  congr 1
  cases hq : hasS L x <;> simp [hq]
 ·rw [holds_iff.2 (List.mem_append.2 (.inr (holds_iff.1 h1)))]
  simp
def lf1 (d g : List ByteArray) (s : ByteArray) : Bool := !hasS d s && !hasS g s
def lf3 (d : List ByteArray) (s : ByteArray) : Bool := !hasS d s
def lintM (x : Srx) (g : List ByteArray) : List Nte := ((ddS (frA x.all)).filter (lf1 x.dns g)).map (Nte.mk 1) ++ ((x.dns.filter (lf1 x.exps (ddS (frA x.all)))).map (Nte.mk 2) ++ ((ddS (stA x.all)).filter (lf3 x.dns)).map (Nte.mk 3))
theorem hasS_append (l m : List ByteArray) (s : ByteArray) : hasS (l ++ m) s = (hasS l s || hasS m s) := by unfold hasS; rw [List.any_append]
theorem hasS_dd (l : List ByteArray) (s : ByteArray) : hasS (ddS l) s = hasS l s := by
 rw [hasS_holds l]
 exact holds_of ((hasS_mem _ _).trans (ddS_mem l s))
theorem ok_dns {x : Srx} (h : x.ok = true) : x.dns.Nodup := by
 have := (ok_dup h).1
 unfold Srx.dup at this
 simp only [Bool.or_eq_false_iff] at this
 exact nodup_of_twA this.1.1.2
theorem lintL_eq (x : Srx) (g : List ByteArray) : lintL x g = if x.ok then lintM x g else [] := by
 unfold lintL
 cases hx : x.ok
 ·rfl
 ·simp only [if_true]
  unfold lintY lintM
  rw [apR_dd, apR_dd x.dns, apR_filter _ _ (ok_dns hx)]
  congr 1
  ·congr 1
   apply List.filter_congr
   intro s _
   unfold lf1
   rw [hasS_append, Bool.not_or]
  ·congr 1
   congr 1
   apply List.filter_congr
   intro s _
   unfold lf1
   rw [← hasS_holds, hasS_append, hasS_dd, Bool.not_or]
theorem ok_all {x : Srx} (h : x.ok = true) : x.all.length ≤ 38 ∧ x.defs.length ≤ 30 ∧ x.exps.length ≤ 30 ∧ ∀ d ∈ x.all, OkP d.prog.nodes d.prog.root := by
 unfold Srx.ok at h
 simp only [Bool.and_eq_true, Bool.not_eq_true', List.all_eq_true] at h
 obtain ⟨⟨⟨⟨⟨⟨⟨_, hm⟩, _⟩, _⟩, _⟩, _⟩, h1⟩, h2⟩ := h
 unfold Srx.many at hm
 simp only [Bool.or_eq_false_iff, decide_eq_false_iff_not] at hm
 refine ⟨by unfold Srx.all; rw [List.length_append]; omega, by omega, by omega, fun d hd => ?_⟩
 rcases List.mem_append.1 hd with h | h
 ·exact holds_iff.1 (h1 d h)
 ·exact holds_iff.1 (h2 d h)
theorem okP_root {p : Prg} (h : OkP p.nodes p.root) : ∃ i : Nat, p.root = i ∧ i < p.nodes.length := by
 obtain ⟨h1, _, h2, _⟩ := h
 exact ⟨p.nodes.length - 1, by omega, by omega⟩
theorem frP_fnd {p : Prg} (h : OkP p.nodes p.root) : Fr.Fnd p.nodes (frP p) := by
 obtain ⟨i, hi, hl⟩ := okP_root h
 unfold frP
 rw [hi]
 exact Fr.Fnd.free h.2.2.2.2.1 _ i _ _ hl (Fr.Fnd.nil _)
theorem frP_len {p : Prg} (h : OkP p.nodes p.root) : (frP p).length ≤ 400 := Nat.le_trans (frP_fnd h).len h.2.1
theorem stP_len {p : Prg} (h : OkP p.nodes p.root) : (stP p).length ≤ 400 := Nat.le_trans (Fr.setsL_len _ _ rfl) h.2.1
theorem frP_sm {p : Prg} (h : OkP p.nodes p.root) (hs : ∀ d ∈ p.nodes, d.small) : ∀ s ∈ frP p, smS s := fun s hm => by
 obtain ⟨d, hd, rfl⟩ := List.mem_map.1 ((frP_fnd h).2 s hm)
 exact (hs d hd).2.2.1
theorem setsL_mem (ns : List Nod) : ∀ s ∈ Fr.setsL ns, s ∈ ns.map (·.s) := by
 refine snoc_rec (P := fun ns => ∀ s ∈ Fr.setsL ns, s ∈ ns.map (·.s)) (by simp [Fr.setsL]) (fun l x ih s hm => ?_) _ ns rfl
 rw [Fr.setsL_snoc] at hm
 rw [List.map_append]
 split at hm
 ·rcases List.mem_append.1 hm with h | h
  ·exact List.mem_append.2 (.inl (ih s h))
  ·exact List.mem_append.2 (.inr (by simpa using h))
 ·exact List.mem_append.2 (.inl (ih s hm))
theorem stP_sm {p : Prg} (hs : ∀ d ∈ p.nodes, d.small) : ∀ s ∈ stP p, smS s := fun s hm => by
 obtain ⟨d, hd, rfl⟩ := List.mem_map.1 (setsL_mem _ s hm)
 exact (hs d hd).2.2.1
theorem fm_len {f : Dfn → List ByteArray} (l : List Dfn) (h : ∀ d ∈ l, (f d).length ≤ 400) : (l.flatMap f).length ≤ 400 * l.length := by
 induction l with
 | nil => simp
 | cons d l ih =>
  have h1 := h d (by simp)
  have h2 := ih fun e he => h e (by simp [he])
  simp only [List.flatMap_cons, List.length_append, List.length_cons]
  omega
theorem frA_len {l : List Dfn} (h : ∀ d ∈ l, OkP d.prog.nodes d.prog.root) : (frA l).length ≤ 400 * l.length := fm_len l fun d hd => frP_len (h d hd)
theorem stA_len {l : List Dfn} (h : ∀ d ∈ l, OkP d.prog.nodes d.prog.root) : (stA l).length ≤ 400 * l.length := fm_len l fun d hd => stP_len (h d hd)
theorem frA_sm {l : List Dfn} (h : ∀ d ∈ l, OkP d.prog.nodes d.prog.root) (hs : ∀ d ∈ l, Dfn.small d) : ∀ s ∈ frA l, smS s := fun s hm => by
 obtain ⟨d, hd, hm⟩ := List.mem_flatMap.1 hm
 exact frP_sm (h d hd) (hs d hd).2.1.2 s hm
theorem stA_sm {l : List Dfn} (hs : ∀ d ∈ l, Dfn.small d) : ∀ s ∈ stA l, smS s := fun s hm => by
 obtain ⟨d, hd, hm⟩ := List.mem_flatMap.1 hm
 exact stP_sm (hs d hd).2.1.2 s hm
theorem frA_take {l : List Dfn} {i : Nat} {d : Dfn} (h : l[i]? = some d) : frA (l.take (i + 1)) = frA (l.take i) ++ frP d.prog := by
 unfold frA
 rw [take_snc h, List.flatMap_append, List.flatMap_singleton]
theorem stA_take {l : List Dfn} {i : Nat} {d : Dfn} (h : l[i]? = some d) : stA (l.take (i + 1)) = stA (l.take i) ++ stP d.prog := by
 unfold stA
 rw [take_snc h, List.flatMap_append, List.flatMap_singleton]
end Go.Proofs.YtamjofdgikifnaaGreat
