/- Rows as raw cells; two rows of definitions behind each other (slices.Concat). -/
import Derived.Test.YtamjofdgikifnaaGreatSla
import Derived.Test.YtamjofdgikifnaaGreatProg
import Derived.Shelf.Spec.SlicesGrow
import Derived.Deep.RegionWith
import Derived.Deep.AppendLies
set_option linter.unusedVariables false
namespace Go.Proofs.YtamjofdgikifnaaGreat
open Go.ChangeShapes Go.WideShapes Go.ChangeAt Go.RowKit
def Tryz.grow_ren : Go.Shelf.Ren := ⟨fun | 4 => 66 | n => n, fun | 22 => 32 | 25 => 63 | n => n, fun | n => n⟩
theorem Tryz.growD : Go.Proofs.Lays8.n4 Tryz.prog Tryz.grow_ren where
 mixed := by kernel_rfl
 f4 := ⟨Tryz.f66.name, by kernel_rfl, Tryz.func66.trans (congrArg some (by kernel_rfl))⟩
 t0 := Tryz.underlying0
 a0 := Tryz.isAgg0
 z0 := Tryz.sizeOf0
 v0 := Tryz.zeroValue0
 t3 := Tryz.underlying3
 a3 := Tryz.isAgg3
 z3 := Tryz.sizeOf3
 v3 := Tryz.zeroValue3
 t4 := Tryz.underlying4
 a4 := Tryz.isAgg4
 z4 := Tryz.sizeOf4
 v4 := Tryz.zeroValue4
 t9 := Tryz.underlying9
 a9 := Tryz.isAgg9
 z9 := Tryz.sizeOf9
 v9 := Tryz.zeroValue9
 t20 := Tryz.underlying20
 a20 := Tryz.isAgg20
 z20 := Tryz.sizeOf20
 v20 := Tryz.zeroValue20
 t22 := Tryz.underlying32
 a22 := Tryz.isAgg32
 z22 := Tryz.sizeOf32
 v22 := Tryz.zeroValue32
def RawOf {α : Type} (R : Rd α) (w : World) (p : Nat → Prop) : List Value → List α → Prop
 | vs, [] => vs = []
 | vs, x :: l => ∃ cs rest, vs = cs ++ rest ∧ R.At w p cs x ∧ RawOf R w p rest l
theorem RawOf.append {α : Type} {R : Rd α} {w : World} {p : Nat → Prop} : ∀ {l m : List α} {u v : List Value}, RawOf R w p u l → RawOf R w p v m → RawOf R w p (u ++ v) (l ++ m)
 | [], m, u, v, h, k => by obtain rfl : u = [] := h; exact k
 | x :: l, m, u, v, h, k => by
  obtain ⟨cs, rest, rfl, h1, h2⟩ := h
  exact ⟨cs, rest ++ v, by rw [List.append_assoc], h1, h2.append k⟩
theorem RawOf.keep {α : Type} {R : Rd α} {w w' : World} {p q : Nat → Prop} (hk : ∀ b, p b → q b ∧ w'.heap[b]? = w.heap[b]?) : ∀ {l : List α} {u : List Value}, RawOf R w p u l → RawOf R w' q u l
 | [], u, h => h
 | x :: l, u, h => by
  obtain ⟨cs, rest, rfl, h1, h2⟩ := h
  exact ⟨cs, rest, rfl, R.keep h1 hk, h2.keep hk⟩
theorem RawOf.len {α : Type} {R : Rd α} {w : World} {p : Nat → Prop} : ∀ {l : List α} {u : List Value}, RawOf R w p u l → u.length = l.length * R.n
 | [], u, h => by obtain rfl : u = [] := h; simp
 | x :: l, u, h => by
  obtain ⟨cs, rest, rfl, h1, h2⟩ := h
  rw [List.length_append, R.len h1, h2.len, List.length_cons, Nat.succ_mul, Nat.add_comm]
theorem LiesAt.left {w : World} {b o : Nat} {u v : List Value} (h : LiesAt w b o (u ++ v)) : LiesAt w b o u := fun j x hj => h j x (by rw [List.getElem?_append_left (List.getElem?_eq_some_iff.1 hj).1]; exact hj)
theorem LiesAt.right {w : World} {b o : Nat} {u v : List Value} (h : LiesAt w b o (u ++ v)) : LiesAt w b (o + u.length) v := fun j x hj => by
 have := h (u.length + j) x (by rw [List.getElem?_append_right (by omega), Nat.add_sub_cancel_left]; exact hj)
 rw [Nat.add_assoc]
 exact this
theorem LiesAt.both {w : World} {b o : Nat} {u v : List Value} (h : LiesAt w b o u) (k : LiesAt w b (o + u.length) v) : LiesAt w b o (u ++ v) := fun j x hj => by
 by_cases hl : j < u.length
 ·rw [List.getElem?_append_left hl] at hj; exact h j x hj
 ·rw [List.getElem?_append_right (by omega)] at hj
  have := k (j - u.length) x hj
  rw [Nat.add_assoc, Nat.add_sub_cancel' (by omega)] at this
  exact this
theorem RawOf.row {α : Type} {R : Rd α} {w : World} {p : Nat → Prop} {b : Nat} (hp : p b) : ∀ {l : List α} {u : List Value} {o : Nat}, RawOf R w p u l → LiesAt w b o u → R.Row w p (some ⟨b, o, none⟩) l
 | [], u, o, h, k => Rd.Row.nil
 | x :: l, u, o, h, k => by
  obtain ⟨cs, rest, rfl, h1, h2⟩ := h
  intro i y hy
  cases i with
  | zero =>
   obtain rfl : x = y := by simpa using hy
   exact ⟨b, o, cs, rfl, hp, h1, by rw [Nat.zero_mul, Nat.add_zero]; exact k.left⟩
  | succ i =>
   obtain ⟨b', o', cs', e, hp', hat, hl⟩ := RawOf.row hp h2 k.right i y (by simpa using hy)
   simp only [Option.some.injEq, Addr.mk.injEq, and_true] at e
   obtain ⟨rfl, rfl⟩ := e
   exact ⟨b, o, cs', rfl, hp, hat, by rw [R.len h1] at hl; rw [Nat.succ_mul, Nat.add_comm (i * R.n), ← Nat.add_assoc]; exact hl⟩
theorem Rd.Row.raw {α : Type} {R : Rd α} {w : World} {p : Nat → Prop} : ∀ {l : List α} {a : Option Addr}, R.Row w p a l → ∃ u, RawOf R w p u l ∧ (0 < l.length → ∃ b o, a = some ⟨b, o, none⟩ ∧ LiesAt w b o u)
 | [], a, h => ⟨[], rfl, fun hl => by simp at hl⟩
 | x :: l, a, h => by
  obtain ⟨b, o, cs, rfl, hp, hat, hl⟩ := h 0 x rfl
  rw [Nat.zero_mul, Nat.add_zero] at hl
  have ht : R.Row w p (some ⟨b, o + R.n, none⟩) l := fun i y hy => by
   obtain ⟨b', o', cs', e, hp', hat', hl'⟩ := h (i + 1) y (by simpa using hy)
   simp only [Option.some.injEq, Addr.mk.injEq, and_true] at e
   obtain ⟨rfl, rfl⟩ := e
   exact ⟨b, o + R.n, cs', rfl, hp, hat', by rw [Nat.succ_mul, Nat.add_comm (i * R.n), ← Nat.add_assoc] at hl'; exact hl'⟩
  obtain ⟨u, hu, hlu⟩ := ht.raw
  refine ⟨cs ++ u, ⟨cs, u, rfl, hat, hu⟩, fun _ => ⟨b, o, rfl, ?_⟩⟩
  by_cases h0 : 0 < l.length
  ·obtain ⟨b', o', e, hl'⟩ := hlu h0
   simp only [Option.some.injEq, Addr.mk.injEq, and_true] at e
   obtain ⟨rfl, rfl⟩ := e
   exact hl.both (by rw [R.len hat]; exact hl')
  ·obtain rfl : l = [] := List.eq_nil_of_length_eq_zero (by omega)
   obtain rfl : u = [] := hu
   rw [List.append_nil]
   exact hl
theorem raw_one {w : World} {p : Nat → Prop} : ∀ {l : List Dfn} {u : List Value}, RawOf rgD w p u l → ∀ v ∈ u, v.oneCell' = true
 | [], u, h, v, hv => by obtain rfl : u = [] := h; cases hv
 | x :: l, u, h, v, hv => by
  obtain ⟨cs, rest, rfl, ⟨an, cn, rfl, _⟩, h2⟩ := h
  rcases List.mem_append.1 hv with hv | hv
  ·simp at hv
   rcases hv with rfl | rfl | rfl <;> rfl
  ·exact raw_one h2 v hv
theorem Tryz.inf51 : (Tryz.prog.info? 63).map (fun i => (i.zero, i.size, i.bytes)) = some (some (.agg #[.string ⟨#[]⟩, .slice none 0 0, .int .i64 0]), 3, 48) := by kernel_rfl
def GrPost (w : World) (e : Ending) (w' : World) : Prop := ∃ v, e = .returned v ∧ w'.ownsRow w.heap.size 63 3 v 0 [] ∧ Below w.heap.size w w'
theorem grow_any (n : Nat) (w : World) (hn : n ≤ 2097152) : Calls Tryz.prog 66 #[.slice none 0 0, .int .i64 n] w fun e w' => GrPost w e w' := by
 obtain ⟨i, hi, hz0, hz1, hz2⟩ := info_parts Tryz.inf51
 by_cases h0 : n = 0
 ·subst h0
  refine (Any8.slices_Grow_room Tryz.growD none 0 0 0 w (by omega) (by omega) (by omega) (by omega)).mono ?_
  rintro e w' ⟨rfl, rfl⟩
  exact ⟨_, rfl, ⟨rfl, .inl ⟨rfl, rfl⟩⟩, Below.refl _ _⟩
 ·have hb48 : i.bytes = 48 := hz2
  have hs3 : i.size = 3 := hz1
  refine (Any8.slices_Grow_grow Tryz.growD i (.agg #[.string ⟨#[]⟩, .slice none 0 0, .int .i64 0]) hi hz0 (by omega) none 0 0 n [] w (by omega) (by omega) (by rw [hb48]; omega) (by omega) (by simp) (fun _ => rfl) (fun a h => by cases h)).mono ?_
  rintro e w' ⟨rfl, rfl⟩
  have hg := grownCap_ge w (0 + n) 0 63
  have hm := grownCap_le_maxLen w (0 + n) 0 63 (by unfold maxLen; omega)
  refine ⟨_, rfl, ⟨rfl, .inr ⟨w.heap.size, _, _, rfl, Nat.le_refl _, blk_at _ _ _ rfl, Nat.zero_le _, hm, ?_, by simp⟩⟩, ((Below.refl _ _).drew).alloc (Nat.le_refl _) _⟩
  show (#[] ++ Builtin.zeroCells _ (0 + n - 0) ++ Builtin.zeroCells _ (grownCap w (0 + n) 0 63 - (0 + n)) : Array Value).size = grownCap w (0 + n) 0 63 * 3
  rw [Array.size_append, Array.size_append, size_zeroCells, size_zeroCells]
  show 0 + (0 + n - 0) * 3 + (grownCap w (0 + n) 0 63 - (0 + n)) * 3 = _
  omega
def CcPost (l : List Dfn) (n : Nat) (w : World) (e : Ending) (w' : World) : Prop := ∃ a cap, e = .returned (.slice a n cap) ∧ l.length = n ∧ rgD.Row w' (fun b => b < w'.heap.size) a l ∧ Below w.heap.size w w'
theorem own_lies {w : World} {B n s g cap : Nat} {e : TypeId} {xs : List Value} (h : w.ownsRow B e s (.slice (some ⟨g, 0, none⟩) n cap) n xs) : g < w.heap.size ∧ LiesAt w g 0 xs := by
 obtain ⟨hl, ⟨hv, h0⟩ | ⟨g', cap', cur, hv, _, hb, h3, _, _, ht⟩⟩ := h
 ·cases hv
 ·simp only [Value.slice.injEq, Option.some.injEq, Addr.mk.injEq, and_true, true_and] at hv
  obtain ⟨rfl, rfl⟩ := hv
  refine ⟨(Array.getElem?_eq_some_iff.1 hb).1, fun j v hj => ?_⟩
  rw [Nat.zero_add]
  refine cell_blk hb ?_
  rw [← ht, List.getElem?_take] at hj
  split at hj
  ·simpa using hj
  ·cases hj
theorem app_below3 {B : Nat} {w0 w1 w2 : World} {v : Value} {n : Nat} {l : List Value} (hb : Below B w0 w1) (hB2 : B ≤ w1.heap.size) (ho : w1.ownsRow B 63 3 v n l) (hg : w1.grownBy w2 v.ownBlock) : Below B w0 w2 :=
 hb.trans ⟨hg.os, hg.tape, hg.output, hg.size, fun k hk => hg.block k (by omega) (fun e => by have := (own_blk ho e.symm).1; omega)⟩
set_option maxRecDepth 100000 in
set_option maxHeartbeats 1000000 in
theorem concat_any (l m : List Dfn) (a b : Option Addr) (ca cb g : Nat) (w : World) (hl : l.length ≤ 1048576) (hm : m.length ≤ 1048576) (hg : g < w.heap.size)
  (h0 : w.cell? ⟨g, 0, none⟩ = some (.slice a l.length ca)) (h1 : w.cell? ⟨g, 1, none⟩ = some (.slice b m.length cb)) (hr : rgD.Row w (fun b => b < w.heap.size) a l) (hq : rgD.Row w (fun b => b < w.heap.size) b m) :
  Calls Tryz.prog 32 #[.slice (some ⟨g, 0, none⟩) 2 2] w fun e w' => CcPost (l ++ m) (l.length + m.length) w e w' := by
 obtain ⟨u, hu, hlu⟩ := hr.raw
 obtain ⟨v, hv, hlv⟩ := hq.raw
 obtain ⟨i51, hi51, hz0, hz1, hz2⟩ := info_parts Tryz.inf51
 have hul : u.length = l.length * 3 := hu.len
 have hvl : v.length = m.length * 3 := hv.len
 have HU1 : Hid (∀ x ∈ u, x.oneCell' = true) := raw_one hu
 have HV1 : Hid (∀ x ∈ v, x.oneCell' = true) := raw_one hv
 have HUN : Hid (∀ wr, Below w.heap.size w wr → 0 < l.length → ∃ ad, a = some ad ∧ ∀ j x, u[j]? = some x → wr.cell? (ad.add j) = some x) := fun wr hb h => by
  obtain ⟨b', o', rfl, hh⟩ := hlu h
  obtain ⟨y, hy⟩ : ∃ y, l[0]? = some y := ⟨_, List.getElem?_eq_getElem h⟩
  obtain ⟨b2, o2, _, e, hlt, _⟩ := hr 0 y hy
  simp only [Option.some.injEq, Addr.mk.injEq, and_true] at e
  obtain ⟨rfl, rfl⟩ := e
  exact ⟨_, rfl, fun j x hx => by rw [add_lit]; exact (hh.keep (hb.block _ hlt)) j x hx⟩
 have HVN : Hid (∀ wr, Below w.heap.size w wr → 0 < m.length → ∃ ad, b = some ad ∧ ∀ j x, v[j]? = some x → wr.cell? (ad.add j) = some x) := fun wr hb h => by
  obtain ⟨b', o', rfl, hh⟩ := hlv h
  obtain ⟨y, hy⟩ : ∃ y, m[0]? = some y := ⟨_, List.getElem?_eq_getElem h⟩
  obtain ⟨b2, o2, _, e, hlt, _⟩ := hq 0 y hy
  simp only [Option.some.injEq, Addr.mk.injEq, and_true] at e
  obtain ⟨rfl, rfl⟩ := e
  exact ⟨_, rfl, fun j x hx => by rw [add_lit]; exact (hh.keep (hb.block _ hlt)) j x hx⟩
 have HUV : Hid (RawOf rgD w (fun b => b < w.heap.size) (u ++ v) (l ++ m)) := hu.append hv
 have HG : Hid (∀ n : Nat, n ≤ 2097152 → ∀ w, Calls Tryz.prog 66 #[.slice none 0 0, .int .i64 n] w fun e w' => GrPost w e w') := fun n hn w => grow_any n w hn
 have HUL : Hid _ := hul
 have HVL : Hid _ := hvl
 clear hr hq hu hv hlu hlv hul hvl
 go_enter Tryz.func32, Tryz.ntmps32
 go_wp2
 go_loopw [3, 11] (fun s o wr => w = wr ∧ ((s = .int .i64 0 ∧ o = .int .i64 0) ∨ (s = .int .i64 l.length ∧ o = .int .i64 1) ∨ (s = .int .i64 (l.length + m.length) ∧ o = .int .i64 2)))
  (fun _ o _ => 2 - (intOf o).toNat)
 case atStart => exact ⟨rfl, .inl ⟨rfl, rfl⟩⟩
 case round =>
  obtain ⟨rfl, ⟨rfl, rfl⟩ | ⟨rfl, rfl⟩ | ⟨rfl, rfl⟩⟩ := hrel
  ·go_wp2
   go_roundw
   case rel => exact ⟨by trivial, .inr (.inl ⟨by go_num, rfl⟩)⟩
   case measure => simp [intOf]
  ·have g1 : decide ((l.length : Int) + (m.length : Int) < 0) = false := by simp; omega
   go_wp2
   go_roundw
   case rel => exact ⟨by trivial, .inr (.inr ⟨by go_num, rfl⟩)⟩
   case measure => simp [intOf]
  ·have HG' := HG.out (l.length + m.length) (by omega) w
   rw [Int.natCast_add] at HG'
   clear HG
   go_wp2_with fail
   refine HG'.mono ?_
   rintro e w1 ⟨v0, rfl, hown, hb1⟩
   have HO : Hid (w1.ownsRow w.heap.size 63 3 v0 0 []) := hown
   clear hown HG'
   have HB1 : Hid (Below w.heap.size w w1) := hb1
   go_wp2
   go_loopw [6, 27] (fun s o wr => Below w.heap.size w wr ∧ ((wr.ownsRow w.heap.size 63 3 s 0 [] ∧ o = .int .i64 0) ∨ (wr.ownsRow w.heap.size 63 3 s l.length u ∧ o = .int .i64 1) ∨ (wr.ownsRow w.heap.size 63 3 s (l.length + m.length) (u ++ v) ∧ o = .int .i64 2)))
    (fun _ o _ => 2 - (intOf o).toNat)
   case atStart => exact ⟨HB1.out, .inl ⟨HO.out, rfl⟩⟩
   case round =>
    obtain ⟨hb, hrel⟩ := hrel
    have y0 := cell_keep h0 hb hg
    have y1 := cell_keep h1 hb hg
    have hsz := hb.size
    have HA1 := HUN.out wr hb
    have HA2 := HVN.out wr hb
    replace HA1 : Hid _ := HA1
    replace HA2 : Hid _ := HA2
    rcases hrel with ⟨hown, rfl⟩ | ⟨hown, rfl⟩ | ⟨hown, rfl⟩
    ·obtain ⟨oa, oc, rfl, hoc⟩ := own_slice hown
     have HOW : Hid (wr.ownsRow w.heap.size 63 3 (.slice oa 0 oc) 0 []) := hown
     clear hown
     go_wp2_with (at_builtin; go_loud (refine wpList_append_row rfl _ _ 32 rfl w.heap.size 63 i51 _ 3 48 Tryz.underlying32 hi51 hz0 hz1 hz2 rfl (by omega) (.slice oa 0 oc) 0 [] rfl HOW.out a l.length ca u rfl HUL.out HA1.out HU1.out (by unfold maxLen; omega) (by omega) (by omega) ?_; intro v' w4 hown hgrow hat; refine stop ?_))
     have HO4 : Hid (w4.ownsRow w.heap.size 63 3 v' l.length u) := by show World.ownsRow _ _ _ _ _ _ _; simpa using hown
     have HB4 : Hid (Below w.heap.size w w4) := app_below3 (n := 0) (l := []) hb hsz HOW.out hgrow
     unfold Hid
     clear hown hgrow hat
     go_wp2
     go_roundw
     case rel => exact ⟨HB4.out, .inr (.inl ⟨HO4.out, rfl⟩)⟩
     case measure => simp [intOf]
    ·obtain ⟨oa, oc, rfl, hoc⟩ := own_slice hown
     have HOW : Hid _ := hown
     clear hown
     go_wp2_with (at_builtin; go_loud (refine wpList_append_row rfl _ _ 32 rfl w.heap.size 63 i51 _ 3 48 Tryz.underlying32 hi51 hz0 hz1 hz2 rfl (by omega) (.slice oa l.length oc) l.length u rfl HOW.out b m.length cb v rfl HVL.out HA2.out HV1.out (by unfold maxLen; omega) (by omega) (by omega) ?_; intro v' w4 hown hgrow hat; refine stop ?_))
     have HO4 : Hid (w4.ownsRow w.heap.size 63 3 v' (l.length + m.length) (u ++ v)) := hown
     have HB4 : Hid (Below w.heap.size w w4) := app_below3 hb hsz HOW.out hgrow
     unfold Hid
     clear hown hgrow hat
     go_wp2
     go_roundw
     case rel => exact ⟨HB4.out, .inr (.inr ⟨HO4.out, rfl⟩)⟩
     case measure => simp [intOf]
    ·obtain ⟨oa, oc, rfl, hoc⟩ := own_slice hown
     have HOW : Hid _ := hown
     clear hown
     go_wp2
     go_ret
     refine ⟨oa, oc, by simp, List.length_append, ?_, hb⟩
     have hraw := HUV.out.keep (w' := wr) (q := fun b => b < wr.heap.size) fun b hl => ⟨by omega, hb.block b hl⟩
     by_cases hz : l.length + m.length = 0
     ·obtain ⟨rfl, rfl⟩ : l = [] ∧ m = [] := ⟨List.eq_nil_of_length_eq_zero (by omega), List.eq_nil_of_length_eq_zero (by omega)⟩
      exact Rd.Row.nil
     ·obtain ⟨g', cap', e, _, _⟩ := World.ownsRow.form HOW.out (by omega)
      simp only [Value.slice.injEq, true_and] at e
      obtain ⟨rfl, rfl⟩ := e
      obtain ⟨q1, q2⟩ := own_lies HOW.out
      exact RawOf.row (p := fun b => b < wr.heap.size) q1 hraw q2
end Go.Proofs.YtamjofdgikifnaaGreat
