/- The program's teller: room and put. The program's teller: a value that is no pair. The program's teller: lists. -/
import Derived.Test.YtlacidojljilaaaGreatDoorTxd
import Derived.Deep.RegionLaw
set_option linter.unusedVariables false
set_option maxRecDepth 100000
set_option maxHeartbeats 8000000
namespace Go.Proofs.YtlacidojljilaaaGreatDoor
open Go.ChangeShapes Go.WideShapes Go.ChangeAt Go.RowKit
structure TSt (w : World) (B T : Nat) (hv tv : Value) (l : List UInt8) : Prop where
 blk : w.heap[T]? = some (.cells #[hv, tv] 134)
 own : OwnB w B tv l
 ne : some T ≠ tv.ownBlock
 le : l.length ≤ 100000
 low : B ≤ T
structure TG (w w' : World) (T : Nat) (tv : Value) : Prop where
 os : w'.os = w.os
 tape : w'.tape = w.tape
 output : w'.output = w.output
 size : w.heap.size ≤ w'.heap.size
 block : ∀ b, b < w.heap.size → b ≠ T → some b ≠ tv.ownBlock → w'.heap[b]? = w.heap[b]?
def Fr (w : World) (tv tv' : Value) : Prop := tv'.ownBlock = tv.ownBlock ∨ ∀ k, tv'.ownBlock = some k → w.heap.size ≤ k
theorem room_any (B T : Nat) (hv tv : Value) (l : List UInt8) (w : World) (h : TSt w B T hv tv l) :
  Calls Tryz.prog 89 #[.pointer (some ⟨T, 0, none⟩)] w fun e w' => e = .returned (.int .i64 (100000 - (l.length : Int))) ∧ w' = w := by
 obtain ⟨av, cv, rfl, _⟩ := h.own.slice
 have x1 := zB 1 h.blk rfl
 have hl := h.le
 clear h
 go_enter Tryz.func89, Tryz.ntmps89
 go_wp2
 go_ret
 exact ⟨rfl, rfl⟩
theorem TSt.drewN {w : World} {B T : Nat} {hv tv : Value} {l : List UInt8} (h : TSt w B T hv tv l) (n : Nat) : TSt (w.drewN n) B T hv tv l := ⟨h.blk, h.own, h.ne, h.le, h.low⟩
theorem ext_toList (s : ByteArray) (k : Nat) : (s.extract 0 k).data.toList = s.data.toList.take k := by simp
def TPost (B T : Nat) (hv tv : Value) (l t : List UInt8) (w : World) (e : Ending) (w' : World) : Prop :=
 ∃ tv' l', e = .returned (.tuple #[]) ∧ TSt w' B T hv tv' l' ∧ Cut l' (l ++ t) ∧ TG w w' T tv ∧ Fr w tv tv'
theorem put_any (B T : Nat) (hv tv : Value) (l : List UInt8) (s : ByteArray) (w : World) (h : TSt w B T hv tv l) (hs : s.size ≤ 1048576) (hB : B ≤ w.heap.size) :
  Calls Tryz.prog 91 #[.pointer (some ⟨T, 0, none⟩), .string s] w fun e w' => TPost B T hv tv l s.data.toList w e w' := by
 have HRM : Hid (∀ n, Calls Tryz.prog 89 #[.pointer (some ⟨T, 0, none⟩)] (w.drewN n) fun e w' => e = .returned (.int .i64 (100000 - (l.length : Int))) ∧ w' = w.drewN n) := fun n => room_any B T hv tv l (w.drewN n) (h.drewN n)
 have x1 : w.cell? ⟨T, 1, none⟩ = some tv := cell_blk (j := 1) h.blk rfl
 have f1 : w.frozen? ⟨T, 1, none⟩ = false := frozen_blk h.blk 1
 have hl := h.le
 have HT : Hid (TSt w B T hv tv l) := h
 obtain ⟨k, hk⟩ : ∃ k, k = min s.size (100000 - l.length) := ⟨_, rfl⟩
 have hif : (if 100000 - (l.length : Int) < (s.size : Int) then 100000 - (l.length : Int) else (s.size : Int)) = (k : Int) := by
  split <;> omega
 have hk0 : (0 : Int) ≤ (k : Int) := by omega
 have hk1 : (k : Int) ≤ (s.size : Int) := by omega
 have hkl : l.length + k ≤ 100000 := by omega
 have HKE : Hid ((l ++ s.data.toList).take 100000 = l ++ (s.extract 0 k).data.toList) := by
  show _ = _
  rw [ext_toList, List.take_append, List.take_of_length_le hl]
  congr 1
  have e : s.data.toList.length = s.size := rfl
  by_cases hq : s.size ≤ 100000 - l.length
  ·rw [List.take_of_length_le (by omega), List.take_of_length_le (by omega)]
  ·have : k = 100000 - l.length := by omega
   rw [this]
 have hkk : (s.extract 0 k).data.toList.length ≤ k := by rw [ext_toList, List.length_take]; omega
 clear h hk
 go_enter Tryz.func91, Tryz.ntmps91
 go_wp2_with fail
 go_region_law (first
  | (refine step_append_b (by rfl) _ _ 9 (by rfl) B tv l (by rfl) (HT.out.drewN 1).own (.string (s.extract 0 k)) (s.extract 0 k).data.toList (by rfl) (src_str _ _) (by omega) hB ?_; intro v5 w5 ho5 hg5 hn5; have b5 : w5.heap[T]? = some (.cells #[hv, tv] 134) := (fr_step (HT.out.drewN 1).blk (HT.out.drewN 1).ne hg5 hn5).1; have y1 : w5.cell? ⟨T, 1, none⟩ = some tv := cell_blk (j := 1) b5 rfl; have y2 : w5.frozen? ⟨T, 1, none⟩ = false := frozen_blk b5 1; obtain ⟨a5, c5, rfl, hc5⟩ := ho5.slice)
  | (go_simp; go_at_call 89; refine (HRM.out 1).mono ?_; rintro e w4 ⟨rfl, rfl⟩))
 all_goals
  have hne5 := (fr_step (HT.out.drewN 1).blk (HT.out.drewN 1).ne hg5 hn5).2
  have HE : Hid (TPost B T hv tv l s.data.toList w (.returned (.tuple #[])) (w5.setCell ⟨T, 1, none⟩ (.slice a5 (l ++ (s.extract 0 k).data.toList).length c5))) := by
   refine ⟨_, l ++ (s.extract 0 k).data.toList, rfl, ?_, by rw [← HKE.out]; unfold Cut; rw [List.take_take, Nat.min_self], ?_, hn5⟩
   ·exact ⟨heap_setCell_same _ _ _ _ _ _ b5, ho5.set hne5 _ _, hne5, by rw [List.length_append]; omega, HT.out.low⟩
   ·exact ⟨hg5.os, hg5.tape, hg5.output, by simpa using hg5.size, fun b hb h1 h2 => (heap_setCell_other _ _ _ _ h1).trans (hg5.block b hb h2)⟩
  have he : (l ++ (s.extract 0 k).data.toList).length = l.length + min k s.size := by rw [List.length_append, ext_toList, List.length_take]; rfl
  have hE := HE.out
  rw [he] at hE
  have HE2 : Hid (TPost B T hv tv l s.data.toList w (.returned (.tuple #[])) (w5.setCell ⟨T, 1, none⟩ (.slice a5 (l.length + min k s.size) c5))) := hE
  clear hE
  go_wp2
  go_end0
  exact HE2.out
theorem TG.below {w w' : World} (T : Nat) (tv : Value) (h : Below w.heap.size w w') : TG w w' T tv := ⟨h.os, h.tape, h.output, h.size, fun b hb _ _ => h.block b hb⟩
theorem TG.trans {w w1 w2 : World} {T : Nat} {tv tv1 : Value} (h : TG w w1 T tv) (hf : Fr w tv tv1) (g : TG w1 w2 T tv1) : TG w w2 T tv := by
 refine ⟨g.os.trans h.os, g.tape.trans h.tape, g.output.trans h.output, Nat.le_trans h.size g.size, fun b hb h1 h2 => ?_⟩
 refine (g.block b (Nat.lt_of_lt_of_le hb h.size) h1 fun e => ?_).trans (h.block b hb h1 h2)
 rcases hf with hf | hf
 ·rw [hf] at e; exact h2 e
 ·have := hf b e.symm
  omega
theorem Fr.refl (w : World) (tv : Value) : Fr w tv tv := .inl rfl
theorem Fr.trans {w w1 : World} {tv tv1 tv2 : Value} (h : Fr w tv tv1) (hs : w.heap.size ≤ w1.heap.size) (g : Fr w1 tv1 tv2) : Fr w tv tv2 := by
 rcases g with e | g
 ·unfold Fr; rw [e]; exact h
 ·exact .inr fun k hk => Nat.le_trans hs (g k hk)
theorem TSt.keep {w w' : World} {B T : Nat} {hv tv : Value} {l : List UInt8} (h : TSt w B T hv tv l) (hb : Below w.heap.size w w') : TSt w' B T hv tv l :=
 ⟨(hb.block T (Array.getElem?_eq_some_iff.1 h.blk).1).trans h.blk, h.own.keep hb, h.ne, h.le, h.low⟩
theorem TG.low {w w' : World} {B T : Nat} {hv tv : Value} {l : List UInt8} (h : TSt w B T hv tv l) (hg : TG w w' T tv) (hB : B ≤ w.heap.size) : Below B w w' :=
 ⟨hg.os, hg.tape, hg.output, hg.size, fun b hb => hg.block b (Nat.lt_of_lt_of_le hb hB) (by have := h.low; omega) fun e => by have := (h.own.at e.symm).1; omega⟩
theorem tfr {W W' : World} {T : Nat} {tv tv' : Value} {b : Nat} {o : Obj} (hb : W.heap[b]? = some o) (hT : b ≠ T) (hne : some b ≠ tv.ownBlock) (hg : TG W W' T tv) (hn : Fr W tv tv') : W'.heap[b]? = some o ∧ some b ≠ tv'.ownBlock := by
 have hlt := (Array.getElem?_eq_some_iff.1 hb).1
 refine ⟨(hg.block b hlt hT hne).trans hb, ?_⟩
 rcases hn with e | h
 ·rw [e]; exact hne
 ·intro e
  have := h b e.symm
  omega
theorem TPost.after {B T : Nat} {hv tv : Value} {l t : List UInt8} {w w1 : World} {e : Ending} {w' : World} (hb : Below w.heap.size w w1) (h : TPost B T hv tv l t w1 e w') : TPost B T hv tv l t w e w' := by
 obtain ⟨tv', l', h1, h2, h3, h4, h5⟩ := h
 exact ⟨tv', l', h1, h2, h3, (TG.below T tv hb).trans (Fr.refl _ _) h4, (Fr.refl w tv).trans hb.size h5⟩
structure CX (D : World → Prop) (B : Nat) (a : Option Addr) (h : List Cel) (w : World) : Prop where
 row : RowC w B a h
 tab : D w
 le : B ≤ w.heap.size
structure DecC (D : World → Prop) (B : Nat) : Prop where
 keep : ∀ w w' : World, D w → Below B w w' → D w'
 dec : ∀ (n : Int) (w : World), i64B n → D w → Calls Tryz.prog 92 #[.int .i64 n] w fun e w' => e = .returned (.string ⟨(decL n).toArray⟩) ∧ Below w.heap.size w w'
theorem CX.step {D : World → Prop} {B : Nat} {a : Option Addr} {h : List Cel} {w w' : World} (hx : CX D B a h w) (hd : DecC D B) (hb : Below B w w') : CX D B a h w' :=
 ⟨hx.row.below hb, hd.keep w w' hx.tab hb, Nat.le_trans hx.le hb.size⟩
theorem value_flat (D : World → Prop) (B T : Nat) (hdc : DecC D B) (a : Option Addr) (h : List Cel) (ca : Nat) (d : Val) (tv : Value) (l : List UInt8) (w : World) (hh : h.length ≤ 1048576) (hsm : ∀ c ∈ h, c.small) (hd : d.small) (hok : d.ok h = true) (hk : d.k ≠ 5) (hst : TSt w B T (.slice a h.length ca) tv l) (hx : CX D B a h w) (hl : l.length < 100000) :
  Calls Tryz.prog 60 #[.pointer (some ⟨T, 0, none⟩), .agg #[.int .i64 d.k, .int .i64 d.n, .string d.s]] w fun e w' => TPost B T (.slice a h.length ca) tv l (flatT h d) w e w' := by
 have hbA : Below w.heap.size w (w.alloc (Obj.cells #[.int .i64 d.k, .int .i64 d.n, .string d.s] 44)) := bR _ _
 have HRM : Hid (Calls Tryz.prog 89 #[.pointer (some ⟨T, 0, none⟩)] (w.alloc (Obj.cells #[.int .i64 d.k, .int .i64 d.n, .string d.s] 44)) fun e w' => e = .returned (.int .i64 (100000 - (l.length : Int))) ∧ w' = (w.alloc (Obj.cells #[.int .i64 d.k, .int .i64 d.n, .string d.s] 44))) := room_any B T _ tv l _ (hst.keep hbA)
 have HIN : Hid (∀ w, Calls Tryz.prog 90 #[.agg #[.int .i64 d.k, .int .i64 d.n, .string d.s]] w fun e w' => Ans w (inV d) e w') := fun w => innerOf_any d w
 have HPU : Hid (∀ (s : ByteArray) (w1 : World), s.size ≤ 1048576 → Below w.heap.size w w1 → Calls Tryz.prog 91 #[.pointer (some ⟨T, 0, none⟩), .string s] w1 fun e w' => TPost B T (.slice a h.length ca) tv l s.data.toList w1 e w') := fun s w1 hs hb => put_any B T _ tv l s w1 (hst.keep hb) hs (Nat.le_trans hx.le hb.size)
 have g0 : ((100000 : Int) - (l.length : Int) == 0) = false := by rw [beq_eq_false_iff_ne]; omega
 have HST : Hid (TSt w B T (.slice a h.length ca) tv l) := hst
 have HX : Hid (CX D B a h w) := hx
 clear hst hx
 obtain ⟨k, n, s⟩ := d
 obtain ⟨d1, d2, d3⟩ := hd
 simp only at *
 by_cases h3 : k = 3
 ·subst h3
  have hs0 : s.size = 0 := by
   by_cases hq : s.size = 0
   ·exact hq
   ·rw [vokS (by simp) hq] at hok; cases hok
  obtain rfl := size_zero hs0
  rw [vok3 rfl rfl] at hok
  obtain rfl : n = 0 := by simpa using hok
  rw [inV3] at HIN
  have HT : Hid (flatT h ⟨3, 0, ⟨#[]⟩⟩ = [40, 41]) := rfl
  rw [HT.out]
  clear hok hs0
  have ta64 : ∀ w, (Instr.typeAssert (.iface 165 (.agg #[])) 159 161 true).run Tryz.prog w = .ok (.tuple #[.int .i64 0, .bool false]) w := fun _ => by kernel_rfl
  have ta67 : ∀ w, (Instr.typeAssert (.iface 165 (.agg #[])) 159 163 true).run Tryz.prog w = .ok (.tuple #[.int .i64 0, .bool false]) w := fun _ => by kernel_rfl
  have ta69 : ∀ w, (Instr.typeAssert (.iface 165 (.agg #[])) 159 165 true).run Tryz.prog w = .ok (.tuple #[.agg #[], .bool true]) w := fun _ => by kernel_rfl
  go_enter Tryz.func60, Tryz.ntmps60
  go_wp2_with (first | (go_at_call 89; refine HRM.out.mono ?_; rintro e w1 ⟨rfl, rfl⟩) | (go_at_call 90; refine (HIN.out _).mono ?_; rintro e w1 ⟨rfl, hb1⟩; have hb2 := bT hbA hb1) | (go_at_call 91; refine (HPU.out _ _ (by decide) (hb2.alloc hb2.size _)).mono ?_; rintro e w2 ⟨tv2, l2, rfl, hp1, hp2, hp3, hp4⟩; have HP1 : Hid (TSt w2 B T (.slice a h.length ca) tv2 l2) := hp1; have HP3 : Hid (TG w w2 T tv) := (TG.below T tv (hb2.alloc hb2.size _)).trans (Fr.refl _ _) hp3; have HP4 : Hid (Fr w tv tv2) := (Fr.refl w tv).trans (Below.size (hb2.alloc hb2.size _)) hp4; clear hp1 hp3 hp4))
  go_end0
  exact ⟨tv2, l2, rfl, HP1.out, hp2, HP3.out, HP4.out⟩
 by_cases h6 : k = 6
 ·subst h6
  have hs0 : s.size = 0 := by
   by_cases hq : s.size = 0
   ·exact hq
   ·rw [vokS (by simp) hq] at hok; cases hok
  obtain rfl := size_zero hs0
  rw [inV6] at HIN
  have HT : Hid (flatT h ⟨6, n, ⟨#[]⟩⟩ = [102, 110]) := rfl
  rw [HT.out]
  clear hok hs0
  have ta64 : ∀ w, (Instr.typeAssert (.iface 169 (.int .i64 n)) 159 161 true).run Tryz.prog w = .ok (.tuple #[.int .i64 0, .bool false]) w := fun _ => by kernel_rfl
  have ta67 : ∀ w, (Instr.typeAssert (.iface 169 (.int .i64 n)) 159 163 true).run Tryz.prog w = .ok (.tuple #[.int .i64 0, .bool false]) w := fun _ => by kernel_rfl
  have ta69 : ∀ w, (Instr.typeAssert (.iface 169 (.int .i64 n)) 159 165 true).run Tryz.prog w = .ok (.tuple #[.agg #[], .bool false]) w := fun _ => by kernel_rfl
  have ta70 : ∀ w, (Instr.typeAssert (.iface 169 (.int .i64 n)) 159 166 true).run Tryz.prog w = .ok (.tuple #[.string ⟨#[]⟩, .bool false]) w := fun _ => by kernel_rfl
  have ta71 : ∀ w, (Instr.typeAssert (.iface 169 (.int .i64 n)) 159 167 true).run Tryz.prog w = .ok (.tuple #[.int .i64 0, .bool false]) w := fun _ => by kernel_rfl
  have ta73 : ∀ w, (Instr.typeAssert (.iface 169 (.int .i64 n)) 159 169 true).run Tryz.prog w = .ok (.tuple #[.int .i64 n, .bool true]) w := fun _ => by kernel_rfl
  go_enter Tryz.func60, Tryz.ntmps60
  go_wp2_with (first | (go_at_call 89; refine HRM.out.mono ?_; rintro e w1 ⟨rfl, rfl⟩) | (go_at_call 90; refine (HIN.out _).mono ?_; rintro e w1 ⟨rfl, hb1⟩; have hb2 := bT hbA hb1) | (go_at_call 91; refine (HPU.out _ _ (by decide) (hb2)).mono ?_; rintro e w2 ⟨tv2, l2, rfl, hp1, hp2, hp3, hp4⟩; have HP1 : Hid (TSt w2 B T (.slice a h.length ca) tv2 l2) := hp1; have HP3 : Hid (TG w w2 T tv) := (TG.below T tv (hb2)).trans (Fr.refl _ _) hp3; have HP4 : Hid (Fr w tv tv2) := (Fr.refl w tv).trans (Below.size (hb2)) hp4; clear hp1 hp3 hp4))
  go_end0
  exact ⟨tv2, l2, rfl, HP1.out, hp2, HP3.out, HP4.out⟩
 by_cases h2 : k = 2
 ·subst h2
  have hs0 : s.size = 0 := by
   by_cases hq : s.size = 0
   ·exact hq
   ·rw [vokS (by simp) hq] at hok; cases hok
  obtain rfl := size_zero hs0
  rw [inV2] at HIN
  clear hok hs0
  have ta64 : ∀ w, (Instr.typeAssert (.iface 163 (.int .i64 n)) 159 161 true).run Tryz.prog w = .ok (.tuple #[.int .i64 0, .bool false]) w := fun _ => by kernel_rfl
  have ta67 : ∀ w, (Instr.typeAssert (.iface 163 (.int .i64 n)) 159 163 true).run Tryz.prog w = .ok (.tuple #[.int .i64 n, .bool true]) w := fun _ => by kernel_rfl
  by_cases h1 : n = 1
  ·subst h1
   have HT : Hid (flatT h ⟨2, 1, ⟨#[]⟩⟩ = [35, 116]) := rfl
   rw [HT.out]
   go_enter Tryz.func60, Tryz.ntmps60
   go_wp2_with (first | (go_at_call 89; refine HRM.out.mono ?_; rintro e w1 ⟨rfl, rfl⟩) | (go_at_call 90; refine (HIN.out _).mono ?_; rintro e w1 ⟨rfl, hb1⟩; have hb2 := bT hbA hb1) | (go_at_call 91; refine (HPU.out _ _ (by decide) (hb2)).mono ?_; rintro e w2 ⟨tv2, l2, rfl, hp1, hp2, hp3, hp4⟩; have HP1 : Hid (TSt w2 B T (.slice a h.length ca) tv2 l2) := hp1; have HP3 : Hid (TG w w2 T tv) := (TG.below T tv (hb2)).trans (Fr.refl _ _) hp3; have HP4 : Hid (Fr w tv tv2) := (Fr.refl w tv).trans (Below.size (hb2)) hp4; clear hp1 hp3 hp4))
   go_end0
   exact ⟨tv2, l2, rfl, HP1.out, hp2, HP3.out, HP4.out⟩
  ·have HT : Hid (flatT h ⟨2, n, ⟨#[]⟩⟩ = [35, 102]) := by show _ = _; unfold flatT; simp [h1]
   rw [HT.out]
   have e1 : (n == 1) = false := by simp [h1]
   go_enter Tryz.func60, Tryz.ntmps60
   go_wp2_with (first | (go_at_call 89; refine HRM.out.mono ?_; rintro e w1 ⟨rfl, rfl⟩) | (go_at_call 90; refine (HIN.out _).mono ?_; rintro e w1 ⟨rfl, hb1⟩; have hb2 := bT hbA hb1) | (go_at_call 91; refine (HPU.out _ _ (by decide) (hb2)).mono ?_; rintro e w2 ⟨tv2, l2, rfl, hp1, hp2, hp3, hp4⟩; have HP1 : Hid (TSt w2 B T (.slice a h.length ca) tv2 l2) := hp1; have HP3 : Hid (TG w w2 T tv) := (TG.below T tv (hb2)).trans (Fr.refl _ _) hp3; have HP4 : Hid (Fr w tv tv2) := (Fr.refl w tv).trans (Below.size (hb2)) hp4; clear hp1 hp3 hp4))
   go_end0
   exact ⟨tv2, l2, rfl, HP1.out, hp2, HP3.out, HP4.out⟩
 by_cases h4 : k = 4
 ·subst h4
  have HT : Hid (flatT h ⟨4, n, s⟩ = s.data.toList) := rfl
  rw [HT.out]
  rw [vok4 rfl, Bool.and_eq_true] at hok
  obtain rfl : n = 0 := by simpa using hok.1
  rw [inV4] at HIN
  clear hok
  have ta64 : ∀ w, (Instr.typeAssert (.iface 166 (.string s)) 159 161 true).run Tryz.prog w = .ok (.tuple #[.int .i64 0, .bool false]) w := fun _ => by kernel_rfl
  have ta67 : ∀ w, (Instr.typeAssert (.iface 166 (.string s)) 159 163 true).run Tryz.prog w = .ok (.tuple #[.int .i64 0, .bool false]) w := fun _ => by kernel_rfl
  have ta69 : ∀ w, (Instr.typeAssert (.iface 166 (.string s)) 159 165 true).run Tryz.prog w = .ok (.tuple #[.agg #[], .bool false]) w := fun _ => by kernel_rfl
  have ta70 : ∀ w, (Instr.typeAssert (.iface 166 (.string s)) 159 166 true).run Tryz.prog w = .ok (.tuple #[.string s, .bool true]) w := fun _ => by kernel_rfl
  go_enter Tryz.func60, Tryz.ntmps60
  go_wp2_with (first | (go_at_call 89; refine HRM.out.mono ?_; rintro e w1 ⟨rfl, rfl⟩) | (go_at_call 90; refine (HIN.out _).mono ?_; rintro e w1 ⟨rfl, hb1⟩; have hb2 := bT hbA hb1) | (go_at_call 91; refine (HPU.out _ _ d3 (hb2)).mono ?_; rintro e w2 ⟨tv2, l2, rfl, hp1, hp2, hp3, hp4⟩; have HP1 : Hid (TSt w2 B T (.slice a h.length ca) tv2 l2) := hp1; have HP3 : Hid (TG w w2 T tv) := (TG.below T tv (hb2)).trans (Fr.refl _ _) hp3; have HP4 : Hid (Fr w tv tv2) := (Fr.refl w tv).trans (Below.size (hb2)) hp4; clear hp1 hp3 hp4))
  go_end0
  exact ⟨tv2, l2, rfl, HP1.out, hp2, HP3.out, HP4.out⟩
 by_cases h1 : k = 1
 ·subst h1
  have hs0 : s.size = 0 := by
   by_cases hq : s.size = 0
   ·exact hq
   ·rw [vokS (by simp) hq] at hok; cases hok
  obtain rfl := size_zero hs0
  rw [inV1] at HIN
  have HT : Hid (flatT h ⟨1, n, ⟨#[]⟩⟩ = decL n) := rfl
  rw [HT.out]
  have hn := hok
  rw [vok1 rfl rfl] at hn
  simp only [Bool.and_eq_true, decide_eq_true_eq] at hn
  have hdl := (of_dec n (by omega) (by omega)).1
  have hdl' : (⟨(decL n).toArray⟩ : ByteArray).size ≤ 1048576 := by show (decL n).toArray.size ≤ _; simp; omega
  have HDE : Hid (∀ w1, Below w.heap.size w w1 → Calls Tryz.prog 92 #[.int .i64 n] w1 fun e w' => e = .returned (.string ⟨(decL n).toArray⟩) ∧ Below w1.heap.size w1 w') := fun w1 hb => hdc.dec n w1 d2 (hdc.keep w w1 HX.out.tab (hb.mono HX.out.le))
  clear hok hs0 hn
  have ta64 : ∀ w, (Instr.typeAssert (.iface 161 (.int .i64 n)) 159 161 true).run Tryz.prog w = .ok (.tuple #[.int .i64 n, .bool true]) w := fun _ => by kernel_rfl
  go_enter Tryz.func60, Tryz.ntmps60
  go_wp2_with (first | (go_at_call 89; refine HRM.out.mono ?_; rintro e w1 ⟨rfl, rfl⟩) | (go_at_call 90; refine (HIN.out _).mono ?_; rintro e w1 ⟨rfl, hb1⟩; have hb2 := bT hbA hb1) | (go_at_call 92; refine (HDE.out _ hb2).mono ?_; rintro e w3 ⟨rfl, hb3⟩; have hb4 := bT hb2 hb3) | (go_at_call 91; refine (HPU.out _ _ hdl' (hb4)).mono ?_; rintro e w2 ⟨tv2, l2, rfl, hp1, hp2, hp3, hp4⟩; have HP1 : Hid (TSt w2 B T (.slice a h.length ca) tv2 l2) := hp1; have HP3 : Hid (TG w w2 T tv) := (TG.below T tv (hb4)).trans (Fr.refl _ _) hp3; have HP4 : Hid (Fr w tv tv2) := (Fr.refl w tv).trans (Below.size (hb4)) hp4; clear hp1 hp3 hp4))
  go_end0
  exact ⟨tv2, l2, rfl, HP1.out, hp2, HP3.out, HP4.out⟩
 by_cases h7 : k = 7
 ·subst h7
  have hs0 : s.size = 0 := by
   by_cases hq : s.size = 0
   ·exact hq
   ·rw [vokS (by simp) hq] at hok; cases hok
  obtain rfl := size_zero hs0
  rw [inV7] at HIN
  rw [vok7 rfl rfl] at hok
  unfold cellB at hok
  simp only [Bool.and_eq_true, decide_eq_true_eq, beq_iff_eq] at hok
  obtain ⟨hn0, hn1⟩ := hok
  obtain ⟨m, rfl⟩ : ∃ m : Nat, n = m := ⟨n.toNat, by omega⟩
  rw [Int.toNat_natCast] at hn1
  cases hc : h[m]? with
  | none => rw [hc] at hn1; cases hn1
  | some c =>
   have HT : Hid (flatT h ⟨7, (m : Int), ⟨#[]⟩⟩ = [35] ++ c.s.data.toList) := by show _ = _; unfold flatT; simp [hc]
   rw [HT.out]
   have hml : m < h.length := (List.getElem?_eq_some_iff.1 hc).1
   have hcs : c.s.size ≤ 1048576 := (hsm c (List.mem_of_getElem? hc)).2.2.2.1
   obtain ⟨b1, o1, rfl, hbb, an, cn, av, cv, c0, c1, _⟩ := HX.out.row m c hc
   have i0 : (0 : Int) ≤ (m : Int) := by omega
   have i1 : (m : Int) < (h.length : Int) := by omega
   have HC1 : Hid (w.cell? ⟨b1, o1 + m * 6 + 1, none⟩ = some (.string c.s)) := c1
   clear hn1 hc hs0 hsm c0 c1
   have ta64 : ∀ w, (Instr.typeAssert (.iface 170 (.int .i64 (m : Int))) 159 161 true).run Tryz.prog w = .ok (.tuple #[.int .i64 0, .bool false]) w := fun _ => by kernel_rfl
   have ta67 : ∀ w, (Instr.typeAssert (.iface 170 (.int .i64 (m : Int))) 159 163 true).run Tryz.prog w = .ok (.tuple #[.int .i64 0, .bool false]) w := fun _ => by kernel_rfl
   have ta69 : ∀ w, (Instr.typeAssert (.iface 170 (.int .i64 (m : Int))) 159 165 true).run Tryz.prog w = .ok (.tuple #[.agg #[], .bool false]) w := fun _ => by kernel_rfl
   have ta70 : ∀ w, (Instr.typeAssert (.iface 170 (.int .i64 (m : Int))) 159 166 true).run Tryz.prog w = .ok (.tuple #[.string ⟨#[]⟩, .bool false]) w := fun _ => by kernel_rfl
   have ta71 : ∀ w, (Instr.typeAssert (.iface 170 (.int .i64 (m : Int))) 159 167 true).run Tryz.prog w = .ok (.tuple #[.int .i64 0, .bool false]) w := fun _ => by kernel_rfl
   have ta73 : ∀ w, (Instr.typeAssert (.iface 170 (.int .i64 (m : Int))) 159 169 true).run Tryz.prog w = .ok (.tuple #[.int .i64 0, .bool false]) w := fun _ => by kernel_rfl
   have ta74 : ∀ w, (Instr.typeAssert (.iface 170 (.int .i64 (m : Int))) 159 170 true).run Tryz.prog w = .ok (.tuple #[.int .i64 (m : Int), .bool true]) w := fun _ => by kernel_rfl
   go_enter Tryz.func60, Tryz.ntmps60
   go_wp2_with (first | (go_at_call 89; refine HRM.out.mono ?_; rintro e w1 ⟨rfl, rfl⟩) | (go_at_call 90; refine (HIN.out _).mono ?_; rintro e w1 ⟨rfl, hb1⟩; have hb2 := bT hbA hb1))
   refine (HPU.out _ _ (by decide) hb2).mono ?_
   rintro e w2 ⟨tv2, l2, rfl, hp1, hp2, hp3, hp4⟩
   have hlow2 : Below B w w2 := (hb2.mono HX.out.le).trans (TG.low (HST.out.keep hb2) hp3 (Nat.le_trans HX.out.le hb2.size))
   have y1 := cell_keep HC1.out hlow2 hbb
   have t0 := zB 0 hp1.blk rfl
   have HP1 : Hid (TSt w2 B T (.slice (some ⟨b1, o1, none⟩) h.length ca) tv2 l2) := hp1
   have HP3 : Hid (TG w w2 T tv) := (TG.below T tv hb2).trans (Fr.refl _ _) hp3
   have HP4 : Hid (Fr w tv tv2) := (Fr.refl w tv).trans hb2.size hp4
   have HP2 : Hid (Cut l2 (l ++ [35])) := hp2
   have hB2 : B ≤ w2.heap.size := Nat.le_trans HX.out.le HP3.out.size
   clear hp1 hp2 hp3 hp4 ta64 ta67 ta69 ta70 ta71 ta73 ta74
   go_wp2_with fail
   refine (put_any B T _ tv2 l2 c.s w2 HP1.out hcs hB2).mono ?_
   rintro e w3 ⟨tv3, l3, rfl, hq1, hq2, hq3, hq4⟩
   have HQ : Hid (TPost B T (.slice (some ⟨b1, o1, none⟩) h.length ca) tv l ([35] ++ c.s.data.toList) w (.returned (.tuple #[])) w3) := ⟨tv3, l3, rfl, hq1, hq2.trans (by rw [← List.append_assoc]; exact HP2.out.append _), HP3.out.trans HP4.out hq3, HP4.out.trans HP3.out.size hq4⟩
   clear hq1 hq2 hq3 hq4
   go_wp2
   go_end0
   first | exact HQ.out | exact ⟨tv3, l3, rfl, by have := HQ.out; trivial⟩
 ·rw [vok0 h1 h2 h3 h4 hk h6 h7] at hok
  cases hok
theorem TG.undrew {w w' : World} {T n : Nat} {tv : Value} (h : TG (w.drewN n) w' T tv) : TG w w' T tv := ⟨h.os, h.tape, h.output, h.size, h.block⟩
theorem TSt.set {w : World} {B T : Nat} {hv tv : Value} {l : List UInt8} (h : TSt w B T hv tv l) {R : Nat} (hRT : R ≠ T) (hne : some R ≠ tv.ownBlock) (j : Nat) (x : Value) : TSt (w.setCell ⟨R, j, none⟩ x) B T hv tv l :=
 ⟨(heap_setCell_other _ _ _ _ (fun e => hRT (by have e' : T = R := e; omega))).trans h.blk, h.own.set hne j x, h.ne, h.le, h.low⟩
theorem TG.set {w W : World} {T : Nat} {tv : Value} (h : TG w W T tv) {R : Nat} (hR : w.heap.size ≤ R) (j : Nat) (x : Value) : TG w (W.setCell ⟨R, j, none⟩ x) T tv :=
 ⟨h.os, h.tape, h.output, by simpa using h.size, fun b hb h1 h2 => (heap_setCell_other _ _ _ _ (fun e => by have e' : b = R := e; omega)).trans (h.block b hb h1 h2)⟩
theorem TG.drewN {w W : World} {T : Nat} {tv : Value} (h : TG w W T tv) (n : Nat) : TG w (W.drewN n) T tv := ⟨h.os, h.tape, h.output, h.size, h.block⟩
theorem value_full (B T : Nat) (hv : Value) (d : Val) (tv : Value) (l t : List UInt8) (w : World) (hst : TSt w B T hv tv l) (hl : 100000 ≤ l.length) :
  Calls Tryz.prog 60 #[.pointer (some ⟨T, 0, none⟩), .agg #[.int .i64 d.k, .int .i64 d.n, .string d.s]] w fun e w' => TPost B T hv tv l t w e w' := by
 have hbA : Below w.heap.size w (w.alloc (Obj.cells #[.int .i64 d.k, .int .i64 d.n, .string d.s] 44)) := bR _ _
 have HRM : Hid (Calls Tryz.prog 89 #[.pointer (some ⟨T, 0, none⟩)] (w.alloc (Obj.cells #[.int .i64 d.k, .int .i64 d.n, .string d.s] 44)) fun e w' => e = .returned (.int .i64 (100000 - (l.length : Int))) ∧ w' = (w.alloc (Obj.cells #[.int .i64 d.k, .int .i64 d.n, .string d.s] 44))) := room_any B T _ tv l _ (hst.keep hbA)
 have hl2 := hst.le
 have g0 : ((100000 : Int) - (l.length : Int) == 0) = true := by rw [beq_iff_eq]; omega
 have HQ : Hid (TPost B T hv tv l t w (.returned (.tuple #[])) (w.alloc (Obj.cells #[.int .i64 d.k, .int .i64 d.n, .string d.s] 44))) := by
  refine ⟨tv, l, rfl, hst.keep hbA, ?_, TG.below T tv hbA, Fr.refl _ _⟩
  have := Cut.over (Cut.refl l) hl [] t
  rwa [List.append_nil] at this
 clear hst
 go_enter Tryz.func60, Tryz.ntmps60
 go_wp2_with (go_at_call 89; refine HRM.out.mono ?_; rintro e w1 ⟨rfl, rfl⟩)
 first | go_end0 | (refine bodyPost_ret (results_none rfl _ _) rfl ?_) | go_ret
 exact HQ.out
theorem list_any (D : World → Prop) (B T : Nat) (hdc : DecC D B) (a : Option Addr) (h : List Cel) (ca : Nat) (hh : h.length ≤ 1048576) (hp : HeapP h) (hsm : ∀ c ∈ h, c.small) (n : Nat)
  (ih : ∀ (v : Val) (t : List UInt8) (tv : Value) (l : List UInt8) (w : World), v.ok (h.take n) = true → v.small → Tel h false v t → TSt w B T (.slice a h.length ca) tv l → CX D B a h w →
   Calls Tryz.prog 60 #[.pointer (some ⟨T, 0, none⟩), .agg #[.int .i64 v.k, .int .i64 v.n, .string v.s]] w fun e w' => TPost B T (.slice a h.length ca) tv l t w e w')
  (c : Cel) (x y : Val) (tx ty : List UInt8) (hc : h[n]? = some c) (hcv : c.vals = [x, y]) (hx : x.ok (h.take n) = true) (hy : y.ok (h.take n) = true) (htx : Tel h false x tx) (hty : Tel h true y ty)
  (nv : Value) (b2 o2 cv : Nat) (tv : Value) (l : List UInt8) (w : World) (hnv : ∃ q r s, nv = .slice q r s) (hb2 : b2 < B) (hcv2 : 2 ≤ cv) (hvx : ValAt w b2 o2 x) (hvy : ValAt w b2 (o2 + 3) y) (hst : TSt w B T (.slice a h.length ca) tv l) (hcx : CX D B a h w) :
  Calls Tryz.prog 93 #[.pointer (some ⟨T, 0, none⟩), .agg #[.int .i64 c.k, .string c.s, .int .i64 c.a, .int .i64 c.b, nv, .slice (some ⟨b2, o2, none⟩) 2 cv]] w fun e w' => TPost B T (.slice a h.length ca) tv l (40 :: (tx ++ (ty ++ [41]))) w e w' := by
 have hn : n < h.length := (List.getElem?_eq_some_iff.1 hc).1
 have hcs := hsm c (List.mem_of_getElem? hc)
 have HXS : Hid x.small := hcs.2.2.2.2.2.2.2 x (by rw [hcv]; simp)
 have HYS : Hid y.small := hcs.2.2.2.2.2.2.2 y (by rw [hcv]; simp)
 obtain ⟨q1, q2, q3, rfl⟩ := hnv
 have hTl : T < w.heap.size := (Array.getElem?_eq_some_iff.1 hst.blk).1
 have hbA : Below w.heap.size w (w.alloc (Obj.cells #[.int .i64 c.k, .string c.s, .int .i64 c.a, .int .i64 c.b, .slice q1 q2 q3, .slice (some ⟨b2, o2, none⟩) 2 cv] 107)) := bR _ _
 have HKA : Hid ((w.alloc (Obj.cells #[.int .i64 c.k, .string c.s, .int .i64 c.a, .int .i64 c.b, .slice q1 q2 q3, .slice (some ⟨b2, o2, none⟩) 2 cv] 107)).heap[w.heap.size]? = some (Obj.cells #[.int .i64 c.k, .string c.s, .int .i64 c.a, .int .i64 c.b, .slice q1 q2 q3, .slice (some ⟨b2, o2, none⟩) 2 cv] 107)) := blk_alloc _ _
 have HSA : Hid (TSt (w.alloc (Obj.cells #[.int .i64 c.k, .string c.s, .int .i64 c.a, .int .i64 c.b, .slice q1 q2 q3, .slice (some ⟨b2, o2, none⟩) 2 cv] 107)) B T (.slice a h.length ca) tv l) := hst.keep hbA
 have hneA : some w.heap.size ≠ tv.ownBlock := fun e => by have := (hst.own.at e.symm).2; omega
 have hBA : B ≤ (w.alloc (Obj.cells #[.int .i64 c.k, .string c.s, .int .i64 c.a, .int .i64 c.b, .slice q1 q2 q3, .slice (some ⟨b2, o2, none⟩) 2 cv] 107)).heap.size := Nat.le_trans hcx.le hbA.size
 have IH : Hid _ := ih
 have HST : Hid (TSt w B T (.slice a h.length ca) tv l) := hst
 have HCX : Hid (CX D B a h w) := hcx
 have HP : Hid (HeapP h) := hp
 have HSM : Hid (∀ c ∈ h, c.small) := hsm
 have HVX : Hid (ValAt w b2 o2 x) := hvx
 have HVY : Hid (ValAt w b2 (o2 + 3) y) := hvy
 have HTX : Hid (Tel h false x tx) := htx
 have HTY : Hid (Tel h true y ty) := hty
 have HX : Hid (x.ok (h.take n) = true) := hx
 have HY : Hid (y.ok (h.take n) = true) := hy
 have HDC : Hid (DecC D B) := hdc
 clear ih hst hcx hp hsm hvx hvy htx hty hx hy hc hcv hcs hdc
 go_enter Tryz.func93, Tryz.ntmps93
 go_wp2_with fail
 refine (put_any B T _ tv l ⟨#[40]⟩ _ HSA.out (by decide) hBA).mono ?_
 rintro e w1 ⟨tv1, l1, rfl, hs1, hc1, hg1, hf1⟩
 obtain ⟨k1, hne1⟩ := tfr HKA.out (by omega) hneA hg1 hf1
 have hlow1 : Below B w w1 := (hbA.mono HCX.out.le).trans (TG.low HSA.out hg1 hBA)
 have x5 := zB 5 k1 rfl
 have u0 := cell_keep HVX.out.1 hlow1 hb2
 have u1 := cell_keep HVX.out.2.1 hlow1 hb2
 have u2 := cell_keep HVX.out.2.2 hlow1 hb2
 have HS1 : Hid (TSt w1 B T (.slice a h.length ca) tv1 l1) := hs1
 have HC1 : Hid (Cut l1 (l ++ [40])) := hc1
 have HG1 : Hid (TG w w1 T tv) := (TG.below T tv hbA).trans (Fr.refl _ _) hg1
 have HF1 : Hid (Fr w tv tv1) := (Fr.refl w tv).trans hbA.size hf1
 have K1 : Hid _ := k1
 have HL1 : Hid (Below B w w1) := hlow1
 clear hs1 hc1 hg1 hf1 k1 hlow1
 go_wp2_with fail
 refine (IH.out x tx tv1 l1 w1 HX.out HXS.out HTX.out HS1.out (HCX.out.step HDC.out HL1.out)).mono ?_
 rintro e w2 ⟨tv2, l2, rfl, hs2, hc2, hg2, hf2⟩
 obtain ⟨k2, hne2⟩ := tfr K1.out (by omega) hne1 hg2 hf2
 have hlow2 : Below B w w2 := HL1.out.trans (TG.low HS1.out hg2 (Nat.le_trans HCX.out.le HG1.out.size))
 have xx5 := zB 5 k2 rfl
 have uu0 := cell_keep HVY.out.1 hlow2 hb2
 have uu1 := cell_keep HVY.out.2.1 hlow2 hb2
 have uu2 := cell_keep HVY.out.2.2 hlow2 hb2
 have hbR : Below w2.heap.size w2 (w2.alloc (Obj.cells #[.int .i64 y.k, .int .i64 y.n, .string y.s] 44)) := bR _ _
 have HG2 : Hid (TG w w2 T tv) := HG1.out.trans HF1.out hg2
 have HF2 : Hid (Fr w tv tv2) := HF1.out.trans HG1.out.size hf2
 have HSR : Hid (TSt (w2.alloc (Obj.cells #[.int .i64 y.k, .int .i64 y.n, .string y.s] 44)) B T (.slice a h.length ca) tv2 l2) := hs2.keep hbR
 have HGR : Hid (TG w (w2.alloc (Obj.cells #[.int .i64 y.k, .int .i64 y.n, .string y.s] 44)) T tv) := HG2.out.trans HF2.out (TG.below T tv2 hbR)
 have HNR : Hid (some w2.heap.size ≠ tv2.ownBlock) := fun e => by have := (hs2.own.at e.symm).2; omega
 have HKR : Hid ((w2.alloc (Obj.cells #[.int .i64 y.k, .int .i64 y.n, .string y.s] 44)).heap[w2.heap.size]? = some (Obj.cells #[.int .i64 y.k, .int .i64 y.n, .string y.s] 44)) := blk_at _ _ _ rfl
 have HLR : Hid (Below B w (w2.alloc (Obj.cells #[.int .i64 y.k, .int .i64 y.n, .string y.s] 44))) := hlow2.trans (hbR.mono (Nat.le_trans HCX.out.le HG2.out.size))
 have HC2 : Hid (Cut (l2 ++ (ty ++ [41])) (l ++ 40 :: (tx ++ (ty ++ [41])))) := by
  show Cut _ _
  have h1 := (hc2.trans (HC1.out.append tx)).append (ty ++ [41])
  simpa using h1
 have hwR : w.heap.size ≤ w2.heap.size := HG2.out.size
 clear hs2 hc2 hg2 hf2 k2 hlow2 hne1 hne2 hneA HKA HSA hbA hBA K1 HL1 HS1 HC1 HG1 HF1 u0 u1 u2 x5 HVX HVY HTX HX HXS HG2
 go_wp2
 clear xx5 uu0 uu1 uu2
 generalize hR : w2.heap.size = R at *
 generalize w2.alloc (Obj.cells #[.int .i64 y.k, .int .i64 y.n, .string y.s] 44) = w3 at *
 go_loopw [18] (fun _ wr => ∃ (tvv : Value) (lx : List UInt8) (yy : Val) (tyy : List UInt8), TSt wr B T (.slice a h.length ca) tvv lx ∧ TG w wr T tv ∧ Fr w tv tvv ∧ some R ≠ tvv.ownBlock ∧ wr.heap[R]? = some (Obj.cells #[.int .i64 yy.k, .int .i64 yy.n, .string yy.s] 44) ∧ Below B w wr ∧ yy.ok (h.take n) = true ∧ yy.small ∧ Tel h true yy tyy ∧ Cut (lx ++ (tyy ++ [41])) (l ++ (40 :: (tx ++ (ty ++ [41])))))
  (fun _ wr => rm wr R)
 case atStart => exact ⟨tv2, l2, y, ty, HSR.out, HGR.out, HF2.out, HNR.out, HKR.out, HLR.out, HY.out, HYS.out, HTY.out, HC2.out⟩
 case round =>
  clear HSR HGR HF2 HNR HKR HLR HC2
  obtain ⟨tvv, lx, yy, tyy, hsv, hgv, hfv, hneR, hkR, hlow, hyok, hysm, hty', hcut⟩ := hrel
  obtain ⟨x0, x1, x2⟩ := zn3 hkR rfl rfl rfl
  have hRT : R ≠ T := by omega
  have HSV : Hid (TSt wr B T (.slice a h.length ca) tvv lx) := hsv
  have HGV : Hid (TG w wr T tv) := hgv
  have HFV : Hid (Fr w tv tvv) := hfv
  have HKV : Hid (wr.heap[R]? = some (Obj.cells #[.int .i64 yy.k, .int .i64 yy.n, .string yy.s] 44)) := hkR
  have HLW : Hid (Below B w wr) := hlow
  have HYO : Hid (yy.ok (h.take n) = true) := hyok
  have HYM : Hid yy.small := hysm
  have HCU : Hid (Cut (lx ++ (tyy ++ [41])) (l ++ (40 :: (tx ++ (ty ++ [41]))))) := hcut
  have HTT : Hid (Tel h true yy tyy) := hty'
  clear hsv hgv hfv hkR hlow hysm hcut hty'
  by_cases h5 : yy.k = 5
  ·obtain ⟨m, c', x', y', hm, hc', hck, hcv', hx', hy'⟩ := pair_parts HP.out (ok_of_take hyok) h5
   have hmn : m < n := by have := below_of_take hyok h5; omega
   have e5 : (yy.k == 5) = true := by simp [h5]
   obtain ⟨b, o, b3, o3, cv3, heq, hb, hb3, z5, hcv3, hvx, hvy⟩ := pair_cells (HCX.out.row.below HLW.out) hc' hcv'
   subst heq
   have hcn : h[yy.n.toNat]? = some c' := by rw [hm, Int.toNat_natCast]; exact hc'
   obtain ⟨tx', ty', htt, htx', hty''⟩ := HTT.out.more_inv h5 hcn hcv'
   have hcs' := HSM.out c' (List.mem_of_getElem? hc')
   have HXS' : Hid x'.small := hcs'.2.2.2.2.2.2.2 x' (by rw [hcv']; simp)
   have HYS' : Hid y'.small := hcs'.2.2.2.2.2.2.2 y' (by rw [hcv']; simp)
   have HX' : Hid (x'.ok (h.take n) = true) := ok_mono hx' (by omega)
   have HY' : Hid (y'.ok (h.take n) = true) := ok_mono hy' (by omega)
   have HYM' : Hid (y'.k = 5 → 0 ≤ y'.n ∧ y'.n < m) := fun hq => by obtain ⟨q, _, _, _, hq1, _⟩ := pair_parts HP.out (ok_of_take hy') hq; have := below_of_take hy' hq; omega
   have HTX' : Hid (Tel h false x' tx') := htx'
   have HTY' : Hid (Tel h true y' ty') := hty''
   have HTT' : Hid (tyy = 32 :: (tx' ++ ty')) := htt
   have HVX' : Hid (ValAt wr b3 o3 x') := hvx
   have HVY' : Hid (ValAt wr b3 (o3 + 3) y') := hvy
   have HZ5' : Hid (wr.cell? ⟨b, o + m * 6 + 5, none⟩ = some (.slice (some ⟨b3, o3, none⟩) 2 cv3)) := z5
   have HRM : Hid (rm wr R = m + 1) := by show _ = _; rw [rm_at HKV.out, if_pos h5, hm, Int.toNat_natCast]
   have j0 : (0 : Int) ≤ (m : Int) := by omega
   have j1 : (m : Int) < (h.length : Int) := by omega
   have HM : Hid (yy.n = m) := hm
   clear hyok h5 hx' hy' hc' hck hcv' hm hvx hvy z5 htx' hty'' htt hcs' hcn
   go_wp2_with fail
   refine (put_any B T _ tvv lx ⟨#[32]⟩ wr HSV.out (by decide) (Nat.le_trans HCX.out.le HGV.out.size)).mono ?_
   rintro e w4 ⟨tv4, l4, rfl, hs4, hc4, hg4, hf4⟩
   obtain ⟨k4, hne4⟩ := tfr HKV.out hRT hneR hg4 hf4
   rw [HM.out] at k4
   obtain ⟨z0, z1, z2⟩ := zn3 k4 rfl rfl rfl
   have t0 := zB 0 hs4.blk rfl
   have hlow4 : Below B wr w4 := TG.low HSV.out hg4 (Nat.le_trans HCX.out.le HGV.out.size)
   have y5 := cell_keep HZ5'.out hlow4 hb
   have u0 := cell_keep HVX'.out.1 hlow4 hb3
   have u1 := cell_keep HVX'.out.2.1 hlow4 hb3
   have u2 := cell_keep HVX'.out.2.2 hlow4 hb3
   have HG4 : Hid (TG w w4 T tv) := HGV.out.trans HFV.out hg4
   have HF4 : Hid (Fr w tv tv4) := HFV.out.trans HGV.out.size hf4
   have HL4 : Hid (Below B wr w4) := hlow4
   have HS4 : Hid (TSt w4 B T (.slice (some ⟨b, o, none⟩) h.length ca) tv4 l4) := hs4
   have HC4 : Hid (Cut l4 (lx ++ [32])) := hc4
   have K4 : Hid _ := k4
   clear hs4 hc4 hg4 hf4 k4 hlow4 x0 x1 x2
   go_wp2_with fail
   go_region_with (go_at_call 60; refine (IH.out x' tx' tv4 l4 _ HX'.out HXS'.out HTX'.out (HS4.out.drewN 1) ((HCX.out.step HDC.out (HLW.out.trans HL4.out)).step HDC.out (below_drewN (Below.refl _ _) 1))).mono ?_; rintro e w5 ⟨tv5, l5, rfl, hs5, hc5, hg5', hf5'⟩; have hg5 := TG.undrew hg5'; have hf5 : Fr w4 tv4 tv5 := hf5'; clear hg5' hf5'; obtain ⟨k5, hne5⟩ := tfr K4.out hRT hne4 hg5 hf5; have zz0 := cell_blk (j := 0) k5 rfl; have zz1 := cell_blk (j := 1) k5 rfl; have zz2 := cell_blk (j := 2) k5 rfl; have tt0 := cell_blk (j := 0) hs5.blk rfl)
   all_goals
    have hlow5 : Below B wr w5 := HL4.out.trans (TG.low HS4.out hg5 (Nat.le_trans HCX.out.le HG4.out.size))
    have f0 := frozen_blk k5 0
    have f1 := frozen_blk k5 1
    have f2 := frozen_blk k5 2
    have yy5 := cell_keep HZ5'.out hlow5 hb
    have uu0 := cell_keep HVY'.out.1 hlow5 hb3
    have uu1 := cell_keep HVY'.out.2.1 hlow5 hb3
    have uu2 := cell_keep HVY'.out.2.2 hlow5 hb3
    have HG5 : Hid (TG w w5 T tv) := HG4.out.trans HF4.out hg5
    have HF5 : Hid (Fr w tv tv5) := HF4.out.trans HG4.out.size hf5
    have HS5 : Hid (TSt w5 B T (.slice (some ⟨b, o, none⟩) h.length ca) tv5 l5) := hs5
    have K5 : Hid _ := k5
    have HL5 : Hid (Below B w w5) := HLW.out.trans hlow5
    have HC5 : Hid (Cut (l5 ++ (ty' ++ [41])) (l ++ (40 :: (tx ++ (ty ++ [41]))))) := by
     show Cut _ _
     have h1 := (hc5.trans (HC4.out.append tx')).append (ty' ++ [41])
     have h2 := HCU.out
     rw [HTT'.out] at h2
     exact h1.trans (by simpa using h2)
    clear hs5 hc5 hg5 hf5 k5 hlow5 z0 z1 z2 t0 y5 u0 u1 u2 K4 HC4 HS4
    go_wp2_with fail
    go_region
    all_goals
     go_wp2
     go_roundw
     case rel =>
      refine ⟨tv5, l5, y', ty', (((HS5.out.drewN 1).set hRT hne5 _ _).set hRT hne5 _ _).set hRT hne5 _ _, (((HG5.out.drewN 1).set hwR _ _).set hwR _ _).set hwR _ _, HF5.out, hne5, ?_, ?_, HY'.out, HYS'.out, HTY'.out, HC5.out⟩
      ·exact heap_setCell_same _ _ _ _ _ _ (heap_setCell_same _ _ _ _ _ _ (heap_setCell_same _ _ _ _ _ _ K5.out))
      ·exact (((below_drewN HL5.out 1).setCell (p := ⟨R, _, none⟩) (by have := HCX.out.le; simp; omega) _).setCell (p := ⟨R, _, none⟩) (by have := HCX.out.le; simp; omega) _).setCell (p := ⟨R, _, none⟩) (by have := HCX.out.le; simp; omega) _
     case measure =>
      rw [HRM.out]
      refine Nat.lt_of_le_of_lt (Nat.le_of_eq (rm_at (y := y') (heap_setCell_same _ _ _ _ _ _ (heap_setCell_same _ _ _ _ _ _ (heap_setCell_same _ _ _ _ _ _ K5.out))))) ?_
      split
      ·next hq => have := HYM'.out hq; omega
      ·omega
  ·have e5 : (yy.k == 5) = false := by simp [h5]
   by_cases h3 : yy.k = 3
   ·have e3 : (yy.k != 3) = false := by simp [h3]
    have HTE : Hid (tyy = []) := HTT.out.unique (.last yy h3)
    clear h3 h5 hyok
    go_wp2_with fail
    refine (put_any B T _ tvv lx ⟨#[41]⟩ wr HSV.out (by decide) (Nat.le_trans HCX.out.le HGV.out.size)).mono ?_
    rintro e w9 ⟨tv9, l9, rfl, hs9, hc9, hg9, hf9⟩
    have HQ9 : Hid (TSt w9 B T (.slice a h.length ca) tv9 l9 ∧ Cut l9 (l ++ (40 :: (tx ++ (ty ++ [41])))) ∧ TG w w9 T tv ∧ Fr w tv tv9) := ⟨hs9, hc9.trans (by have := HCU.out; rw [HTE.out] at this; simpa using this), HGV.out.trans HFV.out hg9, HFV.out.trans HGV.out.size hf9⟩
    clear hs9 hc9 hg9 hf9
    go_wp2
    go_end0
    exact ⟨tv9, l9, rfl, HQ9.out⟩
   ·have e3 : (yy.k != 3) = true := by simp [h3]
    have HTE : Hid (tyy = 32 :: 46 :: 32 :: flatT h yy) := HTT.out.unique (.dot yy h5 h3)
    have HTF : Hid (Tel h false yy (flatT h yy)) := .flat yy h5
    clear h3 h5 hyok
    go_wp2_with fail
    refine (put_any B T _ tvv lx ⟨#[32, 46, 32]⟩ wr HSV.out (by decide) (Nat.le_trans HCX.out.le HGV.out.size)).mono ?_
    rintro e w4 ⟨tv4, l4, rfl, hs4, hc4, hg4, hf4⟩
    obtain ⟨k4, hne4⟩ := tfr HKV.out hRT hneR hg4 hf4
    obtain ⟨z0, z1, z2⟩ := zn3 k4 rfl rfl rfl
    have HG4 : Hid (TG w w4 T tv) := HGV.out.trans HFV.out hg4
    have HF4 : Hid (Fr w tv tv4) := HFV.out.trans HGV.out.size hf4
    have HL4 : Hid (Below B w w4) := HLW.out.trans (TG.low HSV.out hg4 (Nat.le_trans HCX.out.le HGV.out.size))
    have HS4 : Hid (TSt w4 B T (.slice a h.length ca) tv4 l4) := hs4
    have HC4 : Hid (Cut l4 (lx ++ [32, 46, 32])) := hc4
    clear hs4 hc4 hg4 hf4 k4 hne4 x0 x1 x2
    go_wp2_with fail
    refine (IH.out yy (flatT h yy) tv4 l4 w4 HYO.out HYM.out HTF.out HS4.out (HCX.out.step HDC.out HL4.out)).mono ?_
    rintro e w5 ⟨tv5, l5, rfl, hs5, hc5, hg5, hf5⟩
    have HG5 : Hid (TG w w5 T tv) := HG4.out.trans HF4.out hg5
    have HF5 : Hid (Fr w tv tv5) := HF4.out.trans HG4.out.size hf5
    have HS5 : Hid (TSt w5 B T (.slice a h.length ca) tv5 l5) := hs5
    have HC5 : Hid (Cut (l5 ++ [41]) (l ++ (40 :: (tx ++ (ty ++ [41]))))) := by show Cut _ _; have h1 := (hc5.trans (HC4.out.append (flatT h yy))).append [41]; have h2 := HCU.out; rw [HTE.out] at h2; exact h1.trans (by simpa using h2)
    clear hs5 hc5 hg5 hf5 z0 z1 z2
    go_wp2_with fail
    refine (put_any B T _ tv5 l5 ⟨#[41]⟩ w5 HS5.out (by decide) (Nat.le_trans HCX.out.le HG5.out.size)).mono ?_
    rintro e w9 ⟨tv9, l9, rfl, hs9, hc9, hg9, hf9⟩
    have HQ9 : Hid (TSt w9 B T (.slice a h.length ca) tv9 l9 ∧ Cut l9 (l ++ (40 :: (tx ++ (ty ++ [41])))) ∧ TG w w9 T tv ∧ Fr w tv tv9) := ⟨hs9, hc9.trans HC5.out, HG5.out.trans HF5.out hg9, HF5.out.trans HG5.out.size hf9⟩
    clear hs9 hc9 hg9 hf9
    go_wp2
    go_end0
    exact ⟨tv9, l9, rfl, HQ9.out⟩
end Go.Proofs.YtlacidojljilaaaGreatDoor
