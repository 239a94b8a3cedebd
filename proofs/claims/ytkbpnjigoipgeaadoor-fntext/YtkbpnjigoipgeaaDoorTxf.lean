/- The program's teller: a value that is no pair. -/
import Derived.Test.YtkbpnjigoipgeaaDoorTxe
set_option linter.unusedVariables false
namespace Go.Proofs.YtkbpnjigoipgeaaDoor
open Go.ChangeShapes Go.WideShapes Go.ChangeAt Go.RowKit
theorem TG.below {w w' : World} (T : Nat) (tv : Value) (h : Below w.heap.size w w') : TG w w' T tv := ⟨h.os, h.tape, h.output, h.size, fun b hb _ _ => h.block b hb⟩
theorem TG.trans {w w1 w2 : World} {T : Nat} {tv tv1 : Value} (h : TG w w1 T tv) (hf : Fr w tv tv1) (g : TG w1 w2 T tv1) : TG w w2 T tv := by
  refine ⟨g.os.trans h.os, g.tape.trans h.tape, g.output.trans h.output, Nat.le_trans h.size g.size, fun b hb h1 h2 => ?_⟩
  refine (g.block b (Nat.lt_of_lt_of_le hb h.size) h1 fun e => ?_).trans (h.block b hb h1 h2)
  rcases hf with hf | hf
  · rw [hf] at e; exact h2 e
  · have := hf b e.symm
    omega
theorem Fr.refl (w : World) (tv : Value) : Fr w tv tv := .inl rfl
theorem Fr.trans {w w1 : World} {tv tv1 tv2 : Value} (h : Fr w tv tv1) (hs : w.heap.size ≤ w1.heap.size) (g : Fr w1 tv1 tv2) : Fr w tv tv2 := by
  rcases g with e | g
  · unfold Fr; rw [e]; exact h
  · exact .inr fun k hk => Nat.le_trans hs (g k hk)
theorem TSt.keep {w w' : World} {B T : Nat} {hv tv : Value} {l : List UInt8} (h : TSt w B T hv tv l) (hb : Below w.heap.size w w') : TSt w' B T hv tv l :=
  ⟨(hb.block T (Array.getElem?_eq_some_iff.1 h.blk).1).trans h.blk, h.own.keep hb, h.ne, h.le, h.low⟩
theorem TG.low {w w' : World} {B T : Nat} {hv tv : Value} {l : List UInt8} (h : TSt w B T hv tv l) (hg : TG w w' T tv) (hB : B ≤ w.heap.size) : Below B w w' :=
  ⟨hg.os, hg.tape, hg.output, hg.size, fun b hb => hg.block b (Nat.lt_of_lt_of_le hb hB) (by have := h.low; omega) fun e => by have := (h.own.at e.symm).1; omega⟩
/-- A frame's own block is not touched by the teller. -/
theorem tfr {W W' : World} {T : Nat} {tv tv' : Value} {b : Nat} {o : Obj} (hb : W.heap[b]? = some o) (hT : b ≠ T) (hne : some b ≠ tv.ownBlock) (hg : TG W W' T tv) (hn : Fr W tv tv') : W'.heap[b]? = some o ∧ some b ≠ tv'.ownBlock := by
  have hlt := (Array.getElem?_eq_some_iff.1 hb).1
  refine ⟨(hg.block b hlt hT hne).trans hb, ?_⟩
  rcases hn with e | h
  · rw [e]; exact hne
  · intro e
    have := h b e.symm
    omega
theorem TPost.after {B T : Nat} {hv tv : Value} {l t : List UInt8} {w w1 : World} {e : Ending} {w' : World} (hb : Below w.heap.size w w1) (h : TPost B T hv tv l t w1 e w') : TPost B T hv tv l t w e w' := by
  obtain ⟨tv', l', h1, h2, h3, h4, h5⟩ := h
  exact ⟨tv', l', h1, h2, h3, (TG.below T tv hb).trans (Fr.refl _ _) h4, (Fr.refl w tv).trans hb.size h5⟩
/-- What the teller needs of memory: the heap that it tells of, and the library's table. -/
structure CX (D : World → Prop) (B : Nat) (a : Option Addr) (h : List Cel) (w : World) : Prop where
  row : RowC w B a h
  tab : D w
  le : B ≤ w.heap.size
/-- What Dec asks for and does. -/
structure DecC (D : World → Prop) (B : Nat) : Prop where
  keep : ∀ w w' : World, D w → Below B w w' → D w'
  dec : ∀ (n : Int) (w : World), i64B n → D w → Calls Tryd.prog 47 #[.int .i64 n] w fun e w' => e = .returned (.string ⟨(decL n).toArray⟩) ∧ Below w.heap.size w w'
theorem CX.step {D : World → Prop} {B : Nat} {a : Option Addr} {h : List Cel} {w w' : World} (hx : CX D B a h w) (hd : DecC D B) (hb : Below B w w') : CX D B a h w' :=
  ⟨hx.row.below hb, hd.keep w w' hx.tab hb, Nat.le_trans hx.le hb.size⟩
set_option maxRecDepth 100000 in
set_option maxHeartbeats 4000000 in
theorem value_flat (D : World → Prop) (B T : Nat) (hdc : DecC D B) (a : Option Addr) (h : List Cel) (ca : Nat) (d : Val) (tv : Value) (l : List UInt8) (w : World) (hh : h.length ≤ 1048576) (hsm : ∀ c ∈ h, c.small) (hd : d.small) (hok : d.ok h = true) (hk : d.k ≠ 5) (hst : TSt w B T (.slice a h.length ca) tv l) (hx : CX D B a h w) (hl : l.length < 100000) :
    Calls Tryd.prog 34 #[.pointer (some ⟨T, 0, none⟩), .agg #[.int .i64 d.k, .int .i64 d.n, .string d.s]] w fun e w' => TPost B T (.slice a h.length ca) tv l (flatT h d) w e w' := by
  have hbA : Below w.heap.size w (w.alloc (Obj.cells #[.int .i64 d.k, .int .i64 d.n, .string d.s] 26)) := (Below.refl _ _).alloc (Nat.le_refl _) _
  have HRM : Hid (Calls Tryd.prog 45 #[.pointer (some ⟨T, 0, none⟩)] (w.alloc (Obj.cells #[.int .i64 d.k, .int .i64 d.n, .string d.s] 26)) fun e w' => e = .returned (.int .i64 (100000 - (l.length : Int))) ∧ w' = (w.alloc (Obj.cells #[.int .i64 d.k, .int .i64 d.n, .string d.s] 26))) := room_any B T _ tv l _ (hst.keep hbA)
  have HIN : Hid (∀ w, Calls Tryd.prog 32 #[.agg #[.int .i64 d.k, .int .i64 d.n, .string d.s]] w fun e w' => Ans w (inV d) e w') := fun w => innerOf_any d w
  have HPU : Hid (∀ (s : ByteArray) (w1 : World), s.size ≤ 1048576 → Below w.heap.size w w1 → Calls Tryd.prog 46 #[.pointer (some ⟨T, 0, none⟩), .string s] w1 fun e w' => TPost B T (.slice a h.length ca) tv l s.data.toList w1 e w') := fun s w1 hs hb => put_any B T _ tv l s w1 (hst.keep hb) hs (Nat.le_trans hx.le hb.size)
  have g0 : ((100000 : Int) - (l.length : Int) == 0) = false := by rw [beq_eq_false_iff_ne]; omega
  have HST : Hid (TSt w B T (.slice a h.length ca) tv l) := hst
  have HX : Hid (CX D B a h w) := hx
  clear hst hx
  obtain ⟨k, n, s⟩ := d
  obtain ⟨d1, d2, d3⟩ := hd
  simp only at *
  by_cases h3 : k = 3
  · subst h3
    have hs0 : s.size = 0 := by
      by_cases hq : s.size = 0
      · exact hq
      · rw [vokS (by simp) hq] at hok; cases hok
    obtain rfl := size_zero hs0
    rw [vok3 rfl rfl] at hok
    obtain rfl : n = 0 := by simpa using hok
    rw [inV3] at HIN
    have HT : Hid (flatT h ⟨3, 0, ⟨#[]⟩⟩ = [40, 41]) := rfl
    rw [HT.out]
    clear hok hs0
    have ta64 : ∀ w, (Instr.typeAssert (.iface 69 (.agg #[])) 55 70 true).run Tryd.prog w = .ok (.tuple #[.int .i64 0, .bool false]) w := fun _ => by kernel_rfl
    have ta67 : ∀ w, (Instr.typeAssert (.iface 69 (.agg #[])) 55 71 true).run Tryd.prog w = .ok (.tuple #[.int .i64 0, .bool false]) w := fun _ => by kernel_rfl
    have ta69 : ∀ w, (Instr.typeAssert (.iface 69 (.agg #[])) 55 69 true).run Tryd.prog w = .ok (.tuple #[.agg #[], .bool true]) w := fun _ => by kernel_rfl
    go_enter Tryd.func34, Tryd.ntmps34
    go_wp2_with (first | (go_at_call 45; refine HRM.out.mono ?_; rintro e w1 ⟨rfl, rfl⟩) | (go_at_call 32; refine (HIN.out _).mono ?_; rintro e w1 ⟨rfl, hb1⟩; have hb2 := hbA.trans (hb1.mono hbA.size)) | (go_at_call 46; refine (HPU.out _ _ (by decide) (hb2.alloc hb2.size _)).mono ?_; rintro e w2 ⟨tv2, l2, rfl, hp1, hp2, hp3, hp4⟩; have HP1 : Hid (TSt w2 B T (.slice a h.length ca) tv2 l2) := hp1; have HP3 : Hid (TG w w2 T tv) := (TG.below T tv (hb2.alloc hb2.size _)).trans (Fr.refl _ _) hp3; have HP4 : Hid (Fr w tv tv2) := (Fr.refl w tv).trans (Below.size (hb2.alloc hb2.size _)) hp4; clear hp1 hp3 hp4))
    go_end0
    exact ⟨tv2, l2, rfl, HP1.out, hp2, HP3.out, HP4.out⟩
  by_cases h6 : k = 6
  · subst h6
    have hs0 : s.size = 0 := by
      by_cases hq : s.size = 0
      · exact hq
      · rw [vokS (by simp) hq] at hok; cases hok
    obtain rfl := size_zero hs0
    rw [inV6] at HIN
    have HT : Hid (flatT h ⟨6, n, ⟨#[]⟩⟩ = [102, 110]) := rfl
    rw [HT.out]
    clear hok hs0
    have ta64 : ∀ w, (Instr.typeAssert (.iface 73 (.int .i64 n)) 55 70 true).run Tryd.prog w = .ok (.tuple #[.int .i64 0, .bool false]) w := fun _ => by kernel_rfl
    have ta67 : ∀ w, (Instr.typeAssert (.iface 73 (.int .i64 n)) 55 71 true).run Tryd.prog w = .ok (.tuple #[.int .i64 0, .bool false]) w := fun _ => by kernel_rfl
    have ta69 : ∀ w, (Instr.typeAssert (.iface 73 (.int .i64 n)) 55 69 true).run Tryd.prog w = .ok (.tuple #[.agg #[], .bool false]) w := fun _ => by kernel_rfl
    have ta70 : ∀ w, (Instr.typeAssert (.iface 73 (.int .i64 n)) 55 67 true).run Tryd.prog w = .ok (.tuple #[.string ⟨#[]⟩, .bool false]) w := fun _ => by kernel_rfl
    have ta71 : ∀ w, (Instr.typeAssert (.iface 73 (.int .i64 n)) 55 72 true).run Tryd.prog w = .ok (.tuple #[.int .i64 0, .bool false]) w := fun _ => by kernel_rfl
    have ta73 : ∀ w, (Instr.typeAssert (.iface 73 (.int .i64 n)) 55 73 true).run Tryd.prog w = .ok (.tuple #[.int .i64 n, .bool true]) w := fun _ => by kernel_rfl
    go_enter Tryd.func34, Tryd.ntmps34
    go_wp2_with (first | (go_at_call 45; refine HRM.out.mono ?_; rintro e w1 ⟨rfl, rfl⟩) | (go_at_call 32; refine (HIN.out _).mono ?_; rintro e w1 ⟨rfl, hb1⟩; have hb2 := hbA.trans (hb1.mono hbA.size)) | (go_at_call 46; refine (HPU.out _ _ (by decide) (hb2)).mono ?_; rintro e w2 ⟨tv2, l2, rfl, hp1, hp2, hp3, hp4⟩; have HP1 : Hid (TSt w2 B T (.slice a h.length ca) tv2 l2) := hp1; have HP3 : Hid (TG w w2 T tv) := (TG.below T tv (hb2)).trans (Fr.refl _ _) hp3; have HP4 : Hid (Fr w tv tv2) := (Fr.refl w tv).trans (Below.size (hb2)) hp4; clear hp1 hp3 hp4))
    go_end0
    exact ⟨tv2, l2, rfl, HP1.out, hp2, HP3.out, HP4.out⟩
  by_cases h2 : k = 2
  · subst h2
    have hs0 : s.size = 0 := by
      by_cases hq : s.size = 0
      · exact hq
      · rw [vokS (by simp) hq] at hok; cases hok
    obtain rfl := size_zero hs0
    rw [inV2] at HIN
    clear hok hs0
    have ta64 : ∀ w, (Instr.typeAssert (.iface 71 (.int .i64 n)) 55 70 true).run Tryd.prog w = .ok (.tuple #[.int .i64 0, .bool false]) w := fun _ => by kernel_rfl
    have ta67 : ∀ w, (Instr.typeAssert (.iface 71 (.int .i64 n)) 55 71 true).run Tryd.prog w = .ok (.tuple #[.int .i64 n, .bool true]) w := fun _ => by kernel_rfl
    by_cases h1 : n = 1
    · subst h1
      have HT : Hid (flatT h ⟨2, 1, ⟨#[]⟩⟩ = [35, 116]) := rfl
      rw [HT.out]
      go_enter Tryd.func34, Tryd.ntmps34
      go_wp2_with (first | (go_at_call 45; refine HRM.out.mono ?_; rintro e w1 ⟨rfl, rfl⟩) | (go_at_call 32; refine (HIN.out _).mono ?_; rintro e w1 ⟨rfl, hb1⟩; have hb2 := hbA.trans (hb1.mono hbA.size)) | (go_at_call 46; refine (HPU.out _ _ (by decide) (hb2)).mono ?_; rintro e w2 ⟨tv2, l2, rfl, hp1, hp2, hp3, hp4⟩; have HP1 : Hid (TSt w2 B T (.slice a h.length ca) tv2 l2) := hp1; have HP3 : Hid (TG w w2 T tv) := (TG.below T tv (hb2)).trans (Fr.refl _ _) hp3; have HP4 : Hid (Fr w tv tv2) := (Fr.refl w tv).trans (Below.size (hb2)) hp4; clear hp1 hp3 hp4))
      go_end0
      exact ⟨tv2, l2, rfl, HP1.out, hp2, HP3.out, HP4.out⟩
    · have HT : Hid (flatT h ⟨2, n, ⟨#[]⟩⟩ = [35, 102]) := by show _ = _; unfold flatT; simp [h1]
      rw [HT.out]
      have e1 : (n == 1) = false := by simp [h1]
      go_enter Tryd.func34, Tryd.ntmps34
      go_wp2_with (first | (go_at_call 45; refine HRM.out.mono ?_; rintro e w1 ⟨rfl, rfl⟩) | (go_at_call 32; refine (HIN.out _).mono ?_; rintro e w1 ⟨rfl, hb1⟩; have hb2 := hbA.trans (hb1.mono hbA.size)) | (go_at_call 46; refine (HPU.out _ _ (by decide) (hb2)).mono ?_; rintro e w2 ⟨tv2, l2, rfl, hp1, hp2, hp3, hp4⟩; have HP1 : Hid (TSt w2 B T (.slice a h.length ca) tv2 l2) := hp1; have HP3 : Hid (TG w w2 T tv) := (TG.below T tv (hb2)).trans (Fr.refl _ _) hp3; have HP4 : Hid (Fr w tv tv2) := (Fr.refl w tv).trans (Below.size (hb2)) hp4; clear hp1 hp3 hp4))
      go_end0
      exact ⟨tv2, l2, rfl, HP1.out, hp2, HP3.out, HP4.out⟩
  by_cases h4 : k = 4
  · subst h4
    have HT : Hid (flatT h ⟨4, n, s⟩ = s.data.toList) := rfl
    rw [HT.out]
    rw [vok4 rfl, Bool.and_eq_true] at hok
    obtain rfl : n = 0 := by simpa using hok.1
    rw [inV4] at HIN
    clear hok
    have ta64 : ∀ w, (Instr.typeAssert (.iface 67 (.string s)) 55 70 true).run Tryd.prog w = .ok (.tuple #[.int .i64 0, .bool false]) w := fun _ => by kernel_rfl
    have ta67 : ∀ w, (Instr.typeAssert (.iface 67 (.string s)) 55 71 true).run Tryd.prog w = .ok (.tuple #[.int .i64 0, .bool false]) w := fun _ => by kernel_rfl
    have ta69 : ∀ w, (Instr.typeAssert (.iface 67 (.string s)) 55 69 true).run Tryd.prog w = .ok (.tuple #[.agg #[], .bool false]) w := fun _ => by kernel_rfl
    have ta70 : ∀ w, (Instr.typeAssert (.iface 67 (.string s)) 55 67 true).run Tryd.prog w = .ok (.tuple #[.string s, .bool true]) w := fun _ => by kernel_rfl
    go_enter Tryd.func34, Tryd.ntmps34
    go_wp2_with (first | (go_at_call 45; refine HRM.out.mono ?_; rintro e w1 ⟨rfl, rfl⟩) | (go_at_call 32; refine (HIN.out _).mono ?_; rintro e w1 ⟨rfl, hb1⟩; have hb2 := hbA.trans (hb1.mono hbA.size)) | (go_at_call 46; refine (HPU.out _ _ d3 (hb2)).mono ?_; rintro e w2 ⟨tv2, l2, rfl, hp1, hp2, hp3, hp4⟩; have HP1 : Hid (TSt w2 B T (.slice a h.length ca) tv2 l2) := hp1; have HP3 : Hid (TG w w2 T tv) := (TG.below T tv (hb2)).trans (Fr.refl _ _) hp3; have HP4 : Hid (Fr w tv tv2) := (Fr.refl w tv).trans (Below.size (hb2)) hp4; clear hp1 hp3 hp4))
    go_end0
    exact ⟨tv2, l2, rfl, HP1.out, hp2, HP3.out, HP4.out⟩
  by_cases h1 : k = 1
  · subst h1
    have hs0 : s.size = 0 := by
      by_cases hq : s.size = 0
      · exact hq
      · rw [vokS (by simp) hq] at hok; cases hok
    obtain rfl := size_zero hs0
    rw [inV1] at HIN
    have HT : Hid (flatT h ⟨1, n, ⟨#[]⟩⟩ = decL n) := rfl
    rw [HT.out]
    have hn := hok
    rw [vok1 rfl rfl] at hn
    simp only [Bool.and_eq_true, decide_eq_true_eq] at hn
    have hdl := (of_dec n (by omega) (by omega)).1
    have hdl' : (⟨(decL n).toArray⟩ : ByteArray).size ≤ 1048576 := by show (decL n).toArray.size ≤ _; simp; omega
    have HDE : Hid (∀ w1, Below w.heap.size w w1 → Calls Tryd.prog 47 #[.int .i64 n] w1 fun e w' => e = .returned (.string ⟨(decL n).toArray⟩) ∧ Below w1.heap.size w1 w') := fun w1 hb => hdc.dec n w1 d2 (hdc.keep w w1 HX.out.tab (hb.mono HX.out.le))
    clear hok hs0 hn
    have ta64 : ∀ w, (Instr.typeAssert (.iface 70 (.int .i64 n)) 55 70 true).run Tryd.prog w = .ok (.tuple #[.int .i64 n, .bool true]) w := fun _ => by kernel_rfl
    go_enter Tryd.func34, Tryd.ntmps34
    go_wp2_with (first | (go_at_call 45; refine HRM.out.mono ?_; rintro e w1 ⟨rfl, rfl⟩) | (go_at_call 32; refine (HIN.out _).mono ?_; rintro e w1 ⟨rfl, hb1⟩; have hb2 := hbA.trans (hb1.mono hbA.size)) | (go_at_call 47; refine (HDE.out _ hb2).mono ?_; rintro e w3 ⟨rfl, hb3⟩; have hb4 := hb2.trans (hb3.mono hb2.size)) | (go_at_call 46; refine (HPU.out _ _ hdl' (hb4)).mono ?_; rintro e w2 ⟨tv2, l2, rfl, hp1, hp2, hp3, hp4⟩; have HP1 : Hid (TSt w2 B T (.slice a h.length ca) tv2 l2) := hp1; have HP3 : Hid (TG w w2 T tv) := (TG.below T tv (hb4)).trans (Fr.refl _ _) hp3; have HP4 : Hid (Fr w tv tv2) := (Fr.refl w tv).trans (Below.size (hb4)) hp4; clear hp1 hp3 hp4))
    go_end0
    exact ⟨tv2, l2, rfl, HP1.out, hp2, HP3.out, HP4.out⟩
  by_cases h7 : k = 7
  · subst h7
    have hs0 : s.size = 0 := by
      by_cases hq : s.size = 0
      · exact hq
      · rw [vokS (by simp) hq] at hok; cases hok
    obtain rfl := size_zero hs0
    rw [inV7] at HIN
    rw [vok7 rfl rfl] at hok
    unfold cellB at hok
    simp only [Bool.and_eq_true, decide_eq_true_eq, beq_iff_eq] at hok
    obtain ⟨hn0, hn1⟩ := hok
    obtain ⟨m, rfl⟩ : ∃ m : Nat, n = m := ⟨n.toNat, by omega⟩
    rw [Int.toNat_natCast] at hn1
    cases hc : h[m]? with
    | none => rw [hc] at hn1; cases hn1
    | some c =>
      have HT : Hid (flatT h ⟨7, (m : Int), ⟨#[]⟩⟩ = [35] ++ c.s.data.toList) := by show _ = _; unfold flatT; simp [hc]
      rw [HT.out]
      have hml : m < h.length := (List.getElem?_eq_some_iff.1 hc).1
      have hcs : c.s.size ≤ 1048576 := (hsm c (List.mem_of_getElem? hc)).2.2.2.1
      obtain ⟨b1, o1, rfl, hbb, an, cn, av, cv, c0, c1, _⟩ := HX.out.row m c hc
      have i0 : (0 : Int) ≤ (m : Int) := by omega
      have i1 : (m : Int) < (h.length : Int) := by omega
      have HC1 : Hid (w.cell? ⟨b1, o1 + m * 6 + 1, none⟩ = some (.string c.s)) := c1
      clear hn1 hc hs0 hsm c0 c1
      have ta64 : ∀ w, (Instr.typeAssert (.iface 74 (.int .i64 (m : Int))) 55 70 true).run Tryd.prog w = .ok (.tuple #[.int .i64 0, .bool false]) w := fun _ => by kernel_rfl
      have ta67 : ∀ w, (Instr.typeAssert (.iface 74 (.int .i64 (m : Int))) 55 71 true).run Tryd.prog w = .ok (.tuple #[.int .i64 0, .bool false]) w := fun _ => by kernel_rfl
      have ta69 : ∀ w, (Instr.typeAssert (.iface 74 (.int .i64 (m : Int))) 55 69 true).run Tryd.prog w = .ok (.tuple #[.agg #[], .bool false]) w := fun _ => by kernel_rfl
      have ta70 : ∀ w, (Instr.typeAssert (.iface 74 (.int .i64 (m : Int))) 55 67 true).run Tryd.prog w = .ok (.tuple #[.string ⟨#[]⟩, .bool false]) w := fun _ => by kernel_rfl
      have ta71 : ∀ w, (Instr.typeAssert (.iface 74 (.int .i64 (m : Int))) 55 72 true).run Tryd.prog w = .ok (.tuple #[.int .i64 0, .bool false]) w := fun _ => by kernel_rfl
      have ta73 : ∀ w, (Instr.typeAssert (.iface 74 (.int .i64 (m : Int))) 55 73 true).run Tryd.prog w = .ok (.tuple #[.int .i64 0, .bool false]) w := fun _ => by kernel_rfl
      have ta74 : ∀ w, (Instr.typeAssert (.iface 74 (.int .i64 (m : Int))) 55 74 true).run Tryd.prog w = .ok (.tuple #[.int .i64 (m : Int), .bool true]) w := fun _ => by kernel_rfl
      go_enter Tryd.func34, Tryd.ntmps34
      go_wp2_with (first | (go_at_call 45; refine HRM.out.mono ?_; rintro e w1 ⟨rfl, rfl⟩) | (go_at_call 32; refine (HIN.out _).mono ?_; rintro e w1 ⟨rfl, hb1⟩; have hb2 := hbA.trans (hb1.mono hbA.size)))
      refine (HPU.out _ _ (by decide) hb2).mono ?_
      rintro e w2 ⟨tv2, l2, rfl, hp1, hp2, hp3, hp4⟩
      have hlow2 : Below B w w2 := (hb2.mono HX.out.le).trans (TG.low (HST.out.keep hb2) hp3 (Nat.le_trans HX.out.le hb2.size))
      have y1 := cell_keep HC1.out hlow2 hbb
      have t0 := cell_blk (j := 0) hp1.blk rfl
      have HP1 : Hid (TSt w2 B T (.slice (some ⟨b1, o1, none⟩) h.length ca) tv2 l2) := hp1
      have HP3 : Hid (TG w w2 T tv) := (TG.below T tv hb2).trans (Fr.refl _ _) hp3
      have HP4 : Hid (Fr w tv tv2) := (Fr.refl w tv).trans hb2.size hp4
      have HP2 : Hid (Cut l2 (l ++ [35])) := hp2
      have hB2 : B ≤ w2.heap.size := Nat.le_trans HX.out.le HP3.out.size
      clear hp1 hp2 hp3 hp4 ta64 ta67 ta69 ta70 ta71 ta73 ta74
      go_wp2_with fail
      refine (put_any B T _ tv2 l2 c.s w2 HP1.out hcs hB2).mono ?_
      rintro e w3 ⟨tv3, l3, rfl, hq1, hq2, hq3, hq4⟩
      have HQ : Hid (TPost B T (.slice (some ⟨b1, o1, none⟩) h.length ca) tv l ([35] ++ c.s.data.toList) w (.returned (.tuple #[])) w3) := ⟨tv3, l3, rfl, hq1, hq2.trans (by rw [← List.append_assoc]; exact HP2.out.append _), HP3.out.trans HP4.out hq3, HP4.out.trans HP3.out.size hq4⟩
      clear hq1 hq2 hq3 hq4
      go_wp2
      go_end0
      first | exact HQ.out | exact ⟨tv3, l3, rfl, by have := HQ.out; trivial⟩
  · rw [vok0 h1 h2 h3 h4 hk h6 h7] at hok
    cases hok
end Go.Proofs.YtkbpnjigoipgeaaDoor
