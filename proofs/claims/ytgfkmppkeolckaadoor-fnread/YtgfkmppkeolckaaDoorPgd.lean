/- The program's reader: what a quote begins. -/
import Derived.Test.YtgfkmppkeolckaaDoorPgc
import Derived.Test.YtgfkmppkeolckaaDoorPrq
set_option linter.unusedVariables false
namespace Go.Proofs.YtgfkmppkeolckaaDoor
open Go.ChangeShapes Go.WideShapes Go.ChangeAt Go.RowKit
theorem prS_snd (cs : List Dat) (ps : List Int) (k : Nat) : (prS cs ps ((cs.length : Int) - 1) k).2 = ((prS cs ps ((cs.length : Int) - 1) k).1.length : Int) - 1 := by
  cases k with
  | zero => rfl
  | succ k => simp [prS]
theorem pairs_rs (R B : Nat) (t : ByteArray) (deep : Nat) (st : St) (a : Option Addr) (cap : Nat) (ps : List Int) (w : World) (hB : B ≤ R) (hps : ps.length ≤ 33554432) (hpt : PartsAt w w.heap.size a ps) (h : RS R B t deep st w) :
    Calls Tryd.prog 76 #[.pointer (some ⟨R, 0, none⟩), .slice a ps.length cap, .int .i64 ((st.cs.length : Int) - 1)] w fun e w' => PgPost R B t deep (prsP st ps) w e w' := by
  have hRl := h.lt
  obtain ⟨h1, h2, v, h3, h4⟩ := h
  refine (pairs_any R B t st.la st.nx deep v st.cs a cap ps _ w h3 h4 h2 hB hps hpt (by omega)).mono ?_
  have hl := prS_length st.cs ps ((st.cs.length : Int) - 1) ps.length
  rintro e w' (⟨a1, a2, v', a3, a4, a5, a6⟩ | ⟨a1, a2, a3⟩)
  · refine .inl ⟨⟨st.nx, st.la, (prS st.cs ps ((st.cs.length : Int) - 1) ps.length).1⟩, by rw [prsP, if_pos a1], ?_, ⟨h1, by simp only; omega, v', a3, a4⟩, a5, a6⟩
    rw [a2, prS_snd]; rfl
  · exact .inr ⟨st.la, by rw [prsP, if_neg (by omega)], a2, a3⟩
theorem datP_none (t : ByteArray) (f deep b : Nat) (cs : List Dat) (hf : 1 ≤ f) (h : tkE t b = b) : datP t f deep b cs = .error b := by
  obtain ⟨g, rfl⟩ : ∃ g, f = g + 1 := ⟨f - 1, by omega⟩
  rw [datP_succ, if_pos h]
/-- What the program's datum is to tell, with fuel f. -/
def DatQ (R B : Nat) (t : ByteArray) (f deep : Nat) : Prop :=
  ∀ (b : Nat) (cs : List Dat) (w : World), b ≤ t.size → (b = t.size ∨ tkE t b ≠ b) → 2 * (t.size - b) + 1 ≤ f → RS R B t deep ⟨tkE t b, b, cs⟩ w →
    Calls Tryd.prog 26 #[.pointer (some ⟨R, 0, none⟩), .string (tk t b)] w fun e w' => PgPost R B t deep (datP t f deep b cs) w e w'
theorem RS.down {R B : Nat} {t : ByteArray} {deep : Nat} {st : St} {W : World} (h : RS R B t (deep + 1) st W) : RS R B t deep st (W.setCell ⟨R, 3, none⟩ (.int .i64 (deep : Int))) := by
  obtain ⟨h1, h2, v, h3, h4⟩ := h
  exact RS.token (st := st) h2 h3 h4 (heap_setCell_same _ _ _ _ _ _ h3) (grownBy_set (grownBy_refl' W _)) h1
set_option maxRecDepth 100000 in
set_option maxHeartbeats 1000000 in
theorem quoted_any (R B : Nat) (t : ByteArray) (f deep : Nat) (st : St) (w : World) (hs : t.size ≤ 33554432) (hB : B ≤ R) (hd : deep ≤ 24) (hf : 2 * (t.size - st.nx) + 1 ≤ f) (IH : ∀ deep, deep ≤ 24 → DatQ R B t f deep) (h : RS R B t deep st w) :
    Calls Tryd.prog 55 #[.pointer (some ⟨R, 0, none⟩)] w fun e w' => PgPost R B t deep (if 24 ≤ deep then .error st.la else (putP st quoD).bind fun st1 => (datP t f (deep + 1) (skAt t st1.nx) st1.cs).bind fun st2 => (putP st2 nilD).bind fun st3 => prsP st3 [st1.top, st2.top]) w e w' := by
  have HF : Hid (RS R B t deep st w) := h
  have hRl := h.lt
  by_cases h24 : 24 ≤ deep
  · obtain rfl : deep = 24 := by omega
    rw [if_pos (by omega)]
    clear h
    go_enter Tryd.func55, Tryd.ntmps55
    go_wp2_with fail
    refine (open_full R B t st w HF.out).mono ?_
    rintro e w1 ⟨rfl, rfl⟩
    simp only [bad]
    go_wp2
    exact ⟨rfl, .inr ⟨_, rfl, rfl, Below.refl _ _⟩⟩
  · rw [if_neg h24]
    clear h
    obtain ⟨L, hL⟩ : ∃ L, L = ((putP st quoD).bind fun st1 => (datP t f (deep + 1) (skAt t st1.nx) st1.cs).bind fun st2 => (putP st2 nilD).bind fun st3 => prsP st3 [st1.top, st2.top]) := ⟨_, rfl⟩
    rw [← hL]
    have HL : Hid (L = ((putP st quoD).bind fun st1 => (datP t f (deep + 1) (skAt t st1.nx) st1.cs).bind fun st2 => (putP st2 nilD).bind fun st3 => prsP st3 [st1.top, st2.top])) := hL
    clear hL
    go_enter Tryd.func55, Tryd.ntmps55
    go_wp2_with fail
    refine (open_ok R B t deep st w hB (by omega) HF.out).mono ?_
    rintro e w1 ⟨rfl, h1, hb1, hk1⟩
    have H1 : Hid (RS R B t (deep + 1) st w1) := h1
    have HB1 : Hid (Below B w w1) := hb1
    have HK1 : Hid (Lib.OthersKept 67 (some R) w w1) := hk1
    clear h1 hb1 hk1
    go_wp2_with fail
    refine (add_any R B t (deep + 1) st quoD w1 hB H1.out).mono ?_
    rintro e w2 (⟨st1, a1, rfl, a3, a4, a5⟩ | ⟨p, a1, rfl, a3⟩)
    · have HL1 : Hid (L = ((datP t f (deep + 1) (skAt t st1.nx) st1.cs).bind fun st2 => (putP st2 nilD).bind fun st3 => prsP st3 [st1.top, st2.top])) := by
        have := HL.out
        rw [a1] at this
        exact this
      have H2 : Hid (RS R B t (deep + 1) st1 w2) := a3
      have HB2 : Hid (Below B w w2) := HB1.out.trans a4
      have HK2 : Hid (Lib.OthersKept 67 (some R) w w2) := HK1.out.trans a5
      have HX : Hid (st1.nx = st.nx) := putP_nx a1
      obtain ⟨x1, hx1⟩ : ∃ x1, x1 = st1.top := ⟨_, rfl⟩
      rw [← hx1]
      have HX1 : Hid (x1 = st1.top) := hx1
      clear a1 a3 a4 a5 H1 HB1 HK1 HL hx1
      go_wp2_with fail
      refine (token_rs R B t (deep + 1) st1 w2 hs hB H2.out).mono ?_
      have hsk : st1.nx ≤ skAt t st1.nx := skAt_ge _ _
      have hskl : skAt t st1.nx ≤ t.size := skAt_le _ _ H2.out.1
      have hf2 : 2 * (t.size - skAt t st1.nx) + 1 ≤ f := by have := HX.out; omega
      rintro e w3 (⟨b1, b2, rfl, b4⟩ | ⟨b1, rfl, b3, b4, b5⟩)
      · have HL2 : Hid (L = .error (skAt t st1.nx)) := by
          have := HL1.out
          rw [datP_none t f _ _ _ (by omega) b1] at this
          exact this
        have HB3 : Hid (Below B w w3) := HB2.out.trans b4
        clear b1 b2 b4
        simp only [bad]
        go_wp2
        exact ⟨rfl, .inr ⟨_, HL2.out, rfl, HB3.out⟩⟩
      · have HC : Hid (Calls Tryd.prog 26 #[.pointer (some ⟨R, 0, none⟩), .string (tk t (skAt t st1.nx))] w3 fun e w' => PgPost R B t (deep + 1) (datP t f (deep + 1) (skAt t st1.nx) st1.cs) w3 e w') := IH (deep + 1) (by omega) _ _ _ hskl b1 hf2 b3
        have HB3 : Hid (Below B w w3) := HB2.out.trans b4
        have HK3 : Hid (Lib.OthersKept 67 (some R) w w3) := HK2.out.trans b5
        clear b1 b3 b4 b5
        go_wp2_with fail
        refine HC.out.mono ?_
        rintro e w4 (⟨st2, a1, rfl, a3, a4, a5⟩ | ⟨p, a1, rfl, a3⟩)
        · have HL2 : Hid (L = (putP st2 nilD).bind fun st3 => prsP st3 [st1.top, st2.top]) := by
            have := HL1.out
            rw [a1] at this
            exact this
          obtain ⟨x2, hx2⟩ : ∃ x2, x2 = st2.top := ⟨_, rfl⟩
          rw [← hx2]
          have HX2 : Hid (x2 = st2.top) := hx2
          obtain ⟨v4, k4⟩ := a3.2.2
          have c3 := cell_blk (j := 3) k4.1 rfl
          have f3 := frozen_blk k4.1 3
          have H4 : Hid (RS R B t deep st2 (w4.setCell ⟨R, 3, none⟩ (.int .i64 (deep : Int)))) := a3.down
          have HB4 : Hid (Below B w (w4.setCell ⟨R, 3, none⟩ (.int .i64 (deep : Int)))) := (HB3.out.trans a4).setCell (p := ⟨R, _, none⟩) hB _
          have HK4 : Hid (Lib.OthersKept 67 (some R) w (w4.setCell ⟨R, 3, none⟩ (.int .i64 (deep : Int)))) := (HK3.out.trans a5).setCell ⟨R, 3, none⟩ rfl _
          clear a1 a3 a4 a5 k4 HB3 HK3 HB2 HK2 hx2 HL1 HC H2
          have hz4 : (w4.setCell ⟨R, 3, none⟩ (.int .i64 (deep : Int))).heap.size = w4.heap.size := by simp
          obtain ⟨w5, hw5⟩ : ∃ w5, w5 = (w4.setCell ⟨R, 3, none⟩ (.int .i64 (deep : Int))).alloc (Obj.cells #[Value.int .i64 x1, Value.int .i64 x2] 3) := ⟨_, rfl⟩
          have hb5 : Below (w4.setCell ⟨R, 3, none⟩ (.int .i64 (deep : Int))).heap.size (w4.setCell ⟨R, 3, none⟩ (.int .i64 (deep : Int))) w5 := by rw [hw5]; exact (Below.refl _ _).alloc (Nat.le_refl _) _
          have k5 : w5.heap[w4.heap.size]? = some (Obj.cells #[Value.int .i64 x1, Value.int .i64 x2] 3) := by rw [hw5]; exact blk_at _ _ _ hz4.symm
          have hRl4 := H4.out.lt
          have H5 : Hid (RS R B t deep st2 w5) := H4.out.below hb5
          have HB5 : Hid (Below B w w5) := HB4.out.trans (hb5.mono (by omega))
          have HK5 : Hid (Lib.OthersKept 67 (some R) w w5) := HK4.out.trans fun k o hk _ _ => (hb5.block k (Array.getElem?_eq_some_iff.1 hk).1).trans hk
          have HRn : Hid (w4.heap.size ≠ R) := by show _ ≠ _; omega
          have K5 : Hid (w5.heap[w4.heap.size]? = some (Obj.cells #[Value.int .i64 x1, Value.int .i64 x2] 3)) := k5
          have HW5 : Hid (w5 = (w4.setCell ⟨R, 3, none⟩ (.int .i64 (deep : Int))).alloc (Obj.cells #[Value.int .i64 x1, Value.int .i64 x2] 3)) := hw5
          clear hb5 k5 hz4 hw5 H4 HB4 HK4 hRl4
          go_wp2_with fail
          rw [← HW5.out]
          refine (add_any R B t deep st2 nilD w5 hB H5.out).mono ?_
          rintro e w6 (⟨st3, a1, rfl, a3, a4, a5⟩ | ⟨p, a1, rfl, a3⟩)
          · have HL3 : Hid (L = prsP st3 [x1, x2]) := by
              have := HL2.out
              rw [a1] at this
              rw [HX1.out, HX2.out]
              exact this
            have hk6 := a5 _ _ K5.out (fun e => HRn.out (Option.some.inj e)) (fun _ _ e => by injection e with _ e; cases e)
            have hpt : PartsAt w6 w6.heap.size (some ⟨w4.heap.size, 0, none⟩) [x1, x2] := by
              intro i x hx
              refine ⟨w4.heap.size, 0, _, rfl, (Array.getElem?_eq_some_iff.1 hk6).1, hk6, ?_⟩
              match i, hx with
              | 0, hx => simpa using hx
              | 1, hx => simpa using hx
            have HP : Hid (Calls Tryd.prog 76 #[.pointer (some ⟨R, 0, none⟩), .slice (some ⟨w4.heap.size, 0, none⟩) 2 2, .int .i64 st3.top] w6 fun e w' => PgPost R B t deep (prsP st3 [x1, x2]) w6 e w') := pairs_rs R B t deep st3 (some ⟨w4.heap.size, 0, none⟩) 2 [x1, x2] w6 hB (by simp) hpt a3
            have HB6 : Hid (Below B w w6) := HB5.out.trans a4
            have HK6 : Hid (Lib.OthersKept 67 (some R) w w6) := HK5.out.trans a5
            clear a1 a3 a4 a5 hk6 hpt
            go_wp2_with fail
            refine HP.out.mono ?_
            intro e w7 hp
            have HQ : Hid (PgPost R B t deep L w e w7) := by
              have := hp.pre HB6.out HK6.out
              rw [← HL3.out] at this
              exact this
            rcases hp with ⟨st4, a1, rfl, a3, a4, a5⟩ | ⟨p, a1, rfl, a3⟩
            · clear a1 a3 a4 a5
              go_wp2
              go_ret
              exact HQ.out
            · clear a1 a3
              simp only [bad] at HQ ⊢
              go_wp2
              exact ⟨rfl, HQ.out⟩
          · have HL3 : Hid (L = .error p) := by
              have := HL2.out
              rw [a1] at this
              exact this
            have HB6 : Hid (Below B w w6) := HB5.out.trans a3
            clear a1 a3
            simp only [bad]
            go_wp2
            exact ⟨rfl, .inr ⟨_, HL3.out, rfl, HB6.out⟩⟩
        · have HL2 : Hid (L = .error p) := by
            have := HL1.out
            rw [a1] at this
            exact this
          have HB4 : Hid (Below B w w4) := HB3.out.trans a3
          clear a1 a3
          simp only [bad]
          go_wp2
          exact ⟨rfl, .inr ⟨_, HL2.out, rfl, HB4.out⟩⟩
    · have HL1 : Hid (L = .error p) := by
        have := HL.out
        rw [a1] at this
        exact this
      have HB2 : Hid (Below B w w2) := HB1.out.trans a3
      clear a1 a3
      simp only [bad]
      go_wp2
      exact ⟨rfl, .inr ⟨_, HL1.out, rfl, HB2.out⟩⟩
end Go.Proofs.YtgfkmppkeolckaaDoor
