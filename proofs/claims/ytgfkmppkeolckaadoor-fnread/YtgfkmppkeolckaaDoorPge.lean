/- The program's reader: what a ( begins. -/
import Derived.Test.YtgfkmppkeolckaaDoorPgd
import Derived.Test.YtgfkmppkeolckaaDoorSpm
set_option linter.unusedVariables false
namespace Go.Proofs.YtgfkmppkeolckaaDoor
open Go.ChangeShapes Go.WideShapes Go.ChangeAt Go.RowKit
theorem putP_top {st st' : St} {d : Dat} (h : putP st d = .ok st') : 1 ≤ st'.cs.length := by
  unfold putP at h
  split at h
  · obtain rfl := Except.ok.inj h; simp
  · cases h
theorem prsP_top {st st' : St} {ps : List Int} (h : prsP st ps = .ok st') (h1 : 1 ≤ st.cs.length) : 1 ≤ st'.cs.length := by
  unfold prsP at h
  split at h
  · obtain rfl := Except.ok.inj h
    simp only [prS_length]; omega
  · cases h
theorem rd_top (s : ByteArray) : ∀ (f : Nat),
    (∀ deep b cs st', datP s f deep b cs = .ok st' → 1 ≤ st'.cs.length) ∧
    (∀ deep ps st st', lstP s f deep ps st = .ok st' → 1 ≤ st'.cs.length)
  | 0 => ⟨fun _ _ _ _ h => (by cases h), fun _ _ _ _ h => (by cases h)⟩
  | f + 1 => by
    obtain ⟨ihd, ihl⟩ := rd_top s f
    constructor
    · intro deep b cs st' h
      rw [datP_succ] at h
      split at h
      · cases h
      · split at h
        · split at h
          · cases h
          · exact ihl _ _ _ _ h
        · split at h
          · split at h
            · cases h
            · obtain ⟨y1, h1, h⟩ := bind_ok h
              obtain ⟨y2, h2, h⟩ := bind_ok h
              obtain ⟨y3, h3, h⟩ := bind_ok h
              exact prsP_top h (putP_top h3)
          · unfold atomP at h
            split at h
            · exact putP_top h
            · cases h
    · intro deep ps st st' h
      rw [lstP_succ] at h
      split at h
      · obtain ⟨y1, h1, h⟩ := bind_ok h
        exact prsP_top h (putP_top h1)
      · split at h
        · obtain ⟨y1, h1, h⟩ := bind_ok h
          split at h
          · exact prsP_top h (show 1 ≤ y1.cs.length from ihd _ _ _ _ h1)
          · cases h
        · obtain ⟨y1, h1, h⟩ := bind_ok h
          exact ihl _ _ _ _ h
theorem tk_nil {t : ByteArray} {b : Nat} (h : tkE t b = b) : (tk t b).toList = [] := by
  have : tk t b = ⟨#[]⟩ := by
    unfold tk
    rw [h]
    apply ByteArray.ext
    simp
  rw [this, ByteArray.toList_eq]
theorem lstP_bad (t : ByteArray) (g deep : Nat) (ps : List Int) (st : St) (hg : 2 ≤ g) (h : tkE t (skAt t st.nx) = skAt t st.nx) : lstP t g deep ps st = .error (skAt t st.nx) := by
  obtain ⟨g', rfl⟩ : ∃ g', g = g' + 1 := ⟨g - 1, by omega⟩
  rw [lstP_succ, tk_nil h, if_neg (by simp), if_neg (by simp), datP_none t g' _ _ _ (by omega) h]
  rfl
/-- On the way through a list. -/
def LQ (R B : Nat) (t : ByteArray) (f deep : Nat) (w : World) (L : Except Nat St) (pv ev : Value) (wr : World) : Prop :=
  ∃ (st : St) (ps : List Int) (pa : Option Addr) (pc : Nat), pv = .slice pa ps.length pc ∧ T3 w pv ps wr ∧ RS R B t (deep + 1) st wr ∧ Below B w wr ∧ Lib.OthersKept 67 (some R) w wr ∧ ps.length ≤ st.nx ∧
    ((ev = .int .i64 (-1) ∧ ∃ g, 2 * (t.size - st.nx) + 2 ≤ g ∧ g ≤ f ∧ L = lstP t g (deep + 1) ps st) ∨ (ev = .int .i64 st.top ∧ 1 ≤ st.cs.length ∧ L = prsP st ps))
def LQm (R : Nat) (t : ByteArray) (ev : Value) (wr : World) : Nat := if intOf ev < 0 then t.size + 1 - (intOf ((wr.cell? ⟨R, 2, none⟩).getD undef)).toNat else 0
theorem RS.nxc {R B : Nat} {t : ByteArray} {deep : Nat} {st : St} {W : World} (h : RS R B t deep st W) : W.cell? ⟨R, 2, none⟩ = some (.int .i64 (st.nx : Int)) := by
  obtain ⟨_, _, v, h, _⟩ := h
  exact cell_blk (j := 2) h rfl
theorem LQm_run {R B : Nat} {t : ByteArray} {deep : Nat} {st : St} {W : World} (h : RS R B t deep st W) : LQm R t (.int .i64 (-1)) W = t.size + 1 - st.nx := by
  unfold LQm
  rw [h.nxc]
  simp [intOf]
theorem LQm_end {R : Nat} {t : ByteArray} {st : St} {W : World} (h : 1 ≤ st.cs.length) : LQm R t (.int .i64 st.top) W = 0 := by
  unfold LQm
  rw [if_neg]
  simp [intOf, St.top]
  omega
theorem T3.ok' {w W W' : World} {v : Value} {ps : List Int} {R : Nat} (h : T3 w v ps W) (hR : R < w.heap.size) (hk : Lib.OthersKept 67 (some R) W W') : T3 w v ps W' :=
  own_other h fun b hb => by
    obtain ⟨h1, cur, h2⟩ := T3.blk h hb
    exact (hk b _ h2 (fun e => by have := Option.some.inj e; omega) (fun _ _ e => by injection e with _ e; cases e)).trans h2.symm
theorem T3.nil (w W : World) : T3 w (.slice none 0 0) [] W := ⟨by simp, .inl ⟨rfl, rfl⟩⟩
theorem RS.grow {R B : Nat} {t : ByteArray} {deep : Nat} {st : St} {w W W' : World} {v : Value} {ps : List Int} (h : RS R B t deep st W) (hT : T3 w v ps W) (hg : W.grownBy W' v.ownBlock) : RS R B t deep st W' := by
  obtain ⟨h1, h2, u, h3, h4⟩ := h
  have ne : ∀ (k : Nat) (cur : Array Value) (T : TypeId), W.heap[k]? = some (.cells cur T (0, 0)) → T ≠ 3 → some k ≠ v.ownBlock := fun k cur T hk hTn e => by
    obtain ⟨_, cur', hc⟩ := T3.blk hT e.symm
    have := hk.symm.trans hc
    simp at this
    exact hTn this.2
  refine ⟨h1, h2, u, (hg.block _ (Array.getElem?_eq_some_iff.1 h3).1 (ne _ _ _ h3 (by decide))).trans h3, own_other h4 fun b hb => ?_⟩
  obtain ⟨cur, hc⟩ := own_kind h4 hb
  exact hg.block b (h4.lt _ hb).2 (ne _ _ _ hc (by decide))
theorem below_row {B : Nat} {w W W' : World} {v : Value} {ps : List Int} (hT : T3 w v ps W) (hg : W.grownBy W' v.ownBlock) (hB : B ≤ w.heap.size) (hw : w.heap.size ≤ W.heap.size) : Below B W W' :=
  ⟨hg.os, hg.tape, hg.output, hg.size, fun k hk => hg.block k (by omega) (fun e => by have := (T3.blk hT e.symm).1; omega)⟩
theorem ok_row {R : Nat} {w W W' : World} {v : Value} {ps : List Int} (h : Lib.OthersKept 67 (some R) w W) (hT : T3 w v ps W) (hg : W.grownBy W' v.ownBlock) (hw : w.heap.size ≤ W.heap.size) : Lib.OthersKept 67 (some R) w W' :=
  ok_other h fun k hk _ => hg.block k (by omega) (fun e => by have := (T3.blk hT e.symm).1; omega)
theorem T3.below {w W W' : World} {v : Value} {ps : List Int} (h : T3 w v ps W) (hb : Below W.heap.size W W') : T3 w v ps W' := own_other h fun b hb2 => by
  obtain ⟨h1, cur, h2⟩ := T3.blk h hb2
  exact hb.block b (Array.getElem?_eq_some_iff.1 h2).1
theorem T3.parts {w W : World} {pa : Option Addr} {pc : Nat} {ps : List Int} (h : T3 w (.slice pa ps.length pc) ps W) : PartsAt W W.heap.size pa ps := by
  intro i x hx
  have hi := (List.getElem?_eq_some_iff.1 hx).1
  obtain ⟨hl, ⟨hv, h0⟩ | ⟨g, cap, cur, hv, a1, hblk, a3, a4, a5, a6⟩⟩ := h
  · omega
  · injection hv with e1 e2 e3
    refine ⟨g, 0, cur, e1, (Array.getElem?_eq_some_iff.1 hblk).1, hblk, ?_⟩
    have : (cur.toList.take (ps.length * 1))[i]? = some (.int .i64 x) := by rw [a6, List.getElem?_map, hx]; rfl
    rw [List.getElem?_take_of_lt (by omega)] at this
    rw [Nat.zero_add]
    simpa using this
set_option maxRecDepth 100000 in
set_option maxHeartbeats 1000000 in
theorem list_any (R B : Nat) (t : ByteArray) (f deep : Nat) (st0 : St) (w : World) (hs : t.size ≤ 33554432) (hB : B ≤ R) (hd : deep ≤ 24) (hf : 2 * (t.size - st0.nx) + 2 ≤ f) (IH : ∀ g, g < f → ∀ deep, deep ≤ 24 → DatQ R B t g deep) (h : RS R B t deep st0 w) :
    Calls Tryd.prog 54 #[.pointer (some ⟨R, 0, none⟩)] w fun e w' => PgPost R B t deep (if 24 ≤ deep then .error st0.la else lstP t f (deep + 1) [] st0) w e w' := by
  have HF : Hid (RS R B t deep st0 w) := h
  have hRl := h.lt
  by_cases h24 : 24 ≤ deep
  · obtain rfl : deep = 24 := by omega
    rw [if_pos (by omega)]
    clear h
    go_enter Tryd.func54, Tryd.ntmps54
    go_wp2_with fail
    refine (open_full R B t st0 w HF.out).mono ?_
    rintro e w1 ⟨rfl, rfl⟩
    simp only [bad]
    go_wp2
    exact ⟨rfl, .inr ⟨_, rfl, rfl, Below.refl _ _⟩⟩
  · rw [if_neg h24]
    clear h
    obtain ⟨L, hL⟩ : ∃ L, L = lstP t f (deep + 1) [] st0 := ⟨_, rfl⟩
    rw [← hL]
    obtain ⟨i3, hi3, hz30, hz31, hz32⟩ := info_parts bldInfo3
    have HL : Hid (L = lstP t f (deep + 1) [] st0) := hL
    clear hL
    go_enter Tryd.func54, Tryd.ntmps54
    go_wp2_with fail
    refine (open_ok R B t deep st0 w hB (by omega) HF.out).mono ?_
    rintro e w1 ⟨rfl, h1, hb1, hk1⟩
    have H1 : Hid (RS R B t (deep + 1) st0 w1) := h1
    have HB1 : Hid (Below B w w1) := hb1
    have HK1 : Hid (Lib.OthersKept 67 (some R) w w1) := hk1
    clear h1 hb1 hk1
    go_wp2
    go_loopw [3, 4] (fun pv ev wr => LQ R B t f deep w L pv ev wr) (fun pv ev wr => LQm R t ev wr)
    case atStart => exact ⟨st0, [], none, 0, rfl, T3.nil w _, H1.out, HB1.out, HK1.out, Nat.zero_le _, .inl ⟨rfl, f, hf, Nat.le_refl _, HL.out⟩⟩
    case round =>
      clear H1 HB1 HK1 HL HF
      obtain ⟨st, ps, pa, pc, rfl, hT, hR, hb, hk, hpn, ⟨rfl, g, hg1, hg2, hg3⟩ | ⟨rfl, hc1, hL1⟩⟩ := hrel
      · have HT : Hid (T3 w (.slice pa ps.length pc) ps wr) := hT
        have HR : Hid (RS R B t (deep + 1) st wr) := hR
        have HB0 : Hid (Below B w wr) := hb
        have HK0 : Hid (Lib.OthersKept 67 (some R) w wr) := hk
        have HG : Hid (L = lstP t g (deep + 1) ps st) := hg3
        have HM : Hid (LQm R t (.int .i64 (-1)) wr = t.size + 1 - st.nx) := LQm_run hR
        obtain ⟨b, hbd⟩ : ∃ b, b = skAt t st.nx := ⟨_, rfl⟩
        have hnx : st.nx ≤ t.size := hR.1
        have hsk : st.nx ≤ b := by rw [hbd]; exact skAt_ge _ _
        have hskl : b ≤ t.size := by rw [hbd]; exact skAt_le _ _ hR.1
        have HTK : Hid (Calls Tryd.prog 25 #[.pointer (some ⟨R, 0, none⟩)] wr fun e w' => TkS R B t (deep + 1) b st.cs wr e w') := by rw [hbd]; exact token_rs R B t (deep + 1) st wr hs hB hR
        have HBD : Hid (b = skAt t st.nx) := hbd
        clear hT hR hb hk hg3 hbd
        go_wp2_with fail
        refine HTK.out.mono ?_
        rintro e w2 (⟨b1, b2, rfl, b4⟩ | ⟨b1, rfl, b3, b4, b5⟩)
        · have HLz : Hid (L = .error b) := by
            have := HG.out
            rw [HBD.out] at b1
            rw [lstP_bad t g _ _ _ (by omega) b1, ← HBD.out] at this
            exact this
          have HB2 : Hid (Below B w w2) := HB0.out.trans b4
          clear b1 b2 b4
          simp only [bad]
          go_wp2
          exact ⟨rfl, .inr ⟨_, HLz.out, rfl, HB2.out⟩⟩
        · have H2 : Hid (RS R B t (deep + 1) ⟨tkE t b, b, st.cs⟩ w2) := b3
          have HB2 : Hid (Below B w w2) := HB0.out.trans b4
          have HK2 : Hid (Lib.OthersKept 67 (some R) w w2) := HK0.out.trans b5
          have HT2 : Hid (T3 w (.slice pa ps.length pc) ps w2) := HT.out.ok' hRl b5
          have HB1 : Hid (b = t.size ∨ tkE t b ≠ b) := b1
          obtain ⟨g, rfl⟩ : ∃ g', g = g' + 1 := ⟨g - 1, by omega⟩
          have HS := HG.out
          rw [lstP_succ, ← HBD.out] at HS
          have HS' : Hid (_ = _) := HS
          clear b1 b3 b4 b5 HB0 HK0 HT HR HTK HG HS
          have hE1 : b ≤ tkE t b := tkE_ge _ _
          have hE2 : tkE t b ≤ t.size := tkE_le _ _ hskl
          by_cases q41 : ((tk t b).toList == [41]) = true
          · have HL2 : Hid (L = (putP ⟨tkE t b, b, st.cs⟩ nilD).bind fun st2 => prsP st2 ps) := by
              have := HS'.out
              rw [if_pos q41] at this
              exact this
            clear HS'
            go_wp2_with fail
            refine (add_any R B t (deep + 1) ⟨tkE t b, b, st.cs⟩ nilD w2 hB H2.out).mono ?_
            rintro e w3 (⟨st2, a1, rfl, a3, a4, a5⟩ | ⟨p, a1, rfl, a3⟩)
            · have HL3 : Hid (L = prsP st2 ps) := by
                have := HL2.out
                rw [a1] at this
                exact this
              have HX : Hid (st2.nx = tkE t b) := putP_nx a1
              have HC1 : Hid (1 ≤ st2.cs.length) := putP_top a1
              have H3 : Hid (RS R B t (deep + 1) st2 w3) := a3
              have HB3 : Hid (Below B w w3) := HB2.out.trans a4
              have HK3 : Hid (Lib.OthersKept 67 (some R) w w3) := HK2.out.trans a5
              have HT3 : Hid (T3 w (.slice pa ps.length pc) ps w3) := HT2.out.ok' hRl a5
              clear a1 a3 a4 a5 HL2 H2 HB2 HK2 HT2
              go_wp2
              go_roundw
              case rel => exact ⟨st2, ps, pa, pc, rfl, HT3.out, H3.out, HB3.out, HK3.out, by have := HX.out; omega, .inr ⟨rfl, HC1.out, HL3.out⟩⟩
              case measure =>
                have h1 := LQm_end (R := R) (t := t) (W := w3) HC1.out
                have h2 := HM.out
                show LQm R t (.int .i64 st2.top) w3 < LQm R t (.int .i64 (-1)) wr
                omega
            · have HLz : Hid (L = .error p) := by
                have := HL2.out
                rw [a1] at this
                exact this
              have HB3 : Hid (Below B w w3) := HB2.out.trans a3
              clear a1 a3
              simp only [bad]
              go_wp2
              exact ⟨rfl, .inr ⟨_, HLz.out, rfl, HB3.out⟩⟩
          · have Q41 : ((tk t b).toList == [41]) = false := by simpa using q41
            by_cases q46 : ((tk t b).toList == [46]) = true
            · by_cases hps : ps = []
              · have HL2 : Hid (L = (datP t g (deep + 1) b st.cs).bind fun st2 => lstP t g (deep + 1) (ps ++ [st2.top]) st2) := by
                  have := HS'.out
                  rw [if_neg q41, if_neg (fun h => h.2 hps)] at this
                  exact this
                clear HS' q41
                subst hps
                have HT2' : Hid (T3 w (.slice pa 0 pc) [] w2) := HT2.out
                clear HT2
                have HT2 : Hid (T3 w (.slice pa 0 pc) [] w2) := HT2'.out
                clear HT2'
                have HC : Hid (Calls Tryd.prog 26 #[.pointer (some ⟨R, 0, none⟩), .string (tk t b)] w2 fun e w' => PgPost R B t (deep + 1) (datP t g (deep + 1) b st.cs) w2 e w') := IH g (by omega) (deep + 1) (by omega) _ _ _ hskl HB1.out (by omega) H2.out
                go_wp2_with fail
                refine HC.out.mono ?_
                rintro e w3 (⟨st2, a1, rfl, a3, a4, a5⟩ | ⟨p, a1, rfl, a3⟩)
                · have HL3 : Hid (L = lstP t g (deep + 1) (([] : List Int) ++ [st2.top]) st2) := by
                    have := HL2.out
                    rw [a1] at this
                    exact this
                  obtain ⟨n1, n2⟩ := datP_prog hskl a1
                  have H3 : Hid (RS R B t (deep + 1) st2 w3) := a3
                  have HB3 : Hid (Below B w w3) := HB2.out.trans a4
                  have HK3 : Hid (Lib.OthersKept 67 (some R) w w3) := HK2.out.trans a5
                  have HT3 : Hid (T3 w (.slice pa 0 pc) [] w3) := HT2.out.ok' hRl a5
                  have hz3 : w.heap.size ≤ w3.heap.size := HB3.out.size
                  clear a1 a3 a4 a5 HB2 HK2 HT2 H2 HC HL2
                  obtain ⟨x2, hx2⟩ : ∃ x2, x2 = st2.top := ⟨_, rfl⟩
                  rw [← hx2]
                  have hbl := (Below.refl _ w3).alloc (Nat.le_refl _) (.cells #[.int .i64 x2] 3 (0, 0))
                  have hAz : (w3.alloc (.cells #[.int .i64 x2] 3 (0, 0))).heap.size = w3.heap.size + 1 := by simp
                  have kA : (w3.alloc (.cells #[.int .i64 x2] 3 (0, 0))).heap[w3.heap.size]? = some (.cells #[.int .i64 x2] 3 (0, 0)) := blk_at _ _ _ rfl
                  have hwA : w.heap.size ≤ (w3.alloc (.cells #[.int .i64 x2] 3 (0, 0))).heap.size := by omega
                  have H4 : Hid (RS R B t (deep + 1) st2 (w3.alloc (.cells #[.int .i64 x2] 3 (0, 0)))) := H3.out.below hbl
                  have HT4 : Hid (T3 w (.slice pa 0 pc) [] (w3.alloc (.cells #[.int .i64 x2] 3 (0, 0)))) := HT3.out.below hbl
                  have HB4 : Hid (Below B w (w3.alloc (.cells #[.int .i64 x2] 3 (0, 0)))) := HB3.out.trans (hbl.mono (by omega))
                  have HK4 : Hid (Lib.OthersKept 67 (some R) w (w3.alloc (.cells #[.int .i64 x2] 3 (0, 0)))) := HK3.out.alloc _
                  have HX2 : Hid (x2 = st2.top) := hx2
                  clear hbl hx2 H3 HT3 HB3 HK3
                  go_wp2_with (at_builtin; refine wpList_append_lies _ rfl _ _ 26 rfl w.heap.size 3 i3 _ 1 8 Tryd.underlying26 hi3 hz30 hz31 hz32 rfl (by omega) (.slice pa 0 pc) 0 (([] : List Int).map (Value.int .i64 ·)) rfl HT4.out ⟨w3.heap.size, 0, none⟩ 1 1 [.int .i64 x2] rfl rfl (World.news_of_block kA) (by intro u hu; simp at hu; subst hu; rfl) (by omega) (by simp [maxLen] <;> omega) (by omega) hwA (w3.heap.size + 1) hAz ?_)
                  intro gg cap' w5 hown hgrow hat hlt
                  have HO5 : Hid (T3 w (.slice (some ⟨gg, 0, none⟩) (([] : List Int) ++ [x2]).length cap') (([] : List Int) ++ [x2]) w5) := by
                    show World.ownsRow _ _ _ _ _ _ _
                    rw [List.length_append, List.map_append]
                    exact hown
                  have H5 : Hid (RS R B t (deep + 1) st2 w5) := H4.out.grow HT4.out hgrow
                  have HB5 : Hid (Below B w w5) := HB4.out.trans (below_row HT4.out hgrow (by omega) hwA)
                  have HK5 : Hid (Lib.OthersKept 67 (some R) w w5) := ok_row HK4.out HT4.out hgrow hwA
                  have hln : (([] : List Int) ++ [x2]).length = 1 := by simp
                  clear hown hgrow hat hlt hAz kA hwA H4 HT4 HB4 HK4
                  go_wp2
                  go_roundw
                  case rel =>
                    refine ⟨st2, ([] : List Int) ++ [x2], some ⟨gg, 0, none⟩, cap', by rw [hln], ?_, H5.out, HB5.out, HK5.out, by omega, .inl ⟨rfl, g, by omega, by omega, by rw [HX2.out]; exact HL3.out⟩⟩
                    have := HO5.out
                    rw [hln] at this
                    exact this
                  case measure =>
                    have h1 := LQm_run H5.out
                    have h2 := HM.out
                    show LQm R t (.int .i64 (-1)) w5 < LQm R t (.int .i64 (-1)) wr
                    omega
                · have HLz : Hid (L = .error p) := by
                    have := HL2.out
                    rw [a1] at this
                    exact this
                  have HB3 : Hid (Below B w w3) := HB2.out.trans a3
                  clear a1 a3
                  simp only [bad]
                  go_wp2
                  exact ⟨rfl, .inr ⟨_, HLz.out, rfl, HB3.out⟩⟩
              · have HL2 : Hid (L = (datP t g (deep + 1) (skAt t (tkE t b)) st.cs).bind fun st2 => if ((tk t (skAt t st2.nx)).toList == [41]) = true then prsP ⟨tkE t (skAt t st2.nx), skAt t st2.nx, st2.cs⟩ ps else .error (skAt t st2.nx)) := by
                  have := HS'.out
                  rw [if_neg q41, if_pos ⟨q46, hps⟩] at this
                  exact this
                have hpl : 1 ≤ ps.length := by
                  rcases Nat.eq_zero_or_pos ps.length with h | h
                  · exact absurd (List.eq_nil_of_length_eq_zero h) hps
                  · exact h
                have hpd : (0 : Int) < (ps.length : Int) := by omega
                clear HS' q41 hps
                obtain ⟨c, hcd⟩ : ∃ c, c = skAt t (tkE t b) := ⟨_, rfl⟩
                have hc1 : tkE t b ≤ c := by rw [hcd]; exact skAt_ge _ _
                have hc2 : c ≤ t.size := by rw [hcd]; exact skAt_le _ _ hE2
                have HTK : Hid (Calls Tryd.prog 25 #[.pointer (some ⟨R, 0, none⟩)] w2 fun e w' => TkS R B t (deep + 1) c st.cs w2 e w') := by rw [hcd]; exact token_rs R B t (deep + 1) ⟨tkE t b, b, st.cs⟩ w2 hs hB H2.out
                rw [← hcd] at HL2
                clear hcd
                go_wp2_with fail
                refine HTK.out.mono ?_
                rintro e w3 (⟨b1, b2, rfl, b4⟩ | ⟨b1, rfl, b3, b4, b5⟩)
                · have HLz : Hid (L = .error c) := by
                    have := HL2.out
                    rw [datP_none t g _ _ _ (by omega) b1] at this
                    exact this
                  have HB3 : Hid (Below B w w3) := HB2.out.trans b4
                  clear b1 b2 b4
                  simp only [bad]
                  go_wp2
                  exact ⟨rfl, .inr ⟨_, HLz.out, rfl, HB3.out⟩⟩
                · have HC : Hid (Calls Tryd.prog 26 #[.pointer (some ⟨R, 0, none⟩), .string (tk t c)] w3 fun e w' => PgPost R B t (deep + 1) (datP t g (deep + 1) c st.cs) w3 e w') := IH g (by omega) (deep + 1) (by omega) _ _ _ hc2 b1 (by omega) b3
                  have HB3 : Hid (Below B w w3) := HB2.out.trans b4
                  have HK3 : Hid (Lib.OthersKept 67 (some R) w w3) := HK2.out.trans b5
                  have HT3 : Hid (T3 w (.slice pa ps.length pc) ps w3) := HT2.out.ok' hRl b5
                  clear b1 b3 b4 b5 HB2 HK2 HT2 H2 HTK
                  go_wp2_with fail
                  refine HC.out.mono ?_
                  rintro e w4 (⟨st2, a1, rfl, a3, a4, a5⟩ | ⟨p, a1, rfl, a3⟩)
                  · have HL3 : Hid (L = if ((tk t (skAt t st2.nx)).toList == [41]) = true then prsP ⟨tkE t (skAt t st2.nx), skAt t st2.nx, st2.cs⟩ ps else .error (skAt t st2.nx)) := by
                      have := HL2.out
                      rw [a1] at this
                      exact this
                    obtain ⟨n1, n2⟩ := datP_prog hc2 a1
                    have HC1 : Hid (1 ≤ st2.cs.length) := (rd_top t g).1 _ _ _ _ a1
                    have HB4 : Hid (Below B w w4) := HB3.out.trans a4
                    have HK4 : Hid (Lib.OthersKept 67 (some R) w w4) := HK3.out.trans a5
                    have HT4 : Hid (T3 w (.slice pa ps.length pc) ps w4) := HT3.out.ok' hRl a5
                    obtain ⟨d, hdd⟩ : ∃ d, d = skAt t st2.nx := ⟨_, rfl⟩
                    have hd1 : st2.nx ≤ d := by rw [hdd]; exact skAt_ge _ _
                    have hd2 : d ≤ t.size := by rw [hdd]; exact skAt_le _ _ n2
                    have HTK : Hid (Calls Tryd.prog 25 #[.pointer (some ⟨R, 0, none⟩)] w4 fun e w' => TkS R B t (deep + 1) d st2.cs w4 e w') := by rw [hdd]; exact token_rs R B t (deep + 1) st2 w4 hs hB a3
                    rw [← hdd] at HL3
                    obtain ⟨x2, hx2⟩ : ∃ x2, x2 = st2.top := ⟨_, rfl⟩
                    rw [← hx2]
                    have HX2 : Hid (x2 = st2.top) := hx2
                    clear hdd a1 a3 a4 a5 HB3 HK3 HT3 HC HL2 hx2
                    go_wp2_with fail
                    refine HTK.out.mono ?_
                    rintro e w5 (⟨b1, b2, rfl, b4⟩ | ⟨b1, rfl, b3, b4, b5⟩)
                    · have HLz : Hid (L = .error d) := by
                        have := HL3.out
                        rw [tk_nil b1, if_neg (by simp)] at this
                        exact this
                      have HB5 : Hid (Below B w w5) := HB4.out.trans b4
                      clear b1 b2 b4
                      simp only [bad]
                      go_wp2
                      exact ⟨rfl, .inr ⟨_, HLz.out, rfl, HB5.out⟩⟩
                    · have H5 : Hid (RS R B t (deep + 1) ⟨tkE t d, d, st2.cs⟩ w5) := b3
                      have HB5 : Hid (Below B w w5) := HB4.out.trans b4
                      have HK5 : Hid (Lib.OthersKept 67 (some R) w w5) := HK4.out.trans b5
                      have HT5 : Hid (T3 w (.slice pa ps.length pc) ps w5) := HT4.out.ok' hRl b5
                      have hE3 : d ≤ tkE t d := tkE_ge _ _
                      clear b1 b3 b4 b5 HB4 HK4 HT4 HTK
                      by_cases r41 : ((tk t d).toList == [41]) = true
                      · have HL4 : Hid (L = prsP ⟨tkE t d, d, st2.cs⟩ ps) := by
                          have := HL3.out
                          rw [if_pos r41] at this
                          exact this
                        clear HL3
                        go_wp2
                        go_roundw
                        case rel => exact ⟨⟨tkE t d, d, st2.cs⟩, ps, pa, pc, rfl, HT5.out, H5.out, HB5.out, HK5.out, by show ps.length ≤ tkE t d; omega, .inr ⟨by rw [HX2.out]; rfl, HC1.out, HL4.out⟩⟩
                        case measure =>
                          have h1 := LQm_end (R := R) (t := t) (W := w5) HC1.out
                          have h2 := HM.out
                          rw [HX2.out]
                          show LQm R t (.int .i64 st2.top) w5 < LQm R t (.int .i64 (-1)) wr
                          omega
                      · have R41 : ((tk t d).toList == [41]) = false := by simpa using r41
                        have HLz : Hid (L = .error d) := by
                          have := HL3.out
                          rw [if_neg r41] at this
                          exact this
                        clear HL3 r41
                        go_wp2_with fail
                        refine (fail_rs R B t (deep + 1) ⟨tkE t d, d, st2.cs⟩ _ H5.out).mono ?_
                        rintro e w6 ⟨rfl, rfl⟩
                        simp only [bad]
                        go_wp2
                        exact ⟨rfl, .inr ⟨_, HLz.out, rfl, HB5.out⟩⟩
                  · have HLz : Hid (L = .error p) := by
                      have := HL2.out
                      rw [a1] at this
                      exact this
                    have HB4 : Hid (Below B w w4) := HB3.out.trans a3
                    clear a1 a3
                    simp only [bad]
                    go_wp2
                    exact ⟨rfl, .inr ⟨_, HLz.out, rfl, HB4.out⟩⟩
            · have Q46 : ((tk t b).toList == [46]) = false := by simpa using q46
              have HL2 : Hid (L = (datP t g (deep + 1) b st.cs).bind fun st2 => lstP t g (deep + 1) (ps ++ [st2.top]) st2) := by
                have := HS'.out
                rw [if_neg q41, if_neg (fun h => q46 h.1)] at this
                exact this
              clear HS' q41 q46
              have HC : Hid (Calls Tryd.prog 26 #[.pointer (some ⟨R, 0, none⟩), .string (tk t b)] w2 fun e w' => PgPost R B t (deep + 1) (datP t g (deep + 1) b st.cs) w2 e w') := IH g (by omega) (deep + 1) (by omega) _ _ _ hskl HB1.out (by omega) H2.out
              go_wp2_with fail
              refine HC.out.mono ?_
              rintro e w3 (⟨st2, a1, rfl, a3, a4, a5⟩ | ⟨p, a1, rfl, a3⟩)
              · have HL3 : Hid (L = lstP t g (deep + 1) (ps ++ [st2.top]) st2) := by
                  have := HL2.out
                  rw [a1] at this
                  exact this
                obtain ⟨n1, n2⟩ := datP_prog hskl a1
                have H3 : Hid (RS R B t (deep + 1) st2 w3) := a3
                have HB3 : Hid (Below B w w3) := HB2.out.trans a4
                have HK3 : Hid (Lib.OthersKept 67 (some R) w w3) := HK2.out.trans a5
                have HT3 : Hid (T3 w (.slice pa ps.length pc) ps w3) := HT2.out.ok' hRl a5
                have hz3 : w.heap.size ≤ w3.heap.size := HB3.out.size
                clear a1 a3 a4 a5 HB2 HK2 HT2 H2 HC HL2
                obtain ⟨x2, hx2⟩ : ∃ x2, x2 = st2.top := ⟨_, rfl⟩
                rw [← hx2]
                have hbl := (Below.refl _ w3).alloc (Nat.le_refl _) (.cells #[.int .i64 x2] 3 (0, 0))
                have hAz : (w3.alloc (.cells #[.int .i64 x2] 3 (0, 0))).heap.size = w3.heap.size + 1 := by simp
                have kA : (w3.alloc (.cells #[.int .i64 x2] 3 (0, 0))).heap[w3.heap.size]? = some (.cells #[.int .i64 x2] 3 (0, 0)) := blk_at _ _ _ rfl
                have hwA : w.heap.size ≤ (w3.alloc (.cells #[.int .i64 x2] 3 (0, 0))).heap.size := by omega
                have H4 : Hid (RS R B t (deep + 1) st2 (w3.alloc (.cells #[.int .i64 x2] 3 (0, 0)))) := H3.out.below hbl
                have HT4 : Hid (T3 w (.slice pa ps.length pc) ps (w3.alloc (.cells #[.int .i64 x2] 3 (0, 0)))) := HT3.out.below hbl
                have HB4 : Hid (Below B w (w3.alloc (.cells #[.int .i64 x2] 3 (0, 0)))) := HB3.out.trans (hbl.mono (by omega))
                have HK4 : Hid (Lib.OthersKept 67 (some R) w (w3.alloc (.cells #[.int .i64 x2] 3 (0, 0)))) := HK3.out.alloc _
                have HX2 : Hid (x2 = st2.top) := hx2
                clear hbl hx2 H3 HT3 HB3 HK3
                go_wp2_with (at_builtin; refine wpList_append_lies _ rfl _ _ 26 rfl w.heap.size 3 i3 _ 1 8 Tryd.underlying26 hi3 hz30 hz31 hz32 rfl (by omega) (.slice pa ps.length pc) ps.length (ps.map (Value.int .i64 ·)) rfl HT4.out ⟨w3.heap.size, 0, none⟩ 1 1 [.int .i64 x2] rfl rfl (World.news_of_block kA) (by intro u hu; simp at hu; subst hu; rfl) (by omega) (by simp [maxLen] <;> omega) (by omega) hwA (w3.heap.size + 1) hAz ?_)
                intro gg cap' w5 hown hgrow hat hlt
                have HO5 : Hid (T3 w (.slice (some ⟨gg, 0, none⟩) (ps ++ [x2]).length cap') (ps ++ [x2]) w5) := by
                  show World.ownsRow _ _ _ _ _ _ _
                  rw [List.length_append, List.map_append]
                  exact hown
                have H5 : Hid (RS R B t (deep + 1) st2 w5) := H4.out.grow HT4.out hgrow
                have HB5 : Hid (Below B w w5) := HB4.out.trans (below_row HT4.out hgrow (by omega) hwA)
                have HK5 : Hid (Lib.OthersKept 67 (some R) w w5) := ok_row HK4.out HT4.out hgrow hwA
                have hln : (ps ++ [x2]).length = ps.length + 1 := by simp
                clear hown hgrow hat hlt hAz kA hwA H4 HT4 HB4 HK4
                go_wp2
                go_roundw
                case rel =>
                  refine ⟨st2, ps ++ [x2], some ⟨gg, 0, none⟩, cap', by rw [hln], ?_, H5.out, HB5.out, HK5.out, by omega, .inl ⟨rfl, g, by omega, by omega, by rw [HX2.out]; exact HL3.out⟩⟩
                  have := HO5.out
                  rw [hln] at this
                  exact this
                case measure =>
                  have h1 := LQm_run H5.out
                  have h2 := HM.out
                  show LQm R t (.int .i64 (-1)) w5 < LQm R t (.int .i64 (-1)) wr
                  omega
              · have HLz : Hid (L = .error p) := by
                  have := HL2.out
                  rw [a1] at this
                  exact this
                have HB3 : Hid (Below B w w3) := HB2.out.trans a3
                clear a1 a3
                simp only [bad]
                go_wp2
                exact ⟨rfl, .inr ⟨_, HLz.out, rfl, HB3.out⟩⟩
      · have HL1 : Hid (L = prsP st ps) := hL1
        obtain ⟨x, hx⟩ : ∃ x, x = st.top := ⟨_, rfl⟩
        have hx0 : 0 ≤ x := by rw [hx, St.top]; omega
        have hxd : decide (x < 0) = false := by simp; omega
        obtain ⟨v4, k4⟩ := hR.2.2
        have c3 := cell_blk (j := 3) k4.1 rfl
        have f3 := frozen_blk k4.1 3
        have H4 : Hid (RS R B t deep st (wr.setCell ⟨R, 3, none⟩ (.int .i64 (deep : Int)))) := hR.down
        have HB4 : Hid (Below B w (wr.setCell ⟨R, 3, none⟩ (.int .i64 (deep : Int)))) := hb.setCell (p := ⟨R, _, none⟩) hB _
        have HK4 : Hid (Lib.OthersKept 67 (some R) w (wr.setCell ⟨R, 3, none⟩ (.int .i64 (deep : Int)))) := hk.setCell ⟨R, 3, none⟩ rfl _
        have HT4 : T3 w (.slice pa ps.length pc) ps (wr.setCell ⟨R, 3, none⟩ (.int .i64 (deep : Int))) := hT.ok' hRl (ok_grown (grownBy_set (grownBy_refl' wr _)))
        have hpl : ps.length ≤ 33554432 := by have := hR.1; omega
        have HP : Hid (Calls Tryd.prog 76 #[.pointer (some ⟨R, 0, none⟩), .slice pa ps.length pc, .int .i64 x] (wr.setCell ⟨R, 3, none⟩ (.int .i64 (deep : Int))) fun e w' => PgPost R B t deep (prsP st ps) (wr.setCell ⟨R, 3, none⟩ (.int .i64 (deep : Int))) e w') := by
          rw [hx]
          exact pairs_rs R B t deep st pa pc ps _ hB hpl HT4.parts H4.out
        rw [← hx]
        clear hT hR hb hk hL1 k4 HT4 hx hc1
        go_wp2_with fail
        refine HP.out.mono ?_
        intro e w7 hp
        have HQ : Hid (PgPost R B t deep L w e w7) := by
          have := hp.pre HB4.out HK4.out
          rw [← HL1.out] at this
          exact this
        rcases hp with ⟨st4, a1, rfl, a3, a4, a5⟩ | ⟨p, a1, rfl, a3⟩
        · clear a1 a3 a4 a5
          go_wp2
          go_ret
          exact HQ.out
        · clear a1 a3
          simp only [bad] at HQ ⊢
          go_wp2
          exact ⟨rfl, HQ.out⟩
end Go.Proofs.YtgfkmppkeolckaaDoor
