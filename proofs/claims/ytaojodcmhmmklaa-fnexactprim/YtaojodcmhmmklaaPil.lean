/- The law's walk over Prim. -/
import Derived.Test.YtaojodcmhmmklaaPii
import Derived.Test.YtaojodcmhmmklaaMkd
import Derived.Test.YtaojodcmhmmklaaTox
import Derived.Test.YtaojodcmhmmklaaSzc
import Derived.Test.YtaojodcmhmmklaaEqc
set_option linter.unusedVariables false
namespace Go.Proofs.Ytaojodcmhmmklaa
open Go.ChangeShapes Go.WideShapes Go.ChangeAt Go.RowKit
theorem wtH_bulk : ∀ h : List Cel, wtH h ≤ 4 * bulkC h
  | [] => by simp [wtH, bulkC, bulkOf]
  | c :: r => by
    have ih := wtH_bulk r
    have h1 := bulkOf_len ByteArray.size c.names
    have h2 := bulkOf_len (fun v : Val => v.s.size) c.vals
    simp only [wtH, bulkC, bulkOf, List.map_cons, List.sum_cons, wtC, Cel.bulk, bulkS, bulkV] at *
    omega
theorem prim_heap {h : List Cel} {s : ByteArray} {a : List Val} {r : List Cel × Val × Int} (hr : PrimR h s a r) : r.1 = h ∨ ∃ x y, x ∈ a ∧ y ∈ a ∧ h.length < 300 ∧ r.1 = h ++ [consC x y] := by
  rcases hr with ⟨p, hg, rfl⟩ | ⟨_, rfl⟩
  · obtain ⟨-, hH, hl, -⟩ := hg
    match a with
    | [] => exact .inl rfl
    | [x] =>
      left
      show (prim1 p h x).1 = h
      unfold prim1
      repeat' split
      all_goals rfl
    | [x, y] =>
      show (prim2 p h x y).1 = h ∨ ∃ x' y', x' ∈ [x, y] ∧ y' ∈ [x, y] ∧ h.length < 300 ∧ (prim2 p h x y).1 = h ++ [consC x' y']
      unfold prim2
      split
      · split <;> exact .inl rfl
      · split
        · exact .inl rfl
        · split
          · exact .inl rfl
          · rename_i hq
            exact .inr ⟨x, y, by simp, by simp, by omega, rfl⟩
    | x :: y :: z :: q => exact .inl rfl
  · exact .inl rfl
theorem prim_small {h : List Cel} {s : ByteArray} {a : List Val} {r : List Cel × Val × Int} (hr : PrimR h s a r) (hl : h.length ≤ 1048576) (hw : wtH h ≤ 4194304) (hsm : ∀ d ∈ h, d.small) (has : ∀ v ∈ a, v.small) : r.1.length ≤ 1048576 ∧ wtH r.1 ≤ 4194314 ∧ ∀ d ∈ r.1, d.small := by
  rcases prim_heap hr with e | ⟨x, y, hx, hy, h3, e⟩
  · rw [e]
    exact ⟨hl, by omega, hsm⟩
  · rw [e]
    refine ⟨by simp; omega, ?_, fun d hd => ?_⟩
    · simp only [wtH, List.map_append, List.sum_append, List.map_cons, List.map_nil, List.sum_cons, List.sum_nil]
      have : wtC (consC x y) = 10 := rfl
      unfold wtH at hw
      omega
    · rcases List.mem_append.1 hd with hd | hd
      · exact hsm d hd
      · simp at hd
        subst hd
        refine ⟨⟨by show (-9223372036854775808 : Int) ≤ 1; omega, by show (1 : Int) ≤ 9223372036854775807; omega⟩, ⟨by show (-9223372036854775808 : Int) ≤ 0; omega, by show (0 : Int) ≤ 9223372036854775807; omega⟩, ⟨by show (-9223372036854775808 : Int) ≤ 0; omega, by show (0 : Int) ≤ 9223372036854775807; omega⟩, by show (0 : Nat) ≤ 1048576; omega, by show (0 : Nat) ≤ 1048576; omega, by show (2 : Nat) ≤ 1048576; omega, fun q hq => absurd hq (by simp [consC]), fun v hv => ?_⟩
        simp [consC] at hv
        rcases hv with rfl | rfl
        · exact has _ hx
        · exact has _ hy
theorem prim_any (h : List Cel) (s : ByteArray) (a : List Val) : ∃ r, PrimR h s a r := by
  by_cases hg : ∃ p, GoodP p h s a
  · obtain ⟨p, hp⟩ := hg
    exact ⟨_, .inl ⟨p, hp, rfl⟩⟩
  · exact ⟨_, .inr ⟨hg, rfl⟩⟩
theorem smallV_of {l : List Val} (hw : ∀ d ∈ l, d.wf) (h : bulkV l ≤ 1048576) : ∀ d ∈ l, d.small := by
  intro d hd
  have hb := bulkOf_mem (fun v : Val => v.s.size) hd
  obtain ⟨h1, h2, _⟩ := hw d hd
  exact ⟨h1, h2, Nat.le_trans hb h⟩
namespace fnExactPrim
set_option maxRecDepth 100000 in
set_option maxHeartbeats 8000000 in
theorem walk (ah : Option Addr) (ch : Nat) (h : List Cel) (s : ByteArray) (aa : Option Addr) (ca : Nat) (a : List Val) (w : World) (hl1 : h.length ≤ 9223372036854775807) (hwf : ∀ d ∈ h, d.wf) (hl2 : a.length ≤ 9223372036854775807) (hwa : ∀ d ∈ a, d.wf) (hsz : s.size ≤ 9223372036854775807) (hr : RowC w w.heap.size ah h) (hra : RowV w w.heap.size aa a) :
    Calls Try.prog 3 #[.slice ah h.length ch, .string s, .slice aa a.length ca] w fun e w' => Ans w (.bool true) e w' := by
  by_cases hs : 1048576 < s.size
  · have q : decide ((1048576 : Int) < (s.size : Int)) = true := by simp; omega
    clear hr hra hwf hwa
    go_enter Try.func3, Try.ntmps3
    go_wp2
    go_ret
    exact ⟨rfl, Below.refl _ _⟩
  have q : decide ((1048576 : Int) < (s.size : Int)) = false := by simp; omega
  have HZ : Hid (Calls Try.prog 5 #[.slice ah h.length ch, .int .i64 1048576] w fun e w' => Ans w (.int .i64 (leftOf 1048576 (bulkC h))) e w') := szCellS_any ah h ch 1048576 w (by omega) hl1 hr hwf
  by_cases hbk : 1048576 < bulkC h
  · rw [leftOf_neg hbk] at HZ
    clear hr hra hwf hwa
    go_enter Try.func3, Try.ntmps3
    go_wp2_with fail
    refine HZ.out.mono ?_
    rintro e w1 ⟨rfl, hb1⟩
    go_wp2
    go_ret
    exact ⟨rfl, hb1⟩
  have hln : h.length ≤ bulkC h := bulkOf_len _ h
  have hbk' : bulkC h ≤ 1048576 := by omega
  have hsm := small_of hwf hbk'
  have hwt : wtH h ≤ 4194304 := by have := wtH_bulk h; omega
  rw [leftOf_nat hbk] at HZ
  have hq : 1048576 - bulkC h ≤ 1048576 := by omega
  generalize 1048576 - bulkC h = q1 at *
  have HZ2 : Hid (∀ w1, Below w.heap.size w w1 → Calls Try.prog 6 #[.slice aa a.length ca, .int .i64 q1] w1 fun e w' => Ans w1 (.int .i64 (leftOf q1 (bulkV a))) e w') := fun w1 hb => szValueS_any aa a ca q1 w1 hq hl2 ((hra.below hb).mono hb.size) hwa
  by_cases hbv : q1 < bulkV a
  · rw [leftOf_neg hbv] at HZ2
    clear hr hra hwf hwa hsm
    go_enter Try.func3, Try.ntmps3
    go_wp2_with fail
    refine HZ.out.mono ?_
    rintro e w1 ⟨rfl, hb1⟩
    go_wp2_with fail
    refine (HZ2.out _ hb1).mono ?_
    rintro e w2 ⟨rfl, hb2⟩
    go_wp2
    go_ret
    exact ⟨rfl, hb1.trans (hb2.mono hb1.size)⟩
  have hlv : a.length ≤ bulkV a := bulkOf_len _ a
  have has := smallV_of hwa (by omega : bulkV a ≤ 1048576)
  have hla : a.length ≤ 1048576 := by omega
  have hlh : h.length ≤ 1048576 := by omega
  have hss : s.size ≤ 1048576 := by omega
  rw [leftOf_nat hbv] at HZ2
  generalize q1 - bulkV a = q2 at *
  obtain ⟨r, hR⟩ := prim_any h s a
  obtain ⟨hrl, hrw, hrs⟩ := prim_small hR hlh hwt hsm has
  have HTO : Hid (∀ w1, Below w.heap.size w w1 → Calls Try.prog 8 #[.slice ah h.length ch] w1 fun e w' => TpPostO h w1 e w') := fun w1 hb => toCellS_o ah h ch w1 hlh ((hr.below hb).mono hb.size) hsm
  have HTV : Hid (∀ w1, Below w.heap.size w w1 → Calls Try.prog 9 #[.slice aa a.length ca] w1 fun e w' => ∃ g, e = .returned (.slice (some ⟨g, 0, none⟩) a.length a.length) ∧ w1.heap.size ≤ g ∧ g < w'.heap.size ∧ OwnV w' w1.heap.size (.slice (some ⟨g, 0, none⟩) a.length a.length) a ∧ Below w1.heap.size w1 w') := fun w1 hb => toValueS_o aa a ca w1 hla ((hra.below hb).mono hb.size)
  have HSP : Hid (∀ (xa ya : Option Addr) (w1 : World), RowC w1 w1.heap.size xa h → RowV w1 w1.heap.size ya a → Calls Try.prog 7 #[.slice xa h.length h.length, .string s, .slice ya a.length a.length] w1 fun e w' => PpPost w1.heap.size r w1 e w') := fun xa ya w1 h1 h2 => specPrim_any xa h.length h s ya a.length a r w1 hlh hsm hla has h1 h2 hR
  have HIM : Hid (∀ (xa ya : Option Addr) (w1 : World), RowC w1 w1.heap.size xa h → RowV w1 w1.heap.size ya a → Calls Try.prog 10 #[.slice xa h.length h.length, .string s, .slice ya a.length a.length] w1 fun e w' => PpPost w1.heap.size r w1 e w') := fun xa ya w1 h1 h2 => implPrim_any xa h.length h s ya a.length a r w1 hlh (Nat.le_refl _) hsm hla has hss h1 h2 hR
  have HEC : Hid (∀ (xa ya : Option Addr) (cx cy : Nat) (w1 : World), RowC w1 w1.heap.size xa r.1 → RowC w1 w1.heap.size ya r.1 → Calls Try.prog 11 #[.slice xa r.1.length cx, .slice ya r.1.length cy] w1 fun e w' => Ans w1 (.bool true) e w') := fun xa ya cx cy w1 h1 h2 => eqCellS_same xa ya r.1 cx cy w1 hrl hrs h1 h2
  have HEH : Hid (∀ (xa ya : Option Addr) (cx cy : Nat) (w1 : World), RowC w1 w1.heap.size xa h → RowC w1 w1.heap.size ya h → Calls Try.prog 11 #[.slice xa h.length cx, .slice ya h.length cy] w1 fun e w' => Ans w1 (.bool true) e w') := fun xa ya cx cy w1 h1 h2 => eqCellS_same xa ya h cx cy w1 hlh hsm h1 h2
  have HEV : Hid (∀ (xa ya : Option Addr) (cx cy : Nat) (w1 : World), RowV w1 w1.heap.size xa a → RowV w1 w1.heap.size ya a → Calls Try.prog 13 #[.slice xa a.length cx, .slice ya a.length cy] w1 fun e w' => Ans w1 (.bool true) e w') := fun xa ya cx cy w1 h1 h2 => eqValueS_same xa ya a cx cy w1 hla h1 h2
  have HE1 : Hid (∀ w1, Calls Try.prog 12 #[.agg #[.int .i64 r.2.1.k, .int .i64 r.2.1.n, .string r.2.1.s], .agg #[.int .i64 r.2.1.k, .int .i64 r.2.1.n, .string r.2.1.s]] w1 fun e w' => Ans w1 (.bool true) e w') := fun w1 => eqValue_same r.2.1 w1
  have hne : (r.2.2 != r.2.2) = false := by simp
  have HM0 : Hid (∀ (B T : Nat) (xa : Option Addr) (cap : Nat) (W : World), OwnH W B T (.slice xa h.length cap) h → T ≤ W.heap.size → Calls Try.prog 14 #[.slice xa h.length cap, .int .i64 1] W fun e w' => e = .returned (.int .i64 ((1 + wtH h : Nat) : Int)) ∧ OwnH w' B T (.slice xa h.length cap) (marksH 1 h) ∧ Only B T W w') := fun B T xa cap W h1 h2 => markCellS_o B T xa h cap 1 W h1 h2 (by omega) (by omega)
  have HM2 : Hid (∀ (B : Nat) (xa : Option Addr) (cap : Nat) (W : World), OwnV W B (.slice xa a.length cap) a → Calls Try.prog 15 #[.slice xa a.length cap, .int .i64 ((1 + wtH h : Nat) : Int)] W fun e w' => e = .returned (.int .i64 ((1 + wtH h + a.length * 3 : Nat) : Int)) ∧ OwnV w' B (.slice xa a.length cap) (marksV (1 + wtH h) a.length) ∧ W.grownBy w' (Value.slice xa a.length cap).ownBlock) := fun B xa cap W h1 => markValueS_o B xa a cap (1 + wtH h) W h1 (by omega) (by omega)
  have HMG : Hid (∀ (B T : Nat) (xa : Option Addr) (cap : Nat) (W : World), OwnH W B T (.slice xa r.1.length cap) r.1 → T ≤ W.heap.size → Calls Try.prog 14 #[.slice xa r.1.length cap, .int .i64 1] W fun e w' => e = .returned (.int .i64 ((1 + wtH r.1 : Nat) : Int)) ∧ OwnH w' B T (.slice xa r.1.length cap) (marksH 1 r.1) ∧ Only B T W w') := fun B T xa cap W h1 h2 => markCellS_o B T xa r.1 cap 1 W h1 h2 (by omega) (by omega)
  have HHG : Hid (∀ (xa : Option Addr) (cap : Nat) (W : World), RowC W W.heap.size xa (marksH 1 r.1) → Calls Try.prog 16 #[.slice xa r.1.length cap, .int .i64 1] W fun e w' => Ans W (.int .i64 ((1 + wtH r.1 : Nat) : Int)) e w') := fun xa cap W h1 => heldCellS_o xa r.1 cap 1 W (by omega) (by omega) h1
  have hk1 : decide (((1 + wtH h + a.length * 3 : Nat) : Int) < 0) = false := by simp; omega
  have hk2 : decide (((1 + wtH r.1 : Nat) : Int) < 0) = false := by simp; omega
  have hk3 : (((1 + wtH r.1 : Nat) : Int) != ((1 + wtH r.1 : Nat) : Int)) = false := by simp
  generalize 1 + wtH h + a.length * 3 = K1 at *
  generalize 1 + wtH h = K0 at *
  generalize 1 + wtH r.1 = M1 at *
  clear hr hra hwf hwa hsm has hR hrs hrw hwt hbk hbk' hbv hln hlv
  go_enter Try.func3, Try.ntmps3
  go_wp2_with fail
  refine HZ.out.mono ?_
  rintro e w1 ⟨rfl, hb1⟩
  go_wp2_with fail
  refine (HZ2.out _ hb1).mono ?_
  rintro e w2 ⟨rfl, hb2⟩
  have HB2 : Hid (Below w.heap.size w w2) := hb1.trans (hb2.mono hb1.size)
  clear hb1 hb2 HZ HZ2
  -- the model's answer
  go_wp2_with fail
  refine (HTO.out _ HB2.out).mono ?_
  rintro e w3 ⟨g3, rfl, hg3, hx3, hb3⟩
  have HB3 : Hid (Below w.heap.size w w3) := HB2.out.trans (hb3.mono HB2.out.size)
  have HX3 : Hid (OwnH w3 w2.heap.size w3.heap.size (.slice (some ⟨g3, 0, none⟩) h.length h.length) h) := hx3
  clear hx3 hb3 HB2 hg3
  go_wp2_with fail
  refine (HTV.out _ HB3.out).mono ?_
  rintro e w4 ⟨g4, rfl, hg4, hl4, hv4, hb4⟩
  have HB4 : Hid (Below w.heap.size w w4) := HB3.out.trans (hb4.mono HB3.out.size)
  have HX4 : Hid (OwnH w4 w2.heap.size w3.heap.size (.slice (some ⟨g3, 0, none⟩) h.length h.length) h) := HX3.out.below hb4
  have HV4 : Hid (OwnV w4 w3.heap.size (.slice (some ⟨g4, 0, none⟩) a.length a.length) a) := hv4
  clear hv4 hb4 HB3 HX3 hg4 hl4
  go_wp2_with fail
  refine (HSP.out _ _ _ HX4.out.row (HV4.out.row.keep fun b hb => ⟨(HV4.out.blk hb).2.1, rfl⟩)).mono ?_
  rintro e w5 ⟨hv5, rfl, ho5, hb5⟩
  obtain ⟨va, vc, rfl, hvc⟩ := ho5.slice
  have hA : w4.heap.size ≤ w5.heap.size := hb5.size
  have HB5 : Hid (Below w.heap.size w w5) := HB4.out.trans (hb5.mono HB4.out.size)
  have hbA : Below w5.heap.size w5 (w5.alloc (Obj.cells #[.int .i64 r.2.1.k, .int .i64 r.2.1.n, .string r.2.1.s] 28)) := (Below.refl _ _).alloc (Nat.le_refl _) _
  have HBA : Hid (Below w.heap.size w (w5.alloc (Obj.cells #[.int .i64 r.2.1.k, .int .i64 r.2.1.n, .string r.2.1.s] 28))) := HB5.out.trans (hbA.mono HB5.out.size)
  have HW0A : Hid (OwnH (w5.alloc (Obj.cells #[.int .i64 r.2.1.k, .int .i64 r.2.1.n, .string r.2.1.s] 28)) w4.heap.size w5.heap.size (.slice va r.1.length vc) r.1) := ho5.below hbA
  have KAA : Hid ((w5.alloc (Obj.cells #[.int .i64 r.2.1.k, .int .i64 r.2.1.n, .string r.2.1.s] 28)).heap[w5.heap.size]? = some (Obj.cells #[.int .i64 r.2.1.k, .int .i64 r.2.1.n, .string r.2.1.s] 28)) := blk_at _ _ _ rfl
  have hsA : (w5.alloc (Obj.cells #[.int .i64 r.2.1.k, .int .i64 r.2.1.n, .string r.2.1.s] 28)).heap.size = w5.heap.size + 1 := by simp
  have hw4 : w.heap.size ≤ w4.heap.size := HB4.out.size
  clear ho5 hb5 hbA HB4 HX4 HV4 HB5 HSP
  -- the program's arguments
  go_wp2_with fail
  refine (HTO.out _ HBA.out).mono ?_
  rintro e w6 ⟨g6, rfl, hg6, hx6, hb6⟩
  rw [hsA] at hg6 hx6
  have hs6 : w5.heap.size + 1 ≤ w6.heap.size := by have := hb6.size; omega
  have HB6 : Hid (Below w.heap.size w w6) := HBA.out.trans (hb6.mono HBA.out.size)
  have HW06 : Hid (OwnH w6 w4.heap.size w5.heap.size (.slice va r.1.length vc) r.1) := HW0A.out.below hb6
  have KA6 : Hid (w6.heap[w5.heap.size]? = some (Obj.cells #[.int .i64 r.2.1.k, .int .i64 r.2.1.n, .string r.2.1.s] 28)) := blk_keep KAA.out hb6 (by omega)
  have HX06 : Hid (OwnH w6 (w5.heap.size + 1) w6.heap.size (.slice (some ⟨g6, 0, none⟩) h.length h.length) h) := hx6
  clear hx6 hb6 HBA HW0A KAA hsA hg6
  go_wp2_with fail
  refine (HTV.out _ HB6.out).mono ?_
  rintro e w7 ⟨g7, rfl, hg7, hl7, hv7, hb7⟩
  have hs7 : w6.heap.size ≤ w7.heap.size := hb7.size
  have HB7 : Hid (Below w.heap.size w w7) := HB6.out.trans (hb7.mono HB6.out.size)
  have HW07 : Hid (OwnH w7 w4.heap.size w5.heap.size (.slice va r.1.length vc) r.1) := HW06.out.below hb7
  have KA7 : Hid (w7.heap[w5.heap.size]? = some (Obj.cells #[.int .i64 r.2.1.k, .int .i64 r.2.1.n, .string r.2.1.s] 28)) := blk_keep KA6.out hb7 (by omega)
  have HX07 : Hid (OwnH w7 (w5.heap.size + 1) w6.heap.size (.slice (some ⟨g6, 0, none⟩) h.length h.length) h) := HX06.out.below hb7
  have HX27 : Hid (OwnV w7 w6.heap.size (.slice (some ⟨g7, 0, none⟩) a.length a.length) a) := hv7
  clear hv7 hb7 HB6 HW06 KA6 HX06
  -- the program's answer
  go_wp2_with fail
  refine (HIM.out _ _ _ HX07.out.row (HX27.out.row.keep fun b hb => ⟨(HX27.out.blk hb).2.1, rfl⟩)).mono ?_
  rintro e w8 ⟨hv8, rfl, ho8, hb8⟩
  obtain ⟨ga, gc, rfl, hgc⟩ := ho8.slice
  have hs8 : w7.heap.size ≤ w8.heap.size := hb8.size
  have hb9 : Below w7.heap.size w7 (w8.alloc (Obj.cells #[.int .i64 r.2.1.k, .int .i64 r.2.1.n, .string r.2.1.s] 28)) := hb8.alloc hs8 _
  have hb89 : Below w8.heap.size w8 (w8.alloc (Obj.cells #[.int .i64 r.2.1.k, .int .i64 r.2.1.n, .string r.2.1.s] 28)) := (Below.refl _ _).alloc (Nat.le_refl _) _
  obtain ⟨w9, hw9⟩ : ∃ w9, w9 = w8.alloc (Obj.cells #[.int .i64 r.2.1.k, .int .i64 r.2.1.n, .string r.2.1.s] 28) := ⟨_, rfl⟩
  have HW9 : Hid (w9 = w8.alloc (Obj.cells #[.int .i64 r.2.1.k, .int .i64 r.2.1.n, .string r.2.1.s] 28)) := hw9
  have hs9 : w9.heap.size = w8.heap.size + 1 := by rw [hw9]; simp
  have HB9 : Hid (Below w.heap.size w w9) := by rw [hw9]; exact HB7.out.trans (hb9.mono HB7.out.size)
  have HW09 : Hid (OwnH w9 w4.heap.size w5.heap.size (.slice va r.1.length vc) r.1) := by rw [hw9]; exact HW07.out.below hb9
  have KA9 : Hid (w9.heap[w5.heap.size]? = some (Obj.cells #[.int .i64 r.2.1.k, .int .i64 r.2.1.n, .string r.2.1.s] 28)) := by rw [hw9]; exact blk_keep KA7.out hb9 (by omega)
  have HX09 : Hid (OwnH w9 (w5.heap.size + 1) w6.heap.size (.slice (some ⟨g6, 0, none⟩) h.length h.length) h) := by rw [hw9]; exact HX07.out.below hb9
  have HX29 : Hid (OwnV w9 w6.heap.size (.slice (some ⟨g7, 0, none⟩) a.length a.length) a) := by rw [hw9]; exact HX27.out.keep fun b hb => hb9.block b (HX27.out.blk hb).2.1
  have HG9 : Hid (OwnH w9 w7.heap.size w8.heap.size (.slice ga r.1.length gc) r.1) := by rw [hw9]; exact ho8.below hb89
  have KD9 : Hid (w9.heap[w8.heap.size]? = some (Obj.cells #[.int .i64 r.2.1.k, .int .i64 r.2.1.n, .string r.2.1.s] 28)) := by rw [hw9]; exact blk_at _ _ _ rfl
  clear hw9 hb9 hb89 hb8 ho8 HB7 HW07 KA7 HX07 HX27
  go_wp2_with fail
  rw [← HW9.out]
  refine (HEC.out _ _ _ _ _ HG9.out.row HW09.out.row).mono ?_
  rintro e w10 ⟨rfl, hb10⟩
  have hs10 : w9.heap.size ≤ w10.heap.size := hb10.size
  have HB10 : Hid (Below w.heap.size w w10) := HB9.out.trans (hb10.mono HB9.out.size)
  have HW010 : Hid (OwnH w10 w4.heap.size w5.heap.size (.slice va r.1.length vc) r.1) := HW09.out.below hb10
  have KA10 : Hid (w10.heap[w5.heap.size]? = some (Obj.cells #[.int .i64 r.2.1.k, .int .i64 r.2.1.n, .string r.2.1.s] 28)) := blk_keep KA9.out hb10 (by omega)
  have HX010 : Hid (OwnH w10 (w5.heap.size + 1) w6.heap.size (.slice (some ⟨g6, 0, none⟩) h.length h.length) h) := HX09.out.below hb10
  have HX210 : Hid (OwnV w10 w6.heap.size (.slice (some ⟨g7, 0, none⟩) a.length a.length) a) := HX29.out.keep fun b hb => hb10.block b (HX29.out.blk hb).2.1
  have HG10 : Hid (OwnH w10 w7.heap.size w8.heap.size (.slice ga r.1.length gc) r.1) := HG9.out.below hb10
  have KD10 : Hid (w10.heap[w8.heap.size]? = some (Obj.cells #[.int .i64 r.2.1.k, .int .i64 r.2.1.n, .string r.2.1.s] 28)) := blk_keep KD9.out hb10 (by omega)
  clear hb10 HB9 HW09 KA9 HX09 HX29 HG9 KD9
  have kd := KD10.out
  have ka := KA10.out
  have d0 := cell_blk (j := 0) kd rfl
  have d1 := cell_blk (j := 1) kd rfl
  have d2 := cell_blk (j := 2) kd rfl
  have e0 := cell_blk (j := 0) ka rfl
  have e1 := cell_blk (j := 1) ka rfl
  have e2 := cell_blk (j := 2) ka rfl
  clear kd ka
  go_wp2_with fail
  refine (HE1.out _).mono ?_
  rintro e w11 ⟨rfl, hb11⟩
  clear d0 d1 d2 e0 e1 e2
  have hs11 : w10.heap.size ≤ w11.heap.size := hb11.size
  have HB11 : Hid (Below w.heap.size w w11) := HB10.out.trans (hb11.mono HB10.out.size)
  have HW011 : Hid (OwnH w11 w4.heap.size w5.heap.size (.slice va r.1.length vc) r.1) := HW010.out.below hb11
  have KA11 : Hid (w11.heap[w5.heap.size]? = some (Obj.cells #[.int .i64 r.2.1.k, .int .i64 r.2.1.n, .string r.2.1.s] 28)) := blk_keep KA10.out hb11 (by omega)
  have HX011 : Hid (OwnH w11 (w5.heap.size + 1) w6.heap.size (.slice (some ⟨g6, 0, none⟩) h.length h.length) h) := HX010.out.below hb11
  have HX211 : Hid (OwnV w11 w6.heap.size (.slice (some ⟨g7, 0, none⟩) a.length a.length) a) := HX210.out.keep fun b hb => hb11.block b (HX210.out.blk hb).2.1
  have HG11 : Hid (OwnH w11 w7.heap.size w8.heap.size (.slice ga r.1.length gc) r.1) := HG10.out.below hb11
  have KD11 : Hid (w11.heap[w8.heap.size]? = some (Obj.cells #[.int .i64 r.2.1.k, .int .i64 r.2.1.n, .string r.2.1.s] 28)) := blk_keep KD10.out hb11 (by omega)
  clear hb11 HB10 HW010 KA10 HX010 HX210 HG10 KD10
  go_wp2_with fail
  refine (HTO.out _ HB11.out).mono ?_
  rintro e w12 ⟨g12, rfl, -, hx12, hb12⟩
  have hs12 : w11.heap.size ≤ w12.heap.size := hb12.size
  have HB12 : Hid (Below w.heap.size w w12) := HB11.out.trans (hb12.mono HB11.out.size)
  have HW012 : Hid (OwnH w12 w4.heap.size w5.heap.size (.slice va r.1.length vc) r.1) := HW011.out.below hb12
  have KA12 : Hid (w12.heap[w5.heap.size]? = some (Obj.cells #[.int .i64 r.2.1.k, .int .i64 r.2.1.n, .string r.2.1.s] 28)) := blk_keep KA11.out hb12 (by omega)
  have HX012 : Hid (OwnH w12 (w5.heap.size + 1) w6.heap.size (.slice (some ⟨g6, 0, none⟩) h.length h.length) h) := HX011.out.below hb12
  have HX212 : Hid (OwnV w12 w6.heap.size (.slice (some ⟨g7, 0, none⟩) a.length a.length) a) := HX211.out.keep fun b hb => hb12.block b (HX211.out.blk hb).2.1
  have HG12 : Hid (OwnH w12 w7.heap.size w8.heap.size (.slice ga r.1.length gc) r.1) := HG11.out.below hb12
  have KD12 : Hid (w12.heap[w8.heap.size]? = some (Obj.cells #[.int .i64 r.2.1.k, .int .i64 r.2.1.n, .string r.2.1.s] 28)) := blk_keep KD11.out hb12 (by omega)
  clear hb12 HB11 HW011 KA11 HX011 HX211 HG11 KD11
  go_wp2_with fail
  refine (HEH.out _ _ _ _ _ HX012.out.row hx12.row).mono ?_
  rintro e w13 ⟨rfl, hb13⟩
  clear hx12
  have hs13 : w12.heap.size ≤ w13.heap.size := hb13.size
  have HB13 : Hid (Below w.heap.size w w13) := HB12.out.trans (hb13.mono HB12.out.size)
  have HW013 : Hid (OwnH w13 w4.heap.size w5.heap.size (.slice va r.1.length vc) r.1) := HW012.out.below hb13
  have KA13 : Hid (w13.heap[w5.heap.size]? = some (Obj.cells #[.int .i64 r.2.1.k, .int .i64 r.2.1.n, .string r.2.1.s] 28)) := blk_keep KA12.out hb13 (by omega)
  have HX013 : Hid (OwnH w13 (w5.heap.size + 1) w6.heap.size (.slice (some ⟨g6, 0, none⟩) h.length h.length) h) := HX012.out.below hb13
  have HX213 : Hid (OwnV w13 w6.heap.size (.slice (some ⟨g7, 0, none⟩) a.length a.length) a) := HX212.out.keep fun b hb => hb13.block b (HX212.out.blk hb).2.1
  have HG13 : Hid (OwnH w13 w7.heap.size w8.heap.size (.slice ga r.1.length gc) r.1) := HG12.out.below hb13
  have KD13 : Hid (w13.heap[w8.heap.size]? = some (Obj.cells #[.int .i64 r.2.1.k, .int .i64 r.2.1.n, .string r.2.1.s] 28)) := blk_keep KD12.out hb13 (by omega)
  clear hb13 HB12 HW012 KA12 HX012 HX212 HG12 KD12
  go_wp2_with fail
  refine (HTV.out _ HB13.out).mono ?_
  rintro e w14 ⟨g14, rfl, -, -, hv14, hb14⟩
  have hs14 : w13.heap.size ≤ w14.heap.size := hb14.size
  have HB14 : Hid (Below w.heap.size w w14) := HB13.out.trans (hb14.mono HB13.out.size)
  have HW014 : Hid (OwnH w14 w4.heap.size w5.heap.size (.slice va r.1.length vc) r.1) := HW013.out.below hb14
  have KA14 : Hid (w14.heap[w5.heap.size]? = some (Obj.cells #[.int .i64 r.2.1.k, .int .i64 r.2.1.n, .string r.2.1.s] 28)) := blk_keep KA13.out hb14 (by omega)
  have HX014 : Hid (OwnH w14 (w5.heap.size + 1) w6.heap.size (.slice (some ⟨g6, 0, none⟩) h.length h.length) h) := HX013.out.below hb14
  have HX214 : Hid (OwnV w14 w6.heap.size (.slice (some ⟨g7, 0, none⟩) a.length a.length) a) := HX213.out.keep fun b hb => hb14.block b (HX213.out.blk hb).2.1
  have HG14 : Hid (OwnH w14 w7.heap.size w8.heap.size (.slice ga r.1.length gc) r.1) := HG13.out.below hb14
  have KD14 : Hid (w14.heap[w8.heap.size]? = some (Obj.cells #[.int .i64 r.2.1.k, .int .i64 r.2.1.n, .string r.2.1.s] 28)) := blk_keep KD13.out hb14 (by omega)
  clear hb14 HB13 HW013 KA13 HX013 HX213 HG13 KD13
  go_wp2_with fail
  refine (HEV.out _ _ _ _ _ (HX214.out.row.keep fun b hb => ⟨(HX214.out.blk hb).2.1, rfl⟩) (hv14.row.keep fun b hb => ⟨(hv14.blk hb).2.1, rfl⟩)).mono ?_
  rintro e w15 ⟨rfl, hb15⟩
  clear hv14
  have hs15 : w14.heap.size ≤ w15.heap.size := hb15.size
  have HB15 : Hid (Below w.heap.size w w15) := HB14.out.trans (hb15.mono HB14.out.size)
  have HW015 : Hid (OwnH w15 w4.heap.size w5.heap.size (.slice va r.1.length vc) r.1) := HW014.out.below hb15
  have KA15 : Hid (w15.heap[w5.heap.size]? = some (Obj.cells #[.int .i64 r.2.1.k, .int .i64 r.2.1.n, .string r.2.1.s] 28)) := blk_keep KA14.out hb15 (by omega)
  have HX015 : Hid (OwnH w15 (w5.heap.size + 1) w6.heap.size (.slice (some ⟨g6, 0, none⟩) h.length h.length) h) := HX014.out.below hb15
  have HX215 : Hid (OwnV w15 w6.heap.size (.slice (some ⟨g7, 0, none⟩) a.length a.length) a) := HX214.out.keep fun b hb => hb15.block b (HX214.out.blk hb).2.1
  have HG15 : Hid (OwnH w15 w7.heap.size w8.heap.size (.slice ga r.1.length gc) r.1) := HG14.out.below hb15
  have KD15 : Hid (w15.heap[w8.heap.size]? = some (Obj.cells #[.int .i64 r.2.1.k, .int .i64 r.2.1.n, .string r.2.1.s] 28)) := blk_keep KD14.out hb15 (by omega)
  clear hb15 HB14 HW014 KA14 HX014 HX214 HG14 KD14
  -- the marks of the arguments
  go_wp2_with fail
  refine (HM0.out _ _ _ _ _ HX015.out (by omega)).mono ?_
  rintro e w16 ⟨rfl, -, hc16⟩
  have hs16 : w15.heap.size ≤ w16.heap.size := hc16.size
  have HB16 : Hid (Below w.heap.size w w16) := HB15.out.trans (hc16.below (by omega) HB15.out.size)
  have HW016 : Hid (OwnH w16 w4.heap.size w5.heap.size (.slice va r.1.length vc) r.1) := HW015.out.keep fun b _ h2 h3 => hc16.same b h3 (.inl (by omega))
  have KA16 : Hid (w16.heap[w5.heap.size]? = some (Obj.cells #[.int .i64 r.2.1.k, .int .i64 r.2.1.n, .string r.2.1.s] 28)) := (hc16.same _ (by omega) (.inl (by omega))).trans KA15.out
  have HX216 : Hid (OwnV w16 w6.heap.size (.slice (some ⟨g7, 0, none⟩) a.length a.length) a) := HX215.out.keep fun b hb => hc16.same b (HX215.out.blk hb).2.1 (.inr (HX215.out.blk hb).1)
  have HG16 : Hid (OwnH w16 w7.heap.size w8.heap.size (.slice ga r.1.length gc) r.1) := HG15.out.keep fun b h1 _ h3 => hc16.same b h3 (.inr (by omega))
  have KD16 : Hid (w16.heap[w8.heap.size]? = some (Obj.cells #[.int .i64 r.2.1.k, .int .i64 r.2.1.n, .string r.2.1.s] 28)) := (hc16.same _ (by omega) (.inr (by omega))).trans KD15.out
  clear hc16 HB15 HW015 KA15 HX015 HX215 HG15 KD15
  go_wp2_with fail
  refine (HM2.out _ _ _ _ HX216.out).mono ?_
  rintro e w17 ⟨rfl, -, hc17⟩
  have hs17 : w16.heap.size ≤ w17.heap.size := hc17.size
  have hn17 : ∀ b, (b < w6.heap.size ∨ w7.heap.size ≤ b) → some b ≠ (Value.slice (some ⟨g7, 0, none⟩) a.length a.length).ownBlock := fun b hb e => by
    have : b = g7 := by injection e
    omega
  have HB17 : Hid (Below w.heap.size w w17) := HB16.out.trans ⟨hc17.os, hc17.tape, hc17.output, hc17.size, fun b hb => hc17.block b (by have := HB16.out.size; omega) (hn17 b (.inl (by omega)))⟩
  have HW017 : Hid (OwnH w17 w4.heap.size w5.heap.size (.slice va r.1.length vc) r.1) := HW016.out.keep fun b _ h2 h3 => hc17.block b h3 (hn17 b (.inl (by omega)))
  have KA17 : Hid (w17.heap[w5.heap.size]? = some (Obj.cells #[.int .i64 r.2.1.k, .int .i64 r.2.1.n, .string r.2.1.s] 28)) := (hc17.block _ (by omega) (hn17 _ (.inl (by omega)))).trans KA16.out
  have HG17 : Hid (OwnH w17 w7.heap.size w8.heap.size (.slice ga r.1.length gc) r.1) := HG16.out.keep fun b h1 _ h3 => hc17.block b h3 (hn17 b (.inr h1))
  have KD17 : Hid (w17.heap[w8.heap.size]? = some (Obj.cells #[.int .i64 r.2.1.k, .int .i64 r.2.1.n, .string r.2.1.s] 28)) := (hc17.block _ (by omega) (hn17 _ (.inr (by omega)))).trans KD16.out
  clear hc17 HB16 HW016 KA16 HX216 HG16 KD16 hn17
  go_wp2_with fail
  refine (HEC.out _ _ _ _ _ HG17.out.row HW017.out.row).mono ?_
  rintro e w18 ⟨rfl, hb18⟩
  have hs18 : w17.heap.size ≤ w18.heap.size := hb18.size
  have HB18 : Hid (Below w.heap.size w w18) := HB17.out.trans (hb18.mono HB17.out.size)
  have HW018 : Hid (OwnH w18 w4.heap.size w5.heap.size (.slice va r.1.length vc) r.1) := HW017.out.below hb18
  have KA18 : Hid (w18.heap[w5.heap.size]? = some (Obj.cells #[.int .i64 r.2.1.k, .int .i64 r.2.1.n, .string r.2.1.s] 28)) := blk_keep KA17.out hb18 (by omega)
  have HG18 : Hid (OwnH w18 w7.heap.size w8.heap.size (.slice ga r.1.length gc) r.1) := HG17.out.below hb18
  have KD18 : Hid (w18.heap[w8.heap.size]? = some (Obj.cells #[.int .i64 r.2.1.k, .int .i64 r.2.1.n, .string r.2.1.s] 28)) := blk_keep KD17.out hb18 (by omega)
  clear hb18 HB17 HW017 KA17 HG17 KD17
  have kd := KD18.out
  have ka := KA18.out
  have d0 := cell_blk (j := 0) kd rfl
  have d1 := cell_blk (j := 1) kd rfl
  have d2 := cell_blk (j := 2) kd rfl
  have e0 := cell_blk (j := 0) ka rfl
  have e1 := cell_blk (j := 1) ka rfl
  have e2 := cell_blk (j := 2) ka rfl
  clear kd ka
  go_wp2_with fail
  refine (HE1.out _).mono ?_
  rintro e w19 ⟨rfl, hb19⟩
  clear d0 d1 d2 e0 e1 e2
  have hs19 : w18.heap.size ≤ w19.heap.size := hb19.size
  have HB19 : Hid (Below w.heap.size w w19) := HB18.out.trans (hb19.mono HB18.out.size)
  have HW019 : Hid (OwnH w19 w4.heap.size w5.heap.size (.slice va r.1.length vc) r.1) := HW018.out.below hb19
  have KA19 : Hid (w19.heap[w5.heap.size]? = some (Obj.cells #[.int .i64 r.2.1.k, .int .i64 r.2.1.n, .string r.2.1.s] 28)) := blk_keep KA18.out hb19 (by omega)
  have HG19 : Hid (OwnH w19 w7.heap.size w8.heap.size (.slice ga r.1.length gc) r.1) := HG18.out.below hb19
  have KD19 : Hid (w19.heap[w8.heap.size]? = some (Obj.cells #[.int .i64 r.2.1.k, .int .i64 r.2.1.n, .string r.2.1.s] 28)) := blk_keep KD18.out hb19 (by omega)
  clear hb19 HB18 HW018 KA18 HG18 KD18
  -- the marks of the answer
  go_wp2_with fail
  refine (HMG.out _ _ _ _ _ HG19.out (by omega)).mono ?_
  rintro e w20 ⟨rfl, hg20, hc20⟩
  have hs20 : w19.heap.size ≤ w20.heap.size := hc20.size
  have HB20 : Hid (Below w.heap.size w w20) := HB19.out.trans (hc20.below (by omega) HB19.out.size)
  have HW020 : Hid (OwnH w20 w4.heap.size w5.heap.size (.slice va r.1.length vc) r.1) := HW019.out.keep fun b _ h2 h3 => hc20.same b h3 (.inl (by omega))
  have KA20 : Hid (w20.heap[w5.heap.size]? = some (Obj.cells #[.int .i64 r.2.1.k, .int .i64 r.2.1.n, .string r.2.1.s] 28)) := (hc20.same _ (by omega) (.inl (by omega))).trans KA19.out
  have HG20 : Hid (OwnH w20 w7.heap.size w8.heap.size (.slice ga r.1.length gc) (marksH 1 r.1)) := hg20
  clear hc20 HB19 HW019 KA19 HG19 KD19 hg20
  go_wp2_with fail
  refine (HHG.out _ _ _ HG20.out.row).mono ?_
  rintro e w21 ⟨rfl, hb21⟩
  have hs21 : w20.heap.size ≤ w21.heap.size := hb21.size
  have HB21 : Hid (Below w.heap.size w w21) := HB20.out.trans (hb21.mono HB20.out.size)
  have HW021 : Hid (OwnH w21 w4.heap.size w5.heap.size (.slice va r.1.length vc) r.1) := HW020.out.below hb21
  have KA21 : Hid (w21.heap[w5.heap.size]? = some (Obj.cells #[.int .i64 r.2.1.k, .int .i64 r.2.1.n, .string r.2.1.s] 28)) := blk_keep KA20.out hb21 (by omega)
  have HG21 : Hid (OwnH w21 w7.heap.size w8.heap.size (.slice ga r.1.length gc) (marksH 1 r.1)) := HG20.out.below hb21
  clear hb21 HB20 HW020 KA20 HG20
  -- once more
  go_wp2_with fail
  refine (HTO.out _ HB21.out).mono ?_
  rintro e w22 ⟨g22, rfl, -, hx22, hb22⟩
  have hs22 : w21.heap.size ≤ w22.heap.size := hb22.size
  have HB22 : Hid (Below w.heap.size w w22) := HB21.out.trans (hb22.mono HB21.out.size)
  have HW022 : Hid (OwnH w22 w4.heap.size w5.heap.size (.slice va r.1.length vc) r.1) := HW021.out.below hb22
  have KA22 : Hid (w22.heap[w5.heap.size]? = some (Obj.cells #[.int .i64 r.2.1.k, .int .i64 r.2.1.n, .string r.2.1.s] 28)) := blk_keep KA21.out hb22 (by omega)
  have HG22 : Hid (OwnH w22 w7.heap.size w8.heap.size (.slice ga r.1.length gc) (marksH 1 r.1)) := HG21.out.below hb22
  clear hb22 HB21 HW021 KA21 HG21
  go_wp2_with fail
  refine (HTV.out _ HB22.out).mono ?_
  rintro e w23 ⟨g23, rfl, -, -, hv23, hb23⟩
  have hx23 := hx22.below hb23
  clear hx22
  have hs23 : w22.heap.size ≤ w23.heap.size := hb23.size
  have HB23 : Hid (Below w.heap.size w w23) := HB22.out.trans (hb23.mono HB22.out.size)
  have HW023 : Hid (OwnH w23 w4.heap.size w5.heap.size (.slice va r.1.length vc) r.1) := HW022.out.below hb23
  have KA23 : Hid (w23.heap[w5.heap.size]? = some (Obj.cells #[.int .i64 r.2.1.k, .int .i64 r.2.1.n, .string r.2.1.s] 28)) := blk_keep KA22.out hb23 (by omega)
  have HG23 : Hid (OwnH w23 w7.heap.size w8.heap.size (.slice ga r.1.length gc) (marksH 1 r.1)) := HG22.out.below hb23
  clear hb23 HB22 HW022 KA22 HG22
  go_wp2_with fail
  refine (HIM.out _ _ _ hx23.row (hv23.row.keep fun b hb => ⟨(hv23.blk hb).2.1, rfl⟩)).mono ?_
  rintro e w24 ⟨hv24, rfl, ho24, hb24⟩
  clear hx23 hv23
  obtain ⟨ha, hc, rfl, hhc⟩ := ho24.slice
  have hs24 : w23.heap.size ≤ w24.heap.size := hb24.size
  have HB24 : Hid (Below w.heap.size w w24) := HB23.out.trans (hb24.mono HB23.out.size)
  have HW024 : Hid (OwnH w24 w4.heap.size w5.heap.size (.slice va r.1.length vc) r.1) := HW023.out.below hb24
  have KA24 : Hid (w24.heap[w5.heap.size]? = some (Obj.cells #[.int .i64 r.2.1.k, .int .i64 r.2.1.n, .string r.2.1.s] 28)) := blk_keep KA23.out hb24 (by omega)
  have HG24 : Hid (OwnH w24 w7.heap.size w8.heap.size (.slice ga r.1.length gc) (marksH 1 r.1)) := HG23.out.below hb24
  clear hb24 HB23 HW023 KA23 HG23
  have hb25 : Below w24.heap.size w24 (w24.alloc (Obj.cells #[.int .i64 r.2.1.k, .int .i64 r.2.1.n, .string r.2.1.s] 28)) := (Below.refl _ _).alloc (Nat.le_refl _) _
  obtain ⟨w25, hw25⟩ : ∃ w25, w25 = w24.alloc (Obj.cells #[.int .i64 r.2.1.k, .int .i64 r.2.1.n, .string r.2.1.s] 28) := ⟨_, rfl⟩
  have HW25 : Hid (w25 = w24.alloc (Obj.cells #[.int .i64 r.2.1.k, .int .i64 r.2.1.n, .string r.2.1.s] 28)) := hw25
  have hsx : w25.heap.size = w24.heap.size + 1 := by rw [hw25]; simp
  have KE25 : Hid (w25.heap[w24.heap.size]? = some (Obj.cells #[.int .i64 r.2.1.k, .int .i64 r.2.1.n, .string r.2.1.s] 28)) := by rw [hw25]; exact blk_at _ _ _ rfl
  rw [← hw25] at hb25
  have HH25 : Hid (OwnH w25 w23.heap.size w24.heap.size (.slice ha r.1.length hc) r.1) := ho24.below hb25
  clear hw25 ho24
  have hs25 : w24.heap.size ≤ w25.heap.size := hb25.size
  have HB25 : Hid (Below w.heap.size w w25) := HB24.out.trans (hb25.mono HB24.out.size)
  have HW025 : Hid (OwnH w25 w4.heap.size w5.heap.size (.slice va r.1.length vc) r.1) := HW024.out.below hb25
  have KA25 : Hid (w25.heap[w5.heap.size]? = some (Obj.cells #[.int .i64 r.2.1.k, .int .i64 r.2.1.n, .string r.2.1.s] 28)) := blk_keep KA24.out hb25 (by omega)
  have HG25 : Hid (OwnH w25 w7.heap.size w8.heap.size (.slice ga r.1.length gc) (marksH 1 r.1)) := HG24.out.below hb25
  clear hb25 HB24 HW024 KA24 HG24
  go_wp2_with fail
  rw [← HW25.out]
  refine (HEC.out _ _ _ _ _ HH25.out.row HW025.out.row).mono ?_
  rintro e w26 ⟨rfl, hb26⟩
  have ke := blk_keep KE25.out hb26 (by omega)
  clear HH25
  have hs26 : w25.heap.size ≤ w26.heap.size := hb26.size
  have HB26 : Hid (Below w.heap.size w w26) := HB25.out.trans (hb26.mono HB25.out.size)
  have HW026 : Hid (OwnH w26 w4.heap.size w5.heap.size (.slice va r.1.length vc) r.1) := HW025.out.below hb26
  have KA26 : Hid (w26.heap[w5.heap.size]? = some (Obj.cells #[.int .i64 r.2.1.k, .int .i64 r.2.1.n, .string r.2.1.s] 28)) := blk_keep KA25.out hb26 (by omega)
  have HG26 : Hid (OwnH w26 w7.heap.size w8.heap.size (.slice ga r.1.length gc) (marksH 1 r.1)) := HG25.out.below hb26
  clear hb26 HB25 HW025 KA25 HG25
  have ka := KA26.out
  have d0 := cell_blk (j := 0) ke rfl
  have d1 := cell_blk (j := 1) ke rfl
  have d2 := cell_blk (j := 2) ke rfl
  have e0 := cell_blk (j := 0) ka rfl
  have e1 := cell_blk (j := 1) ka rfl
  have e2 := cell_blk (j := 2) ka rfl
  clear ke ka KE25
  go_wp2_with fail
  refine (HE1.out _).mono ?_
  rintro e w27 ⟨rfl, hb27⟩
  clear d0 d1 d2 e0 e1 e2
  have hs27 : w26.heap.size ≤ w27.heap.size := hb27.size
  have HB27 : Hid (Below w.heap.size w w27) := HB26.out.trans (hb27.mono HB26.out.size)
  have HW027 : Hid (OwnH w27 w4.heap.size w5.heap.size (.slice va r.1.length vc) r.1) := HW026.out.below hb27
  have KA27 : Hid (w27.heap[w5.heap.size]? = some (Obj.cells #[.int .i64 r.2.1.k, .int .i64 r.2.1.n, .string r.2.1.s] 28)) := blk_keep KA26.out hb27 (by omega)
  have HG27 : Hid (OwnH w27 w7.heap.size w8.heap.size (.slice ga r.1.length gc) (marksH 1 r.1)) := HG26.out.below hb27
  clear hb27 HB26 HW026 KA26 HG26
  go_wp2_with fail
  refine (HHG.out _ _ _ HG27.out.row).mono ?_
  rintro e w28 ⟨rfl, hb28⟩
  have HB28 : Hid (Below w.heap.size w w28) := HB27.out.trans (hb28.mono HB27.out.size)
  clear hb28
  go_wp2
  go_ret
  exact ⟨rfl, HB28.out⟩
end fnExactPrim
end Go.Proofs.Ytaojodcmhmmklaa
