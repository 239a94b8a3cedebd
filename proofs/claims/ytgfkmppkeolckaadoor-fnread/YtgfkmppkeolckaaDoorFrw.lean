/- The law FnRead walked: for whatever code it answers true. -/
import Derived.Test.YtgfkmppkeolckaaDoorFra
set_option linter.unusedVariables false
namespace Go.Proofs.YtgfkmppkeolckaaDoor.Cu
open Go.ChangeShapes Go.WideShapes Go.ChangeAt Go.RowKit
theorem row_rd {B ca cb : Nat} {a b : Option Addr} {W : World} {cs : List Dat} {ts : List Int} (h1 : W.ownsRow B 67 5 (.slice a cs.length ca) cs.length (flatD cs)) (h2 : W.ownsRow B 3 1 (.slice b ts.length cb) ts.length (ts.map (Value.int .i64 ·))) : DatAt (W.alloc (Obj.cells #[.slice a cs.length ca, .slice b ts.length cb] 28)) W.heap.size a b ca cb cs ts :=
  DatAt.new (own_rowD h1) (own_rowI h2)
theorem bel_new (W : World) (o : Obj) : Below W.heap.size W (W.alloc o) := (Below.refl _ _).alloc (Nat.le_refl _) o
theorem bel_step {a b c : World} (h : Below a.heap.size a b) (hb : Below b.heap.size b c) : Below a.heap.size a c := h.trans (hb.mono h.size)
theorem bel_undrew {W w' : World} (h : Below W.drew.heap.size W.drew w') : Below W.heap.size W w' := ⟨h.os, h.tape, h.output, h.size, h.block⟩
theorem tab_drew {W : World} (h : TabW W) : TabW W.drew := h.below (⟨rfl, rfl, rfl, Nat.le_refl _, fun _ _ => rfl⟩)
set_option maxRecDepth 100000 in
set_option maxHeartbeats 2000000 in
theorem lawR (d : Code1) (w : World) (hc : CodeAt w w.heap.size d) (htab : TabW w) : Calls Tryd.prog 3 #[.slice d.a d.len d.cap] w fun e w' => Ans w (.bool true) e w' := by
  have hl : d.len ≤ 1048576 := hc.1
  have HC : Hid (CodeAt w w.heap.size d) := hc
  have HT : Hid (TabW w) := htab
  have H6 : Hid (∀ w, Calls Tryd.prog 6 #[.slice d.a d.len d.cap] w fun e w' => e = .returned (.bool false) ∧ w' = w) := fun w => big_no d.a d.len d.cap w hl
  have H7 : Hid (Calls Tryd.prog 7 #[.slice d.a d.len d.cap] w fun e w' => ∃ t, e = .returned (.string t) ∧ t.size ≤ 20010 ∧ Below w.heap.size w w') := drawRead_any d w hc
  clear hc htab hl
  go_enter Tryd.func3, Tryd.ntmps3
  go_wp2_with fail
  refine (H6.out w).mono ?_
  rintro e w0 ⟨rfl, rfl⟩
  go_wp2_with fail
  refine H7.out.mono ?_
  rintro e w1 ⟨t, rfl, ht, hb1⟩
  have HB1 : Hid (Below w0.heap.size w0 w1) := hb1
  clear H6 H7 hb1
  obtain ⟨cs, ts, p, _, h9, h8, hcase⟩ := reads_all t (by omega)
  have H9 : Hid (∀ w, Calls Tryd.prog 9 #[.string t] w fun e w' => RdO cs ts p w e w') := h9
  have H8 : Hid (∀ w, Calls Tryd.prog 8 #[.string t] w fun e w' => RdO cs ts p w e w') := h8
  have HCS : Hid _ := hcase
  clear h9 h8 hcase
  go_wp2_with fail
  refine (H8.out w1).mono ?_
  rintro e w2 ⟨a, b, ca, cb, rfl, o2, i2, hb2, _⟩
  have D2 := row_rd o2 i2
  have HB2 : Hid (Below w0.heap.size w0 (w2.alloc (Obj.cells #[Value.slice a cs.length ca, Value.slice b ts.length cb] 28))) := bel_step (bel_step HB1.out hb2) (bel_new _ _)
  generalize hW2 : w2.alloc (Obj.cells #[Value.slice a cs.length ca, Value.slice b ts.length cb] 28) = W2 at D2 HB2
  have HW2 : Hid _ := hW2
  have HD2 : Hid (DatAt W2 w2.heap.size a b ca cb cs ts) := D2
  clear o2 i2 hb2 hW2 D2
  obtain ⟨G, hG⟩ : ∃ G, G = w2.heap.size := ⟨_, rfl⟩
  have HGG : Hid (G = w2.heap.size) := hG
  rw [← hG] at HD2
  clear hG
  go_wp2_with fail
  rw [HW2.out, ← HGG.out]
  clear HW2 HGG
  refine (H9.out W2).mono ?_
  rintro e w3 ⟨a3, b3, ca3, cb3, rfl, _, _, hb3, _⟩
  have D3 : DatAt (w3.alloc (Obj.cells #[Value.slice a3 cs.length ca3, Value.slice b3 ts.length cb3] 28)) G a b ca cb cs ts := DatAt.below (DatAt.below HD2.out hb3) (bel_new _ _)
  have e0 := cell_blk (j := 0) D3.1 rfl
  have e1 := cell_blk (j := 1) D3.1 rfl
  have HB3 : Hid (Below w0.heap.size w0 (w3.alloc (Obj.cells #[Value.slice a3 cs.length ca3, Value.slice b3 ts.length cb3] 28))) := bel_step (bel_step HB2.out hb3) (bel_new _ _)
  have HD3 : Hid (DatAt (w3.alloc (Obj.cells #[Value.slice a3 cs.length ca3, Value.slice b3 ts.length cb3] 28)) G a b ca cb cs ts) := D3
  clear H9 HD2 HB2 HB1 hb3 D3
  rcases HCS.out with ⟨rfl, hok, hcl, htl, htr, _, hsh8, hfr8⟩ | ⟨hp0, hp1, rfl, rfl⟩
  · clear HCS H8
    have hwf := ok_wf hok hcl
    have hbk : bulkD cs + ts.length ≤ 1048576 := by
      have := bulk_le cs (ok_size hok)
      omega
    have HSH : Hid (Calls Tryd.prog 10 #[.agg #[.slice a cs.length ca, .slice b ts.length cb]] (w3.alloc (Obj.cells #[Value.slice a3 cs.length ca3, Value.slice b3 ts.length cb3] 28)) fun e w' => Ans (w3.alloc (Obj.cells #[Value.slice a3 cs.length ca3, Value.slice b3 ts.length cb3] 28)) (.string ⟨(shAll cs ts).toArray⟩) e w') := by
      show Calls _ _ _ _ _
      rw [← showR_tree (treeB_true htr)]
      exact implShow_any a b ca cb cs ts _ hbk hwf HD3.out.2.1 HD3.out.2.2 (TabW.below HT.out HB3.out).1 (TabW.below HT.out HB3.out).2
    have HS8 : Hid (∀ w, Calls Tryd.prog 8 #[.string ⟨(shAll cs ts).toArray⟩] w fun e w' => RdO cs ts (-1) w e w') := hsh8
    have HF8 : Hid (∀ w, Calls Tryd.prog 8 #[.string (frm t)] w fun e w' => RdO cs ts (-1) w e w') := hfr8
    have HDK : Hid (∀ (a b : Option Addr) (ca cb : Nat) (w1 : World), RowD w1 w1.heap.size a cs → RowI w1 w1.heap.size b ts → TabW w1 → Calls Tryd.prog 12 #[.agg #[.slice a cs.length ca, .slice b ts.length cb]] w1 fun e w' => Ans w1 (.bool true) e w') := fun a b ca cb w1 h1 h2 h3 => dok_read cs ts hbk hwf htr hsh8 a b ca cb w1 h1 h2 h3
    have HSD : Hid (∀ (a b a' b' : Option Addr) (ca cb ca' cb' : Nat) (w1 : World), RowD w1 w1.heap.size a cs → RowI w1 w1.heap.size b ts → RowD w1 w1.heap.size a' cs → RowI w1 w1.heap.size b' ts → Calls Tryd.prog 13 #[.agg #[.slice a cs.length ca, .slice b ts.length cb], .agg #[.slice a' cs.length ca', .slice b' ts.length cb']] w1 fun e w' => Ans w1 (.bool true) e w') := fun a b a' b' ca cb ca' cb' w1 h1 h2 h3 h4 => sameData_same a b a' b' cs ts ca cb ca' cb' w1 (by omega) (by omega) h1 h2 h3 h4
    clear hok hcl htl htr hsh8 hfr8 hwf hbk
    generalize (⟨(shAll cs ts).toArray⟩ : ByteArray) = S at *
    go_wp2_with fail
    refine HSH.out.mono ?_
    rintro e w4 ⟨rfl, hb4⟩
    have HB4 : Hid (Below w0.heap.size w0 w4) := bel_step HB3.out hb4
    have HD4 : Hid (DatAt w4 G a b ca cb cs ts) := DatAt.below HD3.out hb4
    clear HSH HD3 HB3 hb4 e0 e1
    go_wp2_with fail
    refine (HS8.out w4).mono ?_
    rintro e w5 ⟨a5, b5, ca5, cb5, rfl, o5, i5, hb5, _⟩
    have E5 := row_rd o5 i5
    have HB5 : Hid (Below w0.heap.size w0 (w5.alloc (Obj.cells #[Value.slice a5 cs.length ca5, Value.slice b5 ts.length cb5] 28))) := bel_step (bel_step HB4.out hb5) (bel_new _ _)
    have D5 := DatAt.below (DatAt.below HD4.out hb5) (bel_new w5 (Obj.cells #[Value.slice a5 cs.length ca5, Value.slice b5 ts.length cb5] 28))
    generalize hW5 : w5.alloc (Obj.cells #[Value.slice a5 cs.length ca5, Value.slice b5 ts.length cb5] 28) = W5 at E5 HB5 D5
    have HW5 : Hid _ := hW5
    obtain ⟨G5, hG5⟩ : ∃ G, G = w5.heap.size := ⟨_, rfl⟩
    have HGG : Hid (G5 = w5.heap.size) := hG5
    rw [← hG5] at E5
    have HE5 : Hid (DatAt W5 G5 a5 b5 ca5 cb5 cs ts) := E5
    have HD5 : Hid (DatAt W5 G a b ca cb cs ts) := D5
    clear HS8 HD4 HB4 o5 i5 hb5 hW5 E5 D5 hG5
    go_wp2_with fail
    rw [HW5.out, frm_eq, ← HGG.out]
    clear HW5 HGG
    refine (HF8.out W5).mono ?_
    rintro e w6 ⟨a6, b6, ca6, cb6, rfl, o6, i6, hb6, _⟩
    have F6 := row_rd o6 i6
    have HB6 : Hid (Below w0.heap.size w0 (w6.alloc (Obj.cells #[Value.slice a6 cs.length ca6, Value.slice b6 ts.length cb6] 28))) := bel_step (bel_step HB5.out hb6) (bel_new _ _)
    have D6 := DatAt.below (DatAt.below HD5.out hb6) (bel_new w6 (Obj.cells #[Value.slice a6 cs.length ca6, Value.slice b6 ts.length cb6] 28))
    have E6 := DatAt.below (DatAt.below HE5.out hb6) (bel_new w6 (Obj.cells #[Value.slice a6 cs.length ca6, Value.slice b6 ts.length cb6] 28))
    generalize hW6 : w6.alloc (Obj.cells #[Value.slice a6 cs.length ca6, Value.slice b6 ts.length cb6] 28) = W6 at E6 HB6 D6 F6
    have HW6 : Hid _ := hW6
    obtain ⟨G6, hG6⟩ : ∃ G, G = w6.heap.size := ⟨_, rfl⟩
    have HGG : Hid (G6 = w6.heap.size) := hG6
    rw [← hG6] at F6
    have HF6 : Hid (DatAt W6 G6 a6 b6 ca6 cb6 cs ts) := F6
    have HE6 : Hid (DatAt W6 G5 a5 b5 ca5 cb5 cs ts) := E6
    have HD6 : Hid (DatAt W6 G a b ca cb cs ts) := D6
    have H11 : Hid (Calls Tryd.prog 11 #[.slice d.a d.len d.cap] W6 fun e w' => ∃ v, e = .returned v ∧ DtW w' v ∧ Below W6.heap.size W6 w') := drawDok_any d W6 (code_below HC.out HB6.out)
    clear HF8 HD5 HE5 HB5 o6 i6 hb6 hW6 E6 D6 F6 hG6
    go_wp2_with fail
    rw [HW6.out, ← HGG.out]
    clear HW6 HGG
    refine H11.out.mono ?_
    rintro e w7 ⟨v7, rfl, ⟨a7, b7, ca7, cb7, xs, us, rfl, hr7, hi7, hwf7, hbk7⟩, hb7⟩
    have X7 := DatAt.new (ca := ca7) (cb := cb7) hr7 hi7
    obtain ⟨rr, hs14, hi12⟩ := doks xs us hbk7 hwf7
    have H14 : Hid (∀ (a b : Option Addr) (ca cb : Nat) (w1 : World), RowD w1 w1.heap.size a xs → RowI w1 w1.heap.size b us → Calls Tryd.prog 14 #[.agg #[.slice a xs.length ca, .slice b us.length cb]] w1 fun e w' => Ans w1 (.bool rr) e w') := hs14
    have H12 : Hid (∀ (a b : Option Addr) (ca cb : Nat) (w1 : World), RowD w1 w1.heap.size a xs → RowI w1 w1.heap.size b us → TabW w1 → Calls Tryd.prog 12 #[.agg #[.slice a xs.length ca, .slice b us.length cb]] w1 fun e w' => Ans w1 (.bool rr) e w') := hi12
    have hbn := bel_new w7 (Obj.cells #[Value.slice a7 xs.length ca7, Value.slice b7 us.length cb7] 28)
    have HB7 : Hid (Below w0.heap.size w0 (w7.alloc (Obj.cells #[Value.slice a7 xs.length ca7, Value.slice b7 us.length cb7] 28))) := bel_step (bel_step HB6.out hb7) hbn
    have D7 := DatAt.below (DatAt.below HD6.out hb7) hbn
    have E7 := DatAt.below (DatAt.below HE6.out hb7) hbn
    have F7 := DatAt.below (DatAt.below HF6.out hb7) hbn
    generalize hW7 : w7.alloc (Obj.cells #[Value.slice a7 xs.length ca7, Value.slice b7 us.length cb7] 28) = W7 at E7 HB7 D7 F7 X7
    have HW7 : Hid _ := hW7
    obtain ⟨G7, hG7⟩ : ∃ G, G = w7.heap.size := ⟨_, rfl⟩
    have HGG : Hid (G7 = w7.heap.size) := hG7
    rw [← hG7] at X7
    have HX7 : Hid (DatAt W7 G7 a7 b7 ca7 cb7 xs us) := X7
    have HF7 : Hid (DatAt W7 G6 a6 b6 ca6 cb6 cs ts) := F7
    have HE7 : Hid (DatAt W7 G5 a5 b5 ca5 cb5 cs ts) := E7
    have HD7 : Hid (DatAt W7 G a b ca cb cs ts) := D7
    have e0 := cell_blk (j := 0) D7.1 rfl
    have e1 := cell_blk (j := 1) D7.1 rfl
    clear H11 HD6 HE6 HF6 HB6 hr7 hi7 hb7 hW7 E7 D7 F7 X7 hG7 hs14 hi12 hbn hwf7 hbk7
    go_wp2_with fail
    rw [HW7.out, ← HGG.out]
    clear HW7 HGG
    go_region_with (first
      | (go_at_call 12; first
          | (have KK := H12.out a7 b7 ca7 cb7 w10 HX10.out.2.1 HX10.out.2.2 (TabW.below HT.out HB10.out); refine KK.mono ?_; clear KK; rintro e w11 ⟨rfl, hb11'⟩; have hb11 : Below w10.heap.size w10 w11 := (by first | exact bel_undrew hb11' | exact hb11'); have HB11 : Hid (Below w0.heap.size w0 w11) := bel_step HB10.out hb11; have HX11 : Hid (DatAt w11 G7 a7 b7 ca7 cb7 xs us) := DatAt.below HX10.out hb11; have t0 := cell_blk (j := 0) HX11.out.1 rfl; have t1 := cell_blk (j := 1) HX11.out.1 rfl)
          | (have KK := HDK.out a b ca cb W7.drew HD7.out.2.1 HD7.out.2.2 (tab_drew (TabW.below HT.out HB7.out)); refine KK.mono ?_; clear KK; rintro e w8 ⟨rfl, hb8'⟩; have hb8 : Below W7.heap.size W7 w8 := (by first | exact bel_undrew hb8' | exact hb8'); have HB8 : Hid (Below w0.heap.size w0 w8) := bel_step HB7.out hb8; have HX8 : Hid (DatAt w8 G7 a7 b7 ca7 cb7 xs us) := DatAt.below HX7.out hb8; have HF8 : Hid (DatAt w8 G6 a6 b6 ca6 cb6 cs ts) := DatAt.below HF7.out hb8; have HE8 : Hid (DatAt w8 G5 a5 b5 ca5 cb5 cs ts) := DatAt.below HE7.out hb8; have HD8 : Hid (DatAt w8 G a b ca cb cs ts) := DatAt.below HD7.out hb8; have y0 := cell_blk (j := 0) HD8.out.1 rfl; have y1 := cell_blk (j := 1) HD8.out.1 rfl; have y2 := cell_blk (j := 0) HE8.out.1 rfl; have y3 := cell_blk (j := 1) HE8.out.1 rfl))
      | (go_at_call 13; first
          | (have KK := HSD.out a b a6 b6 ca cb ca6 cb6 w9 HD9.out.2.1 HD9.out.2.2 HF9.out.2.1 HF9.out.2.2; refine KK.mono ?_; clear KK; rintro e w10 ⟨rfl, hb10'⟩; have hb10 : Below w9.heap.size w9 w10 := (by first | exact bel_undrew hb10' | exact hb10'); clear z0 z1 z2 z3; have HB10 : Hid (Below w0.heap.size w0 w10) := bel_step HB9.out hb10; have HX10 : Hid (DatAt w10 G7 a7 b7 ca7 cb7 xs us) := DatAt.below HX9.out hb10; have x0 := cell_blk (j := 0) HX10.out.1 rfl; have x1 := cell_blk (j := 1) HX10.out.1 rfl)
          | (have KK := HSD.out a b a5 b5 ca cb ca5 cb5 w8 HD8.out.2.1 HD8.out.2.2 HE8.out.2.1 HE8.out.2.2; refine KK.mono ?_; clear KK; rintro e w9 ⟨rfl, hb9'⟩; have hb9 : Below w8.heap.size w8 w9 := (by first | exact bel_undrew hb9' | exact hb9'); clear y0 y1 y2 y3 e0 e1; have HB9 : Hid (Below w0.heap.size w0 w9) := bel_step HB8.out hb9; have HX9 : Hid (DatAt w9 G7 a7 b7 ca7 cb7 xs us) := DatAt.below HX8.out hb9; have HF9 : Hid (DatAt w9 G6 a6 b6 ca6 cb6 cs ts) := DatAt.below HF8.out hb9; have HD9 : Hid (DatAt w9 G a b ca cb cs ts) := DatAt.below HD8.out hb9; have z0 := cell_blk (j := 0) HD9.out.1 rfl; have z1 := cell_blk (j := 1) HD9.out.1 rfl; have z2 := cell_blk (j := 0) HF9.out.1 rfl; have z3 := cell_blk (j := 1) HF9.out.1 rfl))
      | (go_at_call 14; have KK := H14.out a7 b7 ca7 cb7 w11 HX11.out.2.1 HX11.out.2.2; refine KK.mono ?_; clear KK; rintro e w12 ⟨rfl, hb12'⟩; have hb12 : Below w11.heap.size w11 w12 := (by first | exact bel_undrew hb12' | exact hb12'); have HB12 : Hid (Below w0.heap.size w0 w12) := bel_step HB11.out hb12))
    all_goals
      cases rr
      all_goals
        go_wp2
        go_ret
        exact ⟨rfl, HB12.out⟩
  · clear HCS H8 HC HT
    have HP : Hid (p ≤ (t.size : Int)) := by show _ ≤ _; omega
    have hd1 : decide (0 ≤ p) = true := by simp [hp0]
    have hd2 : decide (p ≤ (t.size : Int)) = true := by simp; exact HP.out
    have e0' : (w3.alloc (Obj.cells #[Value.slice a3 0 ca3, Value.slice b3 0 cb3] 28)).cell? ⟨G, 0, none⟩ = some (Value.slice a 0 ca) := e0
    clear e0 e1
    go_wp2
    go_ret
    exact ⟨rfl, HB3.out⟩
end Go.Proofs.YtgfkmppkeolckaaDoor.Cu
