/- A text drawn, at most so many bytes. -/
import Derived.Test.YtdbfifgblcmckacDoorCurc
import Derived.Test.YtdbfifgblcmckacDoorOwn
namespace Go.Proofs.YtdbfifgblcmckacDoor
open Go.ChangeShapes Go.WideShapes Go.ChangeAt Go.RowKit
def tyB (style b : Int) : Int := if style = 1 then b % 2 else if style = 2 then 97 + b % 4 else b
theorem tyB_bd (style b : Int) (h1 : 0 ≤ b) (h2 : b ≤ 255) : 0 ≤ tyB style b ∧ tyB style b ≤ 255 := by
  unfold tyB
  split
  · omega
  · split <;> omega
def txL (d : Code1) (style : Int) : Nat → St → List UInt8
  | 0, _ => []
  | n + 1, s => UInt8.ofNat (tyB style (bX d s)).toNat :: txL d style n (bS d s)
def txS (d : Code1) : Nat → St → St
  | 0, s => s
  | n + 1, s => txS d n (bS d s)
theorem txL_length (d : Code1) (style : Int) : ∀ n s, (txL d style n s).length = n
  | 0, _ => rfl
  | n + 1, s => by simp [txL, txL_length d style n]
/-- The text and the state behind it. -/
def textL (d : Code1) (most : Int) (s : St) : List UInt8 := txL d (belX d 4 s) (belX d (most + 1) (belS d 4 s)).toNat (belS d (most + 1) (belS d 4 s))
def textS (d : Code1) (most : Int) (s : St) : St := txS d (belX d (most + 1) (belS d 4 s)).toNat (belS d (most + 1) (belS d 4 s))
theorem textL_length (d : Code1) (most : Int) (s : St) (h : 0 ≤ most) : ((textL d most s).length : Int) ≤ most := by
  unfold textL
  rw [txL_length]
  have := belX_bd d (most + 1) (belS d 4 s) (by omega)
  omega
theorem grownBy_then {a b e : World} {c : Nat} {o : Obj} {row : Option Nat} (h1 : a.grownBy b (some c)) (h2 : (b.alloc o).grownBy e row) (hr : ∀ k, row = some k → a.heap.size ≤ k) : a.grownBy e (some c) := by
  have h3 := h1.size
  refine ⟨h2.os.trans h1.os, h2.tape.trans h1.tape, h2.output.trans h1.output, ?_, fun k hk hn => ?_⟩
  · have := h2.size; simp at this; omega
  · have e1 := h2.block k (by simp; omega) (fun e => by have := hr k e.symm; omega)
    rw [e1, Below.heap_alloc b o k (by omega)]
    exact h1.block k hk hn
theorem cur_then {w b e : World} {c : Nat} {d : Code1} {s : St} {o : Obj} {row : Option Nat} (h : CurS b c d s) (hw : w.heap.size ≤ b.heap.size) (hcw : c < w.heap.size) (h2 : (b.alloc o).grownBy e row) (hr : ∀ k, row = some k → w.heap.size ≤ k) : CurS e c d s :=
  cur_blocks h fun k hk => by
    have e1 := h2.block k (by simp; omega) (fun e => by have := hr k e.symm; omega)
    rw [e1, Below.heap_alloc b o k (by omega)]
set_option maxRecDepth 100000 in
set_option maxHeartbeats 1000000 in
theorem text_st (c : Nat) (d : Code1) (most : Int) (s : St) (hm0 : 0 ≤ most) (hm : most ≤ 100) : DrC 18 #[.pointer (some ⟨c, 0, none⟩), .int .i64 most] c d s (.string ⟨(textL d most s).toArray⟩) (textS d most s) := by
  intro w hc
  have hcw := cur_lt hc
  have K1 := below_st c d 4 s (by omega) (by omega)
  have K2 := below_st c d (most + 1) (belS d 4 s) (by omega) (by omega)
  obtain ⟨x1, x2⟩ := belX_bd d 4 s (by omega)
  obtain ⟨y1, y2⟩ := belX_bd d (most + 1) (belS d 4 s) (by omega)
  have HT : Hid (textL d most s = txL d (belX d 4 s) (belX d (most + 1) (belS d 4 s)).toNat (belS d (most + 1) (belS d 4 s))) := rfl
  have HS : Hid (textS d most s = txS d (belX d (most + 1) (belS d 4 s)).toNat (belS d (most + 1) (belS d 4 s))) := rfl
  obtain ⟨n, hn⟩ := Int.eq_ofNat_of_zero_le y1
  have HC : Hid (CurS w c d s) := hc
  clear hc
  rw [hn] at K2 y1 y2 HT HS
  rw [Int.toNat_natCast] at HT HS
  clear hn
  obtain ⟨i0, hi, hz0, hz1, hz2⟩ := info_parts Tryd.info5
  generalize belX d 4 s = style at *
  generalize belS d 4 s = s1 at *
  generalize belS d (most + 1) s1 = s2 at *
  go_enter Tryd.func18, Tryd.ntmps18
  go_wp2_with fail
  refine (K1 _ (cur_alloc HC.out _)).mono ?_
  rintro e w1 ⟨rfl, hc1, hg1⟩
  go_wp2_with fail
  refine (K2 _ hc1).mono ?_
  rintro e w2 ⟨rfl, hc2, hg2⟩
  have hg : w.grownBy w2 (some c) := grownBy_trans (World.grownBy_alloc _ _ _) (grownBy_trans hg1 hg2)
  have hown0 : (w.alloc (.cells #[] 5)).ownsRow w.heap.size 5 1 (.slice (some ⟨w.heap.size, 0, none⟩) 0 0) 0 (bcs []) := World.ownsRow_lit _ _ _ (Nat.le_refl _) (by decide) rfl
  have hown : w2.ownsRow w.heap.size 5 1 (.slice (some ⟨w.heap.size, 0, none⟩) 0 0) 0 (bcs []) := (hown0.kept hg1 (.inr (by simp [Value.ownBlock]; omega))).kept hg2 (.inr (by simp [Value.ownBlock]; omega))
  clear hown0 hg1 hg2 hc1 K1 K2 HC
  go_wp2
  go_loopw [5, 7] (fun v t wr => ∃ (m : Nat) (pre : List UInt8) (sx : St), pre.length + m = n ∧ t = .int .i64 m ∧ pre ++ txL d style m sx = txL d style n s2 ∧ txS d m sx = txS d n s2 ∧ wr.ownsRow w.heap.size 5 1 v pre.length (bcs pre) ∧ CurS wr c d sx ∧ w.grownBy wr (some c))
    (fun _ t _ => (intOf t).toNat)
  case atStart => exact ⟨n, [], s2, by simp, rfl, rfl, rfl, hown, hc2, hg⟩
  case round =>
    clear hown hc2 hg
    obtain ⟨m, pre, sx, hpl, rfl, hpre, hss, hown, hcx, hgx⟩ := hrel
    have HP : Hid _ := hpre
    have HQ : Hid _ := hss
    have hsz := hgx.size
    clear hpre hss
    match m, hpl with
    | 0, hpl =>
      have hcv := conv_own hown
      have HF : Hid (pre = textL d most s) := by
        show _ = _
        rw [HT.out, ← HP.out]; simp [txL]
      have HG : Hid (sx = textS d most s) := by
        show _ = _
        rw [HS.out, ← HQ.out]; rfl
      clear HP HQ HT HS hown
      go_wp2
      go_ret
      exact ⟨by rw [← HF.out]; rfl, by rw [← HG.out]; exact hcx, hgx⟩
    | m + 1, hpl =>
      have K3 := byte_st c d sx
      have HP2 : Hid (pre ++ (UInt8.ofNat (tyB style (bX d sx)).toNat :: txL d style m (bS d sx)) = txL d style n s2) := HP.out
      have HQ2 : Hid (txS d m (bS d sx) = txS d n s2) := HQ.out
      obtain ⟨z1, z2⟩ := bX_bd d sx
      clear HP HQ HT HS
      generalize bX d sx = b at *
      generalize bS d sx = sy at *
      by_cases h1 : style = 1
      · obtain ⟨cc, hcc⟩ : ∃ cc, cc = UInt8.ofNat (tyB style b).toNat := ⟨_, rfl⟩
        have tb := tyB_bd style b z1 z2
        have HB : Hid (b % 2 = (cc.toNat : Int)) := by
          have e1 : (UInt8.ofNat (tyB style b).toNat).toNat = (tyB style b).toNat := by simp; omega
          have e2 : tyB style b = b % 2 := if_pos h1
          show _ = _
          rw [hcc, e1, e2]; rw [e2] at tb; omega
        rw [← hcc] at HP2
        clear hcc tb
        subst h1
        go_wp2_with fail
        refine (K3 _ hcx).mono ?_
        rintro e w3 ⟨rfl, hc3, hg3⟩
        have hown3 := hown.kept hg3 (.inr (by
          intro h
          have := (hown.lt c h).1
          omega))
        have hsz3 : w.heap.size ≤ w3.heap.size := Nat.le_trans hsz hg3.size
        go_wp2_with (at_builtin; refine wpList_append_own _ rfl _ _ 22 rfl w.heap.size 5 i0 (.int .u8 0) 1 1 Tryd.underlying22 hi hz0 hz1 hz2 rfl (by decide) _ _ _ rfl (hown3.alloc _) ⟨w3.heap.size, 0, none⟩ 1 1 [.int .u8 (cc.toNat : Int)] rfl rfl (one_new _ _ _ HB.out) (one_cell _) ?c3 ?c4 ?c5 ?_)
        case c3 => unfold maxLen; omega
        case c4 => omega
        case c5 => simp; omega
        intro v' w4 hown' hgrow _
        have hr : ∀ k, Value.ownBlock _ = some k → w.heap.size ≤ k := fun k hk => (hown.lt k hk).1
        have hg4 := grownBy_then (grownBy_trans hgx hg3) hgrow hr
        have hc4 := cur_then hc3 hsz3 hcw hgrow hr
        rw [← bcs_snoc] at hown'
        have HO : Hid _ := hown'
        clear hown hown3 hown' hgrow hr hg3 hc3 hcx hgx
        go_wp2
        go_roundw
        case rel => exact ⟨m, pre ++ [cc], sy, by simp; omega, by go_num, by have := HP2.out; simpa using this, HQ2.out, by have := HO.out; rw [List.length_append]; exact this, hc4, hg4⟩
        case measure => simp [intOf]
      · by_cases h2 : style = 2
        · obtain ⟨cc, hcc⟩ : ∃ cc, cc = UInt8.ofNat (tyB style b).toNat := ⟨_, rfl⟩
          have tb := tyB_bd style b z1 z2
          have HB : Hid (97 + b % 4 = (cc.toNat : Int)) := by
            have e1 : (UInt8.ofNat (tyB style b).toNat).toNat = (tyB style b).toNat := by simp; omega
            have e2 : tyB style b = 97 + b % 4 := by unfold tyB; rw [if_neg h1, if_pos h2]
            show _ = _
            rw [hcc, e1, e2]; rw [e2] at tb; omega
          rw [← hcc] at HP2
          clear hcc tb
          subst h2
          clear h1
          go_wp2_with fail
          refine (K3 _ hcx).mono ?_
          rintro e w3 ⟨rfl, hc3, hg3⟩
          have hown3 := hown.kept hg3 (.inr (by
            intro h
            have := (hown.lt c h).1
            omega))
          have hsz3 : w.heap.size ≤ w3.heap.size := Nat.le_trans hsz hg3.size
          go_wp2_with (at_builtin; refine wpList_append_own _ rfl _ _ 22 rfl w.heap.size 5 i0 (.int .u8 0) 1 1 Tryd.underlying22 hi hz0 hz1 hz2 rfl (by decide) _ _ _ rfl (hown3.alloc _) ⟨w3.heap.size, 0, none⟩ 1 1 [.int .u8 (cc.toNat : Int)] rfl rfl (one_new _ _ _ HB.out) (one_cell _) ?c3 ?c4 ?c5 ?_)
          case c3 => unfold maxLen; omega
          case c4 => omega
          case c5 => simp; omega
          intro v' w4 hown' hgrow _
          have hr : ∀ k, Value.ownBlock _ = some k → w.heap.size ≤ k := fun k hk => (hown.lt k hk).1
          have hg4 := grownBy_then (grownBy_trans hgx hg3) hgrow hr
          have hc4 := cur_then hc3 hsz3 hcw hgrow hr
          rw [← bcs_snoc] at hown'
          have HO : Hid _ := hown'
          clear hown hown3 hown' hgrow hr hg3 hc3 hcx hgx
          go_wp2
          go_roundw
          case rel => exact ⟨m, pre ++ [cc], sy, by simp; omega, by go_num, by have := HP2.out; simpa using this, HQ2.out, by have := HO.out; rw [List.length_append]; exact this, hc4, hg4⟩
          case measure => simp [intOf]
        · obtain ⟨cc, hcc⟩ : ∃ cc, cc = UInt8.ofNat (tyB style b).toNat := ⟨_, rfl⟩
          have tb := tyB_bd style b z1 z2
          have HB : Hid (b = (cc.toNat : Int)) := by
            have e1 : (UInt8.ofNat (tyB style b).toNat).toNat = (tyB style b).toNat := by simp; omega
            have e2 : tyB style b = b := by unfold tyB; rw [if_neg h1, if_neg h2]
            show _ = _
            rw [hcc, e1, e2]; rw [e2] at tb; omega
          rw [← hcc] at HP2
          clear hcc tb
          have q1 : (style == 1) = false := by rw [beq_eq_false_iff_ne]; exact h1
          have q2 : (style == 2) = false := by rw [beq_eq_false_iff_ne]; exact h2
          clear h1 h2
          go_wp2_with fail
          refine (K3 _ hcx).mono ?_
          rintro e w3 ⟨rfl, hc3, hg3⟩
          have hown3 := hown.kept hg3 (.inr (by
            intro h
            have := (hown.lt c h).1
            omega))
          have hsz3 : w.heap.size ≤ w3.heap.size := Nat.le_trans hsz hg3.size
          go_wp2_with (at_builtin; refine wpList_append_own _ rfl _ _ 22 rfl w.heap.size 5 i0 (.int .u8 0) 1 1 Tryd.underlying22 hi hz0 hz1 hz2 rfl (by decide) _ _ _ rfl (hown3.alloc _) ⟨w3.heap.size, 0, none⟩ 1 1 [.int .u8 (cc.toNat : Int)] rfl rfl (one_new _ _ _ HB.out) (one_cell _) ?c3 ?c4 ?c5 ?_)
          case c3 => unfold maxLen; omega
          case c4 => omega
          case c5 => simp; omega
          intro v' w4 hown' hgrow _
          have hr : ∀ k, Value.ownBlock _ = some k → w.heap.size ≤ k := fun k hk => (hown.lt k hk).1
          have hg4 := grownBy_then (grownBy_trans hgx hg3) hgrow hr
          have hc4 := cur_then hc3 hsz3 hcw hgrow hr
          rw [← bcs_snoc] at hown'
          have HO : Hid _ := hown'
          clear hown hown3 hown' hgrow hr hg3 hc3 hcx hgx
          go_wp2
          go_roundw
          case rel => exact ⟨m, pre ++ [cc], sy, by simp; omega, by go_num, by have := HP2.out; simpa using this, HQ2.out, by have := HO.out; rw [List.length_append]; exact this, hc4, hg4⟩
          case measure => simp [intOf]
end Go.Proofs.YtdbfifgblcmckacDoor
