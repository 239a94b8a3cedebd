/- A text drawn, at most so many bytes. A text spoilt at one place. A new cursor over a code, and what is drawn out of it. Draws of chapter 2: a choice, one of some texts, a size. -/
import Derived.Test.YtgfkmppkeolckaaDoorCurb
import Derived.Test.YtgfkmppkeolckaaDoorOwn
import Derived.Test.YtgfkmppkeolckaaDoorRdx
import Derived.Deep.RegionHeld3
import Derived.Deep.RegionWith
namespace Go.Proofs.YtgfkmppkeolckaaDoor.Cu
open Go.ChangeShapes Go.WideShapes Go.ChangeAt Go.RowKit
theorem cur_blocks {w w' : World} {c : Nat} {d : Code1} {s : St} (h : CurS w c d s) (hk : ∀ k, k ≤ c → w'.heap[k]? = w.heap[k]?) : CurS w' c d s := by
  obtain ⟨c0, c1, c2, f1, f2, hi, hcode⟩ := h
  exact ⟨(World.cell?_of_block (w := w) (a := ⟨c, 0, none⟩) (hk c (Nat.le_refl _))).trans c0, (World.cell?_of_block (w := w) (a := ⟨c, 1, none⟩) (hk c (Nat.le_refl _))).trans c1, (World.cell?_of_block (w := w) (a := ⟨c, 2, none⟩) (hk c (Nat.le_refl _))).trans c2,
    (World.frozen?_of_block (w := w) (a := ⟨c, 1, none⟩) (hk c (Nat.le_refl _))).trans f1, (World.frozen?_of_block (w := w) (a := ⟨c, 2, none⟩) (hk c (Nat.le_refl _))).trans f2, hi, code_of_block hcode fun b hb => hk b (by omega)⟩
theorem cur_lt {w : World} {c : Nat} {d : Code1} {s : St} (h : CurS w c d s) : c < w.heap.size := cell_lt h.1
theorem cur_alloc {w : World} {c : Nat} {d : Code1} {s : St} (h : CurS w c d s) (o : Obj) : CurS (w.alloc o) c d s :=
  cur_blocks h fun k hk => Below.heap_alloc w o k (by have := cur_lt h; omega)
/-- The numbers at limits. -/
def tyB (style b : Int) : Int := if style = 1 then b % 2 else if style = 2 then 97 + b % 4 else b
theorem tyB_bd (style b : Int) (h1 : 0 ≤ b) (h2 : b ≤ 255) : 0 ≤ tyB style b ∧ tyB style b ≤ 255 := by
  unfold tyB
  split
  · omega
  · split <;> omega
def txL (d : Code1) (style : Int) : Nat → St → List UInt8
  | 0, _ => []
  | n + 1, s => UInt8.ofNat (tyB style (bX d s)).toNat :: txL d style n (bS d s)
def txS (d : Code1) : Nat → St → St
  | 0, s => s
  | n + 1, s => txS d n (bS d s)
theorem txL_length (d : Code1) (style : Int) : ∀ n s, (txL d style n s).length = n
  | 0, _ => rfl
  | n + 1, s => by simp [txL, txL_length d style n]
/-- The text and the state behind it. -/
def textL (d : Code1) (most : Int) (s : St) : List UInt8 := txL d (belX d 4 s) (belX d (most + 1) (belS d 4 s)).toNat (belS d (most + 1) (belS d 4 s))
def textS (d : Code1) (most : Int) (s : St) : St := txS d (belX d (most + 1) (belS d 4 s)).toNat (belS d (most + 1) (belS d 4 s))
theorem textL_length (d : Code1) (most : Int) (s : St) (h : 0 ≤ most) : ((textL d most s).length : Int) ≤ most := by
  unfold textL
  rw [txL_length]
  have := belX_bd d (most + 1) (belS d 4 s) (by omega)
  omega
theorem grownBy_then {a b e : World} {c : Nat} {o : Obj} {row : Option Nat} (h1 : a.grownBy b (some c)) (h2 : (b.alloc o).grownBy e row) (hr : ∀ k, row = some k → a.heap.size ≤ k) : a.grownBy e (some c) := by
  have h3 := h1.size
  refine ⟨h2.os.trans h1.os, h2.tape.trans h1.tape, h2.output.trans h1.output, ?_, fun k hk hn => ?_⟩
  · have := h2.size; simp at this; omega
  · have e1 := h2.block k (by simp; omega) (fun e => by have := hr k e.symm; omega)
    rw [e1, Below.heap_alloc b o k (by omega)]
    exact h1.block k hk hn
theorem cur_then {w b e : World} {c : Nat} {d : Code1} {s : St} {o : Obj} {row : Option Nat} (h : CurS b c d s) (hw : w.heap.size ≤ b.heap.size) (hcw : c < w.heap.size) (h2 : (b.alloc o).grownBy e row) (hr : ∀ k, row = some k → w.heap.size ≤ k) : CurS e c d s :=
  cur_blocks h fun k hk => by
    have e1 := h2.block k (by simp; omega) (fun e => by have := hr k e.symm; omega)
    rw [e1, Below.heap_alloc b o k (by omega)]
set_option maxRecDepth 100000 in
set_option maxHeartbeats 1000000 in
theorem text_st (c : Nat) (d : Code1) (most : Int) (s : St) (hm0 : 0 ≤ most) (hm : most ≤ 100) : DrC 49 #[.pointer (some ⟨c, 0, none⟩), .int .i64 most] c d s (.string ⟨(textL d most s).toArray⟩) (textS d most s) := by
  intro w hc
  have hcw := cur_lt hc
  have K1 := below_st c d 4 s (by omega) (by omega)
  have K2 := below_st c d (most + 1) (belS d 4 s) (by omega) (by omega)
  obtain ⟨x1, x2⟩ := belX_bd d 4 s (by omega)
  obtain ⟨y1, y2⟩ := belX_bd d (most + 1) (belS d 4 s) (by omega)
  have HT : Hid (textL d most s = txL d (belX d 4 s) (belX d (most + 1) (belS d 4 s)).toNat (belS d (most + 1) (belS d 4 s))) := rfl
  have HS : Hid (textS d most s = txS d (belX d (most + 1) (belS d 4 s)).toNat (belS d (most + 1) (belS d 4 s))) := rfl
  obtain ⟨n, hn⟩ := Int.eq_ofNat_of_zero_le y1
  have HC : Hid (CurS w c d s) := hc
  clear hc
  rw [hn] at K2 y1 y2 HT HS
  rw [Int.toNat_natCast] at HT HS
  clear hn
  obtain ⟨i0, hi, hz0, hz1, hz2⟩ := info_parts Tryd.info5
  generalize belX d 4 s = style at *
  generalize belS d 4 s = s1 at *
  generalize belS d (most + 1) s1 = s2 at *
  go_enter Tryd.func49, Tryd.ntmps49
  go_wp2_with fail
  refine (K1 _ (cur_alloc HC.out _)).mono ?_
  rintro e w1 ⟨rfl, hc1, hg1⟩
  go_wp2_with fail
  refine (K2 _ hc1).mono ?_
  rintro e w2 ⟨rfl, hc2, hg2⟩
  have hg : w.grownBy w2 (some c) := grownBy_trans (World.grownBy_alloc _ _ _) (grownBy_trans hg1 hg2)
  have hown0 : (w.alloc (.cells #[] 5)).ownsRow w.heap.size 5 1 (.slice (some ⟨w.heap.size, 0, none⟩) 0 0) 0 (bcs []) := World.ownsRow_lit _ _ _ (Nat.le_refl _) (by decide) rfl
  have hown : w2.ownsRow w.heap.size 5 1 (.slice (some ⟨w.heap.size, 0, none⟩) 0 0) 0 (bcs []) := (hown0.kept hg1 (.inr (by simp [Value.ownBlock]; omega))).kept hg2 (.inr (by simp [Value.ownBlock]; omega))
  clear hown0 hg1 hg2 hc1 K1 K2 HC
  go_wp2
  go_loopw [5, 7] (fun v t wr => ∃ (m : Nat) (pre : List UInt8) (sx : St), pre.length + m = n ∧ t = .int .i64 m ∧ pre ++ txL d style m sx = txL d style n s2 ∧ txS d m sx = txS d n s2 ∧ wr.ownsRow w.heap.size 5 1 v pre.length (bcs pre) ∧ CurS wr c d sx ∧ w.grownBy wr (some c))
    (fun _ t _ => (intOf t).toNat)
  case atStart => exact ⟨n, [], s2, by simp, rfl, rfl, rfl, hown, hc2, hg⟩
  case round =>
    clear hown hc2 hg
    obtain ⟨m, pre, sx, hpl, rfl, hpre, hss, hown, hcx, hgx⟩ := hrel
    have HP : Hid _ := hpre
    have HQ : Hid _ := hss
    have hsz := hgx.size
    clear hpre hss
    match m, hpl with
    | 0, hpl =>
      have hcv := conv_own hown
      have HF : Hid (pre = textL d most s) := by
        show _ = _
        rw [HT.out, ← HP.out]; simp [txL]
      have HG : Hid (sx = textS d most s) := by
        show _ = _
        rw [HS.out, ← HQ.out]; rfl
      clear HP HQ HT HS hown
      go_wp2
      go_ret
      exact ⟨by rw [← HF.out]; rfl, by rw [← HG.out]; exact hcx, hgx⟩
    | m + 1, hpl =>
      have K3 := byte_st c d sx
      have HP2 : Hid (pre ++ (UInt8.ofNat (tyB style (bX d sx)).toNat :: txL d style m (bS d sx)) = txL d style n s2) := HP.out
      have HQ2 : Hid (txS d m (bS d sx) = txS d n s2) := HQ.out
      obtain ⟨z1, z2⟩ := bX_bd d sx
      clear HP HQ HT HS
      generalize bX d sx = b at *
      generalize bS d sx = sy at *
      by_cases h1 : style = 1
      · obtain ⟨cc, hcc⟩ : ∃ cc, cc = UInt8.ofNat (tyB style b).toNat := ⟨_, rfl⟩
        have tb := tyB_bd style b z1 z2
        have HB : Hid (b % 2 = (cc.toNat : Int)) := by
          have e1 : (UInt8.ofNat (tyB style b).toNat).toNat = (tyB style b).toNat := by simp; omega
          have e2 : tyB style b = b % 2 := if_pos h1
          show _ = _
          rw [hcc, e1, e2]; rw [e2] at tb; omega
        rw [← hcc] at HP2
        clear hcc tb
        subst h1
        go_wp2_with fail
        refine (K3 _ hcx).mono ?_
        rintro e w3 ⟨rfl, hc3, hg3⟩
        have hown3 := hown.kept hg3 (.inr (by
          intro h
          have := (hown.lt c h).1
          omega))
        have hsz3 : w.heap.size ≤ w3.heap.size := Nat.le_trans hsz hg3.size
        go_wp2_with (at_builtin; refine wpList_append_own _ rfl _ _ 22 rfl w.heap.size 5 i0 (.int .u8 0) 1 1 Tryd.underlying22 hi hz0 hz1 hz2 rfl (by decide) _ _ _ rfl (hown3.alloc _) ⟨w3.heap.size, 0, none⟩ 1 1 [.int .u8 (cc.toNat : Int)] rfl rfl (one_new _ _ _ HB.out) (one_cell _) ?c3 ?c4 ?c5 ?_)
        case c3 => unfold maxLen; omega
        case c4 => omega
        case c5 => simp; omega
        intro v' w4 hown' hgrow _
        have hr : ∀ k, Value.ownBlock _ = some k → w.heap.size ≤ k := fun k hk => (hown.lt k hk).1
        have hg4 := grownBy_then (grownBy_trans hgx hg3) hgrow hr
        have hc4 := cur_then hc3 hsz3 hcw hgrow hr
        rw [← bcs_snoc] at hown'
        have HO : Hid _ := hown'
        clear hown hown3 hown' hgrow hr hg3 hc3 hcx hgx
        go_wp2
        go_roundw
        case rel => exact ⟨m, pre ++ [cc], sy, by simp; omega, by go_num, by have := HP2.out; simpa using this, HQ2.out, by have := HO.out; rw [List.length_append]; exact this, hc4, hg4⟩
        case measure => simp [intOf]
      · by_cases h2 : style = 2
        · obtain ⟨cc, hcc⟩ : ∃ cc, cc = UInt8.ofNat (tyB style b).toNat := ⟨_, rfl⟩
          have tb := tyB_bd style b z1 z2
          have HB : Hid (97 + b % 4 = (cc.toNat : Int)) := by
            have e1 : (UInt8.ofNat (tyB style b).toNat).toNat = (tyB style b).toNat := by simp; omega
            have e2 : tyB style b = 97 + b % 4 := by unfold tyB; rw [if_neg h1, if_pos h2]
            show _ = _
            rw [hcc, e1, e2]; rw [e2] at tb; omega
          rw [← hcc] at HP2
          clear hcc tb
          subst h2
          clear h1
          go_wp2_with fail
          refine (K3 _ hcx).mono ?_
          rintro e w3 ⟨rfl, hc3, hg3⟩
          have hown3 := hown.kept hg3 (.inr (by
            intro h
            have := (hown.lt c h).1
            omega))
          have hsz3 : w.heap.size ≤ w3.heap.size := Nat.le_trans hsz hg3.size
          go_wp2_with (at_builtin; refine wpList_append_own _ rfl _ _ 22 rfl w.heap.size 5 i0 (.int .u8 0) 1 1 Tryd.underlying22 hi hz0 hz1 hz2 rfl (by decide) _ _ _ rfl (hown3.alloc _) ⟨w3.heap.size, 0, none⟩ 1 1 [.int .u8 (cc.toNat : Int)] rfl rfl (one_new _ _ _ HB.out) (one_cell _) ?c3 ?c4 ?c5 ?_)
          case c3 => unfold maxLen; omega
          case c4 => omega
          case c5 => simp; omega
          intro v' w4 hown' hgrow _
          have hr : ∀ k, Value.ownBlock _ = some k → w.heap.size ≤ k := fun k hk => (hown.lt k hk).1
          have hg4 := grownBy_then (grownBy_trans hgx hg3) hgrow hr
          have hc4 := cur_then hc3 hsz3 hcw hgrow hr
          rw [← bcs_snoc] at hown'
          have HO : Hid _ := hown'
          clear hown hown3 hown' hgrow hr hg3 hc3 hcx hgx
          go_wp2
          go_roundw
          case rel => exact ⟨m, pre ++ [cc], sy, by simp; omega, by go_num, by have := HP2.out; simpa using this, HQ2.out, by have := HO.out; rw [List.length_append]; exact this, hc4, hg4⟩
          case measure => simp [intOf]
        · obtain ⟨cc, hcc⟩ : ∃ cc, cc = UInt8.ofNat (tyB style b).toNat := ⟨_, rfl⟩
          have tb := tyB_bd style b z1 z2
          have HB : Hid (b = (cc.toNat : Int)) := by
            have e1 : (UInt8.ofNat (tyB style b).toNat).toNat = (tyB style b).toNat := by simp; omega
            have e2 : tyB style b = b := by unfold tyB; rw [if_neg h1, if_neg h2]
            show _ = _
            rw [hcc, e1, e2]; rw [e2] at tb; omega
          rw [← hcc] at HP2
          clear hcc tb
          have q1 : (style == 1) = false := by rw [beq_eq_false_iff_ne]; exact h1
          have q2 : (style == 2) = false := by rw [beq_eq_false_iff_ne]; exact h2
          clear h1 h2
          go_wp2_with fail
          refine (K3 _ hcx).mono ?_
          rintro e w3 ⟨rfl, hc3, hg3⟩
          have hown3 := hown.kept hg3 (.inr (by
            intro h
            have := (hown.lt c h).1
            omega))
          have hsz3 : w.heap.size ≤ w3.heap.size := Nat.le_trans hsz hg3.size
          go_wp2_with (at_builtin; refine wpList_append_own _ rfl _ _ 22 rfl w.heap.size 5 i0 (.int .u8 0) 1 1 Tryd.underlying22 hi hz0 hz1 hz2 rfl (by decide) _ _ _ rfl (hown3.alloc _) ⟨w3.heap.size, 0, none⟩ 1 1 [.int .u8 (cc.toNat : Int)] rfl rfl (one_new _ _ _ HB.out) (one_cell _) ?c3 ?c4 ?c5 ?_)
          case c3 => unfold maxLen; omega
          case c4 => omega
          case c5 => simp; omega
          intro v' w4 hown' hgrow _
          have hr : ∀ k, Value.ownBlock _ = some k → w.heap.size ≤ k := fun k hk => (hown.lt k hk).1
          have hg4 := grownBy_then (grownBy_trans hgx hg3) hgrow hr
          have hc4 := cur_then hc3 hsz3 hcw hgrow hr
          rw [← bcs_snoc] at hown'
          have HO : Hid _ := hown'
          clear hown hown3 hown' hgrow hr hg3 hc3 hcx hgx
          go_wp2
          go_roundw
          case rel => exact ⟨m, pre ++ [cc], sy, by simp; omega, by go_num, by have := HP2.out; simpa using this, HQ2.out, by have := HO.out; rw [List.length_append]; exact this, hc4, hg4⟩
          case measure => simp [intOf]
end Go.Proofs.YtgfkmppkeolckaaDoor.Cu
namespace Go.Proofs.YtgfkmppkeolckaaDoor.Cu
open Go.ChangeShapes Go.WideShapes Go.ChangeAt Go.RowKit
theorem conv_one_drew (w : World) (c : UInt8) : (convert 22 9 (.slice (some ⟨w.heap.size, 0, none⟩) 1 1)).run Tryd.prog (w.alloc (.cells #[.int .u8 (c.toNat : Int)] 5)).drew = .ok (.string ⟨#[c]⟩) (w.alloc (.cells #[.int .u8 (c.toNat : Int)] 5)).drew := by
  refine run_convert_bytes_back _ 22 9 5 ⟨w.heap.size, 0, none⟩ 1 [c] Tryd.underlying22 Tryd.underlying5 Tryd.underlying9 fun j hj => ?_
  match j, hj with
  | 0, _ => show (w.alloc _).cell? _ = _; simp [Addr.add]
/-- One byte as a text. -/
def oneB (x : Int) : ByteArray := ⟨#[UInt8.ofNat x.toNat]⟩
/-- A byte turned by a number. -/
def xorB (b : UInt8) (y : Int) : Int := IntKind.u8.wrap (bits .xor .i64 (IntKind.i64.wrap (b.toNat : Int)) (IntKind.i64.wrap (1 + y)))
theorem u8_bd (x : Int) : 0 ≤ IntKind.u8.wrap x ∧ IntKind.u8.wrap x ≤ 255 := by
  simp [IntKind.wrap, IntKind.bits, IntKind.signed]
  omega
theorem xorB_bd (b : UInt8) (y : Int) : 0 ≤ xorB b y ∧ xorB b y ≤ 255 := u8_bd _
theorem grownBy_of_drew {a b : World} {r : Option Nat} (h : a.drew.grownBy b r) : a.grownBy b r := ⟨h.os, h.tape, h.output, h.size, h.block⟩
def spX (d : Code1) (t : ByteArray) (s : St) : ByteArray :=
  let k := (belX d t.size s).toNat
  let s1 := belS d t.size s
  let s2 := belS d 4 s1
  if belX d 4 s1 = 0 then t.extract 0 k ++ t.extract (k + 1) t.size
  else if belX d 4 s1 = 1 then t.extract 0 k ++ oneB (bX d s2) ++ t.extract k t.size
  else if belX d 4 s1 = 2 then t.extract 0 k
  else t.extract 0 k ++ oneB (xorB (t.data.toList.getD k 0) (belX d 255 s2)) ++ t.extract (k + 1) t.size
def spS (d : Code1) (t : ByteArray) (s : St) : St :=
  let s1 := belS d t.size s
  let s2 := belS d 4 s1
  if belX d 4 s1 = 0 then s2 else if belX d 4 s1 = 1 then bS d s2 else if belX d 4 s1 = 2 then s2 else belS d 255 s2
set_option maxRecDepth 100000 in
set_option maxHeartbeats 1000000 in
theorem spoil_st (c : Nat) (d : Code1) (t : ByteArray) (s : St) (ht0 : 0 < t.size) (ht : t.size ≤ 100000) : DrC 23 #[.pointer (some ⟨c, 0, none⟩), .string t] c d s (.string (spX d t s)) (spS d t s) := by
  intro w hc
  have K1 := below_st c d t.size s (by omega) (by omega)
  obtain ⟨x1, x2⟩ := belX_bd d t.size s (by omega)
  have K2 := below_st c d 4 (belS d t.size s) (by omega) (by omega)
  obtain ⟨k, hk⟩ := Int.eq_ofNat_of_zero_le x1
  have HK : Hid ((belX d t.size s).toNat = k) := by show _ = _; rw [hk, Int.toNat_natCast]
  rw [hk] at K1 x2
  have hk0 : (0 : Int) ≤ (k : Int) := Int.natCast_nonneg _
  have hks : k < t.size := by omega
  have HC : Hid (CurS w c d s) := hc
  have hz : ((t.size : Int) == 0) = false := by rw [beq_eq_false_iff_ne]; omega
  clear hc x1 hk
  by_cases h0 : belX d 4 (belS d t.size s) = 0
  · have HX : Hid (spX d t s = t.extract 0 k ++ t.extract (k + 1) t.size) := by show _ = _; unfold spX; simp only; rw [if_pos h0, HK.out]
    have HS : Hid (spS d t s = belS d 4 (belS d t.size s)) := if_pos h0
    rw [h0] at K2
    have hk1 : (k : Int) ≤ (t.size : Int) := by omega
    have hk2 : (k : Int) + 1 ≤ (t.size : Int) := by omega
    clear h0
    go_enter Tryd.func23, Tryd.ntmps23
    go_wp2_with fail
    refine (K1 _ HC.out).mono ?_
    rintro e w1 ⟨rfl, hc1, hg1⟩
    go_wp2_with fail
    refine (K2 _ hc1).mono ?_
    rintro e w2 ⟨rfl, hc2, hg2⟩
    go_wp2
    go_quiet (fail)
    go_wp2
    go_ret
    exact ⟨by rw [HX.out]; rfl, by rw [HS.out]; exact cur_drewN hc2 _, grownBy_drewN (grownBy_trans hg1 hg2) _⟩
  · by_cases h1 : belX d 4 (belS d t.size s) = 1
    · have HX : Hid (spX d t s = t.extract 0 k ++ oneB (bX d (belS d 4 (belS d t.size s))) ++ t.extract k t.size) := by show _ = _; unfold spX; simp only; rw [if_neg h0, if_pos h1, HK.out]
      have HS : Hid (spS d t s = bS d (belS d 4 (belS d t.size s))) := by show _ = _; unfold spS; simp only; rw [if_neg h0, if_pos h1]
      rw [h1] at K2
      have K3 := byte_st c d (belS d 4 (belS d t.size s))
      obtain ⟨z1, z2⟩ := bX_bd d (belS d 4 (belS d t.size s))
      have hk1 : (k : Int) ≤ (t.size : Int) := by omega
      clear h0 h1
      generalize bX d (belS d 4 (belS d t.size s)) = x at *
      have HO : Hid (oneB x = ⟨#[UInt8.ofNat x.toNat]⟩) := rfl
      obtain ⟨cc, hcc⟩ : ∃ cc, cc = UInt8.ofNat x.toNat := ⟨_, rfl⟩
      have hwx : IntKind.u8.wrap x = (cc.toNat : Int) := by
        have e1 : (UInt8.ofNat x.toNat).toNat = x.toNat := by simp; omega
        rw [hcc, e1]
        simp [IntKind.wrap, IntKind.bits, IntKind.signed]
        omega
      rw [← hcc] at HO
      clear hcc
      have hcv := fun W => conv_one W cc
      go_enter Tryd.func23, Tryd.ntmps23
      go_wp2_with fail
      refine (K1 _ HC.out).mono ?_
      rintro e w1 ⟨rfl, hc1, hg1⟩
      go_wp2_with fail
      refine (K2 _ hc1).mono ?_
      rintro e w2 ⟨rfl, hc2, hg2⟩
      go_wp2
      go_region_with (go_at_call 50; refine (K3 _ ?_).mono ?_; exact hc2; rintro e w3 ⟨rfl, hc3, hg3⟩)
      all_goals
        go_wp2
        go_ret
        exact ⟨by rw [HX.out, HO.out]; rfl, by rw [HS.out]; exact cur_alloc hc3 _, grownBy_trans (grownBy_trans hg1 hg2) (grownBy_trans (grownBy_of_drew hg3) (World.grownBy_alloc _ _ _))⟩
    · by_cases h2 : belX d 4 (belS d t.size s) = 2
      · have HX : Hid (spX d t s = t.extract 0 k) := by show _ = _; unfold spX; simp only; rw [if_neg h0, if_neg h1, if_pos h2, HK.out]
        have HS : Hid (spS d t s = belS d 4 (belS d t.size s)) := by show _ = _; unfold spS; simp only; rw [if_neg h0, if_neg h1, if_pos h2]
        rw [h2] at K2
        have hk1 : (k : Int) ≤ (t.size : Int) := by omega
        clear h0 h1 h2
        go_enter Tryd.func23, Tryd.ntmps23
        go_wp2_with fail
        refine (K1 _ HC.out).mono ?_
        rintro e w1 ⟨rfl, hc1, hg1⟩
        go_wp2_with fail
        refine (K2 _ hc1).mono ?_
        rintro e w2 ⟨rfl, hc2, hg2⟩
        go_wp2
        go_ret
        exact ⟨by rw [HX.out]; rfl, by rw [HS.out]; exact hc2, grownBy_trans hg1 hg2⟩
      · have HX : Hid (spX d t s = t.extract 0 k ++ oneB (xorB (t.data.toList.getD k 0) (belX d 255 (belS d 4 (belS d t.size s)))) ++ t.extract (k + 1) t.size) := by show _ = _; unfold spX; simp only; rw [if_neg h0, if_neg h1, if_neg h2, HK.out]
        have HS : Hid (spS d t s = belS d 255 (belS d 4 (belS d t.size s))) := by show _ = _; unfold spS; simp only; rw [if_neg h0, if_neg h1, if_neg h2]
        have K3 := below_st c d 255 (belS d 4 (belS d t.size s)) (by omega) (by omega)
        have e0 : (belX d 4 (belS d t.size s) == 0) = false := by rw [beq_eq_false_iff_ne]; exact h0
        have e1 : (belX d 4 (belS d t.size s) == 1) = false := by rw [beq_eq_false_iff_ne]; exact h1
        have e2 : (belX d 4 (belS d t.size s) == 2) = false := by rw [beq_eq_false_iff_ne]; exact h2
        obtain ⟨z1, z2⟩ := belX_bd d 255 (belS d 4 (belS d t.size s)) (by omega)
        have hk1 : (k : Int) ≤ (t.size : Int) := by omega
        have hk2 : (k : Int) + 1 ≤ (t.size : Int) := by omega
        clear h0 h1 h2
        have hbk : t.data.toList.getD k 0 = t[k] := by
          rw [List.getD_eq_getElem?_getD, List.getElem?_eq_getElem (by simpa using hks)]; rfl
        rw [hbk] at HX
        clear hbk
        generalize belX d 4 (belS d t.size s) = a4 at *
        generalize belX d 255 (belS d 4 (belS d t.size s)) = y at *
        obtain ⟨cc, hcc⟩ : ∃ cc, cc = UInt8.ofNat (xorB t[k] y).toNat := ⟨_, rfl⟩
        have HO : Hid (oneB (xorB t[k] y) = ⟨#[cc]⟩) := by show _ = _; rw [hcc]; rfl
        have hwx : IntKind.u8.wrap (bits .xor .i64 (IntKind.i64.wrap (t[k].toNat : Int)) (IntKind.i64.wrap (1 + y))) = (cc.toNat : Int) := by
          have hx := xorB_bd t[k] y
          have e1 : (UInt8.ofNat (xorB t[k] y).toNat).toNat = (xorB t[k] y).toNat := by simp; omega
          rw [hcc, e1]
          show xorB t[k] y = _
          omega
        clear hcc
        have hw1 : IntKind.i64.wrap ((k : Int) + 1) = (k : Int) + 1 := by
          have := i64_small (k + 1) (by omega)
          rw [show ((k + 1 : Nat) : Int) = (k : Int) + 1 by omega] at this
          exact this
        have hk3 : (0 : Int) ≤ (k : Int) + 1 := by omega
        have hcv := fun W => conv_one W cc
        go_enter Tryd.func23, Tryd.ntmps23
        go_wp2_with fail
        refine (K1 _ HC.out).mono ?_
        rintro e w1 ⟨rfl, hc1, hg1⟩
        go_wp2_with fail
        refine (K2 _ hc1).mono ?_
        rintro e w2 ⟨rfl, hc2, hg2⟩
        go_wp2
        go_region_with (go_at_call 46; refine (K3 _ ?_).mono ?_; exact hc2; rintro e w3 ⟨rfl, hc3, hg3⟩)
        all_goals
          go_wp2
          go_ret
          exact ⟨by rw [HX.out, HO.out]; rfl, by rw [HS.out]; exact cur_alloc hc3 _, grownBy_trans (grownBy_trans hg1 hg2) (grownBy_trans (grownBy_of_drew hg3) (World.grownBy_alloc _ _ _))⟩
end Go.Proofs.YtgfkmppkeolckaaDoor.Cu
namespace Go.Proofs.YtgfkmppkeolckaaDoor.Cu
open Go.ChangeShapes Go.WideShapes Go.ChangeAt Go.RowKit
theorem and30 (x : Int) : 0 ≤ bits .and .i64 x 1073741823 ∧ bits .and .i64 x 1073741823 ≤ 1073741823 := by
  have e : bits .and .i64 x 1073741823 = IntKind.i64.wrap ((BitVec.ofInt 64 x &&& BitVec.ofInt 64 1073741823).toNat : Int) := rfl
  have h1 : (BitVec.ofInt 64 x &&& BitVec.ofInt 64 1073741823).toNat ≤ 1073741823 := by
    rw [BitVec.toNat_and]
    exact Nat.and_le_right
  rw [e]
  generalize (BitVec.ofInt 64 x &&& BitVec.ofInt 64 1073741823).toNat = y at *
  simp [IntKind.wrap, IntKind.bits, IntKind.signed]
  omega
/-- The number that a cursor begins with. -/
def newH (d : Code1) : Nat → Int
  | 0 => 10101 + d.len
  | k + 1 => bits .and .i64 (newH d k * 131 + d.z k + 7) 1073741823
theorem newH_bd (d : Code1) (h : d.len ≤ 1048576) : ∀ k, 0 ≤ newH d k ∧ newH d k ≤ 1073741823
  | 0 => by simp only [newH]; omega
  | k + 1 => and30 _
def newS (d : Code1) : St := (0, newH d (min d.len 4000))
theorem cur_new (w : World) (d : Code1) (h : Int) (t : TypeId) (hc : CodeAt w w.heap.size d) : CurS (w.alloc (.cells #[.slice d.a d.len d.cap, .int .i64 0, .int .i64 h] t)) w.heap.size d (0, h) := by
  refine ⟨?_, ?_, ?_, ?_, ?_, Nat.zero_le _, code_of_block hc fun b hb => Below.heap_alloc w _ b hb⟩
  · rw [World.cell?_alloc_mark]; rfl
  · rw [World.cell?_alloc_mark]; rfl
  · rw [World.cell?_alloc_mark]; rfl
  · rw [frozen?_alloc_cells]; simp [World.frozen?]
  · rw [frozen?_alloc_cells]; simp [World.frozen?]
set_option maxRecDepth 100000 in
set_option maxHeartbeats 1000000 in
theorem new_st (d : Code1) (w : World) (hc : CodeAt w w.heap.size d) :
    Calls Tryd.prog 19 #[.slice d.a d.len d.cap] w fun e w' => e = .returned (.pointer (some ⟨w.heap.size, 0, none⟩)) ∧ CurS w' w.heap.size d (newS d) ∧ Below w.heap.size w w' := by
  have HC : Hid (CodeAt w w.heap.size d) := hc
  obtain ⟨a, len, cap, z⟩ := d
  obtain ⟨hl, hz, hcode⟩ := hc
  simp only at hl hz hcode ⊢
  have HN : Hid (∀ k, 0 ≤ newH ⟨a, len, cap, z⟩ k ∧ newH ⟨a, len, cap, z⟩ k ≤ 1073741823) := newH_bd _ hl
  have HZ : Hid _ := hz
  have HD : Hid _ := hcode
  clear hz hcode
  go_enter Tryd.func19, Tryd.ntmps19
  go_wp2
  go_loop [3, 4] (fun t i => ∃ k : Nat, k ≤ len ∧ k ≤ 4000 ∧ i = .int .i64 k ∧ t = .int .i64 (newH ⟨a, len, cap, z⟩ k)) (fun _ i => 4001 - (intOf i).toNat)
  case atStart => exact ⟨0, by omega, by omega, rfl, rfl⟩
  case round =>
    obtain ⟨k, hk, hk4, rfl, rfl⟩ := hrel
    obtain ⟨n1, n2⟩ := HN.out k
    by_cases hlt : k < len ∧ k < 4000
    · obtain ⟨hlt, hlt4⟩ := hlt
      obtain ⟨b, o, rfl, hb, hcell⟩ := HD.out k hlt
      obtain ⟨z1, z2⟩ := HZ.out k hlt
      have HE : Hid (newH ⟨some ⟨b, o, none⟩, len, cap, z⟩ (k + 1) = bits .and .i64 (newH ⟨some ⟨b, o, none⟩, len, cap, z⟩ k * 131 + z k + 7) 1073741823) := rfl
      clear HD HZ HN
      generalize newH ⟨some ⟨b, o, none⟩, len, cap, z⟩ k = h at *
      go_wp2
      go_round
      case rel => exact ⟨k + 1, by omega, by omega, by go_num, by rw [HE.out]⟩
      case measure => simp [intOf]; omega
    · have HK : Hid (newS ⟨a, len, cap, z⟩ = (0, newH ⟨a, len, cap, z⟩ k)) := by
        show _ = _
        unfold newS
        simp only
        rw [show min len 4000 = k by omega]
      clear HD HZ HN
      generalize newH ⟨a, len, cap, z⟩ k = h at *
      by_cases hlt : k < len
      · go_wp2
        go_ret
        exact ⟨rfl, by rw [HK.out]; exact cur_new w ⟨a, len, cap, z⟩ h _ HC.out, (Below.refl _ _).alloc (Nat.le_refl _) _⟩
      · go_wp2
        go_ret
        exact ⟨rfl, by rw [HK.out]; exact cur_new w ⟨a, len, cap, z⟩ h _ HC.out, (Below.refl _ _).alloc (Nat.le_refl _) _⟩
end Go.Proofs.YtgfkmppkeolckaaDoor.Cu
set_option linter.unusedVariables false
namespace Go.Proofs.YtgfkmppkeolckaaDoor.Cu
open Go.ChangeShapes Go.WideShapes Go.ChangeAt Go.RowKit
set_option maxRecDepth 100000 in
set_option maxHeartbeats 1000000 in
theorem once_st (c : Nat) (d : Code1) (n : Int) (s : St) (h0 : 0 < n) (h2 : n ≤ 1000000000) : DrC 22 #[.pointer (some ⟨c, 0, none⟩), .int .i64 n] c d s (.bool (belX d n s == 0)) (belS d n s) := by
  intro w hc
  have HB : Hid (Calls Tryd.prog 46 #[.pointer (some ⟨c, 0, none⟩), .int .i64 n] w fun e w' => DrewS w c d (.int .i64 (belX d n s)) (belS d n s) e w') := below_st c d n s h0 h2 w hc
  clear hc
  go_enter Tryd.func22, Tryd.ntmps22
  go_wp2_with (go_at_call 46; refine HB.out.mono ?_; rintro e w2 ⟨rfl, hc2, hg2⟩)
  go_ret
  exact ⟨rfl, hc2, hg2⟩
set_option maxRecDepth 100000 in
set_option maxHeartbeats 1000000 in
theorem pickS_st (c g cap : Nat) (d : Code1) (s : St) (L : List ByteArray) (w : World) (hc : CurS w c d s) (hne : g ≠ c) (hL : 0 < L.length) (hL2 : L.length ≤ 256) (hcell : ∀ (j : Nat) (x : ByteArray), L[j]? = some x → w.cell? ⟨g, j, none⟩ = some (.string x)) :
    Calls Tryd.prog 48 #[.pointer (some ⟨c, 0, none⟩), .slice (some ⟨g, 0, none⟩) L.length cap] w fun e w' => ∃ t s', e = .returned (.string t) ∧ t ∈ L ∧ CurS w' c d s' ∧ w.grownBy w' (some c) := by
  have HB : Hid (Calls Tryd.prog 46 #[.pointer (some ⟨c, 0, none⟩), .int .i64 (L.length : Int)] w fun e w' => DrewS w c d (.int .i64 (belX d L.length s)) (belS d L.length s) e w') := below_st c d L.length s (by omega) (by omega) w hc
  obtain ⟨b1, b2⟩ := belX_bd d L.length s (by omega)
  obtain ⟨k, hk⟩ : ∃ k : Nat, belX d L.length s = (k : Int) := ⟨_, (Int.toNat_of_nonneg b1).symm⟩
  rw [hk] at HB b2
  obtain ⟨x, hx⟩ : ∃ x, L[k]? = some x := ⟨_, List.getElem?_eq_getElem (by omega)⟩
  have HX : Hid (L[k]? = some x) := hx
  have hcx := hcell k x hx
  have hgl : g < w.heap.size := cell_lt hcx
  have HG : Hid (w.cell? ⟨g, k, none⟩ = some (.string x)) := hcx
  clear hcell hc hk hx hcx b1
  go_enter Tryd.func48, Tryd.ntmps48
  go_wp2_with (go_at_call 46; refine HB.out.mono ?_; rintro e w2 ⟨rfl, hc2, hg2⟩; have hcy := (World.cell?_of_block (a := ⟨g, k, none⟩) (hg2.block g hgl (fun e => hne (Option.some.inj e)))).trans HG.out)
  go_ret
  exact ⟨x, _, rfl, List.mem_of_getElem? HX.out, hc2, hg2⟩
set_option maxRecDepth 100000 in
theorem size_any (a : Option Addr) (n cap : Nat) (m : Nat) (w : World) (hn : n ≤ 1048576) (hm : 2 ≤ m) (hm2 : m ≤ 100) : Calls Tryd.prog 21 #[.slice a n cap, .int .i64 (m : Int)] w fun e w' => ∃ k : Nat, e = .returned (.int .i64 (k : Int)) ∧ k ≤ m ∧ w' = w := by
  by_cases h : m < 2 + n / 20
  · have hd : decide ((m : Int) < 2 + (n : Int) / 20) = true := by simp; omega
    have hd' : (m : Int) < 2 + (n : Int) / 20 := by omega
    go_enter Tryd.func21, Tryd.ntmps21
    go_wp2
    go_ret
    exact ⟨m, rfl, Nat.le_refl _, rfl⟩
  · have hd : decide ((m : Int) < 2 + (n : Int) / 20) = false := by simp; omega
    go_enter Tryd.func21, Tryd.ntmps21
    go_wp2
    go_ret
    exact ⟨2 + n / 20, by go_num, by omega, rfl⟩
end Go.Proofs.YtgfkmppkeolckaaDoor.Cu
