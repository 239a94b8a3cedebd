/- The program's teller, whole; the program's Text. -/
import Derived.Test.YtkbpnjigoipgeaaDoorTxg
import Derived.Test.YtkbpnjigoipgeaaDoorDecb
import Derived.Test.YtkbpnjigoipgeaaDoorHox
set_option linter.unusedVariables false
namespace Go.Proofs.YtkbpnjigoipgeaaDoor
open Go.ChangeShapes Go.WideShapes Go.ChangeAt Go.RowKit
set_option maxRecDepth 100000 in
set_option maxHeartbeats 4000000 in
theorem value_pair (D : World → Prop) (B T : Nat) (hdc : DecC D B) (a : Option Addr) (h : List Cel) (ca : Nat) (hh : h.length ≤ 1048576) (m : Nat) (c : Cel) (x y : Val) (t : List UInt8) (hc : h[m]? = some c) (hcv : c.vals = [x, y])
    (hlist : ∀ (nv : Value) (b2 o2 cv : Nat) (tv : Value) (l : List UInt8) (w : World), (∃ q r s, nv = .slice q r s) → b2 < B → 2 ≤ cv → ValAt w b2 o2 x → ValAt w b2 (o2 + 3) y → TSt w B T (.slice a h.length ca) tv l → CX D B a h w →
      Calls Tryd.prog 48 #[.pointer (some ⟨T, 0, none⟩), .agg #[.int .i64 c.k, .string c.s, .int .i64 c.a, .int .i64 c.b, nv, .slice (some ⟨b2, o2, none⟩) 2 cv]] w fun e w' => TPost B T (.slice a h.length ca) tv l t w e w')
    (tv : Value) (l : List UInt8) (w : World) (hst : TSt w B T (.slice a h.length ca) tv l) (hx : CX D B a h w) (hl : l.length < 100000) :
    Calls Tryd.prog 34 #[.pointer (some ⟨T, 0, none⟩), .agg #[.int .i64 5, .int .i64 (m : Int), .string ⟨#[]⟩]] w fun e w' => TPost B T (.slice a h.length ca) tv l t w e w' := by
  have hml : m < h.length := (List.getElem?_eq_some_iff.1 hc).1
  have hbA : Below w.heap.size w (w.alloc (Obj.cells #[.int .i64 5, .int .i64 (m : Int), .string ⟨#[]⟩] 26)) := (Below.refl _ _).alloc (Nat.le_refl _) _
  have HRM : Hid (Calls Tryd.prog 45 #[.pointer (some ⟨T, 0, none⟩)] (w.alloc (Obj.cells #[.int .i64 5, .int .i64 (m : Int), .string ⟨#[]⟩] 26)) fun e w' => e = .returned (.int .i64 (100000 - (l.length : Int))) ∧ w' = (w.alloc (Obj.cells #[.int .i64 5, .int .i64 (m : Int), .string ⟨#[]⟩] 26))) := room_any B T _ tv l _ (hst.keep hbA)
  have HIN : Hid (∀ w, Calls Tryd.prog 32 #[.agg #[.int .i64 5, .int .i64 (m : Int), .string ⟨#[]⟩]] w fun e w' => Ans w (inV ⟨5, m, ⟨#[]⟩⟩) e w') := fun w => innerOf_any ⟨5, m, ⟨#[]⟩⟩ w
  rw [inV5] at HIN
  have g0 : ((100000 : Int) - (l.length : Int) == 0) = false := by rw [beq_eq_false_iff_ne]; omega
  obtain ⟨b, o, rfl, hb, an, cn, av, cv, c0, c1, c2, c3, c4, c5, hrs, hrv, l1, l2⟩ := hx.row m c hc
  have e0 : c.vals[0]? = some x := by rw [hcv]; rfl
  have e1 : c.vals[1]? = some y := by rw [hcv]; rfl
  obtain ⟨b2, o2, rfl, hb2, hvx⟩ := hrv 0 x e0
  obtain ⟨b3, o3, he, hb3, hvy⟩ := hrv 1 y e1
  injection he with he
  injection he with q1 q2
  subst q1 q2
  have hlen2 : c.vals.length = 2 := by rw [hcv]; rfl
  rw [hlen2] at c5 l2
  have HVX : Hid (ValAt w b2 o2 x) := by show ValAt _ _ _ _; simpa using hvx
  have HVY : Hid (ValAt w b2 (o2 + 3) y) := by show ValAt _ _ _ _; simpa using hvy
  have C0 : Hid _ := c0
  have C1 : Hid _ := c1
  have C2 : Hid _ := c2
  have C3 : Hid _ := c3
  have C4 : Hid _ := c4
  have C5 : Hid _ := c5
  have HST : Hid (TSt w B T (.slice (some ⟨b, o, none⟩) h.length ca) tv l) := hst
  have HX : Hid (CX D B (some ⟨b, o, none⟩) h w) := hx
  have HLI : Hid _ := hlist
  have HDC : Hid (DecC D B) := hdc
  have i0 : (0 : Int) ≤ (m : Int) := by omega
  have i1 : (m : Int) < (h.length : Int) := by omega
  clear hst hx hlist hdc hrs hrv hvx hvy c0 c1 c2 c3 c4 c5 e0 e1 hc hcv hlen2
  have ta64 : ∀ w, (Instr.typeAssert (.iface 72 (.int .i64 (m : Int))) 55 70 true).run Tryd.prog w = .ok (.tuple #[.int .i64 0, .bool false]) w := fun _ => by kernel_rfl
  have ta67 : ∀ w, (Instr.typeAssert (.iface 72 (.int .i64 (m : Int))) 55 71 true).run Tryd.prog w = .ok (.tuple #[.int .i64 0, .bool false]) w := fun _ => by kernel_rfl
  have ta69 : ∀ w, (Instr.typeAssert (.iface 72 (.int .i64 (m : Int))) 55 69 true).run Tryd.prog w = .ok (.tuple #[.agg #[], .bool false]) w := fun _ => by kernel_rfl
  have ta70 : ∀ w, (Instr.typeAssert (.iface 72 (.int .i64 (m : Int))) 55 67 true).run Tryd.prog w = .ok (.tuple #[.string ⟨#[]⟩, .bool false]) w := fun _ => by kernel_rfl
  have ta71 : ∀ w, (Instr.typeAssert (.iface 72 (.int .i64 (m : Int))) 55 72 true).run Tryd.prog w = .ok (.tuple #[.int .i64 (m : Int), .bool true]) w := fun _ => by kernel_rfl
  go_enter Tryd.func34, Tryd.ntmps34
  go_wp2_with (first | (go_at_call 45; refine HRM.out.mono ?_; rintro e w1 ⟨rfl, rfl⟩) | (go_at_call 32; refine (HIN.out _).mono ?_; rintro e w1 ⟨rfl, hb1⟩; have hb4 := hbA.trans (hb1.mono hbA.size); have hlow := hb4.mono HX.out.le; have t0 := cell_blk (j := 0) (HST.out.keep hb4).blk rfl; have z0 := cell_keep C0.out hlow hb; have z1 := cell_keep C1.out hlow hb; have z2 := cell_keep C2.out hlow hb; have z3 := cell_keep C3.out hlow hb; have z4 := cell_keep C4.out hlow hb; have z5 := cell_keep C5.out hlow hb))
  refine (HLI.out _ b2 o2 cv tv l w1 ⟨_, _, _, rfl⟩ hb2 l2 ⟨cell_keep HVX.out.1 hlow hb2, cell_keep HVX.out.2.1 hlow hb2, cell_keep HVX.out.2.2 hlow hb2⟩ ⟨cell_keep HVY.out.1 hlow hb2, cell_keep HVY.out.2.1 hlow hb2, cell_keep HVY.out.2.2 hlow hb2⟩ (HST.out.keep hb4) (HX.out.step HDC.out hlow)).mono ?_
  rintro e w2 ⟨tv2, l2', rfl, hs2, hc2, hg2, hf2⟩
  have HQ : Hid (TSt w2 B T (.slice (some ⟨b, o, none⟩) h.length ca) tv2 l2' ∧ Cut l2' (l ++ t) ∧ TG w w2 T tv ∧ Fr w tv tv2) := ⟨hs2, hc2, (TG.below T tv hb4).trans (Fr.refl _ _) hg2, (Fr.refl w tv).trans hb4.size hf2⟩
  clear hs2 hc2 hg2 hf2
  go_wp2
  go_end0
  exact ⟨tv2, l2', rfl, HQ.out⟩
theorem value_any (D : World → Prop) (B T : Nat) (hdc : DecC D B) (a : Option Addr) (h : List Cel) (ca : Nat) (hh : h.length ≤ 1048576) (hp : HeapP h) (hsm : ∀ c ∈ h, c.small) : ∀ (n : Nat) (v : Val) (t : List UInt8) (tv : Value) (l : List UInt8) (w : World), v.ok (h.take n) = true → v.small → Tel h false v t → TSt w B T (.slice a h.length ca) tv l → CX D B a h w →
      Calls Tryd.prog 34 #[.pointer (some ⟨T, 0, none⟩), .agg #[.int .i64 v.k, .int .i64 v.n, .string v.s]] w fun e w' => TPost B T (.slice a h.length ca) tv l t w e w' := by
  intro n
  induction n using Nat.strongRecOn with
  | ind n ih =>
  intro v t tv l w hv hvs ht hst hcx
  by_cases hM : 100000 ≤ l.length
  · exact value_full B T _ v tv l t w hst hM
  · by_cases hk : v.k = 5
    · have hs0 : v.s.size = 0 := by
        by_cases hq : v.s.size = 0
        · exact hq
        · have := ok_of_take hv
          rw [vokS (by rw [hk]; decide) hq] at this
          cases this
      obtain ⟨m, c, x, y, hm, hc, hck, hcv, hx, hy⟩ := pair_parts hp (ok_of_take hv) hk
      have hmn : m < n := by have := below_of_take hv hk; omega
      have hc' : h[v.n.toNat]? = some c := by rw [hm, Int.toNat_natCast]; exact hc
      cases ht with
      | flat _ hk' => exact absurd hk hk'
      | pair _ c' x' y' tx ty _ hc2 hx2 hy2 h3 h4 =>
        obtain rfl := Option.some.inj (hc'.symm.trans hc2)
        rw [hcv] at hx2 hy2
        obtain rfl : x = x' := by simpa using hx2
        obtain rfl : y = y' := by simpa using hy2
        obtain ⟨k, vn, s⟩ := v
        simp only at *
        subst hk hm
        obtain rfl := size_zero hs0
        exact value_pair D B T hdc a h ca hh m c x y _ hc hcv (fun nv b2 o2 cv tv l w h1 h2 h3' h4' h5 h6 h7 => list_any D B T hdc a h ca hh hp hsm m (ih m hmn) c x y tx ty hc hcv hx hy h3 h4 nv b2 o2 cv tv l w h1 h2 h3' h4' h5 h6 h7) tv l w hst hcx (by omega)
    · cases ht with
      | flat => exact value_flat D B T hdc a h ca v tv l w hh hsm hvs (ok_of_take hv) hk hst hcx (by omega)
      | pair _ c' x' y' tx ty hk' => exact absurd hk' hk
/-- The library's table. -/
def Tab (w : World) : Prop := Lib.TabIs Tryd.prog w "internal/strconv.uint64pow10" .u64 Lib.pow10Tab
theorem decC (B : Nat) (hB : 0 < B) : DecC Tab B := ⟨fun w w' h hb => var?_below hb gPow hB h, fun n w hn h => implDec_any n w hn.1 hn.2 h⟩
set_option maxRecDepth 100000 in
set_option maxHeartbeats 2000000 in
theorem textOf_any (a : Option Addr) (h : List Cel) (ca : Nat) (d : Val) (w : World) (hh : h.length ≤ 1048576) (hsm : ∀ c ∈ h, c.small) (hd : d.small) (hp : HeapP h) (hv : d.ok h = true) (hr : RowC w w.heap.size a h) (h0 : 0 < w.heap.size) (htab : Tab w) :
    Calls Tryd.prog 20 #[.slice a h.length ca, .agg #[.int .i64 d.k, .int .i64 d.n, .string d.s]] w fun e w' => TxPost h d w e w' := by
  have hbA : Below w.heap.size w (w.alloc (Obj.cells #[.int .i64 d.k, .int .i64 d.n, .string d.s] 26)) := (Below.refl _ _).alloc (Nat.le_refl _) _
  have hbT : Below w.heap.size w ((w.alloc (Obj.cells #[.int .i64 d.k, .int .i64 d.n, .string d.s] 26)).alloc (Obj.cells #[.slice a h.length ca, .slice none 0 0] 58)) := hbA.alloc hbA.size _
  have kT : ((w.alloc (Obj.cells #[.int .i64 d.k, .int .i64 d.n, .string d.s] 26)).alloc (Obj.cells #[.slice a h.length ca, .slice none 0 0] 58)).heap[w.heap.size]? = some (Obj.cells #[.int .i64 d.k, .int .i64 d.n, .string d.s] 26) := blk_past (blk_alloc _ _)
  have y0 := cell_blk (j := 0) kT rfl
  have y1 := cell_blk (j := 1) kT rfl
  have y2 := cell_blk (j := 2) kT rfl
  have hts : TSt ((w.alloc (Obj.cells #[.int .i64 d.k, .int .i64 d.n, .string d.s] 26)).alloc (Obj.cells #[.slice a h.length ca, .slice none 0 0] 58)) w.heap.size (w.heap.size + 1) (.slice a h.length ca) (.slice none 0 0) [] := ⟨blk_at _ _ _ (by simp), World.ownsRow_nil _ _ 5 1, by simp [Value.ownBlock], by simp, by omega⟩
  have HTS : Hid (TSt ((w.alloc (Obj.cells #[.int .i64 d.k, .int .i64 d.n, .string d.s] 26)).alloc (Obj.cells #[.slice a h.length ca, .slice none 0 0] 58)) w.heap.size (w.heap.size + 1) (.slice a h.length ca) (.slice none 0 0) []) := hts
  obtain ⟨t, ht⟩ := Tel.exists hp (h.length + 1) false d hv fun hk => by obtain ⟨m, c, _, _, hm, hc, _⟩ := pair_parts hp hv hk; have := (List.getElem?_eq_some_iff.1 hc).1; omega
  have HT : Hid (TextIs h d (t.take 100000)) := ⟨fun _ => ⟨t, ht, rfl⟩, fun hq => absurd ⟨hp, hv⟩ hq⟩
  have HVB : Hid (Calls Tryd.prog 34 #[.pointer (some ⟨w.heap.size + 1, 0, none⟩), .agg #[.int .i64 d.k, .int .i64 d.n, .string d.s]] ((w.alloc (Obj.cells #[.int .i64 d.k, .int .i64 d.n, .string d.s] 26)).alloc (Obj.cells #[.slice a h.length ca, .slice none 0 0] 58)) fun e w' => TPost w.heap.size (w.heap.size + 1) (.slice a h.length ca) (.slice none 0 0) [] t ((w.alloc (Obj.cells #[.int .i64 d.k, .int .i64 d.n, .string d.s] 26)).alloc (Obj.cells #[.slice a h.length ca, .slice none 0 0] 58)) e w') := value_any Tab w.heap.size (w.heap.size + 1) (decC _ h0) a h ca hh hp hsm h.length d t _ [] _ (by rw [List.take_length]; exact hv) hd ht hts ⟨hr.below hbT, var?_below hbT gPow h0 htab, hbT.size⟩
  clear hr hsm htab hts hp hv hd hh ht kT
  go_enter Tryd.func20, Tryd.ntmps20
  go_wp2_with fail
  refine HVB.out.mono ?_
  rintro e w4 ⟨tv4, l4, rfl, hs4, hc4, hg4, hf4⟩
  have hb6 : Below w.heap.size w w4 := hbT.trans (TG.low HTS.out hg4 hbT.size)
  have z1 := cell_blk (j := 1) hs4.blk rfl
  have hcv := conv_b hs4.own
  have hle := hs4.le
  have HL4 : Hid (l4 = t.take 100000) := by
    show _ = _
    have := hc4
    unfold Cut at this
    rw [List.nil_append, List.take_of_length_le hle] at this
    exact this
  rw [HL4.out] at hcv
  obtain ⟨a4, c4, rfl, _⟩ := hs4.own.slice
  clear hs4 hc4 hg4 hf4 hle
  go_wp2
  go_ret
  exact ⟨_, rfl, HT.out, hb6⟩
set_option maxRecDepth 100000 in
set_option maxHeartbeats 2000000 in
theorem implText_any (a : Option Addr) (h : List Cel) (ca : Nat) (d : Val) (w : World) (hh : h.length ≤ 1048576) (hca : h.length ≤ ca) (hsm : ∀ c ∈ h, c.small) (hd : d.small) (hr : RowC w w.heap.size a h) (h0 : 0 < w.heap.size) (htab : Tab w) :
    Calls Tryd.prog 6 #[.slice a h.length ca, .agg #[.int .i64 d.k, .int .i64 d.n, .string d.s]] w fun e w' => TxPost h d w e w' := by
  have HH : Hid (∀ w1, Below w.heap.size w w1 → Calls Tryd.prog 19 #[.slice a h.length ca] w1 fun e w' => HpPost h w1 e w') := fun w1 hb => implHeap_any a h ca w1 hh hca hsm ((hr.below hb).mono hb.size)
  have HV : Hid (∀ w1, Below w.heap.size w w1 → Calls Tryd.prog 18 #[.slice a h.length ca, .agg #[.int .i64 d.k, .int .i64 d.n, .string d.s]] w1 fun e w' => Ans w1 (.bool (d.ok h)) e w') := fun w1 hb => implVal_any d a h ca w1 hh hd.2.2 ((hr.below hb).mono hb.size)
  have hbA : Below w.heap.size w (w.alloc (Obj.cells #[.int .i64 d.k, .int .i64 d.n, .string d.s] 26)) := (Below.refl _ _).alloc (Nat.le_refl _) _
  have HKA : Hid ((w.alloc (Obj.cells #[.int .i64 d.k, .int .i64 d.n, .string d.s] 26)).heap[w.heap.size]? = some (Obj.cells #[.int .i64 d.k, .int .i64 d.n, .string d.s] 26)) := blk_alloc _ _
  have HTX : Hid (HeapP h → d.ok h = true → ∀ w1, Below w.heap.size w w1 → Calls Tryd.prog 20 #[.slice a h.length ca, .agg #[.int .i64 d.k, .int .i64 d.n, .string d.s]] w1 fun e w' => TxPost h d w1 e w') := fun hp hv w1 hb => textOf_any a h ca d w1 hh hsm hd hp hv ((hr.below hb).mono hb.size) (by have := hb.size; omega) (var?_below hb gPow h0 htab)
  clear hr hsm htab
  go_enter Tryd.func6, Tryd.ntmps6
  go_wp2_with fail
  cases hv : d.ok h
  · rw [hv] at HV
    have HVV : Hid (d.ok h = false) := hv
    clear hv
    refine (HV.out _ hbA).mono ?_
    rintro e w1 ⟨rfl, hb1⟩
    go_wp2
    go_ret
    exact ⟨[], rfl, ⟨fun hq => absurd (HVV.out.symm.trans hq.2) (by simp), fun _ => rfl⟩, hbA.trans (hb1.mono hbA.size)⟩
  · rw [hv] at HV
    have HVV : Hid (d.ok h = true) := hv
    clear hv
    refine (HV.out _ hbA).mono ?_
    rintro e w1 ⟨rfl, hb1⟩
    have hb2 := hbA.trans (hb1.mono hbA.size)
    have k1 := blk_keep HKA.out hb1 (by simp)
    have hs1 : w.heap.size < w1.heap.size := (Array.getElem?_eq_some_iff.1 k1).1
    have K1 : Hid _ := k1
    clear k1 hb1 hbA HKA
    go_wp2_with fail
    refine (HH.out _ hb2).mono ?_
    rintro e w2 ⟨b2, rfl, hq2, hb3⟩
    have hb4 := hb2.trans (hb3.mono hb2.size)
    have HQ2 : Hid (b2 = true ↔ HeapP h) := hq2
    have k2 := blk_keep K1.out hb3 hs1
    have x0 := cell_blk (j := 0) k2 rfl
    have x1 := cell_blk (j := 1) k2 rfl
    have x2 := cell_blk (j := 2) k2 rfl
    have K2 : Hid _ := k2
    clear hq2 hb3 hb2 k2
    cases b2
    · go_wp2
      go_ret
      exact ⟨[], rfl, ⟨fun hq => absurd (HQ2.out.2 hq.1) (by simp), fun _ => rfl⟩, hb4⟩
    · have HP : Hid (HeapP h) := HQ2.out.1 rfl
      go_wp2_with fail
      refine (HTX.out HP.out HVV.out _ hb4).mono ?_
      rintro e w4 ⟨s, rfl, hs, hb5⟩
      go_wp2
      go_ret
      exact ⟨s, rfl, hs, hb4.trans (hb5.mono hb4.size)⟩
end Go.Proofs.YtkbpnjigoipgeaaDoor
