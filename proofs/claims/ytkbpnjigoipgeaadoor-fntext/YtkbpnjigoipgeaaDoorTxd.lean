/- The model's Text. -/
import Derived.Test.YtkbpnjigoipgeaaDoorTxc
set_option linter.unusedVariables false
namespace Go.Proofs.YtkbpnjigoipgeaaDoor
open Go.ChangeShapes Go.WideShapes Go.ChangeAt Go.RowKit
/-- What Text tells. -/
def TextIs (h : List Cel) (v : Val) (s : List UInt8) : Prop := (HeapP h ∧ v.ok h = true → ∃ t, Tel h false v t ∧ s = t.take 100000) ∧ (¬ (HeapP h ∧ v.ok h = true) → s = [])
theorem TextIs.unique {h : List Cel} {v : Val} {s s' : List UInt8} (h1 : TextIs h v s) (h2 : TextIs h v s') : s = s' := by
  by_cases hq : HeapP h ∧ v.ok h = true
  · obtain ⟨t, ht, rfl⟩ := h1.1 hq
    obtain ⟨t', ht', rfl⟩ := h2.1 hq
    rw [ht.unique ht']
  · rw [h1.2 hq, h2.2 hq]
def TxPost (h : List Cel) (v : Val) (w : World) (e : Ending) (w' : World) : Prop := ∃ s : List UInt8, e = .returned (.string ⟨s.toArray⟩) ∧ TextIs h v s ∧ Below w.heap.size w w'
theorem ownB_nil {W : World} {B g : Nat} (h : W.heap[g]? = some (.cells #[] 5 (0, 0))) (hB : B ≤ g) : OwnB W B (.slice (some ⟨g, 0, none⟩) 0 0) [] := ⟨rfl, .inr ⟨g, 0, #[], rfl, hB, h, Nat.le_refl _, Nat.zero_le _, rfl, rfl⟩⟩
theorem OwnB.cut {W : World} {B : Nat} {a : Option Addr} {c : Nat} {l : List UInt8} (h : OwnB W B (.slice a l.length c) l) {k : Nat} (hk : k ≤ l.length) (h0 : 0 < k) : OwnB W B (.slice a k c) (l.take k) := by
  unfold OwnB at *
  have hl : (l.take k).length = k := by rw [List.length_take]; omega
  rw [hl]
  obtain ⟨_, ⟨hv, hn⟩ | ⟨g, cap, cur, hv, h1, h2, h3, h4, h5, h6⟩⟩ := h
  · omega
  · injection hv with e1 e2 e3
    subst e1 e3
    refine ⟨by rw [bts_length, hl]; omega, .inr ⟨g, c, cur, rfl, h1, h2, by omega, h4, h5, ?_⟩⟩
    simp only [Nat.mul_one] at *
    have : cur.toList.take k = (cur.toList.take l.length).take k := by rw [List.take_take, Nat.min_eq_left hk]
    rw [this, h6]
    simp [bts]
theorem conv_b {B : Nat} {w : World} {v : Value} {l : List UInt8} (h : OwnB w B v l) : (convert 22 9 v).run Tryd.prog w = .ok (.string ⟨l.toArray⟩) w := conv_own h
set_option maxRecDepth 100000 in
set_option maxHeartbeats 2000000 in
theorem l6Text_any (a : Option Addr) (h : List Cel) (ca : Nat) (d : Val) (t : List UInt8) (w : World) (hh : h.length ≤ 1048576) (hp : HeapP h) (hsm : ∀ c ∈ h, c.small) (hd : d.small) (hok : d.ok h = true) (ht : Tel h false d t) (hr : RowC w w.heap.size a h) :
    Calls Tryd.prog 21 #[.slice a h.length ca, .agg #[.int .i64 d.k, .int .i64 d.n, .string d.s]] w fun e w' => Ans w (.string ⟨(t.take 100000).toArray⟩) e w' := by
  have hok' : d.ok (h.take h.length) = true := by rw [List.take_length]; exact hok
  have IH : Hid (∀ (ov : Value) (l : List UInt8) (w1 : World), RowC w1 w.heap.size a h → w.heap.size ≤ w1.heap.size → OwnB w1 w.heap.size ov l → l.length ≤ 4000000 →
      Calls Tryd.prog 35 #[.slice a h.length ca, .agg #[.int .i64 d.k, .int .i64 d.n, .string d.s], ov] w1 fun e w' => PutPost w.heap.size ov l t (Dn h.length) w1 e w') := fun ov l w1 h1 h2 h3 h4 => l6Put_any a h ca w.heap.size hh hp hsm h.length d t ov l w1 hok' hd ht h1 h2 h3 h4
  have hn3 : h.length ≤ 300 := hp.1
  have HR : Hid (RowC w w.heap.size a h) := hr
  clear hr hp hsm hok hok' ht
  go_enter Tryd.func21, Tryd.ntmps21
  go_wp2_with fail
  have hbA : Below w.heap.size w ((w.alloc (Obj.cells #[.int .i64 d.k, .int .i64 d.n, .string d.s] 26)).alloc (Obj.cells #[] 5)) := ((Below.refl _ _).alloc (Nat.le_refl _) _).alloc (by simp) _
  have hoA : OwnB ((w.alloc (Obj.cells #[.int .i64 d.k, .int .i64 d.n, .string d.s] 26)).alloc (Obj.cells #[] 5)) w.heap.size (.slice (some ⟨w.heap.size + 1, 0, none⟩) 0 0) [] := ownB_nil (blk_at _ _ _ (by simp)) (by omega)
  refine (IH.out _ [] _ (HR.out.below hbA) hbA.size hoA (by simp)).mono ?_
  rintro e w1 ⟨v1, l1, rfl, ho1, hg1, hn1, hcut, hlen⟩
  have hb1 : Below w.heap.size w w1 := hbA.grown hg1 hbA.size fun k hk => by
    have : w.heap.size + 1 = k := by simpa [Value.ownBlock] using hk
    omega
  have hl1 : l1.length ≤ 2199552 := by unfold Dn at hlen; simp at hlen; omega
  obtain ⟨a1, c1, rfl, hc1⟩ := ho1.slice
  rw [List.nil_append] at hcut
  have HCT : Hid (l1.take 100000 = t.take 100000) := hcut
  clear hcut hlen hn1 hg1 hoA hbA
  by_cases hM : 100000 < l1.length
  · have e1 : decide ((100000 : Int) < (l1.length : Int)) = true := by simp; omega
    have hcv := conv_b (ho1.cut (k := 100000) (by omega) (by omega))
    rw [HCT.out] at hcv
    have q1 : (100000 : Int) ≤ (c1 : Int) := by omega
    go_wp2
    go_ret
    exact ⟨rfl, hb1⟩
  · have e1 : decide ((100000 : Int) < (l1.length : Int)) = false := by simp; omega
    have hcv := conv_b ho1
    have hlt : l1 = t.take 100000 := by rw [← HCT.out, List.take_of_length_le (by omega)]
    have HLT : Hid (l1 = t.take 100000) := hlt
    clear hlt
    go_wp2
    go_ret
    exact ⟨by rw [HLT.out]; rfl, hb1⟩
set_option maxRecDepth 100000 in
set_option maxHeartbeats 2000000 in
theorem specText_any (a : Option Addr) (h : List Cel) (ca : Nat) (d : Val) (w : World) (hh : h.length ≤ 1048576) (hsm : ∀ c ∈ h, c.small) (hd : d.small) (hr : RowC w w.heap.size a h) :
    Calls Tryd.prog 7 #[.slice a h.length ca, .agg #[.int .i64 d.k, .int .i64 d.n, .string d.s]] w fun e w' => TxPost h d w e w' := by
  have HH : Hid (∀ w1, Below w.heap.size w w1 → Calls Tryd.prog 8 #[.slice a h.length ca] w1 fun e w' => HpPost h w1 e w') := fun w1 hb => specHeap_any a h ca w1 hh hsm ((hr.below hb).mono hb.size)
  have HV : Hid (∀ w1, Below w.heap.size w w1 → Calls Tryd.prog 9 #[.slice a h.length ca, .agg #[.int .i64 d.k, .int .i64 d.n, .string d.s]] w1 fun e w' => Ans w1 (.bool (d.ok h)) e w') := fun w1 hb => specVal_any d a h ca w1 hh hd.2.2 ((hr.below hb).mono hb.size)
  have HL : Hid (∀ w1 t, Below w.heap.size w w1 → HeapP h → d.ok h = true → Tel h false d t → Calls Tryd.prog 21 #[.slice a h.length ca, .agg #[.int .i64 d.k, .int .i64 d.n, .string d.s]] w1 fun e w' => Ans w1 (.string ⟨(t.take 100000).toArray⟩) e w') := fun w1 t hb hp hok ht => l6Text_any a h ca d t w1 hh hp hsm hd hok ht ((hr.below hb).mono hb.size)
  have hbA : Below w.heap.size w (w.alloc (Obj.cells #[.int .i64 d.k, .int .i64 d.n, .string d.s] 26)) := (Below.refl _ _).alloc (Nat.le_refl _) _
  have kA := blk_alloc w (Obj.cells #[.int .i64 d.k, .int .i64 d.n, .string d.s] 26)
  clear hr hsm
  go_enter Tryd.func7, Tryd.ntmps7
  go_wp2_with fail
  refine (HH.out _ hbA).mono ?_
  rintro e w1 ⟨b1, rfl, hq1, hb1⟩
  have hb2 := hbA.trans (hb1.mono hbA.size)
  have k1 := blk_keep kA hb1 (by simp)
  have hs1 : w.heap.size < w1.heap.size := (Array.getElem?_eq_some_iff.1 k1).1
  have x0 := cell_blk (j := 0) k1 rfl
  have x1 := cell_blk (j := 1) k1 rfl
  have x2 := cell_blk (j := 2) k1 rfl
  have K1 : Hid _ := k1
  have HQ1 : Hid (b1 = true ↔ HeapP h) := hq1
  clear kA k1 hq1 hb1 hbA
  cases b1
  · go_wp2
    go_ret
    exact ⟨[], rfl, ⟨fun hq => absurd (HQ1.out.2 hq.1) (by simp), fun _ => rfl⟩, hb2⟩
  · have hp : HeapP h := HQ1.out.1 rfl
    cases hv : d.ok h
    · rw [hv] at HV
      have HVV : Hid (d.ok h = false) := hv
      clear hv
      go_wp2_with (go_at_call 9; refine (HV.out _ hb2).mono ?_; rintro e w2 ⟨rfl, hb3⟩)
      go_ret
      exact ⟨[], rfl, ⟨fun hq => absurd (HVV.out.symm.trans hq.2) (by simp), fun _ => rfl⟩, hb2.trans (hb3.mono hb2.size)⟩
    · rw [hv] at HV
      obtain ⟨t, ht⟩ := Tel.exists hp (h.length + 1) false d hv fun hk => by obtain ⟨m, c, _, _, hm, hc, _⟩ := pair_parts hp hv hk; have := (List.getElem?_eq_some_iff.1 hc).1; omega
      have HT : Hid (TextIs h d (t.take 100000)) := ⟨fun _ => ⟨t, ht, rfl⟩, fun hq => absurd ⟨hp, hv⟩ hq⟩
      have HL2 : Hid (∀ w1, Below w.heap.size w w1 → Calls Tryd.prog 21 #[.slice a h.length ca, .agg #[.int .i64 d.k, .int .i64 d.n, .string d.s]] w1 fun e w' => Ans w1 (.string ⟨(t.take 100000).toArray⟩) e w') := fun w1 hb => HL.out w1 t hb hp hv ht
      clear hv hp ht HL
      go_wp2_with (first
        | (go_at_call 9; refine (HV.out _ hb2).mono ?_; rintro e w2 ⟨rfl, hb3⟩; have hb4 := hb2.trans (hb3.mono hb2.size); have k2 := blk_keep K1.out hb3 hs1; have z0 := cell_blk (j := 0) k2 rfl; have z1 := cell_blk (j := 1) k2 rfl; have z2 := cell_blk (j := 2) k2 rfl)
        | (go_at_call 21; refine (HL2.out _ hb4).mono ?_; rintro e w3 ⟨rfl, hb5⟩))
      go_ret
      exact ⟨_, rfl, HT.out, hb4.trans (hb5.mono hb4.size)⟩
end Go.Proofs.YtkbpnjigoipgeaaDoor
