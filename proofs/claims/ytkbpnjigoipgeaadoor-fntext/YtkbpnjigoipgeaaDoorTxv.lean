/- The law's walk over the texts of values. -/
import Derived.Test.YtkbpnjigoipgeaaDoorDrl
import Derived.Test.YtkbpnjigoipgeaaDoorTxq
import Derived.Test.YtkbpnjigoipgeaaDoorTxh
import Derived.Test.YtkbpnjigoipgeaaDoorHot
import Derived.Test.YtkbpnjigoipgeaaDoorVox
set_option linter.unusedVariables false
namespace Go.Proofs.YtkbpnjigoipgeaaDoor
open Go.ChangeShapes Go.WideShapes Go.ChangeAt Go.RowKit
open Cu (Cw Code1 CurS CodeAt)
theorem big_no (a : Option Addr) (len cap : Nat) (w : World) (h : len ≤ 1048576) :
    Calls Tryd.prog 4 #[.slice a len cap] w fun e w' => e = .returned (.bool false) ∧ w' = w := by
  have hd : decide ((1048576 : Int) < (len : Int)) = false := by simp; omega
  go_enter Tryd.func4, Tryd.ntmps4
  go_wp2
  go_ret
  exact ⟨rfl, rfl⟩
theorem big_yes (a : Option Addr) (len cap : Nat) (w : World) (h : 1048576 < len) :
    Calls Tryd.prog 4 #[.slice a len cap] w fun e w' => e = .returned (.bool true) ∧ w' = w := by
  have hd : decide ((1048576 : Int) < (len : Int)) = true := by simp; omega
  go_enter Tryd.func4, Tryd.ntmps4
  go_wp2
  go_ret
  exact ⟨rfl, rfl⟩
theorem lst_ok {h : List Cel} (hH : HeapP h) {v : Val} {L : List Val} {z : Val} (hl : Lst h v L z) : v.ok h = true → ∀ x ∈ L, x.ok h = true := by
  induction hl with
  | last => intro _ x hx; cases hx
  | @pair m s c x y l e hc hvs _ ih =>
    intro hv q hq
    obtain ⟨m', c', x', y', e1, e2, e3, e4, e5, _⟩ := lst_pair hH hv rfl
    injection e1 with _ e1
    have e1 : m = m' := by omega
    subst e1
    obtain rfl := Option.some.inj (hc.symm.trans e2)
    rw [hvs] at e3
    injection e3 with e6 e7
    injection e7 with e7
    subst e6 e7
    rcases List.mem_cons.1 hq with rfl | hq
    · exact e4
    · exact ih e5 q hq
theorem tab_below {w w' : World} (h : Tab w) (h0 : 0 < w.heap.size) (hb : Below w.heap.size w w') : Tab w' := (decC w.heap.size h0).1 w w' h hb
/-- The text that is told, by name. -/
def TxA (s : List UInt8) (w : World) (e : Ending) (w' : World) : Prop := e = .returned (.string ⟨s.toArray⟩) ∧ Below w.heap.size w w'
theorem TxPost.a {h : List Cel} {v : Val} {s : List UInt8} {w w' : World} {e : Ending} (hs : TextIs h v s) (hp : TxPost h v w e w') : TxA s w e w' := by
  obtain ⟨t, rfl, h1, h2⟩ := hp
  rw [h1.unique hs]
  exact ⟨rfl, h2⟩
theorem textIs_any (h : List Cel) (v : Val) : ∃ s, TextIs h v s := by
  by_cases hg : HeapP h ∧ v.ok h = true
  · obtain ⟨t, ht⟩ := Tel.exists hg.1 (h.length + 1) false v hg.2 fun hk => by
      obtain ⟨m, c, _, _, hm, hc, _⟩ := pair_parts hg.1 hg.2 hk
      have := (List.getElem?_eq_some_iff.1 hc).1
      omega
    exact ⟨_, fun _ => ⟨t, ht, rfl⟩, fun hn => absurd hg hn⟩
  · exact ⟨[], fun hq => absurd hq hg, fun _ => rfl⟩
theorem ba_app (a b : List UInt8) : (⟨a.toArray⟩ : ByteArray) ++ ⟨b.toArray⟩ = ⟨(a ++ b).toArray⟩ := ByteArray.ext (by simp)
theorem ba_list (a : List UInt8) : (⟨a.toArray⟩ : ByteArray).toList = a := by simp
set_option maxRecDepth 1000000 in
theorem bodyT_len {l : List (List UInt8)} (h : ∀ s ∈ l, s.length ≤ 100000) : (bodyT l).length ≤ l.length * 100001 := by
  have : (tailT l).length ≤ l.length * 100001 := by
    induction l with
    | nil => simp [tailT]
    | cons x r ih =>
      have h1 := h x (by simp)
      have h2 := ih fun s hs => h s (by simp [hs])
      simp [tailT]
      omega
  simp [bodyT]
  omega
theorem body_next {cs : List (List UInt8)} {i : Nat} (hi : i < cs.length) : (i = 0 → 40 :: bodyT (cs.take (i + 1)) = (40 :: bodyT (cs.take i)) ++ cs.getD i []) ∧ (0 < i → 40 :: bodyT (cs.take (i + 1)) = (40 :: bodyT (cs.take i)) ++ [32] ++ cs.getD i []) := by
  have e : cs.take (i + 1) = cs.take i ++ [cs.getD i []] := by
    rw [List.take_add_one, List.getElem?_eq_getElem hi, List.getD_eq_getElem?_getD, List.getElem?_eq_getElem hi]
    rfl
  constructor
  · rintro rfl
    rw [e, List.take_zero, bodyT_one]
    rfl
  · intro h0
    rw [e, bodyT_snoc (by rw [List.length_take]; omega)]
    simp
set_option maxRecDepth 100000 in
set_option maxHeartbeats 8000000 in
theorem lawT (d : Code1) (w : World) (hc : CodeAt w w.heap.size d) (h0 : 0 < w.heap.size) (htab : Tab w) : Calls Tryd.prog 3 #[.slice d.a d.len d.cap] w fun e w' => Ans w (.bool true) e w' := by
  have HBG : Hid (Calls Tryd.prog 4 #[.slice d.a d.len d.cap] w fun e w' => e = .returned (.bool false) ∧ w' = w) := big_no _ _ _ w hc.1
  have HDR : Hid (Calls Tryd.prog 5 #[.slice d.a d.len d.cap] w fun e w' => DtPost w e w') := drawText_any d w hc
  have HDL : Hid (∀ w1, Below w.heap.size w w1 → Calls Tryd.prog 10 #[.slice d.a d.len d.cap] w1 fun e w' => DtPost w1 e w') := fun w1 hb => drawList_any d w1 (code_up hc hb)
  have HTB : Hid (∀ w1, Below w.heap.size w w1 → Tab w1) := fun w1 hb => tab_below htab h0 hb
  clear hc htab
  go_enter Tryd.func3, Tryd.ntmps3
  go_wp2_with fail
  refine HBG.out.mono ?_
  rintro e w0 ⟨rfl, rfl⟩
  go_wp2_with fail
  refine HDR.out.mono ?_
  rintro e w1 ⟨h, ah, ch, v, rfl, hl, hch, ht, hv, hrow, hb1⟩
  obtain ⟨s, hs⟩ := textIs_any h v
  have hsm : ∀ x ∈ h, x.small := fun x hx => (ht x hx).small
  have hs01 : w0.heap.size ≤ w1.heap.size := hb1.size
  have hbA : Below w1.heap.size w1 (w1.alloc (Obj.cells #[.int .i64 v.k, .int .i64 v.n, .string v.s] 26)) := (Below.refl _ _).alloc (Nat.le_refl _) _
  have hsA : (w1.alloc (Obj.cells #[.int .i64 v.k, .int .i64 v.n, .string v.s] 26)).heap.size = w1.heap.size + 1 := by simp
  have kA : (w1.alloc (Obj.cells #[.int .i64 v.k, .int .i64 v.n, .string v.s] 26)).heap[w1.heap.size]? = some (Obj.cells #[.int .i64 v.k, .int .i64 v.n, .string v.s] 26) := blk_at _ _ _ rfl
  have HB1 : Hid (Below w0.heap.size w0 w1) := hb1
  have HIM : Hid (Calls Tryd.prog 6 #[.slice ah h.length ch, .agg #[.int .i64 v.k, .int .i64 v.n, .string v.s]] (w1.alloc (Obj.cells #[.int .i64 v.k, .int .i64 v.n, .string v.s] 26)) fun e w' => TxA s (w1.alloc (Obj.cells #[.int .i64 v.k, .int .i64 v.n, .string v.s] 26)) e w') := (implText_any ah h ch v _ (by omega) hch hsm hv.small ((hrow.below hbA).mono hbA.size) (by omega) (HTB.out _ (hb1.trans (hbA.mono hs01)))).mono fun e w' q => q.a hs
  have HSP : Hid (∀ w2, Below w1.heap.size w1 w2 → Calls Tryd.prog 7 #[.slice ah h.length ch, .agg #[.int .i64 v.k, .int .i64 v.n, .string v.s]] w2 fun e w' => TxA s w2 e w') := fun w2 hb => (specText_any ah h ch v w2 (by omega) hsm hv.small ((hrow.below hb).mono hb.size)).mono fun e w' q => q.a hs
  have HHP : Hid (∀ w2, Below w1.heap.size w1 w2 → Calls Tryd.prog 8 #[.slice ah h.length ch] w2 fun e w' => HpPost h w2 e w') := fun w2 hb => specHeap_any ah h ch w2 (by omega) hsm ((hrow.below hb).mono hb.size)
  have HVO : Hid (∀ w2, Below w1.heap.size w1 w2 → Calls Tryd.prog 9 #[.slice ah h.length ch, .agg #[.int .i64 v.k, .int .i64 v.n, .string v.s]] w2 fun e w' => Ans w2 (.bool (v.ok h)) e w') := fun w2 hb => specVal_any v ah h ch w2 (by omega) hv.small.2.2 ((hrow.below hb).mono hb.size)
  have HEM : Hid (s = [] ↔ ¬ (HeapP h ∧ v.ok h = true)) := hs.empty
  have HBA : Hid (Below w1.heap.size w1 (w1.alloc (Obj.cells #[.int .i64 v.k, .int .i64 v.n, .string v.s] 26))) := hbA
  have HKA : Hid ((w1.alloc (Obj.cells #[.int .i64 v.k, .int .i64 v.n, .string v.s] 26)).heap[w1.heap.size]? = some (Obj.cells #[.int .i64 v.k, .int .i64 v.n, .string v.s] 26)) := kA
  clear hs ht hv hrow hb1 hsm hbA HBG HDR kA
  go_wp2_with fail
  refine HIM.out.mono ?_
  rintro e w2 ⟨rfl, hb2⟩
  have hs2 : w1.heap.size + 1 ≤ w2.heap.size := by have := hb2.size; omega
  have k2 : w2.heap[w1.heap.size]? = some (Obj.cells #[.int .i64 v.k, .int .i64 v.n, .string v.s] 26) := (hb2.block _ (by omega)).trans HKA.out
  have HK2 : Hid (w2.heap[w1.heap.size]? = some (Obj.cells #[.int .i64 v.k, .int .i64 v.n, .string v.s] 26)) := k2
  have HB2 : Hid (Below w1.heap.size w1 w2) := HBA.out.trans (hb2.mono (by omega))
  have a0 := cell_blk (j := 0) k2 rfl
  have a1 := cell_blk (j := 1) k2 rfl
  have a2 := cell_blk (j := 2) k2 rfl
  clear hb2 k2 HIM HBA HKA hsA
  go_wp2_with fail
  refine (HSP.out _ HB2.out).mono ?_
  rintro e w3 ⟨rfl, hb3⟩
  have hs3 : w2.heap.size ≤ w3.heap.size := hb3.size
  have k3 : w3.heap[w1.heap.size]? = some (Obj.cells #[.int .i64 v.k, .int .i64 v.n, .string v.s] 26) := (hb3.block _ (by omega)).trans HK2.out
  have HK3 : Hid (w3.heap[w1.heap.size]? = some (Obj.cells #[.int .i64 v.k, .int .i64 v.n, .string v.s] 26)) := k3
  have HB3 : Hid (Below w1.heap.size w1 w3) := HB2.out.trans (hb3.mono (by omega))
  clear a0 a1 a2 hb3 k3 HB2 HSP HK2
  go_wp2_with fail
  refine (HHP.out _ HB3.out).mono ?_
  rintro e w4 ⟨bh, rfl, hbh, hb4⟩
  have hs4 : w3.heap.size ≤ w4.heap.size := hb4.size
  have HB4 : Hid (Below w1.heap.size w1 w4) := HB3.out.trans (hb4.mono (by omega))
  have HBH : Hid (bh = true ↔ HeapP h) := hbh
  have k4 : w4.heap[w1.heap.size]? = some (Obj.cells #[.int .i64 v.k, .int .i64 v.n, .string v.s] 26) := (hb4.block _ (by omega)).trans HK3.out
  have a0 := cell_blk (j := 0) k4 rfl
  have a1 := cell_blk (j := 1) k4 rfl
  have a2 := cell_blk (j := 2) k4 rfl
  clear hbh hb4 HB3 HHP HK3 k4
  cases bh with
  | false =>
    have hem : s.isEmpty = true := by rw [List.isEmpty_iff]; exact HEM.out.2 fun q => by have := HBH.out.2 q.1; cases this
    obtain ⟨w5, rfl⟩ : ∃ w5, w5 = w4 := ⟨_, rfl⟩
    have HB5 : Hid (Below w1.heap.size w1 w5) := HB4.out
    clear a0 a1 a2 HEM HBH
    have HF5 : Hid (Below w0.heap.size w0 w5) := HB1.out.trans (HB5.out.mono hs01)
    have hs05 : w0.heap.size ≤ w5.heap.size := HF5.out.size
    go_wp2_with fail
    refine (HDL.out _ HF5.out).mono ?_
    rintro e w6 ⟨g, ag, cg, u, rfl, gl, gcc, gt, gu, grow, hb6⟩
    have hgs : ∀ x ∈ g, x.small := fun x hx => (gt x hx).small
    obtain ⟨L, bz, hR, hLl, hLs⟩ := asR_any g u hgs
    have hs56 : w5.heap.size ≤ w6.heap.size := hb6.size
    have HF6 : Hid (Below w0.heap.size w0 w6) := HF5.out.trans (hb6.mono hs05)
    have hbB : Below w6.heap.size w6 (w6.alloc (Obj.cells #[.int .i64 u.k, .int .i64 u.n, .string u.s] 26)) := (Below.refl _ _).alloc (Nat.le_refl _) _
    have hsB : (w6.alloc (Obj.cells #[.int .i64 u.k, .int .i64 u.n, .string u.s] 26)).heap.size = w6.heap.size + 1 := by simp
    have HBB : Hid (Below w6.heap.size w6 (w6.alloc (Obj.cells #[.int .i64 u.k, .int .i64 u.n, .string u.s] 26))) := hbB
    have HKB : Hid ((w6.alloc (Obj.cells #[.int .i64 u.k, .int .i64 u.n, .string u.s] 26)).heap[w6.heap.size]? = some (Obj.cells #[.int .i64 u.k, .int .i64 u.n, .string u.s] 26)) := blk_at _ _ _ rfl
    have HIT : Hid (∀ w2, Below w6.heap.size w6 w2 → Calls Tryd.prog 6 #[.slice ag g.length cg, .agg #[.int .i64 u.k, .int .i64 u.n, .string u.s]] w2 fun e w' => TxPost g u w2 e w') := fun w2 hb => implText_any ag g cg u w2 (by omega) gcc hgs gu.small ((grow.below hb).mono hb.size) (by have := hb.size; omega) (HTB.out _ (HF6.out.trans (hb.mono (by omega))))
    have HST : Hid (∀ (x : Val) w2, x ∈ L → Below w6.heap.size w6 w2 → Calls Tryd.prog 7 #[.slice ag g.length cg, .agg #[.int .i64 x.k, .int .i64 x.n, .string x.s]] w2 fun e w' => TxPost g x w2 e w') := fun x w2 hx hb => specText_any ag g cg x w2 (by omega) hgs (hLs x hx) ((grow.below hb).mono hb.size)
    cases bz with
    | false =>
      have HIL : Hid (Calls Tryd.prog 11 #[.slice ag g.length cg, .agg #[.int .i64 u.k, .int .i64 u.n, .string u.s]] (w6.alloc (Obj.cells #[.int .i64 u.k, .int .i64 u.n, .string u.s] 26)) fun e w' => AsP [] false (w6.alloc (Obj.cells #[.int .i64 u.k, .int .i64 u.n, .string u.s] 26)) e w') := implList_any u ag g cg L false _ (by omega) gcc hgs gu.small.2.2 hR hLl hLs ((grow.below hbB).mono hbB.size)
      have HSL : Hid (∀ w2, Below w6.heap.size w6 w2 → Calls Tryd.prog 12 #[.slice ag g.length cg, .agg #[.int .i64 u.k, .int .i64 u.n, .string u.s]] w2 fun e w' => AsP [] false w2 e w') := fun w2 hb => specList_any u ag g cg L false w2 (by omega) hgs gu.small.2.2 hR hLl ((grow.below hb).mono hb.size)
      clear hbB hR hLs hgs gt gu grow hb6
      go_wp2_with fail
      refine HIL.out.mono ?_
      rintro e w7 ⟨lv, rfl, ho7, hb7⟩
      obtain ⟨la, lc, rfl, hlc⟩ := ho7.slice
      have k7 : w7.heap[w6.heap.size]? = some (Obj.cells #[.int .i64 u.k, .int .i64 u.n, .string u.s] 26) := (hb7.block _ (by omega)).trans HKB.out
      have HB7 : Hid (Below w6.heap.size w6 w7) := HBB.out.trans (hb7.mono (by omega))
      have hs67 : w6.heap.size + 1 ≤ w7.heap.size := by have := hb7.size; omega
      have c0 := cell_blk (j := 0) k7 rfl
      have c1 := cell_blk (j := 1) k7 rfl
      have c2 := cell_blk (j := 2) k7 rfl
      clear hb7 ho7 k7 HIL
      go_wp2_with fail
      refine (HSL.out _ HB7.out).mono ?_
      rintro e w8 ⟨lv8, rfl, -, hb8⟩
      have HF8 : Hid (Below w0.heap.size w0 w8) := HF6.out.trans ((HB7.out.trans (hb8.mono (by omega))).mono (by omega))
      go_wp2
      go_ret
      exact ⟨rfl, HF8.out⟩
    | true =>
      have HIL : Hid (Calls Tryd.prog 11 #[.slice ag g.length cg, .agg #[.int .i64 u.k, .int .i64 u.n, .string u.s]] (w6.alloc (Obj.cells #[.int .i64 u.k, .int .i64 u.n, .string u.s] 26)) fun e w' => AsP L true (w6.alloc (Obj.cells #[.int .i64 u.k, .int .i64 u.n, .string u.s] 26)) e w') := implList_any u ag g cg L true _ (by omega) gcc hgs gu.small.2.2 hR hLl hLs ((grow.below hbB).mono hbB.size)
      have HSL : Hid (∀ w2, Below w6.heap.size w6 w2 → Calls Tryd.prog 12 #[.slice ag g.length cg, .agg #[.int .i64 u.k, .int .i64 u.n, .string u.s]] w2 fun e w' => AsP L true w2 e w') := fun w2 hb => specList_any u ag g cg L true w2 (by omega) hgs gu.small.2.2 hR hLl ((grow.below hb).mono hb.size)
      obtain ⟨hH, hok, z, hlst, hbz⟩ | ⟨_, _, hbz⟩ := hR
      case inr => cases hbz
      obtain ⟨ts, hts, hend⟩ := text_list hH hok hlst (of_decide_eq_true hbz.symm)
      obtain ⟨cs, hcs⟩ : ∃ cs, cs = ts.map (List.take 100000) := ⟨_, rfl⟩
      rw [← hcs] at hend
      have hcl : cs.length = L.length := by rw [hcs, List.length_map, hts.1]
      have HCB : Hid (∀ s ∈ cs, s.length ≤ 100000) := fun s hs => by
        rw [hcs] at hs
        obtain ⟨t, _, rfl⟩ := List.mem_map.1 hs
        rw [List.length_take]
        omega
      have HTX : Hid (∀ (i : Nat) (x : Val), L[i]? = some x → ∀ w2, Below w6.heap.size w6 w2 → Calls Tryd.prog 7 #[.slice ag g.length cg, .agg #[.int .i64 x.k, .int .i64 x.n, .string x.s]] w2 fun e w' => TxA (cs.getD i []) w2 e w') := fun i x hx w2 hb => by
        obtain ⟨t, h1, h2⟩ := hts.2 i x hx
        have hm : x ∈ L := List.mem_of_getElem? hx
        have e1 : cs.getD i [] = t.take 100000 := by rw [hcs, List.getD_eq_getElem?_getD, List.getElem?_map, h1]; rfl
        rw [e1]
        exact (HST.out x w2 hm hb).mono fun e w' q => q.a ⟨fun _ => ⟨t, h2, rfl⟩, fun hn => absurd ⟨hH, lst_ok hH hlst hok x hm⟩ hn⟩
      have HEN : Hid ((40 :: bodyT cs).length < 100000 → ∀ w2, Below w6.heap.size w6 w2 → Calls Tryd.prog 6 #[.slice ag g.length cg, .agg #[.int .i64 u.k, .int .i64 u.n, .string u.s]] w2 fun e w' => TxA (40 :: bodyT cs ++ [41]) w2 e w') := fun hq w2 hb => (HIT.out w2 hb).mono fun e w' q => q.a (hend hq)
      have HCL : Hid (cs.length = L.length) := hcl
      clear hbB hLs hgs gt gu grow hb6 hH hok hlst hbz hts hend hcs HST HIT hcl
      go_wp2_with fail
      refine HIL.out.mono ?_
      rintro e w7 ⟨lv, rfl, ho7, hb7⟩
      obtain ⟨la, lc, rfl, hlc⟩ := ho7.slice
      have k7 : w7.heap[w6.heap.size]? = some (Obj.cells #[.int .i64 u.k, .int .i64 u.n, .string u.s] 26) := (hb7.block _ (by omega)).trans HKB.out
      have HK7 : Hid (w7.heap[w6.heap.size]? = some (Obj.cells #[.int .i64 u.k, .int .i64 u.n, .string u.s] 26)) := k7
      have HB7 : Hid (Below w6.heap.size w6 w7) := HBB.out.trans (hb7.mono (by omega))
      have hs67 : w6.heap.size + 1 ≤ w7.heap.size := by have := hb7.size; omega
      have HLR : Hid (RowV w7 w7.heap.size la L) := ho7.row.keep fun b hb => ⟨(ho7.blk hb).2.1, rfl⟩
      have c0 := cell_blk (j := 0) k7 rfl
      have c1 := cell_blk (j := 1) k7 rfl
      have c2 := cell_blk (j := 2) k7 rfl
      clear hb7 ho7 k7 HIL
      go_wp2_with fail
      refine (HSL.out _ HB7.out).mono ?_
      rintro e w8 ⟨lv8, rfl, -, hb8⟩
      have HB8 : Hid (Below w7.heap.size w7 w8) := hb8
      clear hb8 c0 c1 c2 HSL
      go_wp2
      go_loopw [12, 13] (fun t iv wr => ∃ i : Nat, i ≤ L.length ∧ iv = .int .i64 (i : Nat) ∧ t = .string ⟨(40 :: bodyT (cs.take i)).toArray⟩ ∧ Below w7.heap.size w7 wr)
        (fun _ iv _ => L.length - (intOf iv).toNat)
      case atStart => exact ⟨0, Nat.zero_le _, rfl, rfl, HB8.out⟩
      case round =>
        obtain ⟨i, hi, rfl, rfl, hbr⟩ := hrel
        have hsr : w7.heap.size ≤ wr.heap.size := hbr.size
        have HBR : Hid (Below w7.heap.size w7 wr) := hbr
        have HB6 : Hid (Below w6.heap.size w6 wr) := HB7.out.trans (hbr.mono (by omega))
        have hbl : (40 :: bodyT (cs.take i)).length ≤ 1 + 300 * 100001 := by
          have h1 := bodyT_len (l := cs.take i) fun s hs => HCB.out s (List.mem_of_mem_take hs)
          have h2 : (cs.take i).length ≤ 300 := by rw [List.length_take, HCL.out]; omega
          have h3 : (cs.take i).length * 100001 ≤ 300 * 100001 := Nat.mul_le_mul_right _ h2
          rw [List.length_cons]
          omega
        by_cases hlt : i < L.length
        · obtain ⟨x, hx⟩ : ∃ x, L[i]? = some x := ⟨L[i], List.getElem?_eq_getElem hlt⟩
          obtain ⟨lb, lo, rfl, hlb, x0, x1, x2⟩ := (HLR.out.below hbr) i x hx
          have HN : Hid ((i = 0 → 40 :: bodyT (cs.take (i + 1)) = (40 :: bodyT (cs.take i)) ++ cs.getD i []) ∧ (0 < i → 40 :: bodyT (cs.take (i + 1)) = (40 :: bodyT (cs.take i)) ++ [32] ++ cs.getD i [])) := body_next (by rw [HCL.out]; exact hlt)
          have HTT : Hid (∀ w2, Below w6.heap.size w6 w2 → Calls Tryd.prog 7 #[.slice ag g.length cg, .agg #[.int .i64 x.k, .int .i64 x.n, .string x.s]] w2 fun e w' => TxA (cs.getD i []) w2 e w') := HTX.out i x hx
          have hsl : (cs.getD i []).length ≤ 100000 := by
            rw [List.getD_eq_getElem?_getD]
            cases hq : cs[i]? with
            | none => simp
            | some q => exact HCB.out q (List.mem_of_getElem? hq)
          obtain ⟨T0, hT0⟩ : ∃ T0, T0 = 40 :: bodyT (cs.take i) := ⟨_, rfl⟩
          obtain ⟨S0, hS0⟩ : ∃ S0, S0 = cs.getD i [] := ⟨_, rfl⟩
          rw [← hT0, ← hS0] at HN
          rw [← hS0] at HTT hsl
          rw [← hT0] at hbl
          clear hx hbr
          rw [← hT0]
          clear hT0 hS0
          by_cases hi0 : i = 0
          · have HN0 := HN.out.1 hi0
            subst hi0
            rw [Nat.zero_mul, Nat.add_zero] at x0 x1 x2
            have HNH : Hid (40 :: bodyT (cs.take (0 + 1)) = T0 ++ S0) := HN0
            clear HN HN0
            go_wp2_with fail
            refine (HTT.out _ HB6.out).mono ?_
            rintro e w9 ⟨rfl, hb9⟩
            have HB9 : Hid (Below w7.heap.size w7 w9) := HBR.out.trans (hb9.mono hsr)
            clear hb9
            go_wp2
            refine ⟨⟨0 + 1, by omega, rfl, ?_, HB9.out⟩, by simp [intOf]; omega⟩
            rw [ba_app, HNH.out]
          · have HNH : Hid (40 :: bodyT (cs.take (i + 1)) = T0 ++ [32] ++ S0) := HN.out.2 (by omega)
            have hi1 : (0 : Int) < (i : Int) := by omega
            clear HN
            go_wp2_with fail
            refine (HTT.out _ HB6.out).mono ?_
            rintro e w9 ⟨rfl, hb9⟩
            have HB9 : Hid (Below w7.heap.size w7 w9) := HBR.out.trans (hb9.mono hsr)
            clear hb9
            go_wp2
            refine ⟨⟨i + 1, by omega, by simp, ?_, HB9.out⟩, by simp [intOf]; omega⟩
            rw [show (⟨#[32]⟩ : ByteArray) = ⟨[32].toArray⟩ from rfl, ba_app, ba_app, HNH.out]
        · obtain rfl : i = L.length := by omega
          have et : cs.take L.length = cs := by rw [← HCL.out]; exact List.take_length
          rw [et] at hbl ⊢
          have k9 : wr.heap[w6.heap.size]? = some (Obj.cells #[.int .i64 u.k, .int .i64 u.n, .string u.s] 26) := (hbr.block _ (by omega)).trans HK7.out
          have c0 := cell_blk (j := 0) k9 rfl
          have c1 := cell_blk (j := 1) k9 rfl
          have c2 := cell_blk (j := 2) k9 rfl
          clear k9 et
          obtain ⟨T0, hT0⟩ : ∃ T0, T0 = 40 :: bodyT cs := ⟨_, rfl⟩
          rw [← hT0] at HEN hbl ⊢
          clear hT0 hbr
          by_cases hsh : T0.length < 100000
          · have HEE : Hid (∀ w2, Below w6.heap.size w6 w2 → Calls Tryd.prog 6 #[.slice ag g.length cg, .agg #[.int .i64 u.k, .int .i64 u.n, .string u.s]] w2 fun e w' => TxA (T0 ++ [41]) w2 e w') := HEN.out hsh
            have hge : ¬ (100000 : Int) ≤ (T0.length : Int) := by omega
            have hged : decide ((100000 : Int) ≤ (T0.length : Int)) = false := by simp; omega
            go_wp2_with fail
            refine (HEE.out _ HB6.out).mono ?_
            rintro e w9 ⟨rfl, hb9⟩
            have HF9 : Hid (Below w0.heap.size w0 w9) := HF6.out.trans ((HB6.out.trans (hb9.mono (by omega))).mono (by omega))
            clear hb9
            have heq : (T0 ++ [41] == ((⟨T0.toArray⟩ : ByteArray) ++ ⟨#[41]⟩).toList) = true := by
              rw [show (⟨#[41]⟩ : ByteArray) = ⟨[41].toArray⟩ from rfl, ba_app, ba_list]
              simp
            go_wp2
            go_ret
            exact ⟨rfl, HF9.out⟩
          · have hge : (100000 : Int) ≤ (T0.length : Int) := by omega
            have hged : decide ((100000 : Int) ≤ (T0.length : Int)) = true := by simp; omega
            have HF9 : Hid (Below w0.heap.size w0 wr) := HF6.out.trans (HB6.out.mono (by omega))
            go_wp2
            go_ret
            exact ⟨rfl, HF9.out⟩
  | true =>
    have hH : HeapP h := HBH.out.1 rfl
    cases hok : v.ok h
    · rw [hok] at HVO
      have hem : s.isEmpty = true := by rw [List.isEmpty_iff]; exact HEM.out.2 fun q => by rw [hok] at q; cases q.2
      clear HEM HBH hok hH
      go_wp2_with fail
      refine (HVO.out _ HB4.out).mono ?_
      rintro e w5 ⟨rfl, hb5⟩
      have HB5 : Hid (Below w1.heap.size w1 w5) := HB4.out.trans (hb5.mono (by omega))
      clear hb5 a0 a1 a2
      have HF5 : Hid (Below w0.heap.size w0 w5) := HB1.out.trans (HB5.out.mono hs01)
      have hs05 : w0.heap.size ≤ w5.heap.size := HF5.out.size
      go_wp2_with fail
      refine (HDL.out _ HF5.out).mono ?_
      rintro e w6 ⟨g, ag, cg, u, rfl, gl, gcc, gt, gu, grow, hb6⟩
      have hgs : ∀ x ∈ g, x.small := fun x hx => (gt x hx).small
      obtain ⟨L, bz, hR, hLl, hLs⟩ := asR_any g u hgs
      have hs56 : w5.heap.size ≤ w6.heap.size := hb6.size
      have HF6 : Hid (Below w0.heap.size w0 w6) := HF5.out.trans (hb6.mono hs05)
      have hbB : Below w6.heap.size w6 (w6.alloc (Obj.cells #[.int .i64 u.k, .int .i64 u.n, .string u.s] 26)) := (Below.refl _ _).alloc (Nat.le_refl _) _
      have hsB : (w6.alloc (Obj.cells #[.int .i64 u.k, .int .i64 u.n, .string u.s] 26)).heap.size = w6.heap.size + 1 := by simp
      have HBB : Hid (Below w6.heap.size w6 (w6.alloc (Obj.cells #[.int .i64 u.k, .int .i64 u.n, .string u.s] 26))) := hbB
      have HKB : Hid ((w6.alloc (Obj.cells #[.int .i64 u.k, .int .i64 u.n, .string u.s] 26)).heap[w6.heap.size]? = some (Obj.cells #[.int .i64 u.k, .int .i64 u.n, .string u.s] 26)) := blk_at _ _ _ rfl
      have HIT : Hid (∀ w2, Below w6.heap.size w6 w2 → Calls Tryd.prog 6 #[.slice ag g.length cg, .agg #[.int .i64 u.k, .int .i64 u.n, .string u.s]] w2 fun e w' => TxPost g u w2 e w') := fun w2 hb => implText_any ag g cg u w2 (by omega) gcc hgs gu.small ((grow.below hb).mono hb.size) (by have := hb.size; omega) (HTB.out _ (HF6.out.trans (hb.mono (by omega))))
      have HST : Hid (∀ (x : Val) w2, x ∈ L → Below w6.heap.size w6 w2 → Calls Tryd.prog 7 #[.slice ag g.length cg, .agg #[.int .i64 x.k, .int .i64 x.n, .string x.s]] w2 fun e w' => TxPost g x w2 e w') := fun x w2 hx hb => specText_any ag g cg x w2 (by omega) hgs (hLs x hx) ((grow.below hb).mono hb.size)
      cases bz with
      | false =>
        have HIL : Hid (Calls Tryd.prog 11 #[.slice ag g.length cg, .agg #[.int .i64 u.k, .int .i64 u.n, .string u.s]] (w6.alloc (Obj.cells #[.int .i64 u.k, .int .i64 u.n, .string u.s] 26)) fun e w' => AsP [] false (w6.alloc (Obj.cells #[.int .i64 u.k, .int .i64 u.n, .string u.s] 26)) e w') := implList_any u ag g cg L false _ (by omega) gcc hgs gu.small.2.2 hR hLl hLs ((grow.below hbB).mono hbB.size)
        have HSL : Hid (∀ w2, Below w6.heap.size w6 w2 → Calls Tryd.prog 12 #[.slice ag g.length cg, .agg #[.int .i64 u.k, .int .i64 u.n, .string u.s]] w2 fun e w' => AsP [] false w2 e w') := fun w2 hb => specList_any u ag g cg L false w2 (by omega) hgs gu.small.2.2 hR hLl ((grow.below hb).mono hb.size)
        clear hbB hR hLs hgs gt gu grow hb6
        go_wp2_with fail
        refine HIL.out.mono ?_
        rintro e w7 ⟨lv, rfl, ho7, hb7⟩
        obtain ⟨la, lc, rfl, hlc⟩ := ho7.slice
        have k7 : w7.heap[w6.heap.size]? = some (Obj.cells #[.int .i64 u.k, .int .i64 u.n, .string u.s] 26) := (hb7.block _ (by omega)).trans HKB.out
        have HB7 : Hid (Below w6.heap.size w6 w7) := HBB.out.trans (hb7.mono (by omega))
        have hs67 : w6.heap.size + 1 ≤ w7.heap.size := by have := hb7.size; omega
        have c0 := cell_blk (j := 0) k7 rfl
        have c1 := cell_blk (j := 1) k7 rfl
        have c2 := cell_blk (j := 2) k7 rfl
        clear hb7 ho7 k7 HIL
        go_wp2_with fail
        refine (HSL.out _ HB7.out).mono ?_
        rintro e w8 ⟨lv8, rfl, -, hb8⟩
        have HF8 : Hid (Below w0.heap.size w0 w8) := HF6.out.trans ((HB7.out.trans (hb8.mono (by omega))).mono (by omega))
        go_wp2
        go_ret
        exact ⟨rfl, HF8.out⟩
      | true =>
        have HIL : Hid (Calls Tryd.prog 11 #[.slice ag g.length cg, .agg #[.int .i64 u.k, .int .i64 u.n, .string u.s]] (w6.alloc (Obj.cells #[.int .i64 u.k, .int .i64 u.n, .string u.s] 26)) fun e w' => AsP L true (w6.alloc (Obj.cells #[.int .i64 u.k, .int .i64 u.n, .string u.s] 26)) e w') := implList_any u ag g cg L true _ (by omega) gcc hgs gu.small.2.2 hR hLl hLs ((grow.below hbB).mono hbB.size)
        have HSL : Hid (∀ w2, Below w6.heap.size w6 w2 → Calls Tryd.prog 12 #[.slice ag g.length cg, .agg #[.int .i64 u.k, .int .i64 u.n, .string u.s]] w2 fun e w' => AsP L true w2 e w') := fun w2 hb => specList_any u ag g cg L true w2 (by omega) hgs gu.small.2.2 hR hLl ((grow.below hb).mono hb.size)
        obtain ⟨hH, hok, z, hlst, hbz⟩ | ⟨_, _, hbz⟩ := hR
        case inr => cases hbz
        obtain ⟨ts, hts, hend⟩ := text_list hH hok hlst (of_decide_eq_true hbz.symm)
        obtain ⟨cs, hcs⟩ : ∃ cs, cs = ts.map (List.take 100000) := ⟨_, rfl⟩
        rw [← hcs] at hend
        have hcl : cs.length = L.length := by rw [hcs, List.length_map, hts.1]
        have HCB : Hid (∀ s ∈ cs, s.length ≤ 100000) := fun s hs => by
          rw [hcs] at hs
          obtain ⟨t, _, rfl⟩ := List.mem_map.1 hs
          rw [List.length_take]
          omega
        have HTX : Hid (∀ (i : Nat) (x : Val), L[i]? = some x → ∀ w2, Below w6.heap.size w6 w2 → Calls Tryd.prog 7 #[.slice ag g.length cg, .agg #[.int .i64 x.k, .int .i64 x.n, .string x.s]] w2 fun e w' => TxA (cs.getD i []) w2 e w') := fun i x hx w2 hb => by
          obtain ⟨t, h1, h2⟩ := hts.2 i x hx
          have hm : x ∈ L := List.mem_of_getElem? hx
          have e1 : cs.getD i [] = t.take 100000 := by rw [hcs, List.getD_eq_getElem?_getD, List.getElem?_map, h1]; rfl
          rw [e1]
          exact (HST.out x w2 hm hb).mono fun e w' q => q.a ⟨fun _ => ⟨t, h2, rfl⟩, fun hn => absurd ⟨hH, lst_ok hH hlst hok x hm⟩ hn⟩
        have HEN : Hid ((40 :: bodyT cs).length < 100000 → ∀ w2, Below w6.heap.size w6 w2 → Calls Tryd.prog 6 #[.slice ag g.length cg, .agg #[.int .i64 u.k, .int .i64 u.n, .string u.s]] w2 fun e w' => TxA (40 :: bodyT cs ++ [41]) w2 e w') := fun hq w2 hb => (HIT.out w2 hb).mono fun e w' q => q.a (hend hq)
        have HCL : Hid (cs.length = L.length) := hcl
        clear hbB hLs hgs gt gu grow hb6 hH hok hlst hbz hts hend hcs HST HIT hcl
        go_wp2_with fail
        refine HIL.out.mono ?_
        rintro e w7 ⟨lv, rfl, ho7, hb7⟩
        obtain ⟨la, lc, rfl, hlc⟩ := ho7.slice
        have k7 : w7.heap[w6.heap.size]? = some (Obj.cells #[.int .i64 u.k, .int .i64 u.n, .string u.s] 26) := (hb7.block _ (by omega)).trans HKB.out
        have HK7 : Hid (w7.heap[w6.heap.size]? = some (Obj.cells #[.int .i64 u.k, .int .i64 u.n, .string u.s] 26)) := k7
        have HB7 : Hid (Below w6.heap.size w6 w7) := HBB.out.trans (hb7.mono (by omega))
        have hs67 : w6.heap.size + 1 ≤ w7.heap.size := by have := hb7.size; omega
        have HLR : Hid (RowV w7 w7.heap.size la L) := ho7.row.keep fun b hb => ⟨(ho7.blk hb).2.1, rfl⟩
        have c0 := cell_blk (j := 0) k7 rfl
        have c1 := cell_blk (j := 1) k7 rfl
        have c2 := cell_blk (j := 2) k7 rfl
        clear hb7 ho7 k7 HIL
        go_wp2_with fail
        refine (HSL.out _ HB7.out).mono ?_
        rintro e w8 ⟨lv8, rfl, -, hb8⟩
        have HB8 : Hid (Below w7.heap.size w7 w8) := hb8
        clear hb8 c0 c1 c2 HSL
        go_wp2
        go_loopw [12, 13] (fun t iv wr => ∃ i : Nat, i ≤ L.length ∧ iv = .int .i64 (i : Nat) ∧ t = .string ⟨(40 :: bodyT (cs.take i)).toArray⟩ ∧ Below w7.heap.size w7 wr)
          (fun _ iv _ => L.length - (intOf iv).toNat)
        case atStart => exact ⟨0, Nat.zero_le _, rfl, rfl, HB8.out⟩
        case round =>
          obtain ⟨i, hi, rfl, rfl, hbr⟩ := hrel
          have hsr : w7.heap.size ≤ wr.heap.size := hbr.size
          have HBR : Hid (Below w7.heap.size w7 wr) := hbr
          have HB6 : Hid (Below w6.heap.size w6 wr) := HB7.out.trans (hbr.mono (by omega))
          have hbl : (40 :: bodyT (cs.take i)).length ≤ 1 + 300 * 100001 := by
            have h1 := bodyT_len (l := cs.take i) fun s hs => HCB.out s (List.mem_of_mem_take hs)
            have h2 : (cs.take i).length ≤ 300 := by rw [List.length_take, HCL.out]; omega
            have h3 : (cs.take i).length * 100001 ≤ 300 * 100001 := Nat.mul_le_mul_right _ h2
            rw [List.length_cons]
            omega
          by_cases hlt : i < L.length
          · obtain ⟨x, hx⟩ : ∃ x, L[i]? = some x := ⟨L[i], List.getElem?_eq_getElem hlt⟩
            obtain ⟨lb, lo, rfl, hlb, x0, x1, x2⟩ := (HLR.out.below hbr) i x hx
            have HN : Hid ((i = 0 → 40 :: bodyT (cs.take (i + 1)) = (40 :: bodyT (cs.take i)) ++ cs.getD i []) ∧ (0 < i → 40 :: bodyT (cs.take (i + 1)) = (40 :: bodyT (cs.take i)) ++ [32] ++ cs.getD i [])) := body_next (by rw [HCL.out]; exact hlt)
            have HTT : Hid (∀ w2, Below w6.heap.size w6 w2 → Calls Tryd.prog 7 #[.slice ag g.length cg, .agg #[.int .i64 x.k, .int .i64 x.n, .string x.s]] w2 fun e w' => TxA (cs.getD i []) w2 e w') := HTX.out i x hx
            have hsl : (cs.getD i []).length ≤ 100000 := by
              rw [List.getD_eq_getElem?_getD]
              cases hq : cs[i]? with
              | none => simp
              | some q => exact HCB.out q (List.mem_of_getElem? hq)
            obtain ⟨T0, hT0⟩ : ∃ T0, T0 = 40 :: bodyT (cs.take i) := ⟨_, rfl⟩
            obtain ⟨S0, hS0⟩ : ∃ S0, S0 = cs.getD i [] := ⟨_, rfl⟩
            rw [← hT0, ← hS0] at HN
            rw [← hS0] at HTT hsl
            rw [← hT0] at hbl
            clear hx hbr
            rw [← hT0]
            clear hT0 hS0
            by_cases hi0 : i = 0
            · have HN0 := HN.out.1 hi0
              subst hi0
              rw [Nat.zero_mul, Nat.add_zero] at x0 x1 x2
              have HNH : Hid (40 :: bodyT (cs.take (0 + 1)) = T0 ++ S0) := HN0
              clear HN HN0
              go_wp2_with fail
              refine (HTT.out _ HB6.out).mono ?_
              rintro e w9 ⟨rfl, hb9⟩
              have HB9 : Hid (Below w7.heap.size w7 w9) := HBR.out.trans (hb9.mono hsr)
              clear hb9
              go_wp2
              refine ⟨⟨0 + 1, by omega, rfl, ?_, HB9.out⟩, by simp [intOf]; omega⟩
              rw [ba_app, HNH.out]
            · have HNH : Hid (40 :: bodyT (cs.take (i + 1)) = T0 ++ [32] ++ S0) := HN.out.2 (by omega)
              have hi1 : (0 : Int) < (i : Int) := by omega
              clear HN
              go_wp2_with fail
              refine (HTT.out _ HB6.out).mono ?_
              rintro e w9 ⟨rfl, hb9⟩
              have HB9 : Hid (Below w7.heap.size w7 w9) := HBR.out.trans (hb9.mono hsr)
              clear hb9
              go_wp2
              refine ⟨⟨i + 1, by omega, by simp, ?_, HB9.out⟩, by simp [intOf]; omega⟩
              rw [show (⟨#[32]⟩ : ByteArray) = ⟨[32].toArray⟩ from rfl, ba_app, ba_app, HNH.out]
          · obtain rfl : i = L.length := by omega
            have et : cs.take L.length = cs := by rw [← HCL.out]; exact List.take_length
            rw [et] at hbl ⊢
            have k9 : wr.heap[w6.heap.size]? = some (Obj.cells #[.int .i64 u.k, .int .i64 u.n, .string u.s] 26) := (hbr.block _ (by omega)).trans HK7.out
            have c0 := cell_blk (j := 0) k9 rfl
            have c1 := cell_blk (j := 1) k9 rfl
            have c2 := cell_blk (j := 2) k9 rfl
            clear k9 et
            obtain ⟨T0, hT0⟩ : ∃ T0, T0 = 40 :: bodyT cs := ⟨_, rfl⟩
            rw [← hT0] at HEN hbl ⊢
            clear hT0 hbr
            by_cases hsh : T0.length < 100000
            · have HEE : Hid (∀ w2, Below w6.heap.size w6 w2 → Calls Tryd.prog 6 #[.slice ag g.length cg, .agg #[.int .i64 u.k, .int .i64 u.n, .string u.s]] w2 fun e w' => TxA (T0 ++ [41]) w2 e w') := HEN.out hsh
              have hge : ¬ (100000 : Int) ≤ (T0.length : Int) := by omega
              have hged : decide ((100000 : Int) ≤ (T0.length : Int)) = false := by simp; omega
              go_wp2_with fail
              refine (HEE.out _ HB6.out).mono ?_
              rintro e w9 ⟨rfl, hb9⟩
              have HF9 : Hid (Below w0.heap.size w0 w9) := HF6.out.trans ((HB6.out.trans (hb9.mono (by omega))).mono (by omega))
              clear hb9
              have heq : (T0 ++ [41] == ((⟨T0.toArray⟩ : ByteArray) ++ ⟨#[41]⟩).toList) = true := by
                rw [show (⟨#[41]⟩ : ByteArray) = ⟨[41].toArray⟩ from rfl, ba_app, ba_list]
                simp
              go_wp2
              go_ret
              exact ⟨rfl, HF9.out⟩
            · have hge : (100000 : Int) ≤ (T0.length : Int) := by omega
              have hged : decide ((100000 : Int) ≤ (T0.length : Int)) = true := by simp; omega
              have HF9 : Hid (Below w0.heap.size w0 wr) := HF6.out.trans (HB6.out.mono (by omega))
              go_wp2
              go_ret
              exact ⟨rfl, HF9.out⟩
    · rw [hok] at HVO
      have hem : s.isEmpty = false := by
        cases hq : s.isEmpty
        · rfl
        · exact absurd ⟨hH, hok⟩ (HEM.out.1 (List.isEmpty_iff.1 hq))
      clear HEM HBH hok hH
      go_wp2_with fail
      refine (HVO.out _ HB4.out).mono ?_
      rintro e w5 ⟨rfl, hb5⟩
      have HB5 : Hid (Below w1.heap.size w1 w5) := HB4.out.trans (hb5.mono (by omega))
      clear hb5 a0 a1 a2
      have HF5 : Hid (Below w0.heap.size w0 w5) := HB1.out.trans (HB5.out.mono hs01)
      have hs05 : w0.heap.size ≤ w5.heap.size := HF5.out.size
      go_wp2_with fail
      refine (HDL.out _ HF5.out).mono ?_
      rintro e w6 ⟨g, ag, cg, u, rfl, gl, gcc, gt, gu, grow, hb6⟩
      have hgs : ∀ x ∈ g, x.small := fun x hx => (gt x hx).small
      obtain ⟨L, bz, hR, hLl, hLs⟩ := asR_any g u hgs
      have hs56 : w5.heap.size ≤ w6.heap.size := hb6.size
      have HF6 : Hid (Below w0.heap.size w0 w6) := HF5.out.trans (hb6.mono hs05)
      have hbB : Below w6.heap.size w6 (w6.alloc (Obj.cells #[.int .i64 u.k, .int .i64 u.n, .string u.s] 26)) := (Below.refl _ _).alloc (Nat.le_refl _) _
      have hsB : (w6.alloc (Obj.cells #[.int .i64 u.k, .int .i64 u.n, .string u.s] 26)).heap.size = w6.heap.size + 1 := by simp
      have HBB : Hid (Below w6.heap.size w6 (w6.alloc (Obj.cells #[.int .i64 u.k, .int .i64 u.n, .string u.s] 26))) := hbB
      have HKB : Hid ((w6.alloc (Obj.cells #[.int .i64 u.k, .int .i64 u.n, .string u.s] 26)).heap[w6.heap.size]? = some (Obj.cells #[.int .i64 u.k, .int .i64 u.n, .string u.s] 26)) := blk_at _ _ _ rfl
      have HIT : Hid (∀ w2, Below w6.heap.size w6 w2 → Calls Tryd.prog 6 #[.slice ag g.length cg, .agg #[.int .i64 u.k, .int .i64 u.n, .string u.s]] w2 fun e w' => TxPost g u w2 e w') := fun w2 hb => implText_any ag g cg u w2 (by omega) gcc hgs gu.small ((grow.below hb).mono hb.size) (by have := hb.size; omega) (HTB.out _ (HF6.out.trans (hb.mono (by omega))))
      have HST : Hid (∀ (x : Val) w2, x ∈ L → Below w6.heap.size w6 w2 → Calls Tryd.prog 7 #[.slice ag g.length cg, .agg #[.int .i64 x.k, .int .i64 x.n, .string x.s]] w2 fun e w' => TxPost g x w2 e w') := fun x w2 hx hb => specText_any ag g cg x w2 (by omega) hgs (hLs x hx) ((grow.below hb).mono hb.size)
      cases bz with
      | false =>
        have HIL : Hid (Calls Tryd.prog 11 #[.slice ag g.length cg, .agg #[.int .i64 u.k, .int .i64 u.n, .string u.s]] (w6.alloc (Obj.cells #[.int .i64 u.k, .int .i64 u.n, .string u.s] 26)) fun e w' => AsP [] false (w6.alloc (Obj.cells #[.int .i64 u.k, .int .i64 u.n, .string u.s] 26)) e w') := implList_any u ag g cg L false _ (by omega) gcc hgs gu.small.2.2 hR hLl hLs ((grow.below hbB).mono hbB.size)
        have HSL : Hid (∀ w2, Below w6.heap.size w6 w2 → Calls Tryd.prog 12 #[.slice ag g.length cg, .agg #[.int .i64 u.k, .int .i64 u.n, .string u.s]] w2 fun e w' => AsP [] false w2 e w') := fun w2 hb => specList_any u ag g cg L false w2 (by omega) hgs gu.small.2.2 hR hLl ((grow.below hb).mono hb.size)
        clear hbB hR hLs hgs gt gu grow hb6
        go_wp2_with fail
        refine HIL.out.mono ?_
        rintro e w7 ⟨lv, rfl, ho7, hb7⟩
        obtain ⟨la, lc, rfl, hlc⟩ := ho7.slice
        have k7 : w7.heap[w6.heap.size]? = some (Obj.cells #[.int .i64 u.k, .int .i64 u.n, .string u.s] 26) := (hb7.block _ (by omega)).trans HKB.out
        have HB7 : Hid (Below w6.heap.size w6 w7) := HBB.out.trans (hb7.mono (by omega))
        have hs67 : w6.heap.size + 1 ≤ w7.heap.size := by have := hb7.size; omega
        have c0 := cell_blk (j := 0) k7 rfl
        have c1 := cell_blk (j := 1) k7 rfl
        have c2 := cell_blk (j := 2) k7 rfl
        clear hb7 ho7 k7 HIL
        go_wp2_with fail
        refine (HSL.out _ HB7.out).mono ?_
        rintro e w8 ⟨lv8, rfl, -, hb8⟩
        have HF8 : Hid (Below w0.heap.size w0 w8) := HF6.out.trans ((HB7.out.trans (hb8.mono (by omega))).mono (by omega))
        go_wp2
        go_ret
        exact ⟨rfl, HF8.out⟩
      | true =>
        have HIL : Hid (Calls Tryd.prog 11 #[.slice ag g.length cg, .agg #[.int .i64 u.k, .int .i64 u.n, .string u.s]] (w6.alloc (Obj.cells #[.int .i64 u.k, .int .i64 u.n, .string u.s] 26)) fun e w' => AsP L true (w6.alloc (Obj.cells #[.int .i64 u.k, .int .i64 u.n, .string u.s] 26)) e w') := implList_any u ag g cg L true _ (by omega) gcc hgs gu.small.2.2 hR hLl hLs ((grow.below hbB).mono hbB.size)
        have HSL : Hid (∀ w2, Below w6.heap.size w6 w2 → Calls Tryd.prog 12 #[.slice ag g.length cg, .agg #[.int .i64 u.k, .int .i64 u.n, .string u.s]] w2 fun e w' => AsP L true w2 e w') := fun w2 hb => specList_any u ag g cg L true w2 (by omega) hgs gu.small.2.2 hR hLl ((grow.below hb).mono hb.size)
        obtain ⟨hH, hok, z, hlst, hbz⟩ | ⟨_, _, hbz⟩ := hR
        case inr => cases hbz
        obtain ⟨ts, hts, hend⟩ := text_list hH hok hlst (of_decide_eq_true hbz.symm)
        obtain ⟨cs, hcs⟩ : ∃ cs, cs = ts.map (List.take 100000) := ⟨_, rfl⟩
        rw [← hcs] at hend
        have hcl : cs.length = L.length := by rw [hcs, List.length_map, hts.1]
        have HCB : Hid (∀ s ∈ cs, s.length ≤ 100000) := fun s hs => by
          rw [hcs] at hs
          obtain ⟨t, _, rfl⟩ := List.mem_map.1 hs
          rw [List.length_take]
          omega
        have HTX : Hid (∀ (i : Nat) (x : Val), L[i]? = some x → ∀ w2, Below w6.heap.size w6 w2 → Calls Tryd.prog 7 #[.slice ag g.length cg, .agg #[.int .i64 x.k, .int .i64 x.n, .string x.s]] w2 fun e w' => TxA (cs.getD i []) w2 e w') := fun i x hx w2 hb => by
          obtain ⟨t, h1, h2⟩ := hts.2 i x hx
          have hm : x ∈ L := List.mem_of_getElem? hx
          have e1 : cs.getD i [] = t.take 100000 := by rw [hcs, List.getD_eq_getElem?_getD, List.getElem?_map, h1]; rfl
          rw [e1]
          exact (HST.out x w2 hm hb).mono fun e w' q => q.a ⟨fun _ => ⟨t, h2, rfl⟩, fun hn => absurd ⟨hH, lst_ok hH hlst hok x hm⟩ hn⟩
        have HEN : Hid ((40 :: bodyT cs).length < 100000 → ∀ w2, Below w6.heap.size w6 w2 → Calls Tryd.prog 6 #[.slice ag g.length cg, .agg #[.int .i64 u.k, .int .i64 u.n, .string u.s]] w2 fun e w' => TxA (40 :: bodyT cs ++ [41]) w2 e w') := fun hq w2 hb => (HIT.out w2 hb).mono fun e w' q => q.a (hend hq)
        have HCL : Hid (cs.length = L.length) := hcl
        clear hbB hLs hgs gt gu grow hb6 hH hok hlst hbz hts hend hcs HST HIT hcl
        go_wp2_with fail
        refine HIL.out.mono ?_
        rintro e w7 ⟨lv, rfl, ho7, hb7⟩
        obtain ⟨la, lc, rfl, hlc⟩ := ho7.slice
        have k7 : w7.heap[w6.heap.size]? = some (Obj.cells #[.int .i64 u.k, .int .i64 u.n, .string u.s] 26) := (hb7.block _ (by omega)).trans HKB.out
        have HK7 : Hid (w7.heap[w6.heap.size]? = some (Obj.cells #[.int .i64 u.k, .int .i64 u.n, .string u.s] 26)) := k7
        have HB7 : Hid (Below w6.heap.size w6 w7) := HBB.out.trans (hb7.mono (by omega))
        have hs67 : w6.heap.size + 1 ≤ w7.heap.size := by have := hb7.size; omega
        have HLR : Hid (RowV w7 w7.heap.size la L) := ho7.row.keep fun b hb => ⟨(ho7.blk hb).2.1, rfl⟩
        have c0 := cell_blk (j := 0) k7 rfl
        have c1 := cell_blk (j := 1) k7 rfl
        have c2 := cell_blk (j := 2) k7 rfl
        clear hb7 ho7 k7 HIL
        go_wp2_with fail
        refine (HSL.out _ HB7.out).mono ?_
        rintro e w8 ⟨lv8, rfl, -, hb8⟩
        have HB8 : Hid (Below w7.heap.size w7 w8) := hb8
        clear hb8 c0 c1 c2 HSL
        go_wp2
        go_loopw [12, 13] (fun t iv wr => ∃ i : Nat, i ≤ L.length ∧ iv = .int .i64 (i : Nat) ∧ t = .string ⟨(40 :: bodyT (cs.take i)).toArray⟩ ∧ Below w7.heap.size w7 wr)
          (fun _ iv _ => L.length - (intOf iv).toNat)
        case atStart => exact ⟨0, Nat.zero_le _, rfl, rfl, HB8.out⟩
        case round =>
          obtain ⟨i, hi, rfl, rfl, hbr⟩ := hrel
          have hsr : w7.heap.size ≤ wr.heap.size := hbr.size
          have HBR : Hid (Below w7.heap.size w7 wr) := hbr
          have HB6 : Hid (Below w6.heap.size w6 wr) := HB7.out.trans (hbr.mono (by omega))
          have hbl : (40 :: bodyT (cs.take i)).length ≤ 1 + 300 * 100001 := by
            have h1 := bodyT_len (l := cs.take i) fun s hs => HCB.out s (List.mem_of_mem_take hs)
            have h2 : (cs.take i).length ≤ 300 := by rw [List.length_take, HCL.out]; omega
            have h3 : (cs.take i).length * 100001 ≤ 300 * 100001 := Nat.mul_le_mul_right _ h2
            rw [List.length_cons]
            omega
          by_cases hlt : i < L.length
          · obtain ⟨x, hx⟩ : ∃ x, L[i]? = some x := ⟨L[i], List.getElem?_eq_getElem hlt⟩
            obtain ⟨lb, lo, rfl, hlb, x0, x1, x2⟩ := (HLR.out.below hbr) i x hx
            have HN : Hid ((i = 0 → 40 :: bodyT (cs.take (i + 1)) = (40 :: bodyT (cs.take i)) ++ cs.getD i []) ∧ (0 < i → 40 :: bodyT (cs.take (i + 1)) = (40 :: bodyT (cs.take i)) ++ [32] ++ cs.getD i [])) := body_next (by rw [HCL.out]; exact hlt)
            have HTT : Hid (∀ w2, Below w6.heap.size w6 w2 → Calls Tryd.prog 7 #[.slice ag g.length cg, .agg #[.int .i64 x.k, .int .i64 x.n, .string x.s]] w2 fun e w' => TxA (cs.getD i []) w2 e w') := HTX.out i x hx
            have hsl : (cs.getD i []).length ≤ 100000 := by
              rw [List.getD_eq_getElem?_getD]
              cases hq : cs[i]? with
              | none => simp
              | some q => exact HCB.out q (List.mem_of_getElem? hq)
            obtain ⟨T0, hT0⟩ : ∃ T0, T0 = 40 :: bodyT (cs.take i) := ⟨_, rfl⟩
            obtain ⟨S0, hS0⟩ : ∃ S0, S0 = cs.getD i [] := ⟨_, rfl⟩
            rw [← hT0, ← hS0] at HN
            rw [← hS0] at HTT hsl
            rw [← hT0] at hbl
            clear hx hbr
            rw [← hT0]
            clear hT0 hS0
            by_cases hi0 : i = 0
            · have HN0 := HN.out.1 hi0
              subst hi0
              rw [Nat.zero_mul, Nat.add_zero] at x0 x1 x2
              have HNH : Hid (40 :: bodyT (cs.take (0 + 1)) = T0 ++ S0) := HN0
              clear HN HN0
              go_wp2_with fail
              refine (HTT.out _ HB6.out).mono ?_
              rintro e w9 ⟨rfl, hb9⟩
              have HB9 : Hid (Below w7.heap.size w7 w9) := HBR.out.trans (hb9.mono hsr)
              clear hb9
              go_wp2
              refine ⟨⟨0 + 1, by omega, rfl, ?_, HB9.out⟩, by simp [intOf]; omega⟩
              rw [ba_app, HNH.out]
            · have HNH : Hid (40 :: bodyT (cs.take (i + 1)) = T0 ++ [32] ++ S0) := HN.out.2 (by omega)
              have hi1 : (0 : Int) < (i : Int) := by omega
              clear HN
              go_wp2_with fail
              refine (HTT.out _ HB6.out).mono ?_
              rintro e w9 ⟨rfl, hb9⟩
              have HB9 : Hid (Below w7.heap.size w7 w9) := HBR.out.trans (hb9.mono hsr)
              clear hb9
              go_wp2
              refine ⟨⟨i + 1, by omega, by simp, ?_, HB9.out⟩, by simp [intOf]; omega⟩
              rw [show (⟨#[32]⟩ : ByteArray) = ⟨[32].toArray⟩ from rfl, ba_app, ba_app, HNH.out]
          · obtain rfl : i = L.length := by omega
            have et : cs.take L.length = cs := by rw [← HCL.out]; exact List.take_length
            rw [et] at hbl ⊢
            have k9 : wr.heap[w6.heap.size]? = some (Obj.cells #[.int .i64 u.k, .int .i64 u.n, .string u.s] 26) := (hbr.block _ (by omega)).trans HK7.out
            have c0 := cell_blk (j := 0) k9 rfl
            have c1 := cell_blk (j := 1) k9 rfl
            have c2 := cell_blk (j := 2) k9 rfl
            clear k9 et
            obtain ⟨T0, hT0⟩ : ∃ T0, T0 = 40 :: bodyT cs := ⟨_, rfl⟩
            rw [← hT0] at HEN hbl ⊢
            clear hT0 hbr
            by_cases hsh : T0.length < 100000
            · have HEE : Hid (∀ w2, Below w6.heap.size w6 w2 → Calls Tryd.prog 6 #[.slice ag g.length cg, .agg #[.int .i64 u.k, .int .i64 u.n, .string u.s]] w2 fun e w' => TxA (T0 ++ [41]) w2 e w') := HEN.out hsh
              have hge : ¬ (100000 : Int) ≤ (T0.length : Int) := by omega
              have hged : decide ((100000 : Int) ≤ (T0.length : Int)) = false := by simp; omega
              go_wp2_with fail
              refine (HEE.out _ HB6.out).mono ?_
              rintro e w9 ⟨rfl, hb9⟩
              have HF9 : Hid (Below w0.heap.size w0 w9) := HF6.out.trans ((HB6.out.trans (hb9.mono (by omega))).mono (by omega))
              clear hb9
              have heq : (T0 ++ [41] == ((⟨T0.toArray⟩ : ByteArray) ++ ⟨#[41]⟩).toList) = true := by
                rw [show (⟨#[41]⟩ : ByteArray) = ⟨[41].toArray⟩ from rfl, ba_app, ba_list]
                simp
              go_wp2
              go_ret
              exact ⟨rfl, HF9.out⟩
            · have hge : (100000 : Int) ≤ (T0.length : Int) := by omega
              have hged : decide ((100000 : Int) ≤ (T0.length : Int)) = true := by simp; omega
              have HF9 : Hid (Below w0.heap.size w0 wr) := HF6.out.trans (HB6.out.mono (by omega))
              go_wp2
              go_ret
              exact ⟨rfl, HF9.out⟩
end Go.Proofs.YtkbpnjigoipgeaaDoor
