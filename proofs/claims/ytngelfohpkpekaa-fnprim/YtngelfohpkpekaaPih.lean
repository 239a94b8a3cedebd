/- The program's do: a primitive done. -/
import Derived.Test.YtngelfohpkpekaaPig
set_option linter.unusedVariables false
namespace Go.Proofs.Ytngelfohpkpekaa
open Go.ChangeShapes Go.WideShapes Go.ChangeAt Go.RowKit
/-- What is behind the primitive, its answer laid into do's own. -/
theorem dop_out {B T bp : Nat} {av : Value} {r : List Cel × Val × Int} {w w2 w3 : World} {e : Ending} (hP : DoP B T bp av r w2 e w3) (hT : T ≤ bp) (hBT : B ≤ T) (hbp : bp < w.heap.size) (hs : w.heap.size < w2.heap.size) (hb : Below w.heap.size w w2) (u0 u1 u2 : Value) : DoP B T bp av r w (.returned (.tuple #[.agg #[.int .i64 r.2.1.k, .int .i64 r.2.1.n, .string r.2.1.s], .int .i64 r.2.2])) (((w3.setCell ⟨w.heap.size, 0, none⟩ u0).setCell ⟨w.heap.size, 1, none⟩ u1).setCell ⟨w.heap.size, 2, none⟩ u2) := by
  obtain ⟨-, hv, h1, h2, h3, h4, h5⟩ := hP
  have oth : ∀ b, b ≠ w.heap.size → (((w3.setCell ⟨w.heap.size, 0, none⟩ u0).setCell ⟨w.heap.size, 1, none⟩ u1).setCell ⟨w.heap.size, 2, none⟩ u2).heap[b]? = w3.heap[b]? := fun b hb => (heap_setCell_other _ _ _ _ hb).trans ((heap_setCell_other _ _ _ _ hb).trans (heap_setCell_other _ _ _ _ hb))
  have okU : ∀ b, UsesH w3 hv r.1 b → b ≠ w.heap.size := fun b hu => by rcases h3 b hu with q | q <;> omega
  refine ⟨rfl, hv, (oth bp (by omega)).trans h1, (h2.keepU fun b hu => oth b (okU b hu)).weak (Nat.le_refl _) (by simp), fun b hu => ?_, fun b k1 k2 k3 => (oth b (by omega)).trans ((h4 b k1 (by omega) k3).trans (hb.block b k2)), put_below ((hb.mono (by omega)).trans h5) (by omega) _ _ _⟩
  rcases h3 b (hu.of_same fun g hg => oth g (okU g (.inl hg))) with q | q
  · exact .inl q
  · right; omega
set_option maxRecDepth 100000 in
set_option maxHeartbeats 4000000 in
theorem do_0 (B T bp : Nat) (ah : Option Addr) (ch : Nat) (aa : Option Addr) (ca : Nat) (h : List Cel) (s : ByteArray) (a : List Val) (w : World) (hP : w.heap[bp]? = some (.cells #[.slice ah h.length ch, .slice aa a.length ca] 52 (0, 0))) (hr : RowV w w.heap.size aa a) (hsm : ∀ d ∈ h, d.small) (has : ∀ v ∈ a, v.small) (ho : OwnH w B T (.slice ah h.length ch) h) (hT : T ≤ bp) (hBT : B ≤ T) (hla : a.length ≤ 1048576) (hss : s.size ≤ 1048576) (hg : GoodP 0 h s a) : Calls Try.prog 25 #[.pointer (some ⟨bp, 0, none⟩), .string s] w fun e w' => DoP B T bp (.slice aa a.length ca) (primP 0 h a) w e w' := by
  have hb0 : Below w.heap.size w (w.alloc (Obj.cells #[.int .i64 0, .int .i64 0, .string ⟨#[]⟩] 29)) := (Below.refl _ _).alloc (Nat.le_refl _) _
  have hk0 : (w.alloc (Obj.cells #[.int .i64 0, .int .i64 0, .string ⟨#[]⟩] 29)).heap[w.heap.size]? = some (Obj.cells #[.int .i64 0, .int .i64 0, .string ⟨#[]⟩] 29) := blk_at _ _ _ rfl
  have hbp : bp < w.heap.size := (Array.getElem?_eq_some_iff.1 hP).1
  have HTB : Hid (Calls Try.prog 40 #[.pointer (some ⟨bp, 0, none⟩)] (w.alloc (Obj.cells #[.int .i64 0, .int .i64 0, .string ⟨#[]⟩] 29)) fun e w' => TbPost (.pointer (some ⟨bp, 0, none⟩)) (w.alloc (Obj.cells #[.int .i64 0, .int .i64 0, .string ⟨#[]⟩] 29)) e w') := table_any _ _
  have HAR : Hid (∀ w, Calls Try.prog 41 #[.string s] w fun e w' => e = .returned (.int .i64 (arL s.toList)) ∧ w' = w) := fun w => implAr_any s w
  have KP : Hid (w.heap[bp]? = some (.cells #[.slice ah h.length ch, .slice aa a.length ca] 52 (0, 0))) := hP
  have HO : Hid (OwnH w B T (.slice ah h.length ch) h) := ho
  have HN : Hid (tblF (.pointer (some ⟨bp, 0, none⟩)) s.data.toList = some (.func (.func 56) #[.pointer (some ⟨bp, 0, none⟩)] #[])) := tblF_some (p := 0) _ (by rw [← toList_data]; exact hg.1)
  have hc1 : ((a.length : Int) != arL s.toList) = false := by rw [bne_eq_false_iff_eq, (plL_of hg.1).2, hg.2.2.1]
  have HME : Hid (∀ W, Below w.heap.size w W → Calls Try.prog 56 #[.pointer (some ⟨bp, 0, none⟩)] W fun e w' => DoP B T bp (.slice aa a.length ca) (primP 0 h a) W e w') := fun W hb => meth_0 B T bp ah ch aa ca h s a W ((hb.block bp hbp).trans hP) ((hr.below hb).mono hb.size) hsm has (ho.keep fun b _ hb' _ => hb.block b (by omega)) hT hBT hg
  clear hP hr hsm has ho hg
  generalize primP 0 h a = r at *
  go_enter Try.func25, Try.ntmps25
  go_wp2_with fail
  refine HTB.out.mono ?_
  rintro e w1 ⟨m, rfl, hm1, hm2, hb1⟩
  have hbw1 : Below w.heap.size w w1 := hb0.trans (hb1.mono hb0.size)
  have kz1 : w1.heap[w.heap.size]? = some (Obj.cells #[.int .i64 0, .int .i64 0, .string ⟨#[]⟩] 29) := blk_keep hk0 hb1 (by simp)
  have kp1 : w1.heap[bp]? = some (.cells #[.slice ah h.length ch, .slice aa a.length ca] 52 (0, 0)) := (hbw1.block bp hbp).trans KP.out
  have p1 : w1.cell? ⟨bp, 1, none⟩ = some (.slice aa a.length ca) := cell_blk (j := 1) kp1 rfl
  have hs1 : w.heap.size < w1.heap.size := (Array.getElem?_eq_some_iff.1 kz1).1
  have hlk := hm1.look_some s hss HN.out
  have KZ1 : Hid (w1.heap[w.heap.size]? = some (Obj.cells #[.int .i64 0, .int .i64 0, .string ⟨#[]⟩] 29)) := kz1
  have HB1 : Hid (Below w.heap.size w w1) := hbw1
  clear hm1 hm2 hb1 hbw1 kz1 kp1 hk0 hb0
  go_wp2_with fail
  go_quiet ((go_at_call 41; refine Calls.quiet_of_same (HAR.out _)))
  go_wp2_with fail
  refine (HME.out _ (below_drewN HB1.out _)).mono ?_
  rintro e w3 hd3
  have he := hd3.1
  subst he
  have kz3 : w3.heap[w.heap.size]? = some (Obj.cells #[.int .i64 0, .int .i64 0, .string ⟨#[]⟩] 29) := (hd3.2.choose_spec.2.2.2.1 w.heap.size (by omega) hs1 (by omega)).trans KZ1.out
  have KZ3 : Hid (w3.heap[w.heap.size]? = some (Obj.cells #[.int .i64 0, .int .i64 0, .string ⟨#[]⟩] 29)) := kz3
  have HD3 : Hid (DoP B T bp (.slice aa a.length ca) r (w1.drewN nq) (.returned (.tuple #[.agg #[.int .i64 r.2.1.k, .int .i64 r.2.1.n, .string r.2.1.s], .int .i64 r.2.2])) w3) := hd3
  have c0 := cell_blk (j := 0) kz3 rfl
  have c1 := cell_blk (j := 1) kz3 rfl
  have c2 := cell_blk (j := 2) kz3 rfl
  have f0 := frozen_blk kz3 0
  have f1 := frozen_blk kz3 1
  have f2 := frozen_blk kz3 2
  clear kz3 hd3 HME p1
  go_wp2
  refine bodyPost_ret (res_ct rfl _ _ w.heap.size _ _ _ rfl (put_blk _ _ _ KZ3.out)) rfl ?_
  exact dop_out HD3.out hT hBT hbp hs1 (below_drewN HB1.out _) _ _ _
set_option maxRecDepth 100000 in
set_option maxHeartbeats 4000000 in
theorem do_1 (B T bp : Nat) (ah : Option Addr) (ch : Nat) (aa : Option Addr) (ca : Nat) (h : List Cel) (s : ByteArray) (a : List Val) (w : World) (hP : w.heap[bp]? = some (.cells #[.slice ah h.length ch, .slice aa a.length ca] 52 (0, 0))) (hr : RowV w w.heap.size aa a) (hsm : ∀ d ∈ h, d.small) (has : ∀ v ∈ a, v.small) (ho : OwnH w B T (.slice ah h.length ch) h) (hT : T ≤ bp) (hBT : B ≤ T) (hla : a.length ≤ 1048576) (hss : s.size ≤ 1048576) (hg : GoodP 1 h s a) : Calls Try.prog 25 #[.pointer (some ⟨bp, 0, none⟩), .string s] w fun e w' => DoP B T bp (.slice aa a.length ca) (primP 1 h a) w e w' := by
  have hb0 : Below w.heap.size w (w.alloc (Obj.cells #[.int .i64 0, .int .i64 0, .string ⟨#[]⟩] 29)) := (Below.refl _ _).alloc (Nat.le_refl _) _
  have hk0 : (w.alloc (Obj.cells #[.int .i64 0, .int .i64 0, .string ⟨#[]⟩] 29)).heap[w.heap.size]? = some (Obj.cells #[.int .i64 0, .int .i64 0, .string ⟨#[]⟩] 29) := blk_at _ _ _ rfl
  have hbp : bp < w.heap.size := (Array.getElem?_eq_some_iff.1 hP).1
  have HTB : Hid (Calls Try.prog 40 #[.pointer (some ⟨bp, 0, none⟩)] (w.alloc (Obj.cells #[.int .i64 0, .int .i64 0, .string ⟨#[]⟩] 29)) fun e w' => TbPost (.pointer (some ⟨bp, 0, none⟩)) (w.alloc (Obj.cells #[.int .i64 0, .int .i64 0, .string ⟨#[]⟩] 29)) e w') := table_any _ _
  have HAR : Hid (∀ w, Calls Try.prog 41 #[.string s] w fun e w' => e = .returned (.int .i64 (arL s.toList)) ∧ w' = w) := fun w => implAr_any s w
  have KP : Hid (w.heap[bp]? = some (.cells #[.slice ah h.length ch, .slice aa a.length ca] 52 (0, 0))) := hP
  have HO : Hid (OwnH w B T (.slice ah h.length ch) h) := ho
  have HN : Hid (tblF (.pointer (some ⟨bp, 0, none⟩)) s.data.toList = some (.func (.func 57) #[.pointer (some ⟨bp, 0, none⟩)] #[])) := tblF_some (p := 1) _ (by rw [← toList_data]; exact hg.1)
  have hc1 : ((a.length : Int) != arL s.toList) = false := by rw [bne_eq_false_iff_eq, (plL_of hg.1).2, hg.2.2.1]
  have HME : Hid (∀ W, Below w.heap.size w W → Calls Try.prog 57 #[.pointer (some ⟨bp, 0, none⟩)] W fun e w' => DoP B T bp (.slice aa a.length ca) (primP 1 h a) W e w') := fun W hb => meth_1 B T bp ah ch aa ca h s a W ((hb.block bp hbp).trans hP) ((hr.below hb).mono hb.size) hsm has (ho.keep fun b _ hb' _ => hb.block b (by omega)) hT hBT hg
  clear hP hr hsm has ho hg
  generalize primP 1 h a = r at *
  go_enter Try.func25, Try.ntmps25
  go_wp2_with fail
  refine HTB.out.mono ?_
  rintro e w1 ⟨m, rfl, hm1, hm2, hb1⟩
  have hbw1 : Below w.heap.size w w1 := hb0.trans (hb1.mono hb0.size)
  have kz1 : w1.heap[w.heap.size]? = some (Obj.cells #[.int .i64 0, .int .i64 0, .string ⟨#[]⟩] 29) := blk_keep hk0 hb1 (by simp)
  have kp1 : w1.heap[bp]? = some (.cells #[.slice ah h.length ch, .slice aa a.length ca] 52 (0, 0)) := (hbw1.block bp hbp).trans KP.out
  have p1 : w1.cell? ⟨bp, 1, none⟩ = some (.slice aa a.length ca) := cell_blk (j := 1) kp1 rfl
  have hs1 : w.heap.size < w1.heap.size := (Array.getElem?_eq_some_iff.1 kz1).1
  have hlk := hm1.look_some s hss HN.out
  have KZ1 : Hid (w1.heap[w.heap.size]? = some (Obj.cells #[.int .i64 0, .int .i64 0, .string ⟨#[]⟩] 29)) := kz1
  have HB1 : Hid (Below w.heap.size w w1) := hbw1
  clear hm1 hm2 hb1 hbw1 kz1 kp1 hk0 hb0
  go_wp2_with fail
  go_quiet ((go_at_call 41; refine Calls.quiet_of_same (HAR.out _)))
  go_wp2_with fail
  refine (HME.out _ (below_drewN HB1.out _)).mono ?_
  rintro e w3 hd3
  have he := hd3.1
  subst he
  have kz3 : w3.heap[w.heap.size]? = some (Obj.cells #[.int .i64 0, .int .i64 0, .string ⟨#[]⟩] 29) := (hd3.2.choose_spec.2.2.2.1 w.heap.size (by omega) hs1 (by omega)).trans KZ1.out
  have KZ3 : Hid (w3.heap[w.heap.size]? = some (Obj.cells #[.int .i64 0, .int .i64 0, .string ⟨#[]⟩] 29)) := kz3
  have HD3 : Hid (DoP B T bp (.slice aa a.length ca) r (w1.drewN nq) (.returned (.tuple #[.agg #[.int .i64 r.2.1.k, .int .i64 r.2.1.n, .string r.2.1.s], .int .i64 r.2.2])) w3) := hd3
  have c0 := cell_blk (j := 0) kz3 rfl
  have c1 := cell_blk (j := 1) kz3 rfl
  have c2 := cell_blk (j := 2) kz3 rfl
  have f0 := frozen_blk kz3 0
  have f1 := frozen_blk kz3 1
  have f2 := frozen_blk kz3 2
  clear kz3 hd3 HME p1
  go_wp2
  refine bodyPost_ret (res_ct rfl _ _ w.heap.size _ _ _ rfl (put_blk _ _ _ KZ3.out)) rfl ?_
  exact dop_out HD3.out hT hBT hbp hs1 (below_drewN HB1.out _) _ _ _
set_option maxRecDepth 100000 in
set_option maxHeartbeats 4000000 in
theorem do_2 (B T bp : Nat) (ah : Option Addr) (ch : Nat) (aa : Option Addr) (ca : Nat) (h : List Cel) (s : ByteArray) (a : List Val) (w : World) (hP : w.heap[bp]? = some (.cells #[.slice ah h.length ch, .slice aa a.length ca] 52 (0, 0))) (hr : RowV w w.heap.size aa a) (hsm : ∀ d ∈ h, d.small) (has : ∀ v ∈ a, v.small) (ho : OwnH w B T (.slice ah h.length ch) h) (hT : T ≤ bp) (hBT : B ≤ T) (hla : a.length ≤ 1048576) (hss : s.size ≤ 1048576) (hg : GoodP 2 h s a) : Calls Try.prog 25 #[.pointer (some ⟨bp, 0, none⟩), .string s] w fun e w' => DoP B T bp (.slice aa a.length ca) (primP 2 h a) w e w' := by
  have hb0 : Below w.heap.size w (w.alloc (Obj.cells #[.int .i64 0, .int .i64 0, .string ⟨#[]⟩] 29)) := (Below.refl _ _).alloc (Nat.le_refl _) _
  have hk0 : (w.alloc (Obj.cells #[.int .i64 0, .int .i64 0, .string ⟨#[]⟩] 29)).heap[w.heap.size]? = some (Obj.cells #[.int .i64 0, .int .i64 0, .string ⟨#[]⟩] 29) := blk_at _ _ _ rfl
  have hbp : bp < w.heap.size := (Array.getElem?_eq_some_iff.1 hP).1
  have HTB : Hid (Calls Try.prog 40 #[.pointer (some ⟨bp, 0, none⟩)] (w.alloc (Obj.cells #[.int .i64 0, .int .i64 0, .string ⟨#[]⟩] 29)) fun e w' => TbPost (.pointer (some ⟨bp, 0, none⟩)) (w.alloc (Obj.cells #[.int .i64 0, .int .i64 0, .string ⟨#[]⟩] 29)) e w') := table_any _ _
  have HAR : Hid (∀ w, Calls Try.prog 41 #[.string s] w fun e w' => e = .returned (.int .i64 (arL s.toList)) ∧ w' = w) := fun w => implAr_any s w
  have KP : Hid (w.heap[bp]? = some (.cells #[.slice ah h.length ch, .slice aa a.length ca] 52 (0, 0))) := hP
  have HO : Hid (OwnH w B T (.slice ah h.length ch) h) := ho
  have HN : Hid (tblF (.pointer (some ⟨bp, 0, none⟩)) s.data.toList = some (.func (.func 58) #[.pointer (some ⟨bp, 0, none⟩)] #[])) := tblF_some (p := 2) _ (by rw [← toList_data]; exact hg.1)
  have hc1 : ((a.length : Int) != arL s.toList) = false := by rw [bne_eq_false_iff_eq, (plL_of hg.1).2, hg.2.2.1]
  have HME : Hid (∀ W, Below w.heap.size w W → Calls Try.prog 58 #[.pointer (some ⟨bp, 0, none⟩)] W fun e w' => DoP B T bp (.slice aa a.length ca) (primP 2 h a) W e w') := fun W hb => meth_2 B T bp ah ch aa ca h s a W ((hb.block bp hbp).trans hP) ((hr.below hb).mono hb.size) hsm has (ho.keep fun b _ hb' _ => hb.block b (by omega)) hT hBT hg
  clear hP hr hsm has ho hg
  generalize primP 2 h a = r at *
  go_enter Try.func25, Try.ntmps25
  go_wp2_with fail
  refine HTB.out.mono ?_
  rintro e w1 ⟨m, rfl, hm1, hm2, hb1⟩
  have hbw1 : Below w.heap.size w w1 := hb0.trans (hb1.mono hb0.size)
  have kz1 : w1.heap[w.heap.size]? = some (Obj.cells #[.int .i64 0, .int .i64 0, .string ⟨#[]⟩] 29) := blk_keep hk0 hb1 (by simp)
  have kp1 : w1.heap[bp]? = some (.cells #[.slice ah h.length ch, .slice aa a.length ca] 52 (0, 0)) := (hbw1.block bp hbp).trans KP.out
  have p1 : w1.cell? ⟨bp, 1, none⟩ = some (.slice aa a.length ca) := cell_blk (j := 1) kp1 rfl
  have hs1 : w.heap.size < w1.heap.size := (Array.getElem?_eq_some_iff.1 kz1).1
  have hlk := hm1.look_some s hss HN.out
  have KZ1 : Hid (w1.heap[w.heap.size]? = some (Obj.cells #[.int .i64 0, .int .i64 0, .string ⟨#[]⟩] 29)) := kz1
  have HB1 : Hid (Below w.heap.size w w1) := hbw1
  clear hm1 hm2 hb1 hbw1 kz1 kp1 hk0 hb0
  go_wp2_with fail
  go_quiet ((go_at_call 41; refine Calls.quiet_of_same (HAR.out _)))
  go_wp2_with fail
  refine (HME.out _ (below_drewN HB1.out _)).mono ?_
  rintro e w3 hd3
  have he := hd3.1
  subst he
  have kz3 : w3.heap[w.heap.size]? = some (Obj.cells #[.int .i64 0, .int .i64 0, .string ⟨#[]⟩] 29) := (hd3.2.choose_spec.2.2.2.1 w.heap.size (by omega) hs1 (by omega)).trans KZ1.out
  have KZ3 : Hid (w3.heap[w.heap.size]? = some (Obj.cells #[.int .i64 0, .int .i64 0, .string ⟨#[]⟩] 29)) := kz3
  have HD3 : Hid (DoP B T bp (.slice aa a.length ca) r (w1.drewN nq) (.returned (.tuple #[.agg #[.int .i64 r.2.1.k, .int .i64 r.2.1.n, .string r.2.1.s], .int .i64 r.2.2])) w3) := hd3
  have c0 := cell_blk (j := 0) kz3 rfl
  have c1 := cell_blk (j := 1) kz3 rfl
  have c2 := cell_blk (j := 2) kz3 rfl
  have f0 := frozen_blk kz3 0
  have f1 := frozen_blk kz3 1
  have f2 := frozen_blk kz3 2
  clear kz3 hd3 HME p1
  go_wp2
  refine bodyPost_ret (res_ct rfl _ _ w.heap.size _ _ _ rfl (put_blk _ _ _ KZ3.out)) rfl ?_
  exact dop_out HD3.out hT hBT hbp hs1 (below_drewN HB1.out _) _ _ _
set_option maxRecDepth 100000 in
set_option maxHeartbeats 4000000 in
theorem do_3 (B T bp : Nat) (ah : Option Addr) (ch : Nat) (aa : Option Addr) (ca : Nat) (h : List Cel) (s : ByteArray) (a : List Val) (w : World) (hP : w.heap[bp]? = some (.cells #[.slice ah h.length ch, .slice aa a.length ca] 52 (0, 0))) (hr : RowV w w.heap.size aa a) (hsm : ∀ d ∈ h, d.small) (has : ∀ v ∈ a, v.small) (ho : OwnH w B T (.slice ah h.length ch) h) (hT : T ≤ bp) (hBT : B ≤ T) (hla : a.length ≤ 1048576) (hss : s.size ≤ 1048576) (hg : GoodP 3 h s a) : Calls Try.prog 25 #[.pointer (some ⟨bp, 0, none⟩), .string s] w fun e w' => DoP B T bp (.slice aa a.length ca) (primP 3 h a) w e w' := by
  have hb0 : Below w.heap.size w (w.alloc (Obj.cells #[.int .i64 0, .int .i64 0, .string ⟨#[]⟩] 29)) := (Below.refl _ _).alloc (Nat.le_refl _) _
  have hk0 : (w.alloc (Obj.cells #[.int .i64 0, .int .i64 0, .string ⟨#[]⟩] 29)).heap[w.heap.size]? = some (Obj.cells #[.int .i64 0, .int .i64 0, .string ⟨#[]⟩] 29) := blk_at _ _ _ rfl
  have hbp : bp < w.heap.size := (Array.getElem?_eq_some_iff.1 hP).1
  have HTB : Hid (Calls Try.prog 40 #[.pointer (some ⟨bp, 0, none⟩)] (w.alloc (Obj.cells #[.int .i64 0, .int .i64 0, .string ⟨#[]⟩] 29)) fun e w' => TbPost (.pointer (some ⟨bp, 0, none⟩)) (w.alloc (Obj.cells #[.int .i64 0, .int .i64 0, .string ⟨#[]⟩] 29)) e w') := table_any _ _
  have HAR : Hid (∀ w, Calls Try.prog 41 #[.string s] w fun e w' => e = .returned (.int .i64 (arL s.toList)) ∧ w' = w) := fun w => implAr_any s w
  have KP : Hid (w.heap[bp]? = some (.cells #[.slice ah h.length ch, .slice aa a.length ca] 52 (0, 0))) := hP
  have HO : Hid (OwnH w B T (.slice ah h.length ch) h) := ho
  have HN : Hid (tblF (.pointer (some ⟨bp, 0, none⟩)) s.data.toList = some (.func (.func 59) #[.pointer (some ⟨bp, 0, none⟩)] #[])) := tblF_some (p := 3) _ (by rw [← toList_data]; exact hg.1)
  have hc1 : ((a.length : Int) != arL s.toList) = false := by rw [bne_eq_false_iff_eq, (plL_of hg.1).2, hg.2.2.1]
  have HME : Hid (∀ W, Below w.heap.size w W → Calls Try.prog 59 #[.pointer (some ⟨bp, 0, none⟩)] W fun e w' => DoP B T bp (.slice aa a.length ca) (primP 3 h a) W e w') := fun W hb => meth_3 B T bp ah ch aa ca h s a W ((hb.block bp hbp).trans hP) ((hr.below hb).mono hb.size) hsm has (ho.keep fun b _ hb' _ => hb.block b (by omega)) hT hBT hg
  clear hP hr hsm has ho hg
  generalize primP 3 h a = r at *
  go_enter Try.func25, Try.ntmps25
  go_wp2_with fail
  refine HTB.out.mono ?_
  rintro e w1 ⟨m, rfl, hm1, hm2, hb1⟩
  have hbw1 : Below w.heap.size w w1 := hb0.trans (hb1.mono hb0.size)
  have kz1 : w1.heap[w.heap.size]? = some (Obj.cells #[.int .i64 0, .int .i64 0, .string ⟨#[]⟩] 29) := blk_keep hk0 hb1 (by simp)
  have kp1 : w1.heap[bp]? = some (.cells #[.slice ah h.length ch, .slice aa a.length ca] 52 (0, 0)) := (hbw1.block bp hbp).trans KP.out
  have p1 : w1.cell? ⟨bp, 1, none⟩ = some (.slice aa a.length ca) := cell_blk (j := 1) kp1 rfl
  have hs1 : w.heap.size < w1.heap.size := (Array.getElem?_eq_some_iff.1 kz1).1
  have hlk := hm1.look_some s hss HN.out
  have KZ1 : Hid (w1.heap[w.heap.size]? = some (Obj.cells #[.int .i64 0, .int .i64 0, .string ⟨#[]⟩] 29)) := kz1
  have HB1 : Hid (Below w.heap.size w w1) := hbw1
  clear hm1 hm2 hb1 hbw1 kz1 kp1 hk0 hb0
  go_wp2_with fail
  go_quiet ((go_at_call 41; refine Calls.quiet_of_same (HAR.out _)))
  go_wp2_with fail
  refine (HME.out _ (below_drewN HB1.out _)).mono ?_
  rintro e w3 hd3
  have he := hd3.1
  subst he
  have kz3 : w3.heap[w.heap.size]? = some (Obj.cells #[.int .i64 0, .int .i64 0, .string ⟨#[]⟩] 29) := (hd3.2.choose_spec.2.2.2.1 w.heap.size (by omega) hs1 (by omega)).trans KZ1.out
  have KZ3 : Hid (w3.heap[w.heap.size]? = some (Obj.cells #[.int .i64 0, .int .i64 0, .string ⟨#[]⟩] 29)) := kz3
  have HD3 : Hid (DoP B T bp (.slice aa a.length ca) r (w1.drewN nq) (.returned (.tuple #[.agg #[.int .i64 r.2.1.k, .int .i64 r.2.1.n, .string r.2.1.s], .int .i64 r.2.2])) w3) := hd3
  have c0 := cell_blk (j := 0) kz3 rfl
  have c1 := cell_blk (j := 1) kz3 rfl
  have c2 := cell_blk (j := 2) kz3 rfl
  have f0 := frozen_blk kz3 0
  have f1 := frozen_blk kz3 1
  have f2 := frozen_blk kz3 2
  clear kz3 hd3 HME p1
  go_wp2
  refine bodyPost_ret (res_ct rfl _ _ w.heap.size _ _ _ rfl (put_blk _ _ _ KZ3.out)) rfl ?_
  exact dop_out HD3.out hT hBT hbp hs1 (below_drewN HB1.out _) _ _ _
set_option maxRecDepth 100000 in
set_option maxHeartbeats 4000000 in
theorem do_4 (B T bp : Nat) (ah : Option Addr) (ch : Nat) (aa : Option Addr) (ca : Nat) (h : List Cel) (s : ByteArray) (a : List Val) (w : World) (hP : w.heap[bp]? = some (.cells #[.slice ah h.length ch, .slice aa a.length ca] 52 (0, 0))) (hr : RowV w w.heap.size aa a) (hsm : ∀ d ∈ h, d.small) (has : ∀ v ∈ a, v.small) (ho : OwnH w B T (.slice ah h.length ch) h) (hT : T ≤ bp) (hBT : B ≤ T) (hla : a.length ≤ 1048576) (hss : s.size ≤ 1048576) (hg : GoodP 4 h s a) : Calls Try.prog 25 #[.pointer (some ⟨bp, 0, none⟩), .string s] w fun e w' => DoP B T bp (.slice aa a.length ca) (primP 4 h a) w e w' := by
  have hb0 : Below w.heap.size w (w.alloc (Obj.cells #[.int .i64 0, .int .i64 0, .string ⟨#[]⟩] 29)) := (Below.refl _ _).alloc (Nat.le_refl _) _
  have hk0 : (w.alloc (Obj.cells #[.int .i64 0, .int .i64 0, .string ⟨#[]⟩] 29)).heap[w.heap.size]? = some (Obj.cells #[.int .i64 0, .int .i64 0, .string ⟨#[]⟩] 29) := blk_at _ _ _ rfl
  have hbp : bp < w.heap.size := (Array.getElem?_eq_some_iff.1 hP).1
  have HTB : Hid (Calls Try.prog 40 #[.pointer (some ⟨bp, 0, none⟩)] (w.alloc (Obj.cells #[.int .i64 0, .int .i64 0, .string ⟨#[]⟩] 29)) fun e w' => TbPost (.pointer (some ⟨bp, 0, none⟩)) (w.alloc (Obj.cells #[.int .i64 0, .int .i64 0, .string ⟨#[]⟩] 29)) e w') := table_any _ _
  have HAR : Hid (∀ w, Calls Try.prog 41 #[.string s] w fun e w' => e = .returned (.int .i64 (arL s.toList)) ∧ w' = w) := fun w => implAr_any s w
  have KP : Hid (w.heap[bp]? = some (.cells #[.slice ah h.length ch, .slice aa a.length ca] 52 (0, 0))) := hP
  have HO : Hid (OwnH w B T (.slice ah h.length ch) h) := ho
  have HN : Hid (tblF (.pointer (some ⟨bp, 0, none⟩)) s.data.toList = some (.func (.func 60) #[.pointer (some ⟨bp, 0, none⟩)] #[])) := tblF_some (p := 4) _ (by rw [← toList_data]; exact hg.1)
  have hc1 : ((a.length : Int) != arL s.toList) = false := by rw [bne_eq_false_iff_eq, (plL_of hg.1).2, hg.2.2.1]
  have HME : Hid (∀ W, Below w.heap.size w W → Calls Try.prog 60 #[.pointer (some ⟨bp, 0, none⟩)] W fun e w' => DoP B T bp (.slice aa a.length ca) (primP 4 h a) W e w') := fun W hb => meth_4 B T bp ah ch aa ca h s a W ((hb.block bp hbp).trans hP) ((hr.below hb).mono hb.size) hsm has (ho.keep fun b _ hb' _ => hb.block b (by omega)) hT hBT hg
  clear hP hr hsm has ho hg
  generalize primP 4 h a = r at *
  go_enter Try.func25, Try.ntmps25
  go_wp2_with fail
  refine HTB.out.mono ?_
  rintro e w1 ⟨m, rfl, hm1, hm2, hb1⟩
  have hbw1 : Below w.heap.size w w1 := hb0.trans (hb1.mono hb0.size)
  have kz1 : w1.heap[w.heap.size]? = some (Obj.cells #[.int .i64 0, .int .i64 0, .string ⟨#[]⟩] 29) := blk_keep hk0 hb1 (by simp)
  have kp1 : w1.heap[bp]? = some (.cells #[.slice ah h.length ch, .slice aa a.length ca] 52 (0, 0)) := (hbw1.block bp hbp).trans KP.out
  have p1 : w1.cell? ⟨bp, 1, none⟩ = some (.slice aa a.length ca) := cell_blk (j := 1) kp1 rfl
  have hs1 : w.heap.size < w1.heap.size := (Array.getElem?_eq_some_iff.1 kz1).1
  have hlk := hm1.look_some s hss HN.out
  have KZ1 : Hid (w1.heap[w.heap.size]? = some (Obj.cells #[.int .i64 0, .int .i64 0, .string ⟨#[]⟩] 29)) := kz1
  have HB1 : Hid (Below w.heap.size w w1) := hbw1
  clear hm1 hm2 hb1 hbw1 kz1 kp1 hk0 hb0
  go_wp2_with fail
  go_quiet ((go_at_call 41; refine Calls.quiet_of_same (HAR.out _)))
  go_wp2_with fail
  refine (HME.out _ (below_drewN HB1.out _)).mono ?_
  rintro e w3 hd3
  have he := hd3.1
  subst he
  have kz3 : w3.heap[w.heap.size]? = some (Obj.cells #[.int .i64 0, .int .i64 0, .string ⟨#[]⟩] 29) := (hd3.2.choose_spec.2.2.2.1 w.heap.size (by omega) hs1 (by omega)).trans KZ1.out
  have KZ3 : Hid (w3.heap[w.heap.size]? = some (Obj.cells #[.int .i64 0, .int .i64 0, .string ⟨#[]⟩] 29)) := kz3
  have HD3 : Hid (DoP B T bp (.slice aa a.length ca) r (w1.drewN nq) (.returned (.tuple #[.agg #[.int .i64 r.2.1.k, .int .i64 r.2.1.n, .string r.2.1.s], .int .i64 r.2.2])) w3) := hd3
  have c0 := cell_blk (j := 0) kz3 rfl
  have c1 := cell_blk (j := 1) kz3 rfl
  have c2 := cell_blk (j := 2) kz3 rfl
  have f0 := frozen_blk kz3 0
  have f1 := frozen_blk kz3 1
  have f2 := frozen_blk kz3 2
  clear kz3 hd3 HME p1
  go_wp2
  refine bodyPost_ret (res_ct rfl _ _ w.heap.size _ _ _ rfl (put_blk _ _ _ KZ3.out)) rfl ?_
  exact dop_out HD3.out hT hBT hbp hs1 (below_drewN HB1.out _) _ _ _
set_option maxRecDepth 100000 in
set_option maxHeartbeats 4000000 in
theorem do_5 (B T bp : Nat) (ah : Option Addr) (ch : Nat) (aa : Option Addr) (ca : Nat) (h : List Cel) (s : ByteArray) (a : List Val) (w : World) (hP : w.heap[bp]? = some (.cells #[.slice ah h.length ch, .slice aa a.length ca] 52 (0, 0))) (hr : RowV w w.heap.size aa a) (hsm : ∀ d ∈ h, d.small) (has : ∀ v ∈ a, v.small) (ho : OwnH w B T (.slice ah h.length ch) h) (hT : T ≤ bp) (hBT : B ≤ T) (hla : a.length ≤ 1048576) (hss : s.size ≤ 1048576) (hg : GoodP 5 h s a) : Calls Try.prog 25 #[.pointer (some ⟨bp, 0, none⟩), .string s] w fun e w' => DoP B T bp (.slice aa a.length ca) (primP 5 h a) w e w' := by
  have hb0 : Below w.heap.size w (w.alloc (Obj.cells #[.int .i64 0, .int .i64 0, .string ⟨#[]⟩] 29)) := (Below.refl _ _).alloc (Nat.le_refl _) _
  have hk0 : (w.alloc (Obj.cells #[.int .i64 0, .int .i64 0, .string ⟨#[]⟩] 29)).heap[w.heap.size]? = some (Obj.cells #[.int .i64 0, .int .i64 0, .string ⟨#[]⟩] 29) := blk_at _ _ _ rfl
  have hbp : bp < w.heap.size := (Array.getElem?_eq_some_iff.1 hP).1
  have HTB : Hid (Calls Try.prog 40 #[.pointer (some ⟨bp, 0, none⟩)] (w.alloc (Obj.cells #[.int .i64 0, .int .i64 0, .string ⟨#[]⟩] 29)) fun e w' => TbPost (.pointer (some ⟨bp, 0, none⟩)) (w.alloc (Obj.cells #[.int .i64 0, .int .i64 0, .string ⟨#[]⟩] 29)) e w') := table_any _ _
  have HAR : Hid (∀ w, Calls Try.prog 41 #[.string s] w fun e w' => e = .returned (.int .i64 (arL s.toList)) ∧ w' = w) := fun w => implAr_any s w
  have KP : Hid (w.heap[bp]? = some (.cells #[.slice ah h.length ch, .slice aa a.length ca] 52 (0, 0))) := hP
  have HO : Hid (OwnH w B T (.slice ah h.length ch) h) := ho
  have HN : Hid (tblF (.pointer (some ⟨bp, 0, none⟩)) s.data.toList = some (.func (.func 61) #[.pointer (some ⟨bp, 0, none⟩)] #[])) := tblF_some (p := 5) _ (by rw [← toList_data]; exact hg.1)
  have hc1 : ((a.length : Int) != arL s.toList) = false := by rw [bne_eq_false_iff_eq, (plL_of hg.1).2, hg.2.2.1]
  have HME : Hid (∀ W, Below w.heap.size w W → Calls Try.prog 61 #[.pointer (some ⟨bp, 0, none⟩)] W fun e w' => DoP B T bp (.slice aa a.length ca) (primP 5 h a) W e w') := fun W hb => meth_5 B T bp ah ch aa ca h s a W ((hb.block bp hbp).trans hP) ((hr.below hb).mono hb.size) hsm has (ho.keep fun b _ hb' _ => hb.block b (by omega)) hT hBT hg
  clear hP hr hsm has ho hg
  generalize primP 5 h a = r at *
  go_enter Try.func25, Try.ntmps25
  go_wp2_with fail
  refine HTB.out.mono ?_
  rintro e w1 ⟨m, rfl, hm1, hm2, hb1⟩
  have hbw1 : Below w.heap.size w w1 := hb0.trans (hb1.mono hb0.size)
  have kz1 : w1.heap[w.heap.size]? = some (Obj.cells #[.int .i64 0, .int .i64 0, .string ⟨#[]⟩] 29) := blk_keep hk0 hb1 (by simp)
  have kp1 : w1.heap[bp]? = some (.cells #[.slice ah h.length ch, .slice aa a.length ca] 52 (0, 0)) := (hbw1.block bp hbp).trans KP.out
  have p1 : w1.cell? ⟨bp, 1, none⟩ = some (.slice aa a.length ca) := cell_blk (j := 1) kp1 rfl
  have hs1 : w.heap.size < w1.heap.size := (Array.getElem?_eq_some_iff.1 kz1).1
  have hlk := hm1.look_some s hss HN.out
  have KZ1 : Hid (w1.heap[w.heap.size]? = some (Obj.cells #[.int .i64 0, .int .i64 0, .string ⟨#[]⟩] 29)) := kz1
  have HB1 : Hid (Below w.heap.size w w1) := hbw1
  clear hm1 hm2 hb1 hbw1 kz1 kp1 hk0 hb0
  go_wp2_with fail
  go_quiet ((go_at_call 41; refine Calls.quiet_of_same (HAR.out _)))
  go_wp2_with fail
  refine (HME.out _ (below_drewN HB1.out _)).mono ?_
  rintro e w3 hd3
  have he := hd3.1
  subst he
  have kz3 : w3.heap[w.heap.size]? = some (Obj.cells #[.int .i64 0, .int .i64 0, .string ⟨#[]⟩] 29) := (hd3.2.choose_spec.2.2.2.1 w.heap.size (by omega) hs1 (by omega)).trans KZ1.out
  have KZ3 : Hid (w3.heap[w.heap.size]? = some (Obj.cells #[.int .i64 0, .int .i64 0, .string ⟨#[]⟩] 29)) := kz3
  have HD3 : Hid (DoP B T bp (.slice aa a.length ca) r (w1.drewN nq) (.returned (.tuple #[.agg #[.int .i64 r.2.1.k, .int .i64 r.2.1.n, .string r.2.1.s], .int .i64 r.2.2])) w3) := hd3
  have c0 := cell_blk (j := 0) kz3 rfl
  have c1 := cell_blk (j := 1) kz3 rfl
  have c2 := cell_blk (j := 2) kz3 rfl
  have f0 := frozen_blk kz3 0
  have f1 := frozen_blk kz3 1
  have f2 := frozen_blk kz3 2
  clear kz3 hd3 HME p1
  go_wp2
  refine bodyPost_ret (res_ct rfl _ _ w.heap.size _ _ _ rfl (put_blk _ _ _ KZ3.out)) rfl ?_
  exact dop_out HD3.out hT hBT hbp hs1 (below_drewN HB1.out _) _ _ _
set_option maxRecDepth 100000 in
set_option maxHeartbeats 4000000 in
theorem do_6 (B T bp : Nat) (ah : Option Addr) (ch : Nat) (aa : Option Addr) (ca : Nat) (h : List Cel) (s : ByteArray) (a : List Val) (w : World) (hP : w.heap[bp]? = some (.cells #[.slice ah h.length ch, .slice aa a.length ca] 52 (0, 0))) (hr : RowV w w.heap.size aa a) (hsm : ∀ d ∈ h, d.small) (has : ∀ v ∈ a, v.small) (ho : OwnH w B T (.slice ah h.length ch) h) (hT : T ≤ bp) (hBT : B ≤ T) (hla : a.length ≤ 1048576) (hss : s.size ≤ 1048576) (hg : GoodP 6 h s a) : Calls Try.prog 25 #[.pointer (some ⟨bp, 0, none⟩), .string s] w fun e w' => DoP B T bp (.slice aa a.length ca) (primP 6 h a) w e w' := by
  have hb0 : Below w.heap.size w (w.alloc (Obj.cells #[.int .i64 0, .int .i64 0, .string ⟨#[]⟩] 29)) := (Below.refl _ _).alloc (Nat.le_refl _) _
  have hk0 : (w.alloc (Obj.cells #[.int .i64 0, .int .i64 0, .string ⟨#[]⟩] 29)).heap[w.heap.size]? = some (Obj.cells #[.int .i64 0, .int .i64 0, .string ⟨#[]⟩] 29) := blk_at _ _ _ rfl
  have hbp : bp < w.heap.size := (Array.getElem?_eq_some_iff.1 hP).1
  have HTB : Hid (Calls Try.prog 40 #[.pointer (some ⟨bp, 0, none⟩)] (w.alloc (Obj.cells #[.int .i64 0, .int .i64 0, .string ⟨#[]⟩] 29)) fun e w' => TbPost (.pointer (some ⟨bp, 0, none⟩)) (w.alloc (Obj.cells #[.int .i64 0, .int .i64 0, .string ⟨#[]⟩] 29)) e w') := table_any _ _
  have HAR : Hid (∀ w, Calls Try.prog 41 #[.string s] w fun e w' => e = .returned (.int .i64 (arL s.toList)) ∧ w' = w) := fun w => implAr_any s w
  have KP : Hid (w.heap[bp]? = some (.cells #[.slice ah h.length ch, .slice aa a.length ca] 52 (0, 0))) := hP
  have HO : Hid (OwnH w B T (.slice ah h.length ch) h) := ho
  have HN : Hid (tblF (.pointer (some ⟨bp, 0, none⟩)) s.data.toList = some (.func (.func 62) #[.pointer (some ⟨bp, 0, none⟩)] #[])) := tblF_some (p := 6) _ (by rw [← toList_data]; exact hg.1)
  have hc1 : ((a.length : Int) != arL s.toList) = false := by rw [bne_eq_false_iff_eq, (plL_of hg.1).2, hg.2.2.1]
  have HME : Hid (∀ W, Below w.heap.size w W → Calls Try.prog 62 #[.pointer (some ⟨bp, 0, none⟩)] W fun e w' => DoP B T bp (.slice aa a.length ca) (primP 6 h a) W e w') := fun W hb => meth_6 B T bp ah ch aa ca h s a W ((hb.block bp hbp).trans hP) ((hr.below hb).mono hb.size) hsm has (ho.keep fun b _ hb' _ => hb.block b (by omega)) hT hBT hg
  clear hP hr hsm has ho hg
  generalize primP 6 h a = r at *
  go_enter Try.func25, Try.ntmps25
  go_wp2_with fail
  refine HTB.out.mono ?_
  rintro e w1 ⟨m, rfl, hm1, hm2, hb1⟩
  have hbw1 : Below w.heap.size w w1 := hb0.trans (hb1.mono hb0.size)
  have kz1 : w1.heap[w.heap.size]? = some (Obj.cells #[.int .i64 0, .int .i64 0, .string ⟨#[]⟩] 29) := blk_keep hk0 hb1 (by simp)
  have kp1 : w1.heap[bp]? = some (.cells #[.slice ah h.length ch, .slice aa a.length ca] 52 (0, 0)) := (hbw1.block bp hbp).trans KP.out
  have p1 : w1.cell? ⟨bp, 1, none⟩ = some (.slice aa a.length ca) := cell_blk (j := 1) kp1 rfl
  have hs1 : w.heap.size < w1.heap.size := (Array.getElem?_eq_some_iff.1 kz1).1
  have hlk := hm1.look_some s hss HN.out
  have KZ1 : Hid (w1.heap[w.heap.size]? = some (Obj.cells #[.int .i64 0, .int .i64 0, .string ⟨#[]⟩] 29)) := kz1
  have HB1 : Hid (Below w.heap.size w w1) := hbw1
  clear hm1 hm2 hb1 hbw1 kz1 kp1 hk0 hb0
  go_wp2_with fail
  go_quiet ((go_at_call 41; refine Calls.quiet_of_same (HAR.out _)))
  go_wp2_with fail
  refine (HME.out _ (below_drewN HB1.out _)).mono ?_
  rintro e w3 hd3
  have he := hd3.1
  subst he
  have kz3 : w3.heap[w.heap.size]? = some (Obj.cells #[.int .i64 0, .int .i64 0, .string ⟨#[]⟩] 29) := (hd3.2.choose_spec.2.2.2.1 w.heap.size (by omega) hs1 (by omega)).trans KZ1.out
  have KZ3 : Hid (w3.heap[w.heap.size]? = some (Obj.cells #[.int .i64 0, .int .i64 0, .string ⟨#[]⟩] 29)) := kz3
  have HD3 : Hid (DoP B T bp (.slice aa a.length ca) r (w1.drewN nq) (.returned (.tuple #[.agg #[.int .i64 r.2.1.k, .int .i64 r.2.1.n, .string r.2.1.s], .int .i64 r.2.2])) w3) := hd3
  have c0 := cell_blk (j := 0) kz3 rfl
  have c1 := cell_blk (j := 1) kz3 rfl
  have c2 := cell_blk (j := 2) kz3 rfl
  have f0 := frozen_blk kz3 0
  have f1 := frozen_blk kz3 1
  have f2 := frozen_blk kz3 2
  clear kz3 hd3 HME p1
  go_wp2
  refine bodyPost_ret (res_ct rfl _ _ w.heap.size _ _ _ rfl (put_blk _ _ _ KZ3.out)) rfl ?_
  exact dop_out HD3.out hT hBT hbp hs1 (below_drewN HB1.out _) _ _ _
set_option maxRecDepth 100000 in
set_option maxHeartbeats 4000000 in
theorem do_7 (B T bp : Nat) (ah : Option Addr) (ch : Nat) (aa : Option Addr) (ca : Nat) (h : List Cel) (s : ByteArray) (a : List Val) (w : World) (hP : w.heap[bp]? = some (.cells #[.slice ah h.length ch, .slice aa a.length ca] 52 (0, 0))) (hr : RowV w w.heap.size aa a) (hsm : ∀ d ∈ h, d.small) (has : ∀ v ∈ a, v.small) (ho : OwnH w B T (.slice ah h.length ch) h) (hT : T ≤ bp) (hBT : B ≤ T) (hla : a.length ≤ 1048576) (hss : s.size ≤ 1048576) (hg : GoodP 7 h s a) : Calls Try.prog 25 #[.pointer (some ⟨bp, 0, none⟩), .string s] w fun e w' => DoP B T bp (.slice aa a.length ca) (primP 7 h a) w e w' := by
  have hb0 : Below w.heap.size w (w.alloc (Obj.cells #[.int .i64 0, .int .i64 0, .string ⟨#[]⟩] 29)) := (Below.refl _ _).alloc (Nat.le_refl _) _
  have hk0 : (w.alloc (Obj.cells #[.int .i64 0, .int .i64 0, .string ⟨#[]⟩] 29)).heap[w.heap.size]? = some (Obj.cells #[.int .i64 0, .int .i64 0, .string ⟨#[]⟩] 29) := blk_at _ _ _ rfl
  have hbp : bp < w.heap.size := (Array.getElem?_eq_some_iff.1 hP).1
  have HTB : Hid (Calls Try.prog 40 #[.pointer (some ⟨bp, 0, none⟩)] (w.alloc (Obj.cells #[.int .i64 0, .int .i64 0, .string ⟨#[]⟩] 29)) fun e w' => TbPost (.pointer (some ⟨bp, 0, none⟩)) (w.alloc (Obj.cells #[.int .i64 0, .int .i64 0, .string ⟨#[]⟩] 29)) e w') := table_any _ _
  have HAR : Hid (∀ w, Calls Try.prog 41 #[.string s] w fun e w' => e = .returned (.int .i64 (arL s.toList)) ∧ w' = w) := fun w => implAr_any s w
  have KP : Hid (w.heap[bp]? = some (.cells #[.slice ah h.length ch, .slice aa a.length ca] 52 (0, 0))) := hP
  have HO : Hid (OwnH w B T (.slice ah h.length ch) h) := ho
  have HN : Hid (tblF (.pointer (some ⟨bp, 0, none⟩)) s.data.toList = some (.func (.func 63) #[.pointer (some ⟨bp, 0, none⟩)] #[])) := tblF_some (p := 7) _ (by rw [← toList_data]; exact hg.1)
  have hc1 : ((a.length : Int) != arL s.toList) = false := by rw [bne_eq_false_iff_eq, (plL_of hg.1).2, hg.2.2.1]
  have HME : Hid (∀ W, Below w.heap.size w W → Calls Try.prog 63 #[.pointer (some ⟨bp, 0, none⟩)] W fun e w' => DoP B T bp (.slice aa a.length ca) (primP 7 h a) W e w') := fun W hb => meth_7 B T bp ah ch aa ca h s a W ((hb.block bp hbp).trans hP) ((hr.below hb).mono hb.size) hsm has (ho.keep fun b _ hb' _ => hb.block b (by omega)) hT hBT hg
  clear hP hr hsm has ho hg
  generalize primP 7 h a = r at *
  go_enter Try.func25, Try.ntmps25
  go_wp2_with fail
  refine HTB.out.mono ?_
  rintro e w1 ⟨m, rfl, hm1, hm2, hb1⟩
  have hbw1 : Below w.heap.size w w1 := hb0.trans (hb1.mono hb0.size)
  have kz1 : w1.heap[w.heap.size]? = some (Obj.cells #[.int .i64 0, .int .i64 0, .string ⟨#[]⟩] 29) := blk_keep hk0 hb1 (by simp)
  have kp1 : w1.heap[bp]? = some (.cells #[.slice ah h.length ch, .slice aa a.length ca] 52 (0, 0)) := (hbw1.block bp hbp).trans KP.out
  have p1 : w1.cell? ⟨bp, 1, none⟩ = some (.slice aa a.length ca) := cell_blk (j := 1) kp1 rfl
  have hs1 : w.heap.size < w1.heap.size := (Array.getElem?_eq_some_iff.1 kz1).1
  have hlk := hm1.look_some s hss HN.out
  have KZ1 : Hid (w1.heap[w.heap.size]? = some (Obj.cells #[.int .i64 0, .int .i64 0, .string ⟨#[]⟩] 29)) := kz1
  have HB1 : Hid (Below w.heap.size w w1) := hbw1
  clear hm1 hm2 hb1 hbw1 kz1 kp1 hk0 hb0
  go_wp2_with fail
  go_quiet ((go_at_call 41; refine Calls.quiet_of_same (HAR.out _)))
  go_wp2_with fail
  refine (HME.out _ (below_drewN HB1.out _)).mono ?_
  rintro e w3 hd3
  have he := hd3.1
  subst he
  have kz3 : w3.heap[w.heap.size]? = some (Obj.cells #[.int .i64 0, .int .i64 0, .string ⟨#[]⟩] 29) := (hd3.2.choose_spec.2.2.2.1 w.heap.size (by omega) hs1 (by omega)).trans KZ1.out
  have KZ3 : Hid (w3.heap[w.heap.size]? = some (Obj.cells #[.int .i64 0, .int .i64 0, .string ⟨#[]⟩] 29)) := kz3
  have HD3 : Hid (DoP B T bp (.slice aa a.length ca) r (w1.drewN nq) (.returned (.tuple #[.agg #[.int .i64 r.2.1.k, .int .i64 r.2.1.n, .string r.2.1.s], .int .i64 r.2.2])) w3) := hd3
  have c0 := cell_blk (j := 0) kz3 rfl
  have c1 := cell_blk (j := 1) kz3 rfl
  have c2 := cell_blk (j := 2) kz3 rfl
  have f0 := frozen_blk kz3 0
  have f1 := frozen_blk kz3 1
  have f2 := frozen_blk kz3 2
  clear kz3 hd3 HME p1
  go_wp2
  refine bodyPost_ret (res_ct rfl _ _ w.heap.size _ _ _ rfl (put_blk _ _ _ KZ3.out)) rfl ?_
  exact dop_out HD3.out hT hBT hbp hs1 (below_drewN HB1.out _) _ _ _
set_option maxRecDepth 100000 in
set_option maxHeartbeats 4000000 in
theorem do_8 (B T bp : Nat) (ah : Option Addr) (ch : Nat) (aa : Option Addr) (ca : Nat) (h : List Cel) (s : ByteArray) (a : List Val) (w : World) (hP : w.heap[bp]? = some (.cells #[.slice ah h.length ch, .slice aa a.length ca] 52 (0, 0))) (hr : RowV w w.heap.size aa a) (hsm : ∀ d ∈ h, d.small) (has : ∀ v ∈ a, v.small) (ho : OwnH w B T (.slice ah h.length ch) h) (hT : T ≤ bp) (hBT : B ≤ T) (hla : a.length ≤ 1048576) (hss : s.size ≤ 1048576) (hg : GoodP 8 h s a) : Calls Try.prog 25 #[.pointer (some ⟨bp, 0, none⟩), .string s] w fun e w' => DoP B T bp (.slice aa a.length ca) (primP 8 h a) w e w' := by
  have hb0 : Below w.heap.size w (w.alloc (Obj.cells #[.int .i64 0, .int .i64 0, .string ⟨#[]⟩] 29)) := (Below.refl _ _).alloc (Nat.le_refl _) _
  have hk0 : (w.alloc (Obj.cells #[.int .i64 0, .int .i64 0, .string ⟨#[]⟩] 29)).heap[w.heap.size]? = some (Obj.cells #[.int .i64 0, .int .i64 0, .string ⟨#[]⟩] 29) := blk_at _ _ _ rfl
  have hbp : bp < w.heap.size := (Array.getElem?_eq_some_iff.1 hP).1
  have HTB : Hid (Calls Try.prog 40 #[.pointer (some ⟨bp, 0, none⟩)] (w.alloc (Obj.cells #[.int .i64 0, .int .i64 0, .string ⟨#[]⟩] 29)) fun e w' => TbPost (.pointer (some ⟨bp, 0, none⟩)) (w.alloc (Obj.cells #[.int .i64 0, .int .i64 0, .string ⟨#[]⟩] 29)) e w') := table_any _ _
  have HAR : Hid (∀ w, Calls Try.prog 41 #[.string s] w fun e w' => e = .returned (.int .i64 (arL s.toList)) ∧ w' = w) := fun w => implAr_any s w
  have KP : Hid (w.heap[bp]? = some (.cells #[.slice ah h.length ch, .slice aa a.length ca] 52 (0, 0))) := hP
  have HO : Hid (OwnH w B T (.slice ah h.length ch) h) := ho
  have HN : Hid (tblF (.pointer (some ⟨bp, 0, none⟩)) s.data.toList = some (.func (.func 64) #[.pointer (some ⟨bp, 0, none⟩)] #[])) := tblF_some (p := 8) _ (by rw [← toList_data]; exact hg.1)
  have hc1 : ((a.length : Int) != arL s.toList) = false := by rw [bne_eq_false_iff_eq, (plL_of hg.1).2, hg.2.2.1]
  have HME : Hid (∀ W, Below w.heap.size w W → Calls Try.prog 64 #[.pointer (some ⟨bp, 0, none⟩)] W fun e w' => DoP B T bp (.slice aa a.length ca) (primP 8 h a) W e w') := fun W hb => meth_8 B T bp ah ch aa ca h s a W ((hb.block bp hbp).trans hP) ((hr.below hb).mono hb.size) hsm has (ho.keep fun b _ hb' _ => hb.block b (by omega)) hT hBT hg
  clear hP hr hsm has ho hg
  generalize primP 8 h a = r at *
  go_enter Try.func25, Try.ntmps25
  go_wp2_with fail
  refine HTB.out.mono ?_
  rintro e w1 ⟨m, rfl, hm1, hm2, hb1⟩
  have hbw1 : Below w.heap.size w w1 := hb0.trans (hb1.mono hb0.size)
  have kz1 : w1.heap[w.heap.size]? = some (Obj.cells #[.int .i64 0, .int .i64 0, .string ⟨#[]⟩] 29) := blk_keep hk0 hb1 (by simp)
  have kp1 : w1.heap[bp]? = some (.cells #[.slice ah h.length ch, .slice aa a.length ca] 52 (0, 0)) := (hbw1.block bp hbp).trans KP.out
  have p1 : w1.cell? ⟨bp, 1, none⟩ = some (.slice aa a.length ca) := cell_blk (j := 1) kp1 rfl
  have hs1 : w.heap.size < w1.heap.size := (Array.getElem?_eq_some_iff.1 kz1).1
  have hlk := hm1.look_some s hss HN.out
  have KZ1 : Hid (w1.heap[w.heap.size]? = some (Obj.cells #[.int .i64 0, .int .i64 0, .string ⟨#[]⟩] 29)) := kz1
  have HB1 : Hid (Below w.heap.size w w1) := hbw1
  clear hm1 hm2 hb1 hbw1 kz1 kp1 hk0 hb0
  go_wp2_with fail
  go_quiet ((go_at_call 41; refine Calls.quiet_of_same (HAR.out _)))
  go_wp2_with fail
  refine (HME.out _ (below_drewN HB1.out _)).mono ?_
  rintro e w3 hd3
  have he := hd3.1
  subst he
  have kz3 : w3.heap[w.heap.size]? = some (Obj.cells #[.int .i64 0, .int .i64 0, .string ⟨#[]⟩] 29) := (hd3.2.choose_spec.2.2.2.1 w.heap.size (by omega) hs1 (by omega)).trans KZ1.out
  have KZ3 : Hid (w3.heap[w.heap.size]? = some (Obj.cells #[.int .i64 0, .int .i64 0, .string ⟨#[]⟩] 29)) := kz3
  have HD3 : Hid (DoP B T bp (.slice aa a.length ca) r (w1.drewN nq) (.returned (.tuple #[.agg #[.int .i64 r.2.1.k, .int .i64 r.2.1.n, .string r.2.1.s], .int .i64 r.2.2])) w3) := hd3
  have c0 := cell_blk (j := 0) kz3 rfl
  have c1 := cell_blk (j := 1) kz3 rfl
  have c2 := cell_blk (j := 2) kz3 rfl
  have f0 := frozen_blk kz3 0
  have f1 := frozen_blk kz3 1
  have f2 := frozen_blk kz3 2
  clear kz3 hd3 HME p1
  go_wp2
  refine bodyPost_ret (res_ct rfl _ _ w.heap.size _ _ _ rfl (put_blk _ _ _ KZ3.out)) rfl ?_
  exact dop_out HD3.out hT hBT hbp hs1 (below_drewN HB1.out _) _ _ _
set_option maxRecDepth 100000 in
set_option maxHeartbeats 4000000 in
theorem do_9 (B T bp : Nat) (ah : Option Addr) (ch : Nat) (aa : Option Addr) (ca : Nat) (h : List Cel) (s : ByteArray) (a : List Val) (w : World) (hP : w.heap[bp]? = some (.cells #[.slice ah h.length ch, .slice aa a.length ca] 52 (0, 0))) (hr : RowV w w.heap.size aa a) (hsm : ∀ d ∈ h, d.small) (has : ∀ v ∈ a, v.small) (ho : OwnH w B T (.slice ah h.length ch) h) (hT : T ≤ bp) (hBT : B ≤ T) (hla : a.length ≤ 1048576) (hss : s.size ≤ 1048576) (hg : GoodP 9 h s a) : Calls Try.prog 25 #[.pointer (some ⟨bp, 0, none⟩), .string s] w fun e w' => DoP B T bp (.slice aa a.length ca) (primP 9 h a) w e w' := by
  have hb0 : Below w.heap.size w (w.alloc (Obj.cells #[.int .i64 0, .int .i64 0, .string ⟨#[]⟩] 29)) := (Below.refl _ _).alloc (Nat.le_refl _) _
  have hk0 : (w.alloc (Obj.cells #[.int .i64 0, .int .i64 0, .string ⟨#[]⟩] 29)).heap[w.heap.size]? = some (Obj.cells #[.int .i64 0, .int .i64 0, .string ⟨#[]⟩] 29) := blk_at _ _ _ rfl
  have hbp : bp < w.heap.size := (Array.getElem?_eq_some_iff.1 hP).1
  have HTB : Hid (Calls Try.prog 40 #[.pointer (some ⟨bp, 0, none⟩)] (w.alloc (Obj.cells #[.int .i64 0, .int .i64 0, .string ⟨#[]⟩] 29)) fun e w' => TbPost (.pointer (some ⟨bp, 0, none⟩)) (w.alloc (Obj.cells #[.int .i64 0, .int .i64 0, .string ⟨#[]⟩] 29)) e w') := table_any _ _
  have HAR : Hid (∀ w, Calls Try.prog 41 #[.string s] w fun e w' => e = .returned (.int .i64 (arL s.toList)) ∧ w' = w) := fun w => implAr_any s w
  have KP : Hid (w.heap[bp]? = some (.cells #[.slice ah h.length ch, .slice aa a.length ca] 52 (0, 0))) := hP
  have HO : Hid (OwnH w B T (.slice ah h.length ch) h) := ho
  have HN : Hid (tblF (.pointer (some ⟨bp, 0, none⟩)) s.data.toList = some (.func (.func 65) #[.pointer (some ⟨bp, 0, none⟩)] #[])) := tblF_some (p := 9) _ (by rw [← toList_data]; exact hg.1)
  have hc1 : ((a.length : Int) != arL s.toList) = false := by rw [bne_eq_false_iff_eq, (plL_of hg.1).2, hg.2.2.1]
  have HME : Hid (∀ W, Below w.heap.size w W → Calls Try.prog 65 #[.pointer (some ⟨bp, 0, none⟩)] W fun e w' => DoP B T bp (.slice aa a.length ca) (primP 9 h a) W e w') := fun W hb => meth_9 B T bp ah ch aa ca h s a W ((hb.block bp hbp).trans hP) ((hr.below hb).mono hb.size) hsm has (ho.keep fun b _ hb' _ => hb.block b (by omega)) hT hBT hg
  clear hP hr hsm has ho hg
  generalize primP 9 h a = r at *
  go_enter Try.func25, Try.ntmps25
  go_wp2_with fail
  refine HTB.out.mono ?_
  rintro e w1 ⟨m, rfl, hm1, hm2, hb1⟩
  have hbw1 : Below w.heap.size w w1 := hb0.trans (hb1.mono hb0.size)
  have kz1 : w1.heap[w.heap.size]? = some (Obj.cells #[.int .i64 0, .int .i64 0, .string ⟨#[]⟩] 29) := blk_keep hk0 hb1 (by simp)
  have kp1 : w1.heap[bp]? = some (.cells #[.slice ah h.length ch, .slice aa a.length ca] 52 (0, 0)) := (hbw1.block bp hbp).trans KP.out
  have p1 : w1.cell? ⟨bp, 1, none⟩ = some (.slice aa a.length ca) := cell_blk (j := 1) kp1 rfl
  have hs1 : w.heap.size < w1.heap.size := (Array.getElem?_eq_some_iff.1 kz1).1
  have hlk := hm1.look_some s hss HN.out
  have KZ1 : Hid (w1.heap[w.heap.size]? = some (Obj.cells #[.int .i64 0, .int .i64 0, .string ⟨#[]⟩] 29)) := kz1
  have HB1 : Hid (Below w.heap.size w w1) := hbw1
  clear hm1 hm2 hb1 hbw1 kz1 kp1 hk0 hb0
  go_wp2_with fail
  go_quiet ((go_at_call 41; refine Calls.quiet_of_same (HAR.out _)))
  go_wp2_with fail
  refine (HME.out _ (below_drewN HB1.out _)).mono ?_
  rintro e w3 hd3
  have he := hd3.1
  subst he
  have kz3 : w3.heap[w.heap.size]? = some (Obj.cells #[.int .i64 0, .int .i64 0, .string ⟨#[]⟩] 29) := (hd3.2.choose_spec.2.2.2.1 w.heap.size (by omega) hs1 (by omega)).trans KZ1.out
  have KZ3 : Hid (w3.heap[w.heap.size]? = some (Obj.cells #[.int .i64 0, .int .i64 0, .string ⟨#[]⟩] 29)) := kz3
  have HD3 : Hid (DoP B T bp (.slice aa a.length ca) r (w1.drewN nq) (.returned (.tuple #[.agg #[.int .i64 r.2.1.k, .int .i64 r.2.1.n, .string r.2.1.s], .int .i64 r.2.2])) w3) := hd3
  have c0 := cell_blk (j := 0) kz3 rfl
  have c1 := cell_blk (j := 1) kz3 rfl
  have c2 := cell_blk (j := 2) kz3 rfl
  have f0 := frozen_blk kz3 0
  have f1 := frozen_blk kz3 1
  have f2 := frozen_blk kz3 2
  clear kz3 hd3 HME p1
  go_wp2
  refine bodyPost_ret (res_ct rfl _ _ w.heap.size _ _ _ rfl (put_blk _ _ _ KZ3.out)) rfl ?_
  exact dop_out HD3.out hT hBT hbp hs1 (below_drewN HB1.out _) _ _ _
set_option maxRecDepth 100000 in
set_option maxHeartbeats 4000000 in
theorem do_10 (B T bp : Nat) (ah : Option Addr) (ch : Nat) (aa : Option Addr) (ca : Nat) (h : List Cel) (s : ByteArray) (a : List Val) (w : World) (hP : w.heap[bp]? = some (.cells #[.slice ah h.length ch, .slice aa a.length ca] 52 (0, 0))) (hr : RowV w w.heap.size aa a) (hsm : ∀ d ∈ h, d.small) (has : ∀ v ∈ a, v.small) (ho : OwnH w B T (.slice ah h.length ch) h) (hT : T ≤ bp) (hBT : B ≤ T) (hla : a.length ≤ 1048576) (hss : s.size ≤ 1048576) (hg : GoodP 10 h s a) : Calls Try.prog 25 #[.pointer (some ⟨bp, 0, none⟩), .string s] w fun e w' => DoP B T bp (.slice aa a.length ca) (primP 10 h a) w e w' := by
  have hb0 : Below w.heap.size w (w.alloc (Obj.cells #[.int .i64 0, .int .i64 0, .string ⟨#[]⟩] 29)) := (Below.refl _ _).alloc (Nat.le_refl _) _
  have hk0 : (w.alloc (Obj.cells #[.int .i64 0, .int .i64 0, .string ⟨#[]⟩] 29)).heap[w.heap.size]? = some (Obj.cells #[.int .i64 0, .int .i64 0, .string ⟨#[]⟩] 29) := blk_at _ _ _ rfl
  have hbp : bp < w.heap.size := (Array.getElem?_eq_some_iff.1 hP).1
  have HTB : Hid (Calls Try.prog 40 #[.pointer (some ⟨bp, 0, none⟩)] (w.alloc (Obj.cells #[.int .i64 0, .int .i64 0, .string ⟨#[]⟩] 29)) fun e w' => TbPost (.pointer (some ⟨bp, 0, none⟩)) (w.alloc (Obj.cells #[.int .i64 0, .int .i64 0, .string ⟨#[]⟩] 29)) e w') := table_any _ _
  have HAR : Hid (∀ w, Calls Try.prog 41 #[.string s] w fun e w' => e = .returned (.int .i64 (arL s.toList)) ∧ w' = w) := fun w => implAr_any s w
  have KP : Hid (w.heap[bp]? = some (.cells #[.slice ah h.length ch, .slice aa a.length ca] 52 (0, 0))) := hP
  have HO : Hid (OwnH w B T (.slice ah h.length ch) h) := ho
  have HN : Hid (tblF (.pointer (some ⟨bp, 0, none⟩)) s.data.toList = some (.func (.func 66) #[.pointer (some ⟨bp, 0, none⟩)] #[])) := tblF_some (p := 10) _ (by rw [← toList_data]; exact hg.1)
  have hc1 : ((a.length : Int) != arL s.toList) = false := by rw [bne_eq_false_iff_eq, (plL_of hg.1).2, hg.2.2.1]
  have HME : Hid (∀ W, Below w.heap.size w W → Calls Try.prog 66 #[.pointer (some ⟨bp, 0, none⟩)] W fun e w' => DoP B T bp (.slice aa a.length ca) (primP 10 h a) W e w') := fun W hb => meth_10 B T bp ah ch aa ca h s a W ((hb.block bp hbp).trans hP) ((hr.below hb).mono hb.size) hsm has (ho.keep fun b _ hb' _ => hb.block b (by omega)) hT hBT hg
  clear hP hr hsm has ho hg
  generalize primP 10 h a = r at *
  go_enter Try.func25, Try.ntmps25
  go_wp2_with fail
  refine HTB.out.mono ?_
  rintro e w1 ⟨m, rfl, hm1, hm2, hb1⟩
  have hbw1 : Below w.heap.size w w1 := hb0.trans (hb1.mono hb0.size)
  have kz1 : w1.heap[w.heap.size]? = some (Obj.cells #[.int .i64 0, .int .i64 0, .string ⟨#[]⟩] 29) := blk_keep hk0 hb1 (by simp)
  have kp1 : w1.heap[bp]? = some (.cells #[.slice ah h.length ch, .slice aa a.length ca] 52 (0, 0)) := (hbw1.block bp hbp).trans KP.out
  have p1 : w1.cell? ⟨bp, 1, none⟩ = some (.slice aa a.length ca) := cell_blk (j := 1) kp1 rfl
  have hs1 : w.heap.size < w1.heap.size := (Array.getElem?_eq_some_iff.1 kz1).1
  have hlk := hm1.look_some s hss HN.out
  have KZ1 : Hid (w1.heap[w.heap.size]? = some (Obj.cells #[.int .i64 0, .int .i64 0, .string ⟨#[]⟩] 29)) := kz1
  have HB1 : Hid (Below w.heap.size w w1) := hbw1
  clear hm1 hm2 hb1 hbw1 kz1 kp1 hk0 hb0
  go_wp2_with fail
  go_quiet ((go_at_call 41; refine Calls.quiet_of_same (HAR.out _)))
  go_wp2_with fail
  refine (HME.out _ (below_drewN HB1.out _)).mono ?_
  rintro e w3 hd3
  have he := hd3.1
  subst he
  have kz3 : w3.heap[w.heap.size]? = some (Obj.cells #[.int .i64 0, .int .i64 0, .string ⟨#[]⟩] 29) := (hd3.2.choose_spec.2.2.2.1 w.heap.size (by omega) hs1 (by omega)).trans KZ1.out
  have KZ3 : Hid (w3.heap[w.heap.size]? = some (Obj.cells #[.int .i64 0, .int .i64 0, .string ⟨#[]⟩] 29)) := kz3
  have HD3 : Hid (DoP B T bp (.slice aa a.length ca) r (w1.drewN nq) (.returned (.tuple #[.agg #[.int .i64 r.2.1.k, .int .i64 r.2.1.n, .string r.2.1.s], .int .i64 r.2.2])) w3) := hd3
  have c0 := cell_blk (j := 0) kz3 rfl
  have c1 := cell_blk (j := 1) kz3 rfl
  have c2 := cell_blk (j := 2) kz3 rfl
  have f0 := frozen_blk kz3 0
  have f1 := frozen_blk kz3 1
  have f2 := frozen_blk kz3 2
  clear kz3 hd3 HME p1
  go_wp2
  refine bodyPost_ret (res_ct rfl _ _ w.heap.size _ _ _ rfl (put_blk _ _ _ KZ3.out)) rfl ?_
  exact dop_out HD3.out hT hBT hbp hs1 (below_drewN HB1.out _) _ _ _
set_option maxRecDepth 100000 in
set_option maxHeartbeats 4000000 in
theorem do_11 (B T bp : Nat) (ah : Option Addr) (ch : Nat) (aa : Option Addr) (ca : Nat) (h : List Cel) (s : ByteArray) (a : List Val) (w : World) (hP : w.heap[bp]? = some (.cells #[.slice ah h.length ch, .slice aa a.length ca] 52 (0, 0))) (hr : RowV w w.heap.size aa a) (hsm : ∀ d ∈ h, d.small) (has : ∀ v ∈ a, v.small) (ho : OwnH w B T (.slice ah h.length ch) h) (hT : T ≤ bp) (hBT : B ≤ T) (hla : a.length ≤ 1048576) (hss : s.size ≤ 1048576) (hg : GoodP 11 h s a) : Calls Try.prog 25 #[.pointer (some ⟨bp, 0, none⟩), .string s] w fun e w' => DoP B T bp (.slice aa a.length ca) (primP 11 h a) w e w' := by
  have hb0 : Below w.heap.size w (w.alloc (Obj.cells #[.int .i64 0, .int .i64 0, .string ⟨#[]⟩] 29)) := (Below.refl _ _).alloc (Nat.le_refl _) _
  have hk0 : (w.alloc (Obj.cells #[.int .i64 0, .int .i64 0, .string ⟨#[]⟩] 29)).heap[w.heap.size]? = some (Obj.cells #[.int .i64 0, .int .i64 0, .string ⟨#[]⟩] 29) := blk_at _ _ _ rfl
  have hbp : bp < w.heap.size := (Array.getElem?_eq_some_iff.1 hP).1
  have HTB : Hid (Calls Try.prog 40 #[.pointer (some ⟨bp, 0, none⟩)] (w.alloc (Obj.cells #[.int .i64 0, .int .i64 0, .string ⟨#[]⟩] 29)) fun e w' => TbPost (.pointer (some ⟨bp, 0, none⟩)) (w.alloc (Obj.cells #[.int .i64 0, .int .i64 0, .string ⟨#[]⟩] 29)) e w') := table_any _ _
  have HAR : Hid (∀ w, Calls Try.prog 41 #[.string s] w fun e w' => e = .returned (.int .i64 (arL s.toList)) ∧ w' = w) := fun w => implAr_any s w
  have KP : Hid (w.heap[bp]? = some (.cells #[.slice ah h.length ch, .slice aa a.length ca] 52 (0, 0))) := hP
  have HO : Hid (OwnH w B T (.slice ah h.length ch) h) := ho
  have HN : Hid (tblF (.pointer (some ⟨bp, 0, none⟩)) s.data.toList = some (.func (.func 67) #[.pointer (some ⟨bp, 0, none⟩)] #[])) := tblF_some (p := 11) _ (by rw [← toList_data]; exact hg.1)
  have hc1 : ((a.length : Int) != arL s.toList) = false := by rw [bne_eq_false_iff_eq, (plL_of hg.1).2, hg.2.2.1]
  have HME : Hid (∀ W, Below w.heap.size w W → Calls Try.prog 67 #[.pointer (some ⟨bp, 0, none⟩)] W fun e w' => DoP B T bp (.slice aa a.length ca) (primP 11 h a) W e w') := fun W hb => meth_11 B T bp ah ch aa ca h s a W ((hb.block bp hbp).trans hP) ((hr.below hb).mono hb.size) hsm has (ho.keep fun b _ hb' _ => hb.block b (by omega)) hT hBT hg
  clear hP hr hsm has ho hg
  generalize primP 11 h a = r at *
  go_enter Try.func25, Try.ntmps25
  go_wp2_with fail
  refine HTB.out.mono ?_
  rintro e w1 ⟨m, rfl, hm1, hm2, hb1⟩
  have hbw1 : Below w.heap.size w w1 := hb0.trans (hb1.mono hb0.size)
  have kz1 : w1.heap[w.heap.size]? = some (Obj.cells #[.int .i64 0, .int .i64 0, .string ⟨#[]⟩] 29) := blk_keep hk0 hb1 (by simp)
  have kp1 : w1.heap[bp]? = some (.cells #[.slice ah h.length ch, .slice aa a.length ca] 52 (0, 0)) := (hbw1.block bp hbp).trans KP.out
  have p1 : w1.cell? ⟨bp, 1, none⟩ = some (.slice aa a.length ca) := cell_blk (j := 1) kp1 rfl
  have hs1 : w.heap.size < w1.heap.size := (Array.getElem?_eq_some_iff.1 kz1).1
  have hlk := hm1.look_some s hss HN.out
  have KZ1 : Hid (w1.heap[w.heap.size]? = some (Obj.cells #[.int .i64 0, .int .i64 0, .string ⟨#[]⟩] 29)) := kz1
  have HB1 : Hid (Below w.heap.size w w1) := hbw1
  clear hm1 hm2 hb1 hbw1 kz1 kp1 hk0 hb0
  go_wp2_with fail
  go_quiet ((go_at_call 41; refine Calls.quiet_of_same (HAR.out _)))
  go_wp2_with fail
  refine (HME.out _ (below_drewN HB1.out _)).mono ?_
  rintro e w3 hd3
  have he := hd3.1
  subst he
  have kz3 : w3.heap[w.heap.size]? = some (Obj.cells #[.int .i64 0, .int .i64 0, .string ⟨#[]⟩] 29) := (hd3.2.choose_spec.2.2.2.1 w.heap.size (by omega) hs1 (by omega)).trans KZ1.out
  have KZ3 : Hid (w3.heap[w.heap.size]? = some (Obj.cells #[.int .i64 0, .int .i64 0, .string ⟨#[]⟩] 29)) := kz3
  have HD3 : Hid (DoP B T bp (.slice aa a.length ca) r (w1.drewN nq) (.returned (.tuple #[.agg #[.int .i64 r.2.1.k, .int .i64 r.2.1.n, .string r.2.1.s], .int .i64 r.2.2])) w3) := hd3
  have c0 := cell_blk (j := 0) kz3 rfl
  have c1 := cell_blk (j := 1) kz3 rfl
  have c2 := cell_blk (j := 2) kz3 rfl
  have f0 := frozen_blk kz3 0
  have f1 := frozen_blk kz3 1
  have f2 := frozen_blk kz3 2
  clear kz3 hd3 HME p1
  go_wp2
  refine bodyPost_ret (res_ct rfl _ _ w.heap.size _ _ _ rfl (put_blk _ _ _ KZ3.out)) rfl ?_
  exact dop_out HD3.out hT hBT hbp hs1 (below_drewN HB1.out _) _ _ _
theorem do_all (B T bp : Nat) (ah : Option Addr) (ch : Nat) (aa : Option Addr) (ca : Nat) (h : List Cel) (s : ByteArray) (a : List Val) (w : World) (hP : w.heap[bp]? = some (.cells #[.slice ah h.length ch, .slice aa a.length ca] 52 (0, 0))) (hr : RowV w w.heap.size aa a) (hsm : ∀ d ∈ h, d.small) (has : ∀ v ∈ a, v.small) (ho : OwnH w B T (.slice ah h.length ch) h) (hT : T ≤ bp) (hBT : B ≤ T) (hla : a.length ≤ 1048576) (hss : s.size ≤ 1048576) (r : List Cel × Val × Int) (hH : HeapP h) (hok : ∀ v ∈ a, v.ok h = true) (hR : PrimR h s a r) : Calls Try.prog 25 #[.pointer (some ⟨bp, 0, none⟩), .string s] w fun e w' => DoP B T bp (.slice aa a.length ca) r w e w' := by
  by_cases hw : ∃ p : Nat, wdP[p]? = some s.toList
  · obtain ⟨p, hp⟩ := hw
    by_cases hc : (a.length : Int) = arL s.toList
    · obtain ⟨p, hg, rfl⟩ := is_good hH (plL_of hp).1 hc hok hR
      have hp12 : p < 12 := (List.getElem?_eq_some_iff.1 hg.1).1
      match p, hp12, hg with
      | 0, _, hg => exact do_0 B T bp ah ch aa ca h s a w hP hr hsm has ho hT hBT hla hss hg
      | 1, _, hg => exact do_1 B T bp ah ch aa ca h s a w hP hr hsm has ho hT hBT hla hss hg
      | 2, _, hg => exact do_2 B T bp ah ch aa ca h s a w hP hr hsm has ho hT hBT hla hss hg
      | 3, _, hg => exact do_3 B T bp ah ch aa ca h s a w hP hr hsm has ho hT hBT hla hss hg
      | 4, _, hg => exact do_4 B T bp ah ch aa ca h s a w hP hr hsm has ho hT hBT hla hss hg
      | 5, _, hg => exact do_5 B T bp ah ch aa ca h s a w hP hr hsm has ho hT hBT hla hss hg
      | 6, _, hg => exact do_6 B T bp ah ch aa ca h s a w hP hr hsm has ho hT hBT hla hss hg
      | 7, _, hg => exact do_7 B T bp ah ch aa ca h s a w hP hr hsm has ho hT hBT hla hss hg
      | 8, _, hg => exact do_8 B T bp ah ch aa ca h s a w hP hr hsm has ho hT hBT hla hss hg
      | 9, _, hg => exact do_9 B T bp ah ch aa ca h s a w hP hr hsm has ho hT hBT hla hss hg
      | 10, _, hg => exact do_10 B T bp ah ch aa ca h s a w hP hr hsm has ho hT hBT hla hss hg
      | 11, _, hg => exact do_11 B T bp ah ch aa ca h s a w hP hr hsm has ho hT hBT hla hss hg
    · obtain rfl := no_count hc hR
      exact do_count B T bp ah ch aa ca h s a w hP hr hsm has ho hT hBT hla hss p hp hc
  · have hn : ∀ p : Nat, wdP[p]? ≠ some s.toList := fun p hp => hw ⟨p, hp⟩
    have hr' : r = (h, zv, 2) := by
      rcases hR with ⟨p, hg, _⟩ | ⟨_, e⟩
      · exact absurd hg.1 (hn p)
      · exact e
    subst hr'
    exact do_none B T bp ah ch aa ca h s a w hP hr hsm has ho hT hBT hla hss hn
end Go.Proofs.Ytngelfohpkpekaa
