/- The program's do. -/
import Derived.Test.YtngelfohpkpekaaPif
import Derived.Deep.QuietTactic
import Derived.BigQuiet
set_option linter.unusedVariables false
namespace Go.Proofs.Ytngelfohpkpekaa
open Go.ChangeShapes Go.WideShapes Go.ChangeAt Go.RowKit
theorem toList_data (s : ByteArray) : s.toList = s.data.toList := ByteArray.toList_eq s
set_option maxRecDepth 100000 in
set_option maxHeartbeats 4000000 in
theorem do_none (B T bp : Nat) (ah : Option Addr) (ch : Nat) (aa : Option Addr) (ca : Nat) (h : List Cel) (s : ByteArray) (a : List Val) (w : World) (hP : w.heap[bp]? = some (.cells #[.slice ah h.length ch, .slice aa a.length ca] 52 (0, 0))) (hr : RowV w w.heap.size aa a) (hsm : ∀ d ∈ h, d.small) (has : ∀ v ∈ a, v.small) (ho : OwnH w B T (.slice ah h.length ch) h) (hT : T ≤ bp) (hBT : B ≤ T) (hla : a.length ≤ 1048576) (hss : s.size ≤ 1048576) (hn : ∀ p : Nat, wdP[p]? ≠ some s.toList) : Calls Try.prog 25 #[.pointer (some ⟨bp, 0, none⟩), .string s] w fun e w' => DoP B T bp (.slice aa a.length ca) (h, zv, 2) w e w' := by
  have hb0 : Below w.heap.size w (w.alloc (Obj.cells #[.int .i64 0, .int .i64 0, .string ⟨#[]⟩] 29)) := (Below.refl _ _).alloc (Nat.le_refl _) _
  have hk0 : (w.alloc (Obj.cells #[.int .i64 0, .int .i64 0, .string ⟨#[]⟩] 29)).heap[w.heap.size]? = some (Obj.cells #[.int .i64 0, .int .i64 0, .string ⟨#[]⟩] 29) := blk_at _ _ _ rfl
  have hbp : bp < w.heap.size := (Array.getElem?_eq_some_iff.1 hP).1
  have HTB : Hid (Calls Try.prog 40 #[.pointer (some ⟨bp, 0, none⟩)] (w.alloc (Obj.cells #[.int .i64 0, .int .i64 0, .string ⟨#[]⟩] 29)) fun e w' => TbPost (.pointer (some ⟨bp, 0, none⟩)) (w.alloc (Obj.cells #[.int .i64 0, .int .i64 0, .string ⟨#[]⟩] 29)) e w') := table_any _ _
  have HAR : Hid (∀ w, Calls Try.prog 41 #[.string s] w fun e w' => e = .returned (.int .i64 (arL s.toList)) ∧ w' = w) := fun w => implAr_any s w
  have KP : Hid (w.heap[bp]? = some (.cells #[.slice ah h.length ch, .slice aa a.length ca] 52 (0, 0))) := hP
  have HO : Hid (OwnH w B T (.slice ah h.length ch) h) := ho
  have HN : Hid (tblF (.pointer (some ⟨bp, 0, none⟩)) s.data.toList = none) := tblF_none _ (fun p => by rw [← toList_data]; exact hn p)
  clear hP hr hsm has ho hn
  go_enter Try.func25, Try.ntmps25
  go_wp2_with fail
  refine HTB.out.mono ?_
  rintro e w1 ⟨m, rfl, hm1, hm2, hb1⟩
  have hbw1 : Below w.heap.size w w1 := hb0.trans (hb1.mono hb0.size)
  have kz1 : w1.heap[w.heap.size]? = some (Obj.cells #[.int .i64 0, .int .i64 0, .string ⟨#[]⟩] 29) := blk_keep hk0 hb1 (by simp)
  have kp1 : w1.heap[bp]? = some (.cells #[.slice ah h.length ch, .slice aa a.length ca] 52 (0, 0)) := (hbw1.block bp hbp).trans KP.out
  have p1 : w1.cell? ⟨bp, 1, none⟩ = some (.slice aa a.length ca) := cell_blk (j := 1) kp1 rfl
  have hs1 : w.heap.size < w1.heap.size := (Array.getElem?_eq_some_iff.1 kz1).1
  have hlk := hm1.look_none s hss HN.out
  have KZ1 : Hid (w1.heap[w.heap.size]? = some (Obj.cells #[.int .i64 0, .int .i64 0, .string ⟨#[]⟩] 29)) := kz1
  have HB1 : Hid (Below w.heap.size w w1) := hbw1
  have c0 := cell_blk (j := 0) kz1 rfl
  have c1 := cell_blk (j := 1) kz1 rfl
  have c2 := cell_blk (j := 2) kz1 rfl
  have f0 := frozen_blk kz1 0
  have f1 := frozen_blk kz1 1
  have f2 := frozen_blk kz1 2
  clear hm1 hm2 hb1 hbw1 kz1 kp1 hk0 hb0
  go_wp2_with fail
  go_quiet (fail)
  go_wp2
  refine bodyPost_ret (res_ct rfl _ _ w.heap.size _ _ _ rfl (put_blk _ _ _ KZ1.out)) rfl ?_
  refine dop_of_vc (r := (h, zv, 2)) KP.out HO.out hT hBT rfl ⟨rfl, ?_⟩
  first
    | exact put_below (below_drewN HB1.out _) (Nat.le_refl _) _ _ _
    | exact below_drewN (put_below HB1.out (Nat.le_refl _) _ _ _) _
    | exact below_drewN (put_below (below_drewN HB1.out _) (Nat.le_refl _) _ _ _) _
set_option maxRecDepth 100000 in
set_option maxHeartbeats 4000000 in
theorem do_count (B T bp : Nat) (ah : Option Addr) (ch : Nat) (aa : Option Addr) (ca : Nat) (h : List Cel) (s : ByteArray) (a : List Val) (w : World) (hP : w.heap[bp]? = some (.cells #[.slice ah h.length ch, .slice aa a.length ca] 52 (0, 0))) (hr : RowV w w.heap.size aa a) (hsm : ∀ d ∈ h, d.small) (has : ∀ v ∈ a, v.small) (ho : OwnH w B T (.slice ah h.length ch) h) (hT : T ≤ bp) (hBT : B ≤ T) (hla : a.length ≤ 1048576) (hss : s.size ≤ 1048576) (p : Nat) (hp : wdP[p]? = some s.toList) (hc : (a.length : Int) ≠ arL s.toList) : Calls Try.prog 25 #[.pointer (some ⟨bp, 0, none⟩), .string s] w fun e w' => DoP B T bp (.slice aa a.length ca) (h, zv, 2) w e w' := by
  have hb0 : Below w.heap.size w (w.alloc (Obj.cells #[.int .i64 0, .int .i64 0, .string ⟨#[]⟩] 29)) := (Below.refl _ _).alloc (Nat.le_refl _) _
  have hk0 : (w.alloc (Obj.cells #[.int .i64 0, .int .i64 0, .string ⟨#[]⟩] 29)).heap[w.heap.size]? = some (Obj.cells #[.int .i64 0, .int .i64 0, .string ⟨#[]⟩] 29) := blk_at _ _ _ rfl
  have hbp : bp < w.heap.size := (Array.getElem?_eq_some_iff.1 hP).1
  have HTB : Hid (Calls Try.prog 40 #[.pointer (some ⟨bp, 0, none⟩)] (w.alloc (Obj.cells #[.int .i64 0, .int .i64 0, .string ⟨#[]⟩] 29)) fun e w' => TbPost (.pointer (some ⟨bp, 0, none⟩)) (w.alloc (Obj.cells #[.int .i64 0, .int .i64 0, .string ⟨#[]⟩] 29)) e w') := table_any _ _
  have HAR : Hid (∀ w, Calls Try.prog 41 #[.string s] w fun e w' => e = .returned (.int .i64 (arL s.toList)) ∧ w' = w) := fun w => implAr_any s w
  have KP : Hid (w.heap[bp]? = some (.cells #[.slice ah h.length ch, .slice aa a.length ca] 52 (0, 0))) := hP
  have HO : Hid (OwnH w B T (.slice ah h.length ch) h) := ho
  have HN : Hid (tblF (.pointer (some ⟨bp, 0, none⟩)) s.data.toList = some (mvF (.pointer (some ⟨bp, 0, none⟩)) p)) := tblF_some _ (by rw [← toList_data]; exact hp)
  have hc1 : ((a.length : Int) != arL s.toList) = true := by rw [bne_iff_ne]; exact hc
  clear hP hr hsm has ho hp hc
  generalize mvF (.pointer (some ⟨bp, 0, none⟩)) p = mv at *
  go_enter Try.func25, Try.ntmps25
  go_wp2_with fail
  refine HTB.out.mono ?_
  rintro e w1 ⟨m, rfl, hm1, hm2, hb1⟩
  have hbw1 : Below w.heap.size w w1 := hb0.trans (hb1.mono hb0.size)
  have kz1 : w1.heap[w.heap.size]? = some (Obj.cells #[.int .i64 0, .int .i64 0, .string ⟨#[]⟩] 29) := blk_keep hk0 hb1 (by simp)
  have kp1 : w1.heap[bp]? = some (.cells #[.slice ah h.length ch, .slice aa a.length ca] 52 (0, 0)) := (hbw1.block bp hbp).trans KP.out
  have p1 : w1.cell? ⟨bp, 1, none⟩ = some (.slice aa a.length ca) := cell_blk (j := 1) kp1 rfl
  have hs1 : w.heap.size < w1.heap.size := (Array.getElem?_eq_some_iff.1 kz1).1
  have hlk := hm1.look_some s hss HN.out
  have KZ1 : Hid (w1.heap[w.heap.size]? = some (Obj.cells #[.int .i64 0, .int .i64 0, .string ⟨#[]⟩] 29)) := kz1
  have HB1 : Hid (Below w.heap.size w w1) := hbw1
  have c0 := cell_blk (j := 0) kz1 rfl
  have c1 := cell_blk (j := 1) kz1 rfl
  have c2 := cell_blk (j := 2) kz1 rfl
  have f0 := frozen_blk kz1 0
  have f1 := frozen_blk kz1 1
  have f2 := frozen_blk kz1 2
  clear hm1 hm2 hb1 hbw1 kz1 kp1 hk0 hb0
  go_wp2_with fail
  go_quiet ((go_at_call 41; refine Calls.quiet_of_same (HAR.out _)))
  go_wp2
  refine bodyPost_ret (res_ct rfl _ _ w.heap.size _ _ _ rfl (put_blk _ _ _ KZ1.out)) rfl ?_
  refine dop_of_vc (r := (h, zv, 2)) KP.out HO.out hT hBT rfl ⟨rfl, ?_⟩
  first
    | exact put_below (below_drewN HB1.out _) (Nat.le_refl _) _ _ _
    | exact below_drewN (put_below HB1.out (Nat.le_refl _) _ _ _) _
    | exact below_drewN (put_below (below_drewN HB1.out _) (Nat.le_refl _) _ _ _) _
end Go.Proofs.Ytngelfohpkpekaa
