/- The law FnExactLint walked: for whatever source and names the program and the model tell the same notes, the arguments stay as they were, and the answer owns its memory. -/
import Derived.Test.YtamjofdgikifnaaGreatLni
import Derived.Test.YtamjofdgikifnaaGreatLnu
import Derived.Test.YtamjofdgikifnaaGreatCow
set_option linter.unusedVariables false
namespace Go.Proofs.YtamjofdgikifnaaGreat
open Go.ChangeShapes Go.WideShapes Go.ChangeAt Go.RowKit
theorem Srx.lk_of {y : Srx} (h : y.bulk ≤ 1048576) : ∀ u ∈ y.all, (Fr.Lk u.prog.nodes).length ≤ 8388608 := fun u hu => by
 have hf : (flat u.prog.nodes).length ≤ 1048576 := (List.mem_append.1 hu).elim ((Srx.flat_of h).1 u) ((Srx.flat_of h).2 u)
 have hb : bulkN u.prog.nodes ≤ 1048576 := by
  unfold Srx.bulk at h
  have h3 : u.bulk = u.name.size + bulkN u.prog.nodes := rfl
  rcases List.mem_append.1 hu with hm | hm
  ·have h1 := bulkOf_mem Dfn.bulk hm
   omega
  ·have h1 := bulkOf_mem Dfn.bulk hm
   omega
 have hs : ∀ l : List Nod, (l.flatMap fun d => d.s :: d.names).length ≤ 2 * bulkN l := fun l => by
  induction l with
  | nil => simp
  | cons d l ih =>
   have h4 : bulkN (d :: l) = 1 + d.bulk + bulkN l := rfl
   have h8 : d.bulk = d.s.size + bulkSN d.names + d.args.length := rfl
   have h9 : ∀ m : List ByteArray, m.length ≤ bulkSN m := fun m => by
    induction m with
    | nil => simp
    | cons x t ih2 =>
     have h5 : bulkSN (x :: t) = 1 + x.size + bulkSN t := rfl
     simp only [List.length_cons]
     omega
   have := h9 d.names
   simp only [List.flatMap_cons, List.length_append, List.length_cons]
   omega
 rw [Fr.Lk_len]
 have := hs u.prog.nodes
 omega
theorem lintL_ok {x : Srx} {gv : List ByteArray} (hs : x.small) : (lintL x gv).length ≤ 40000 ∧ ∀ d ∈ lintL x gv, Nte.small d := by
 obtain ⟨_, _, _, _, ⟨h4, h4'⟩, h5, h5'⟩ := hs
 have hsm : ∀ d ∈ x.all, Dfn.small d := fun d hd => (List.mem_append.1 hd).elim (h4' d) (h5' d)
 unfold lintL
 cases hx : x.ok
 ·simp
 ·obtain ⟨ha, hd, _, hok⟩ := ok_all hx
  have hf := frA_len hok
  have ht := stA_len hok
  have hn : x.dns.length = x.defs.length := List.length_map ..
  simp only [if_true]
  unfold lintY
  refine ⟨?_, fun d hd => ?_⟩
  ·have h1 := apR_len (x.dns ++ gv) (frA x.all)
   have h2 := apR_len (x.exps ++ frA x.all) x.dns
   have h3 := apR_len x.dns (stA x.all)
   simp only [List.length_append, List.length_map]
   omega
  ·rcases List.mem_append.1 hd with h | h
   ·obtain ⟨s, hm, rfl⟩ := List.mem_map.1 h
    exact ⟨by show i64B 1; unfold i64B; omega, frA_sm hok hsm s (apR_mem hm)⟩
   ·rcases List.mem_append.1 h with h | h
    ·obtain ⟨s, hm, rfl⟩ := List.mem_map.1 h
     obtain ⟨u, hu, rfl⟩ := List.mem_map.1 (apR_mem hm)
     exact ⟨by show i64B 2; unfold i64B; omega, (h4' u hu).1⟩
    ·obtain ⟨s, hm, rfl⟩ := List.mem_map.1 h
     exact ⟨by show i64B 3; unfold i64B; omega, stA_sm hsm s (apR_mem hm)⟩
namespace fnExactLint
set_option maxRecDepth 100000 in
set_option maxHeartbeats 4000000 in
theorem walk (x : Srx) (gv : List ByteArray) (a1 a2 a3 a4 a5 ag : Option Addr) (ka1 ka2 ka3 ka4 ka5 kg0 : Nat) (w : World) (hwx : x.wf) (hwg : gv.length ≤ 9223372036854775807 ∧ ∀ d ∈ gv, wfS d) (hr : SrxRows w (fun b => b < w.heap.size) a1 a2 a3 a4 a5 ka1 ka2 ka3 ka4 ka5 x) (hq : rgS.Row w (fun b => b < w.heap.size) ag gv) :
  Calls Tryz.prog 3 #[.agg #[.string x.name, .slice a1 x.imps.length ka1, .slice a2 x.exps.length ka2, .slice a3 x.types.length ka3, .slice a4 x.defs.length ka4, .slice a5 x.convs.length ka5], .slice ag gv.length kg0] w fun e w' => Ans w (.bool true) e w' := by
 have HR : Hid (SrxRows w (fun b => b < w.heap.size) a1 a2 a3 a4 a5 ka1 ka2 ka3 ka4 ka5 x) := hr
 have HQ : Hid (rgS.Row w (fun b => b < w.heap.size) ag gv) := hq
 have nowx : Hid (∀ w2, Below w.heap.size w w2 → SrxRows w2 (fun b => b < w2.heap.size) a1 a2 a3 a4 a5 ka1 ka2 ka3 ka4 ka5 x) := fun w2 h2 => HR.out.keep fun b hb => ⟨Nat.lt_of_lt_of_le hb h2.size, h2.block b hb⟩
 have nowg : Hid (∀ w2, Below w.heap.size w w2 → rgS.Row w2 (fun b => b < w2.heap.size) ag gv) := fun w2 h2 => HQ.out.keep fun b hb => ⟨Nat.lt_of_lt_of_le hb h2.size, h2.block b hb⟩
 have HZ1 : Hid (∀ w1, Below w.heap.size w w1 → Calls Tryz.prog 5 #[.agg #[.string x.name, .slice a1 x.imps.length ka1, .slice a2 x.exps.length ka2, .slice a3 x.types.length ka3, .slice a4 x.defs.length ka4, .slice a5 x.convs.length ka5], .int .i64 1048576] w1 fun e w' => Ans w1 (.int .i64 (leftOf 1048576 x.bulk)) e w') := fun w1 h => szE_Src x a1 a2 a3 a4 a5 ka1 ka2 ka3 ka4 ka5 1048576 w1 (by omega) hwx (nowx.out w1 h)
 have HZ2 : Hid (∀ (q : Nat) w1, q ≤ 1048576 → Below w.heap.size w w1 → Calls Tryz.prog 6 #[.slice ag gv.length kg0, .int .i64 q] w1 fun e w' => Ans w1 (.int .i64 (leftOf q (bulkS gv))) e w') := fun q w1 hq h => sz_string ag gv kg0 q w1 hq hwg.1 (nowg.out w1 h) hwg.2
 obtain ⟨w0, hw0⟩ : ∃ w0, w0 = w.alloc (Obj.cells #[.string x.name, .slice a1 x.imps.length ka1, .slice a2 x.exps.length ka2, .slice a3 x.types.length ka3, .slice a4 x.defs.length ka4, .slice a5 x.convs.length ka5] 26) := ⟨_, rfl⟩
 have HW : Hid (w0 = _) := hw0
 have HBw0 : Hid (Below w.heap.size w w0) := by show Below _ _ _; rw [hw0]; exact (Below.refl _ _).alloc (Nat.le_refl _) _
 have KAw0 : Hid (w0.heap[w.heap.size]? = some (Obj.cells #[.string x.name, .slice a1 x.imps.length ka1, .slice a2 x.exps.length ka2, .slice a3 x.types.length ka3, .slice a4 x.defs.length ka4, .slice a5 x.convs.length ka5] 26)) := by show _ = _; rw [hw0]; exact blk_at _ _ _ rfl
 have HSZ : Hid (w.heap.size + 1 ≤ w0.heap.size) := (Array.getElem?_eq_some_iff.1 KAw0.out).1
 clear hr hq hw0
 have p0 := cell_blk (j := 0) KAw0.out rfl
 have p1 := cell_blk (j := 1) KAw0.out rfl
 have p2 := cell_blk (j := 2) KAw0.out rfl
 have p3 := cell_blk (j := 3) KAw0.out rfl
 have p4 := cell_blk (j := 4) KAw0.out rfl
 have p5 := cell_blk (j := 5) KAw0.out rfl
 rw [HW.out] at p0
 rw [HW.out] at p1
 rw [HW.out] at p2
 rw [HW.out] at p3
 rw [HW.out] at p4
 rw [HW.out] at p5
 by_cases hbx : 1048576 < x.bulk
 ·rw [leftOf_neg hbx] at HZ1
  clear HZ2 hwx hwg
  go_enter Tryz.func3, Tryz.ntmps3
  go_wp2_with fail
  rw [← HW.out]
  refine (HZ1.out _ HBw0.out).mono ?_
  rintro e w1 ⟨rfl, hb1⟩
  have HB1 : Hid (Below w.heap.size w w1) := HBw0.out.trans (hb1.mono HBw0.out.size)
  clear hb1 p0 p1 p2 p3 p4 p5
  go_wp2
  go_ret
  exact ⟨rfl, HB1.out⟩
 ·have hbx' : x.bulk ≤ 1048576 := by omega
  have hsx := Srx.small_of hwx hbx'
  have hfx := Srx.flat_of hbx'
  have hlx := Srx.lk_of hbx'
  rw [leftOf_nat hbx] at HZ1
  obtain ⟨q, hqq⟩ : ∃ q, q = 1048576 - x.bulk := ⟨_, rfl⟩
  have hq1 : q ≤ 1048576 := by omega
  rw [← hqq] at HZ1
  have HQQ : Hid (q = 1048576 - x.bulk) := hqq
  clear hqq
  have hqn : decide ((q : Int) < 0) = false := by simp
  go_enter Tryz.func3, Tryz.ntmps3
  go_wp2_with fail
  rw [← HW.out]
  refine (HZ1.out _ HBw0.out).mono ?_
  rintro e w1 ⟨rfl, hb1⟩
  clear p0 p1 p2 p3 p4 p5
  have hsw1 : w0.heap.size ≤ w1.heap.size := hb1.size
  have HBw1 : Hid (Below w.heap.size w w1) := HBw0.out.trans (hb1.mono HBw0.out.size)
  have KAw1 : Hid (w1.heap[w.heap.size]? = some (Obj.cells #[.string x.name, .slice a1 x.imps.length ka1, .slice a2 x.exps.length ka2, .slice a3 x.types.length ka3, .slice a4 x.defs.length ka4, .slice a5 x.convs.length ka5] 26)) := blk_keep KAw0.out hb1 (Array.getElem?_eq_some_iff.1 KAw0.out).1
  clear KAw0 hb1 HBw0
  by_cases hby : q < bulkS gv
  ·have HZ2' : Hid (∀ w1, Below w.heap.size w w1 → Calls Tryz.prog 6 #[.slice ag gv.length kg0, .int .i64 q] w1 fun e w' => Ans w1 (.int .i64 (-1)) e w') := fun w1 h => by have := HZ2.out q w1 hq1 h; rw [leftOf_neg hby] at this; exact this
   clear HZ2 hwx hwg hsx hfx hlx
   go_wp2_with fail
   refine (HZ2'.out _ HBw1.out).mono ?_
   rintro e w2 ⟨rfl, hb2⟩
   have HB2 : Hid (Below w.heap.size w w2) := HBw1.out.trans (hb2.mono HBw1.out.size)
   clear hb2
   go_wp2
   go_ret
   exact ⟨rfl, HB2.out⟩
  ·have hby' : bulkS gv ≤ 1048576 := by omega
   have hsg := smrow_string hwg.1 hwg.2 hby'
   have HZ2' : Hid (∀ w1, Below w.heap.size w w1 → Calls Tryz.prog 6 #[.slice ag gv.length kg0, .int .i64 q] w1 fun e w' => Ans w1 (.int .i64 ((q - bulkS gv : Nat) : Int)) e w') := fun w1 h => by have := HZ2.out q w1 hq1 h; rw [leftOf_nat hby] at this; exact this
   have hkm : 1 + c_SrcE x + cnt c_string gv ≤ 9000000 := by
    have h1 := cSrcE_le x
    have h2 : cnt c_string gv ≤ 6 * bulkS gv := cnt_le (fun x => by show 1 ≤ _; omega) gv
    have h3 := HQQ.out
    omega
   obtain ⟨hLl, hLs⟩ := lintL_ok (gv := gv) hsx
   have HTX : Hid (∀ W, Below w.heap.size w W → Calls Tryz.prog 8 #[.agg #[.string x.name, .slice a1 x.imps.length ka1, .slice a2 x.exps.length ka2, .slice a3 x.types.length ka3, .slice a4 x.defs.length ka4, .slice a5 x.convs.length ka5]] W fun e w' => MadX x W e w') := fun W h => (tuE_Src x a1 a2 a3 a4 a5 ka1 ka2 ka3 ka4 ka5 W hsx (nowx.out W h)).mono fun _ _ => madX_of
   have HTV : Hid (∀ W, Below w.heap.size w W → Calls Tryz.prog 9 #[.slice ag gv.length kg0] W fun e w' => MadeU rgS gv W e w') := fun W h => tu_string ag gv kg0 W hsg.1 hsg.2 (nowg.out W h)
   have HSP : Hid (∀ r1 r2 r3 r4 r5 kr1 kr2 kr3 kr4 kr5 W g kk, SrxRows W (fun b => b < W.heap.size) r1 r2 r3 r4 r5 kr1 kr2 kr3 kr4 kr5 x → RowS W W.heap.size g gv → Calls Tryz.prog 7 #[.agg #[.string x.name, .slice r1 x.imps.length kr1, .slice r2 x.exps.length kr2, .slice r3 x.types.length kr3, .slice r4 x.defs.length kr4, .slice r5 x.convs.length kr5], .slice g gv.length kk] W fun e w' => TellN (lintL x gv) W e w') := fun r1 r2 r3 r4 r5 kr1 kr2 kr3 kr4 kr5 W g kk h1 h2 => specLint_any x r1 r2 r3 r4 r5 g kr1 kr2 kr3 kr4 kr5 kk gv W hsx h1 hfx.1 hfx.2 hsg.1 h2
   have HIM : Hid (∀ r1 r2 r3 r4 r5 kr1 kr2 kr3 kr4 kr5 W g kk, SrxRows W (fun b => b < W.heap.size) r1 r2 r3 r4 r5 kr1 kr2 kr3 kr4 kr5 x → RowS W W.heap.size g gv → Calls Tryz.prog 10 #[.agg #[.string x.name, .slice r1 x.imps.length kr1, .slice r2 x.exps.length kr2, .slice r3 x.types.length kr3, .slice r4 x.defs.length kr4, .slice r5 x.convs.length kr5], .slice g gv.length kk] W fun e w' => TellN (lintL x gv) W e w') := fun r1 r2 r3 r4 r5 kr1 kr2 kr3 kr4 kr5 W g kk h1 h2 => implLint_any x r1 r2 r3 r4 r5 g kr1 kr2 kr3 kr4 kr5 kk gv W hsx h1 hsg.1 hsg.2 h2 hlx
   have HEX : Hid (∀ r1 r2 r3 r4 r5 kr1 kr2 kr3 kr4 kr5 s1 s2 s3 s4 s5 ks1 ks2 ks3 ks4 ks5 W, SrxRows W (fun b => b < W.heap.size) r1 r2 r3 r4 r5 kr1 kr2 kr3 kr4 kr5 x → SrxRows W (fun b => b < W.heap.size) s1 s2 s3 s4 s5 ks1 ks2 ks3 ks4 ks5 x → Calls Tryz.prog 12 #[.agg #[.string x.name, .slice r1 x.imps.length kr1, .slice r2 x.exps.length kr2, .slice r3 x.types.length kr3, .slice r4 x.defs.length kr4, .slice r5 x.convs.length kr5], .agg #[.string x.name, .slice s1 x.imps.length ks1, .slice s2 x.exps.length ks2, .slice s3 x.types.length ks3, .slice s4 x.defs.length ks4, .slice s5 x.convs.length ks5]] W fun e w' => Ans W (.bool true) e w') := fun r1 r2 r3 r4 r5 kr1 kr2 kr3 kr4 kr5 s1 s2 s3 s4 s5 ks1 ks2 ks3 ks4 ks5 W h1 h2 => eqE_Src x r1 r2 r3 r4 r5 kr1 kr2 kr3 kr4 kr5 s1 s2 s3 s4 s5 ks1 ks2 ks3 ks4 ks5 W hsx h1 h2
   have HEV : Hid (∀ W b b' cb cb', RowS W W.heap.size b gv → RowS W W.heap.size b' gv → Calls Tryz.prog 13 #[.slice b gv.length cb, .slice b' gv.length cb'] W fun e w' => Ans W (.bool true) e w') := fun W b b' cb cb' h1 h2 => eqStringS_same b b' gv cb cb' W hsg.1 h1 h2
   have HMX : Hid (∀ B C r1 r2 r3 r4 r5 kr1 kr2 kr3 kr4 kr5 W, SrxRows W (fun b => B ≤ b ∧ b < C ∧ Unf W b) r1 r2 r3 r4 r5 kr1 kr2 kr3 kr4 kr5 x → C ≤ W.heap.size → Calls Tryz.prog 14 #[.agg #[.string x.name, .slice r1 x.imps.length kr1, .slice r2 x.exps.length kr2, .slice r3 x.types.length kr3, .slice r4 x.defs.length kr4, .slice r5 x.convs.length kr5], .int .i64 1] W fun e w' => Mk B C W 1 (c_SrcE x) e w') := fun B C r1 r2 r3 r4 r5 kr1 kr2 kr3 kr4 kr5 W h hC => markSrc_any B C x r1 r2 r3 r4 r5 kr1 kr2 kr3 kr4 kr5 1 W hsx (fitX_of h) hC (Nat.le_refl _) (by omega)
   have HMV : Hid (∀ B C g W, rgS.Row W (fun b => B ≤ b ∧ b < C ∧ Unf W b) (some ⟨g, 0, none⟩) gv → Calls Tryz.prog 15 #[.slice (some ⟨g, 0, none⟩) gv.length gv.length, .int .i64 ((1 + c_SrcE x : Nat) : Int)] W fun e w' => Mk B C W (1 + c_SrcE x) (cnt c_string gv) e w') := fun B C g W h => mark_string B C _ gv gv.length (1 + c_SrcE x) W (fits_string _ h) hsg.1 (by omega) hkm
   obtain ⟨L, hL⟩ : ∃ L, lintL x gv = L := ⟨_, rfl⟩
   rw [hL] at HSP HIM hLl hLs
   have HEN : Hid (∀ W B B' b b' cb cb', OwnN W B (.slice b L.length cb) L → OwnN W B' (.slice b' L.length cb') L → Calls Tryz.prog 11 #[.slice b L.length cb, .slice b' L.length cb'] W fun e w' => Ans W (.bool true) e w') := fun W B B' b b' cb cb' h1 h2 => eq_Note B B' b b' L cb cb' W (by omega) hLs h1 h2
   clear hL HZ2 hwx hwg hsx hfx hlx HZ1 hLs hsg
   generalize hq2 : q - bulkS gv = q' at *
   generalize hcx : c_SrcE x = cx at *
   generalize hcy : cnt c_string gv = cy at *
   clear hq2 hcx hcy HQQ hbx hbx' hby hby' hq1 HR HQ nowx nowg
   have hqn2 : decide ((q' : Int) < 0) = false := by simp
   go_wp2_with fail
   refine (HZ2'.out _ HBw1.out).mono ?_
   rintro e w2 ⟨rfl, hb2⟩
   clear HZ2'
   have hsw2 : w1.heap.size ≤ w2.heap.size := hb2.size
   have HBw2 : Hid (Below w.heap.size w w2) := HBw1.out.trans (hb2.mono HBw1.out.size)
   have KAw2 : Hid (w2.heap[w.heap.size]? = some (Obj.cells #[.string x.name, .slice a1 x.imps.length ka1, .slice a2 x.exps.length ka2, .slice a3 x.types.length ka3, .slice a4 x.defs.length ka4, .slice a5 x.convs.length ka5] 26)) := blk_keep KAw1.out hb2 (Array.getElem?_eq_some_iff.1 KAw1.out).1
   clear KAw1 hb2 HBw1
   have z0 := cell_blk (j := 0) KAw2.out rfl
   have z1 := cell_blk (j := 1) KAw2.out rfl
   have z2 := cell_blk (j := 2) KAw2.out rfl
   have z3 := cell_blk (j := 3) KAw2.out rfl
   have z4 := cell_blk (j := 4) KAw2.out rfl
   have z5 := cell_blk (j := 5) KAw2.out rfl
   go_wp2_with fail
   refine (HTX.out _ HBw2.out).mono ?_
   rintro e w3 ⟨p1, p2, p3, p4, p5, kp1, kp2, kp3, kp4, kp5, rfl, hrr1, hbw3⟩
   have hbBw3 := HBw2.out.trans (hbw3.mono HBw2.out.size)
   clear z0 z1 z2 z3 z4 z5
   go_wp2_with fail
   refine (HTV.out _ hbBw3).mono ?_
   rintro e w4 ⟨ggw4, rfl, hrr2, hbw4⟩
   have hcw4 : Below w2.heap.size w2 w4 := hbw3.trans (hbw4.mono hbw3.size)
   go_wp2_with fail
   refine (HSP.out _ _ _ _ _ _ _ _ _ _ _ _ _ (hrr1.keep fun b h => ⟨Nat.lt_of_lt_of_le h.2.1 hbw4.size, hbw4.block b h.2.1⟩) (rowS_iff.1 (hrr2.keep fun b h => ⟨h.2.1, rfl⟩))).mono ?_
   rintro e w5 ⟨vw5, rfl, how5, hbw5⟩
   have hcw5 : Below w2.heap.size w2 w5 := hcw4.trans (hbw5.mono hcw4.size)
   obtain ⟨ow5, kw5, rfl⟩ := OwnN.slice how5
   have hs2w5 : w2.heap.size ≤ w4.heap.size := hcw4.size
   clear hrr1 hrr2 hbw3 hbw4 hbw5 hcw4 hbBw3
   have hsw5 : w2.heap.size ≤ w5.heap.size := hcw5.size
   have HBw5 : Hid (Below w.heap.size w w5) := HBw2.out.trans (hcw5.mono HBw2.out.size)
   have KAw5 : Hid (w5.heap[w.heap.size]? = some (Obj.cells #[.string x.name, .slice a1 x.imps.length ka1, .slice a2 x.exps.length ka2, .slice a3 x.types.length ka3, .slice a4 x.defs.length ka4, .slice a5 x.convs.length ka5] 26)) := blk_keep KAw2.out hcw5 (Array.getElem?_eq_some_iff.1 KAw2.out).1
   clear KAw2 hcw5 HBw2
   have OSw5 : Hid (OwnN w5 w4.heap.size (.slice ow5 L.length kw5) L) := how5
   have OSB : Hid (∀ b, (Value.slice ow5 L.length kw5).ownBlock = some b → b < w5.heap.size) := fun b h => (own_blk how5 h).2.1
   clear how5
   have z0 := cell_blk (j := 0) KAw5.out rfl
   have z1 := cell_blk (j := 1) KAw5.out rfl
   have z2 := cell_blk (j := 2) KAw5.out rfl
   have z3 := cell_blk (j := 3) KAw5.out rfl
   have z4 := cell_blk (j := 4) KAw5.out rfl
   have z5 := cell_blk (j := 5) KAw5.out rfl
   go_wp2_with fail
   refine (HTX.out _ HBw5.out).mono ?_
   rintro e w6 ⟨r1, r2, r3, r4, r5, kr1, kr2, kr3, kr4, kr5, rfl, hrr, hbw6⟩
   clear z0 z1 z2 z3 z4 z5
   have hsw6 : w5.heap.size ≤ w6.heap.size := hbw6.size
   have HBw6 : Hid (Below w.heap.size w w6) := HBw5.out.trans (hbw6.mono HBw5.out.size)
   have KAw6 : Hid (w6.heap[w.heap.size]? = some (Obj.cells #[.string x.name, .slice a1 x.imps.length ka1, .slice a2 x.exps.length ka2, .slice a3 x.types.length ka3, .slice a4 x.defs.length ka4, .slice a5 x.convs.length ka5] 26)) := blk_keep KAw5.out hbw6 (Array.getElem?_eq_some_iff.1 KAw5.out).1
   have OSw6 : Hid (OwnN w6 w4.heap.size (.slice ow5 L.length kw5) L) := own_keep OSw5.out fun b h => hbw6.block b (own_blk OSw5.out h).2.1
   clear KAw5 OSw5 hbw6 HBw5
   have RXw6 : Hid (SrxRows w6 (fun b => w5.heap.size ≤ b ∧ b < w6.heap.size ∧ Unf w6 b) r1 r2 r3 r4 r5 kr1 kr2 kr3 kr4 kr5 x) := hrr
   clear hrr
   obtain ⟨w7, hw7⟩ : ∃ w7, w7 = w6.alloc (Obj.cells #[.string x.name, .slice r1 x.imps.length kr1, .slice r2 x.exps.length kr2, .slice r3 x.types.length kr3, .slice r4 x.defs.length kr4, .slice r5 x.convs.length kr5] 34) := ⟨_, rfl⟩
   have HW7 : Hid (w7 = _) := hw7
   have hbw7 : Below w6.heap.size w6 w7 := by rw [hw7]; exact (Below.refl _ _).alloc (Nat.le_refl _) _
   have KXw7 : Hid (w7.heap[w6.heap.size]? = some (Obj.cells #[.string x.name, .slice r1 x.imps.length kr1, .slice r2 x.exps.length kr2, .slice r3 x.types.length kr3, .slice r4 x.defs.length kr4, .slice r5 x.convs.length kr5] 34)) := by show _ = _; rw [hw7]; exact blk_at _ _ _ rfl
   clear hw7
   have hsw7 : w6.heap.size ≤ w7.heap.size := hbw7.size
   have HBw7 : Hid (Below w.heap.size w w7) := HBw6.out.trans (hbw7.mono HBw6.out.size)
   have KAw7 : Hid (w7.heap[w.heap.size]? = some (Obj.cells #[.string x.name, .slice a1 x.imps.length ka1, .slice a2 x.exps.length ka2, .slice a3 x.types.length ka3, .slice a4 x.defs.length ka4, .slice a5 x.convs.length ka5] 26)) := blk_keep KAw6.out hbw7 (Array.getElem?_eq_some_iff.1 KAw6.out).1
   have OSw7 : Hid (OwnN w7 w4.heap.size (.slice ow5 L.length kw5) L) := own_keep OSw6.out fun b h => hbw7.block b (own_blk OSw6.out h).2.1
   have RXw7 : Hid (SrxRows w7 (fun b => w5.heap.size ≤ b ∧ b < w6.heap.size ∧ Unf w7 b) r1 r2 r3 r4 r5 kr1 kr2 kr3 kr4 kr5 x) := RXw6.out.keep fun b h => ⟨⟨h.1, h.2.1, h.2.2.keep (hbw7.block b (by have := h.2.1; omega))⟩, hbw7.block b (by have := h.2.1; omega)⟩
   clear KAw6 OSw6 RXw6 hbw7 HBw6
   have hs67 : w6.heap.size < w7.heap.size := (Array.getElem?_eq_some_iff.1 KXw7.out).1
   go_wp2_with fail
   rw [← HW7.out]
   clear HW7
   refine (HTV.out _ HBw7.out).mono ?_
   rintro e w8 ⟨gx, rfl, hrr, hbw8⟩
   have hsw8 : w7.heap.size ≤ w8.heap.size := hbw8.size
   have HBw8 : Hid (Below w.heap.size w w8) := HBw7.out.trans (hbw8.mono HBw7.out.size)
   have KAw8 : Hid (w8.heap[w.heap.size]? = some (Obj.cells #[.string x.name, .slice a1 x.imps.length ka1, .slice a2 x.exps.length ka2, .slice a3 x.types.length ka3, .slice a4 x.defs.length ka4, .slice a5 x.convs.length ka5] 26)) := blk_keep KAw7.out hbw8 (Array.getElem?_eq_some_iff.1 KAw7.out).1
   have OSw8 : Hid (OwnN w8 w4.heap.size (.slice ow5 L.length kw5) L) := own_keep OSw7.out fun b h => hbw8.block b (own_blk OSw7.out h).2.1
   have RXw8 : Hid (SrxRows w8 (fun b => w5.heap.size ≤ b ∧ b < w6.heap.size ∧ Unf w8 b) r1 r2 r3 r4 r5 kr1 kr2 kr3 kr4 kr5 x) := RXw7.out.keep fun b h => ⟨⟨h.1, h.2.1, h.2.2.keep (hbw8.block b (by have := h.2.1; omega))⟩, hbw8.block b (by have := h.2.1; omega)⟩
   have KXw8 : Hid (w8.heap[w6.heap.size]? = some (Obj.cells #[.string x.name, .slice r1 x.imps.length kr1, .slice r2 x.exps.length kr2, .slice r3 x.types.length kr3, .slice r4 x.defs.length kr4, .slice r5 x.convs.length kr5] 34)) := blk_keep KXw7.out hbw8 (Array.getElem?_eq_some_iff.1 KXw7.out).1
   clear KAw7 OSw7 RXw7 KXw7 hbw8 HBw7
   have RVw8 : Hid (rgS.Row w8 (fun b => w7.heap.size ≤ b ∧ b < w8.heap.size ∧ Unf w8 b) (some ⟨gx, 0, none⟩) gv) := hrr
   clear hrr
   have z0 := cell_blk (j := 0) KXw8.out rfl
   have z1 := cell_blk (j := 1) KXw8.out rfl
   have z2 := cell_blk (j := 2) KXw8.out rfl
   have z3 := cell_blk (j := 3) KXw8.out rfl
   have z4 := cell_blk (j := 4) KXw8.out rfl
   have z5 := cell_blk (j := 5) KXw8.out rfl
   go_wp2_with fail
   refine (HIM.out _ _ _ _ _ _ _ _ _ _ _ _ _ (RXw8.out.keep fun b h => ⟨by have := h.2.1; omega, rfl⟩) (rowS_iff.1 (RVw8.out.keep fun b h => ⟨h.2.1, rfl⟩))).mono ?_
   rintro e w10 ⟨v10, rfl, how10, hbw10⟩
   obtain ⟨og, kg, rfl⟩ := OwnN.slice how10
   clear z0 z1 z2 z3 z4 z5
   have hsw10 : w8.heap.size ≤ w10.heap.size := hbw10.size
   have HBw10 : Hid (Below w.heap.size w w10) := HBw8.out.trans (hbw10.mono HBw8.out.size)
   have KAw10 : Hid (w10.heap[w.heap.size]? = some (Obj.cells #[.string x.name, .slice a1 x.imps.length ka1, .slice a2 x.exps.length ka2, .slice a3 x.types.length ka3, .slice a4 x.defs.length ka4, .slice a5 x.convs.length ka5] 26)) := blk_keep KAw8.out hbw10 (Array.getElem?_eq_some_iff.1 KAw8.out).1
   have OSw10 : Hid (OwnN w10 w4.heap.size (.slice ow5 L.length kw5) L) := own_keep OSw8.out fun b h => hbw10.block b (own_blk OSw8.out h).2.1
   have RXw10 : Hid (SrxRows w10 (fun b => w5.heap.size ≤ b ∧ b < w6.heap.size ∧ Unf w10 b) r1 r2 r3 r4 r5 kr1 kr2 kr3 kr4 kr5 x) := RXw8.out.keep fun b h => ⟨⟨h.1, h.2.1, h.2.2.keep (hbw10.block b (by have := h.2.1; omega))⟩, hbw10.block b (by have := h.2.1; omega)⟩
   have KXw10 : Hid (w10.heap[w6.heap.size]? = some (Obj.cells #[.string x.name, .slice r1 x.imps.length kr1, .slice r2 x.exps.length kr2, .slice r3 x.types.length kr3, .slice r4 x.defs.length kr4, .slice r5 x.convs.length kr5] 34)) := blk_keep KXw8.out hbw10 (Array.getElem?_eq_some_iff.1 KXw8.out).1
   have RVw10 : Hid (rgS.Row w10 (fun b => w7.heap.size ≤ b ∧ b < w8.heap.size ∧ Unf w10 b) (some ⟨gx, 0, none⟩) gv) := RVw8.out.keep fun b h => ⟨⟨h.1, h.2.1, h.2.2.keep (hbw10.block b (by have := h.2.1; omega))⟩, hbw10.block b (by have := h.2.1; omega)⟩
   clear KAw8 OSw8 RXw8 KXw8 RVw8 hbw10 HBw8
   have OGw10 : Hid (OwnN w10 w8.heap.size (.slice og L.length kg) L) := how10
   clear how10
   go_wp2_with fail
   refine (HEN.out w10 _ _ _ _ _ _ OGw10.out OSw10.out).mono ?_
   rintro e w11 ⟨rfl, hbw11⟩
   have hsw11 : w10.heap.size ≤ w11.heap.size := hbw11.size
   have HBw11 : Hid (Below w.heap.size w w11) := HBw10.out.trans (hbw11.mono HBw10.out.size)
   have KAw11 : Hid (w11.heap[w.heap.size]? = some (Obj.cells #[.string x.name, .slice a1 x.imps.length ka1, .slice a2 x.exps.length ka2, .slice a3 x.types.length ka3, .slice a4 x.defs.length ka4, .slice a5 x.convs.length ka5] 26)) := blk_keep KAw10.out hbw11 (Array.getElem?_eq_some_iff.1 KAw10.out).1
   have OSw11 : Hid (OwnN w11 w4.heap.size (.slice ow5 L.length kw5) L) := own_keep OSw10.out fun b h => hbw11.block b (own_blk OSw10.out h).2.1
   have RXw11 : Hid (SrxRows w11 (fun b => w5.heap.size ≤ b ∧ b < w6.heap.size ∧ Unf w11 b) r1 r2 r3 r4 r5 kr1 kr2 kr3 kr4 kr5 x) := RXw10.out.keep fun b h => ⟨⟨h.1, h.2.1, h.2.2.keep (hbw11.block b (by have := h.2.1; omega))⟩, hbw11.block b (by have := h.2.1; omega)⟩
   have KXw11 : Hid (w11.heap[w6.heap.size]? = some (Obj.cells #[.string x.name, .slice r1 x.imps.length kr1, .slice r2 x.exps.length kr2, .slice r3 x.types.length kr3, .slice r4 x.defs.length kr4, .slice r5 x.convs.length kr5] 34)) := blk_keep KXw10.out hbw11 (Array.getElem?_eq_some_iff.1 KXw10.out).1
   have RVw11 : Hid (rgS.Row w11 (fun b => w7.heap.size ≤ b ∧ b < w8.heap.size ∧ Unf w11 b) (some ⟨gx, 0, none⟩) gv) := RVw10.out.keep fun b h => ⟨⟨h.1, h.2.1, h.2.2.keep (hbw11.block b (by have := h.2.1; omega))⟩, hbw11.block b (by have := h.2.1; omega)⟩
   have OGw11 : Hid (OwnN w11 w8.heap.size (.slice og L.length kg) L) := own_keep OGw10.out fun b h => hbw11.block b (own_blk OGw10.out h).2.1
   clear KAw10 OSw10 RXw10 KXw10 RVw10 OGw10 hbw11 HBw10
   have HX : Hid (∀ W, Below w11.heap.size w11 W → W.cell? ⟨w.heap.size, 0, none⟩ = some (.string x.name) ∧ W.cell? ⟨w.heap.size, 1, none⟩ = some (.slice a1 x.imps.length ka1) ∧ W.cell? ⟨w.heap.size, 2, none⟩ = some (.slice a2 x.exps.length ka2) ∧ W.cell? ⟨w.heap.size, 3, none⟩ = some (.slice a3 x.types.length ka3) ∧ W.cell? ⟨w.heap.size, 4, none⟩ = some (.slice a4 x.defs.length ka4) ∧ W.cell? ⟨w.heap.size, 5, none⟩ = some (.slice a5 x.convs.length ka5) ∧ W.cell? ⟨w6.heap.size, 0, none⟩ = some (.string x.name) ∧ W.cell? ⟨w6.heap.size, 1, none⟩ = some (.slice r1 x.imps.length kr1) ∧ W.cell? ⟨w6.heap.size, 2, none⟩ = some (.slice r2 x.exps.length kr2) ∧ W.cell? ⟨w6.heap.size, 3, none⟩ = some (.slice r3 x.types.length kr3) ∧ W.cell? ⟨w6.heap.size, 4, none⟩ = some (.slice r4 x.defs.length kr4) ∧ W.cell? ⟨w6.heap.size, 5, none⟩ = some (.slice r5 x.convs.length kr5)) := fun W hb => ⟨cell_blk (j := 0) (blk_keep KAw11.out hb (Array.getElem?_eq_some_iff.1 KAw11.out).1) rfl, cell_blk (j := 1) (blk_keep KAw11.out hb (Array.getElem?_eq_some_iff.1 KAw11.out).1) rfl, cell_blk (j := 2) (blk_keep KAw11.out hb (Array.getElem?_eq_some_iff.1 KAw11.out).1) rfl, cell_blk (j := 3) (blk_keep KAw11.out hb (Array.getElem?_eq_some_iff.1 KAw11.out).1) rfl, cell_blk (j := 4) (blk_keep KAw11.out hb (Array.getElem?_eq_some_iff.1 KAw11.out).1) rfl, cell_blk (j := 5) (blk_keep KAw11.out hb (Array.getElem?_eq_some_iff.1 KAw11.out).1) rfl, cell_blk (j := 0) (blk_keep KXw11.out hb (Array.getElem?_eq_some_iff.1 KXw11.out).1) rfl, cell_blk (j := 1) (blk_keep KXw11.out hb (Array.getElem?_eq_some_iff.1 KXw11.out).1) rfl, cell_blk (j := 2) (blk_keep KXw11.out hb (Array.getElem?_eq_some_iff.1 KXw11.out).1) rfl, cell_blk (j := 3) (blk_keep KXw11.out hb (Array.getElem?_eq_some_iff.1 KXw11.out).1) rfl, cell_blk (j := 4) (blk_keep KXw11.out hb (Array.getElem?_eq_some_iff.1 KXw11.out).1) rfl, cell_blk (j := 5) (blk_keep KXw11.out hb (Array.getElem?_eq_some_iff.1 KXw11.out).1) rfl⟩
   obtain ⟨z0, z1, z2, z3, z4, z5, z6, z7, z8, z9, z10, z11⟩ := HX.out _ (Below.refl _ _)
   go_wp2_with fail
   go_region_held3 (fun W => W.cell? ⟨w.heap.size, 0, none⟩ = some (.string x.name) ∧ W.cell? ⟨w.heap.size, 1, none⟩ = some (.slice a1 x.imps.length ka1) ∧ W.cell? ⟨w.heap.size, 2, none⟩ = some (.slice a2 x.exps.length ka2) ∧ W.cell? ⟨w.heap.size, 3, none⟩ = some (.slice a3 x.types.length ka3) ∧ W.cell? ⟨w.heap.size, 4, none⟩ = some (.slice a4 x.defs.length ka4) ∧ W.cell? ⟨w.heap.size, 5, none⟩ = some (.slice a5 x.convs.length ka5) ∧ W.cell? ⟨w6.heap.size, 0, none⟩ = some (.string x.name) ∧ W.cell? ⟨w6.heap.size, 1, none⟩ = some (.slice r1 x.imps.length kr1) ∧ W.cell? ⟨w6.heap.size, 2, none⟩ = some (.slice r2 x.exps.length kr2) ∧ W.cell? ⟨w6.heap.size, 3, none⟩ = some (.slice r3 x.types.length kr3) ∧ W.cell? ⟨w6.heap.size, 4, none⟩ = some (.slice r4 x.defs.length kr4) ∧ W.cell? ⟨w6.heap.size, 5, none⟩ = some (.slice r5 x.convs.length kr5))
    (first | exact HX.out _ (by assumption) | exact HX.out _ (Below.refl _ _) | exact HX.out _ (below_drewN (Below.refl _ _) 1))
    (first
    | (go_at_call 8; refine Calls.mono (HTX.out _ ?_) ?_; (focus (first | exact HBw11.out | exact below_drewN HBw11.out 1)); intro e w12 hh; obtain ⟨u1, u2, u3, u4, u5, ku1, ku2, ku3, ku4, ku5, rfl, hrr1, hbw12⟩ := (show MadX x w11 e w12 by first | exact hh | exact madX_undr hh))
    | (go_at_call 12; refine Calls.mono (HEX.out _ _ _ _ _ _ _ _ _ _ _ _ _ _ _ _ _ _ _ _ _ (RXw11.out.keep fun b h => ⟨by have := h.2.1; have := hbw12.size; omega, hbw12.block b (by have := h.2.1; omega)⟩) (hrr1.keep fun b h => ⟨h.2.1, rfl⟩)) ?_; rintro e w13 ⟨rfl, hbw13⟩; have hcw13 : Below w11.heap.size w11 w13 := hbw12.trans (hbw13.mono hbw12.size)))
   clear hrr1 hbw12 hbw13 HX z0 z1 z2 z3 z4 z5 z6 z7 z8 z9 z10 z11
   have hsw13 : w11.heap.size ≤ w13.heap.size := hcw13.size
   have HBw13 : Hid (Below w.heap.size w w13) := HBw11.out.trans (hcw13.mono HBw11.out.size)
   have KAw13 : Hid (w13.heap[w.heap.size]? = some (Obj.cells #[.string x.name, .slice a1 x.imps.length ka1, .slice a2 x.exps.length ka2, .slice a3 x.types.length ka3, .slice a4 x.defs.length ka4, .slice a5 x.convs.length ka5] 26)) := blk_keep KAw11.out hcw13 (Array.getElem?_eq_some_iff.1 KAw11.out).1
   have OSw13 : Hid (OwnN w13 w4.heap.size (.slice ow5 L.length kw5) L) := own_keep OSw11.out fun b h => hcw13.block b (own_blk OSw11.out h).2.1
   have RXw13 : Hid (SrxRows w13 (fun b => w5.heap.size ≤ b ∧ b < w6.heap.size ∧ Unf w13 b) r1 r2 r3 r4 r5 kr1 kr2 kr3 kr4 kr5 x) := RXw11.out.keep fun b h => ⟨⟨h.1, h.2.1, h.2.2.keep (hcw13.block b (by have := h.2.1; omega))⟩, hcw13.block b (by have := h.2.1; omega)⟩
   have KXw13 : Hid (w13.heap[w6.heap.size]? = some (Obj.cells #[.string x.name, .slice r1 x.imps.length kr1, .slice r2 x.exps.length kr2, .slice r3 x.types.length kr3, .slice r4 x.defs.length kr4, .slice r5 x.convs.length kr5] 34)) := blk_keep KXw11.out hcw13 (Array.getElem?_eq_some_iff.1 KXw11.out).1
   have RVw13 : Hid (rgS.Row w13 (fun b => w7.heap.size ≤ b ∧ b < w8.heap.size ∧ Unf w13 b) (some ⟨gx, 0, none⟩) gv) := RVw11.out.keep fun b h => ⟨⟨h.1, h.2.1, h.2.2.keep (hcw13.block b (by have := h.2.1; omega))⟩, hcw13.block b (by have := h.2.1; omega)⟩
   have OGw13 : Hid (OwnN w13 w8.heap.size (.slice og L.length kg) L) := own_keep OGw11.out fun b h => hcw13.block b (own_blk OGw11.out h).2.1
   clear KAw11 OSw11 RXw11 KXw11 RVw11 OGw11 hcw13 HBw11
   go_wp2_with fail
   refine (HTV.out _ HBw13.out).mono ?_
   rintro e w14 ⟨gy, rfl, hrr, hbw14⟩
   have hsw14 : w13.heap.size ≤ w14.heap.size := hbw14.size
   have HBw14 : Hid (Below w.heap.size w w14) := HBw13.out.trans (hbw14.mono HBw13.out.size)
   have KAw14 : Hid (w14.heap[w.heap.size]? = some (Obj.cells #[.string x.name, .slice a1 x.imps.length ka1, .slice a2 x.exps.length ka2, .slice a3 x.types.length ka3, .slice a4 x.defs.length ka4, .slice a5 x.convs.length ka5] 26)) := blk_keep KAw13.out hbw14 (Array.getElem?_eq_some_iff.1 KAw13.out).1
   have OSw14 : Hid (OwnN w14 w4.heap.size (.slice ow5 L.length kw5) L) := own_keep OSw13.out fun b h => hbw14.block b (own_blk OSw13.out h).2.1
   have RXw14 : Hid (SrxRows w14 (fun b => w5.heap.size ≤ b ∧ b < w6.heap.size ∧ Unf w14 b) r1 r2 r3 r4 r5 kr1 kr2 kr3 kr4 kr5 x) := RXw13.out.keep fun b h => ⟨⟨h.1, h.2.1, h.2.2.keep (hbw14.block b (by have := h.2.1; omega))⟩, hbw14.block b (by have := h.2.1; omega)⟩
   have KXw14 : Hid (w14.heap[w6.heap.size]? = some (Obj.cells #[.string x.name, .slice r1 x.imps.length kr1, .slice r2 x.exps.length kr2, .slice r3 x.types.length kr3, .slice r4 x.defs.length kr4, .slice r5 x.convs.length kr5] 34)) := blk_keep KXw13.out hbw14 (Array.getElem?_eq_some_iff.1 KXw13.out).1
   have RVw14 : Hid (rgS.Row w14 (fun b => w7.heap.size ≤ b ∧ b < w8.heap.size ∧ Unf w14 b) (some ⟨gx, 0, none⟩) gv) := RVw13.out.keep fun b h => ⟨⟨h.1, h.2.1, h.2.2.keep (hbw14.block b (by have := h.2.1; omega))⟩, hbw14.block b (by have := h.2.1; omega)⟩
   have OGw14 : Hid (OwnN w14 w8.heap.size (.slice og L.length kg) L) := own_keep OGw13.out fun b h => hbw14.block b (own_blk OGw13.out h).2.1
   clear KAw13 OSw13 RXw13 KXw13 RVw13 OGw13 hbw14 HBw13
   go_wp2_with fail
   refine (HEV.out w14 _ _ _ _ (rowS_iff.1 (RVw14.out.keep fun b h => ⟨by have := h.2.1; omega, rfl⟩)) (rowS_iff.1 (hrr.keep fun b h => ⟨h.2.1, rfl⟩))).mono ?_
   rintro e w15 ⟨rfl, hbw15⟩
   clear hrr
   have hsw15 : w14.heap.size ≤ w15.heap.size := hbw15.size
   have HBw15 : Hid (Below w.heap.size w w15) := HBw14.out.trans (hbw15.mono HBw14.out.size)
   have KAw15 : Hid (w15.heap[w.heap.size]? = some (Obj.cells #[.string x.name, .slice a1 x.imps.length ka1, .slice a2 x.exps.length ka2, .slice a3 x.types.length ka3, .slice a4 x.defs.length ka4, .slice a5 x.convs.length ka5] 26)) := blk_keep KAw14.out hbw15 (Array.getElem?_eq_some_iff.1 KAw14.out).1
   have OSw15 : Hid (OwnN w15 w4.heap.size (.slice ow5 L.length kw5) L) := own_keep OSw14.out fun b h => hbw15.block b (own_blk OSw14.out h).2.1
   have RXw15 : Hid (SrxRows w15 (fun b => w5.heap.size ≤ b ∧ b < w6.heap.size ∧ Unf w15 b) r1 r2 r3 r4 r5 kr1 kr2 kr3 kr4 kr5 x) := RXw14.out.keep fun b h => ⟨⟨h.1, h.2.1, h.2.2.keep (hbw15.block b (by have := h.2.1; omega))⟩, hbw15.block b (by have := h.2.1; omega)⟩
   have KXw15 : Hid (w15.heap[w6.heap.size]? = some (Obj.cells #[.string x.name, .slice r1 x.imps.length kr1, .slice r2 x.exps.length kr2, .slice r3 x.types.length kr3, .slice r4 x.defs.length kr4, .slice r5 x.convs.length kr5] 34)) := blk_keep KXw14.out hbw15 (Array.getElem?_eq_some_iff.1 KXw14.out).1
   have RVw15 : Hid (rgS.Row w15 (fun b => w7.heap.size ≤ b ∧ b < w8.heap.size ∧ Unf w15 b) (some ⟨gx, 0, none⟩) gv) := RVw14.out.keep fun b h => ⟨⟨h.1, h.2.1, h.2.2.keep (hbw15.block b (by have := h.2.1; omega))⟩, hbw15.block b (by have := h.2.1; omega)⟩
   have OGw15 : Hid (OwnN w15 w8.heap.size (.slice og L.length kg) L) := own_keep OGw14.out fun b h => hbw15.block b (own_blk OGw14.out h).2.1
   clear KAw14 OSw14 RXw14 KXw14 RVw14 OGw14 hbw15 HBw14
   have z0 := cell_blk (j := 0) KXw15.out rfl
   have z1 := cell_blk (j := 1) KXw15.out rfl
   have z2 := cell_blk (j := 2) KXw15.out rfl
   have z3 := cell_blk (j := 3) KXw15.out rfl
   have z4 := cell_blk (j := 4) KXw15.out rfl
   have z5 := cell_blk (j := 5) KXw15.out rfl
   go_wp2_with fail
   refine (HMX.out w5.heap.size w6.heap.size _ _ _ _ _ _ _ _ _ _ _ RXw15.out (by omega)).mono ?_
   rintro e w16 ⟨rfl, hk16⟩
   clear z0 z1 z2 z3 z4 z5
   have hsw16 : w15.heap.size ≤ w16.heap.size := hk16.size
   have HBw16 : Hid (Below w.heap.size w w16) := ⟨hk16.os.trans HBw15.out.os, hk16.tape.trans HBw15.out.tape, hk16.output.trans HBw15.out.output, Nat.le_trans HBw15.out.size hk16.size, fun b hb => (hk16.same b (by have := HBw15.out.size; omega) (.inl (by have := HBw15.out.size; have := HSZ.out; omega))).trans (HBw15.out.block b hb)⟩
   have KAw16 : Hid (w16.heap[w.heap.size]? = some (Obj.cells #[.string x.name, .slice a1 x.imps.length ka1, .slice a2 x.exps.length ka2, .slice a3 x.types.length ka3, .slice a4 x.defs.length ka4, .slice a5 x.convs.length ka5] 26)) := (hk16.same _ (Array.getElem?_eq_some_iff.1 KAw15.out).1 (.inl (by have := HSZ.out; omega))).trans KAw15.out
   have OSw16 : Hid (OwnN w16 w4.heap.size (.slice ow5 L.length kw5) L) := own_keep OSw15.out fun b h => hk16.same b (own_blk OSw15.out h).2.1 (.inl (by have := OSB.out b h; omega))
   have RVw16 : Hid (rgS.Row w16 (fun b => w7.heap.size ≤ b ∧ b < w8.heap.size ∧ Unf w16 b) (some ⟨gx, 0, none⟩) gv) := RVw15.out.keep fun b h => ⟨⟨h.1, h.2.1, h.2.2.keep (hk16.same b (by have := h.2.1; omega) (.inr (by have := h.1; omega)))⟩, hk16.same b (by have := h.2.1; omega) (.inr (by have := h.1; omega))⟩
   have OGw16 : Hid (OwnN w16 w8.heap.size (.slice og L.length kg) L) := own_keep OGw15.out fun b h => hk16.same b (own_blk OGw15.out h).2.1 (.inr (by have := (own_blk OGw15.out h).1; omega))
   clear KAw15 OSw15 RVw15 OGw15 KXw15 RXw15 hk16 HBw15
   go_wp2_with fail
   refine (HMV.out w7.heap.size w8.heap.size gx _ RVw16.out).mono ?_
   rintro e w17 ⟨rfl, hk17⟩
   have hsw17 : w16.heap.size ≤ w17.heap.size := hk17.size
   have HBw17 : Hid (Below w.heap.size w w17) := ⟨hk17.os.trans HBw16.out.os, hk17.tape.trans HBw16.out.tape, hk17.output.trans HBw16.out.output, Nat.le_trans HBw16.out.size hk17.size, fun b hb => (hk17.same b (by have := HBw16.out.size; omega) (.inl (by have := HBw16.out.size; have := HSZ.out; omega))).trans (HBw16.out.block b hb)⟩
   have KAw17 : Hid (w17.heap[w.heap.size]? = some (Obj.cells #[.string x.name, .slice a1 x.imps.length ka1, .slice a2 x.exps.length ka2, .slice a3 x.types.length ka3, .slice a4 x.defs.length ka4, .slice a5 x.convs.length ka5] 26)) := (hk17.same _ (Array.getElem?_eq_some_iff.1 KAw16.out).1 (.inl (by have := HSZ.out; omega))).trans KAw16.out
   have OSw17 : Hid (OwnN w17 w4.heap.size (.slice ow5 L.length kw5) L) := own_keep OSw16.out fun b h => hk17.same b (own_blk OSw16.out h).2.1 (.inl (by have := OSB.out b h; omega))
   have OGw17 : Hid (OwnN w17 w8.heap.size (.slice og L.length kg) L) := own_keep OGw16.out fun b h => hk17.same b (own_blk OGw16.out h).2.1 (.inr (by have := (own_blk OGw16.out h).1; omega))
   clear KAw16 OSw16 OGw16 RVw16 hk17 HBw16
   have hkn : decide (((1 + cx + cy : Nat) : Int) < 0) = false := by simp; omega
   go_wp2_with fail
   refine (HEN.out w17 _ _ _ _ _ _ OGw17.out OSw17.out).mono ?_
   rintro e w18 ⟨rfl, hbw18⟩
   have hsw18 : w17.heap.size ≤ w18.heap.size := hbw18.size
   have HBw18 : Hid (Below w.heap.size w w18) := HBw17.out.trans (hbw18.mono HBw17.out.size)
   have KAw18 : Hid (w18.heap[w.heap.size]? = some (Obj.cells #[.string x.name, .slice a1 x.imps.length ka1, .slice a2 x.exps.length ka2, .slice a3 x.types.length ka3, .slice a4 x.defs.length ka4, .slice a5 x.convs.length ka5] 26)) := blk_keep KAw17.out hbw18 (Array.getElem?_eq_some_iff.1 KAw17.out).1
   have OSw18 : Hid (OwnN w18 w4.heap.size (.slice ow5 L.length kw5) L) := own_keep OSw17.out fun b h => hbw18.block b (own_blk OSw17.out h).2.1
   have OGw18 : Hid (OwnN w18 w8.heap.size (.slice og L.length kg) L) := own_keep OGw17.out fun b h => hbw18.block b (own_blk OGw17.out h).2.1
   clear KAw17 OSw17 OGw17 hbw18 HBw17
   have OGB : Hid (∀ b, (Value.slice og L.length kg).ownBlock = some b → w8.heap.size ≤ b ∧ b < w18.heap.size) := fun b h => ⟨(own_blk OGw18.out h).1, (own_blk OGw18.out h).2.1⟩
   have HOM : Hid (Calls Tryz.prog 16 #[.slice og L.length kg, .int .i64 1] w18 fun e w' => e = .returned (.int .i64 (1 + 2 * (L.length : Int))) ∧ OwnN w' w8.heap.size (.slice og L.length kg) (marksN 1 L.length) ∧ w18.grownBy w' (Value.slice og L.length kg).ownBlock) := (markNoteS_o w8.heap.size og L L.length kg 1 w18 OGw18.out rfl (Nat.le_refl _) (by omega)).mono fun e w' h => ⟨by rw [h.1]; congr 2, h.2⟩
   go_wp2_with fail
   refine HOM.out.mono ?_
   rintro e w19 ⟨rfl, how19, hgw19⟩
   have hbw19 : Below w8.heap.size w18 w19 := gb_bel (Below.refl _ _) (by omega) (fun b hb => (OGB.out b hb).1) hgw19
   have hs19 : w18.heap.size ≤ w19.heap.size := hgw19.size
   have HBw19 : Hid (Below w.heap.size w w19) := HBw18.out.trans (hbw19.mono (by have := HBw18.out.size; have := HSZ.out; omega))
   have KAw19 : Hid (w19.heap[w.heap.size]? = some (Obj.cells #[.string x.name, .slice a1 x.imps.length ka1, .slice a2 x.exps.length ka2, .slice a3 x.types.length ka3, .slice a4 x.defs.length ka4, .slice a5 x.convs.length ka5] 26)) := (hbw19.block _ (by have := HSZ.out; omega)).trans KAw18.out
   have OSw19 : Hid (OwnN w19 w4.heap.size (.slice ow5 L.length kw5) L) := own_keep OSw18.out fun b h => hbw19.block b (by have := OSB.out b h; omega)
   have HHS : Hid (∀ W, OwnN W w8.heap.size (.slice og L.length kg) (marksN 1 L.length) → Calls Tryz.prog 17 #[.slice og L.length kg, .int .i64 1] W fun e w' => Ans W (.int .i64 (1 + 2 * (L.length : Int))) e w') := fun W h => by
    have h1 := heldNoteS_o w8.heap.size og L.length kg 1 W (Nat.le_refl _) (by omega) h
    rw [show (((1 + 2 * L.length : Nat) : Int)) = 1 + 2 * (L.length : Int) by omega] at h1
    exact h1
   have RGw19 : Hid (OwnN w19 w8.heap.size (.slice og L.length kg) (marksN 1 L.length)) := how19
   have hmn : decide ((1 + 2 * (L.length : Int)) < 0) = false := by simp; omega
   have hmm : ((1 + 2 * (L.length : Int)) != (1 + 2 * (L.length : Int))) = false := by simp
   generalize hmk : marksN 1 L.length = mk at *
   clear hmk how19 hgw19 hbw19 HBw18 KAw18 OSw18 OGw18 HOM OGB
   go_wp2_with fail
   refine (HHS.out w19 RGw19.out).mono ?_
   rintro e w20 ⟨rfl, hbw20⟩
   have hsw20 : w19.heap.size ≤ w20.heap.size := hbw20.size
   have HBw20 : Hid (Below w.heap.size w w20) := HBw19.out.trans (hbw20.mono HBw19.out.size)
   have KAw20 : Hid (w20.heap[w.heap.size]? = some (Obj.cells #[.string x.name, .slice a1 x.imps.length ka1, .slice a2 x.exps.length ka2, .slice a3 x.types.length ka3, .slice a4 x.defs.length ka4, .slice a5 x.convs.length ka5] 26)) := blk_keep KAw19.out hbw20 (Array.getElem?_eq_some_iff.1 KAw19.out).1
   have OSw20 : Hid (OwnN w20 w4.heap.size (.slice ow5 L.length kw5) L) := own_keep OSw19.out fun b h => hbw20.block b (own_blk OSw19.out h).2.1
   have RGw20 : Hid (OwnN w20 w8.heap.size (.slice og L.length kg) mk) := own_keep RGw19.out fun b h => hbw20.block b (own_blk RGw19.out h).2.1
   clear KAw19 OSw19 RGw19 hbw20 HBw19
   have z0 := cell_blk (j := 0) KAw20.out rfl
   have z1 := cell_blk (j := 1) KAw20.out rfl
   have z2 := cell_blk (j := 2) KAw20.out rfl
   have z3 := cell_blk (j := 3) KAw20.out rfl
   have z4 := cell_blk (j := 4) KAw20.out rfl
   have z5 := cell_blk (j := 5) KAw20.out rfl
   go_wp2_with fail
   refine (HTX.out _ HBw20.out).mono ?_
   rintro e w21 ⟨p1, p2, p3, p4, p5, kp1, kp2, kp3, kp4, kp5, rfl, hrr1, hbw21⟩
   have hbBw21 := HBw20.out.trans (hbw21.mono HBw20.out.size)
   clear z0 z1 z2 z3 z4 z5
   go_wp2_with fail
   refine (HTV.out _ hbBw21).mono ?_
   rintro e w22 ⟨ggw22, rfl, hrr2, hbw22⟩
   have hcw22 : Below w20.heap.size w20 w22 := hbw21.trans (hbw22.mono hbw21.size)
   go_wp2_with fail
   refine (HIM.out _ _ _ _ _ _ _ _ _ _ _ _ _ (hrr1.keep fun b h => ⟨Nat.lt_of_lt_of_le h.2.1 hbw22.size, hbw22.block b h.2.1⟩) (rowS_iff.1 (hrr2.keep fun b h => ⟨h.2.1, rfl⟩))).mono ?_
   rintro e w23 ⟨vw23, rfl, how23, hbw23⟩
   have hcw23 : Below w20.heap.size w20 w23 := hcw22.trans (hbw23.mono hcw22.size)
   obtain ⟨ow23, kw23, rfl⟩ := OwnN.slice how23
   have hs2w23 : w20.heap.size ≤ w22.heap.size := hcw22.size
   clear hrr1 hrr2 hbw21 hbw22 hbw23 hcw22 hbBw21
   have hsw23 : w20.heap.size ≤ w23.heap.size := hcw23.size
   have HBw23 : Hid (Below w.heap.size w w23) := HBw20.out.trans (hcw23.mono HBw20.out.size)
   have KAw23 : Hid (w23.heap[w.heap.size]? = some (Obj.cells #[.string x.name, .slice a1 x.imps.length ka1, .slice a2 x.exps.length ka2, .slice a3 x.types.length ka3, .slice a4 x.defs.length ka4, .slice a5 x.convs.length ka5] 26)) := blk_keep KAw20.out hcw23 (Array.getElem?_eq_some_iff.1 KAw20.out).1
   have OSw23 : Hid (OwnN w23 w4.heap.size (.slice ow5 L.length kw5) L) := own_keep OSw20.out fun b h => hcw23.block b (own_blk OSw20.out h).2.1
   have RGw23 : Hid (OwnN w23 w8.heap.size (.slice og L.length kg) mk) := own_keep RGw20.out fun b h => hcw23.block b (own_blk RGw20.out h).2.1
   clear KAw20 OSw20 RGw20 hcw23 HBw20
   have OHw23 : Hid (OwnN w23 w22.heap.size (.slice ow23 L.length kw23) L) := how23
   clear how23
   go_wp2_with fail
   refine (HEN.out w23 _ _ _ _ _ _ OHw23.out OSw23.out).mono ?_
   rintro e w24 ⟨rfl, hbw24⟩
   have hsw24 : w23.heap.size ≤ w24.heap.size := hbw24.size
   have HBw24 : Hid (Below w.heap.size w w24) := HBw23.out.trans (hbw24.mono HBw23.out.size)
   have KAw24 : Hid (w24.heap[w.heap.size]? = some (Obj.cells #[.string x.name, .slice a1 x.imps.length ka1, .slice a2 x.exps.length ka2, .slice a3 x.types.length ka3, .slice a4 x.defs.length ka4, .slice a5 x.convs.length ka5] 26)) := blk_keep KAw23.out hbw24 (Array.getElem?_eq_some_iff.1 KAw23.out).1
   have OSw24 : Hid (OwnN w24 w4.heap.size (.slice ow5 L.length kw5) L) := own_keep OSw23.out fun b h => hbw24.block b (own_blk OSw23.out h).2.1
   have RGw24 : Hid (OwnN w24 w8.heap.size (.slice og L.length kg) mk) := own_keep RGw23.out fun b h => hbw24.block b (own_blk RGw23.out h).2.1
   have OHw24 : Hid (OwnN w24 w22.heap.size (.slice ow23 L.length kw23) L) := own_keep OHw23.out fun b h => hbw24.block b (own_blk OHw23.out h).2.1
   clear KAw23 OSw23 RGw23 OHw23 hbw24 HBw23
   go_wp2_with fail
   refine (HHS.out w24 RGw24.out).mono ?_
   rintro e w25 ⟨rfl, hbw25⟩
   have hsw25 : w24.heap.size ≤ w25.heap.size := hbw25.size
   have HBw25 : Hid (Below w.heap.size w w25) := HBw24.out.trans (hbw25.mono HBw24.out.size)
   have KAw25 : Hid (w25.heap[w.heap.size]? = some (Obj.cells #[.string x.name, .slice a1 x.imps.length ka1, .slice a2 x.exps.length ka2, .slice a3 x.types.length ka3, .slice a4 x.defs.length ka4, .slice a5 x.convs.length ka5] 26)) := blk_keep KAw24.out hbw25 (Array.getElem?_eq_some_iff.1 KAw24.out).1
   have OSw25 : Hid (OwnN w25 w4.heap.size (.slice ow5 L.length kw5) L) := own_keep OSw24.out fun b h => hbw25.block b (own_blk OSw24.out h).2.1
   have RGw25 : Hid (OwnN w25 w8.heap.size (.slice og L.length kg) mk) := own_keep RGw24.out fun b h => hbw25.block b (own_blk RGw24.out h).2.1
   have OHw25 : Hid (OwnN w25 w22.heap.size (.slice ow23 L.length kw23) L) := own_keep OHw24.out fun b h => hbw25.block b (own_blk OHw24.out h).2.1
   clear KAw24 OSw24 RGw24 OHw24 hbw25 HBw24
   go_wp2
   go_ret
   exact ⟨rfl, HBw25.out⟩
end fnExactLint
end Go.Proofs.YtamjofdgikifnaaGreat
