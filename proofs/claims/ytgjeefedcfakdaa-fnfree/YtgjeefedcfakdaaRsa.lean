/- The model: l2Show. -/
import Derived.Test.YtgjeefedcfakdaaRtp
import Derived.Test.YtgjeefedcfakdaaRdb
import Derived.Deep.RegionWith
set_option linter.unusedVariables false
namespace Go.Proofs.Ytgjeefedcfakdaa.R2
open Go.ChangeShapes Go.WideShapes Go.ChangeAt Go.RowKit
def str (l : List UInt8) : Value := .string ⟨l.toArray⟩
theorem app3 (a b c : List UInt8) : ((⟨a.toArray⟩ ++ ⟨b.toArray⟩ : ByteArray) ++ ⟨c.toArray⟩) = ⟨(a ++ (b ++ c)).toArray⟩ := by
 rw [ByteArray.mk_append_mk, ByteArray.mk_append_mk, List.append_assoc]
set_option maxRecDepth 100000 in
set_option maxHeartbeats 1000000 in
theorem l2Show_flat (a : Option Addr) (ca : Nat) (b : Value) (cs : List Dat) (i : Nat) (d : Dat) (w : World) (hr : RowD w w.heap.size a cs) (hd : cs[i]? = some d) (hw : d.wf) (h5 : d.k ≠ 5) :
  Calls Try.prog 77 #[.agg #[.slice a cs.length ca, b], .int .i64 i] w fun e w' => Ans w (str (sh cs i)) e w' := by
 rw [sh_flat hd h5]
 have hi := (llt hd)
 obtain ⟨b1, o1, rfl, hbb, c0, c1, c2, c3, c4⟩ := hr i d hd
 obtain ⟨k, n, s, l, r⟩ := d
 simp only [Dat.wf] at *
 have i0 : (0 : Int) ≤ (i : Int) := by omega
 have i1 : (i : Int) < (cs.length : Int) := by omega
 by_cases h1 : k = 1
 ·subst h1
  have HD : Hid (∀ w, Calls Try.prog 61 #[.int .i64 n] w fun e w' => e = .returned (.string ⟨(decL n).toArray⟩) ∧ Below w.heap.size w w') := fun w => specDec_any n w hw.2.1.1 hw.2.1.2
  simp only [if_true]
  go_enter Try.func77, Try.ntmps77
  go_wp2_with fail
  refine (HD.out _).mono ?_
  rintro e w1 ⟨rfl, hb1⟩
  have hb0 : Below w.heap.size w ((w.alloc (Obj.cells #[Value.slice (some ⟨b1, o1, none⟩) cs.length ca, b] 66)).alloc (Obj.cells #[Value.int .i64 1, Value.int .i64 n, Value.string s, Value.int .i64 l, Value.int .i64 r] 98)) := (bR _ _).alloc (by simp) _
  go_wp2
  go_ret
  exact ⟨rfl, bT hb0 hb1⟩
 by_cases h2 : k = 2
 ·subst h2
  by_cases hn1 : n = 1
  ·subst hn1
   simp (config := { decide := true }) only [if_true, if_false]
   go_enter Try.func77, Try.ntmps77
   go_wp2
   go_ret
   exact ⟨rfl, (bR _ _).alloc (by simp) _⟩
  ·have hn2 : (n == 1) = false := by simp [hn1]
   simp (config := { decide := true }) only [hn1, if_true, if_false]
   go_enter Try.func77, Try.ntmps77
   go_wp2
   go_ret
   exact ⟨rfl, (bR _ _).alloc (by simp) _⟩
 by_cases h3 : k = 3
 ·subst h3
  simp (config := { decide := true }) only [if_true, if_false]
  go_enter Try.func77, Try.ntmps77
  go_wp2
  go_ret
  exact ⟨rfl, (bR _ _).alloc (by simp) _⟩
 by_cases h4 : k = 4
 ·subst h4
  simp (config := { decide := true }) only [if_true, if_false]
  go_enter Try.func77, Try.ntmps77
  go_wp2
  go_ret
  exact ⟨rfl, (bR _ _).alloc (by simp) _⟩
 simp only [h1, h2, h3, h4, if_false]
 have g1 : (k == 1) = false := by simp [h1]
 have g2 : (k == 2) = false := by simp [h2]
 have g3 : (k == 3) = false := by simp [h3]
 have g4 : (k == 4) = false := by simp [h4]
 have g5 : (k == 5) = false := by simp [h5]
 go_enter Try.func77, Try.ntmps77
 go_wp2
 go_ret
 exact ⟨rfl, (bR _ _).alloc (by simp) _⟩
set_option maxRecDepth 100000 in
set_option maxHeartbeats 8000000 in
theorem l2Show_any (a : Option Addr) (ca : Nat) (b : Value) (cs : List Dat) (hn : cs.length ≤ 1048576) (hwf : ∀ d ∈ cs, d.wf) (hp : PairOk cs) (hsh : ∀ i, i < cs.length → (sh cs i).length ≤ 33554432) (hob : b.oneCell' = true) : ∀ (i : Nat) (w : World), i < cs.length → RowD w w.heap.size a cs →
  Calls Try.prog 77 #[.agg #[.slice a cs.length ca, b], .int .i64 i] w fun e w' => Ans w (str (sh cs i)) e w' := by
 intro i
 induction i using Nat.strongRecOn with
 | ind i ih =>
 intro w hi hr
 obtain ⟨d, hd⟩ : ∃ d, cs[i]? = some d := ⟨_, List.getElem?_eq_getElem hi⟩
 by_cases h5 : d.k = 5
 ·have IH : Hid (∀ j, j < i → ∀ w, RowD w w.heap.size a cs → Calls Try.prog 77 #[.agg #[.slice a cs.length ca, b], .int .i64 j] w fun e w' => Ans w (.string ⟨(sh cs j).toArray⟩) e w') := fun j hj w h => ih j hj w (by omega) h
  have HR : Hid (RowD w w.heap.size a cs) := hr
  obtain ⟨q1, q2, q3, q4⟩ := hp i d hd h5
  have hsp := sh_pair hp hd h5
  obtain ⟨b1, o1, rfl, hbb, c0, c1, c2, c3, c4⟩ := hr i d hd
  obtain ⟨k, n, s, l, r⟩ := d
  simp only at *
  subst h5
  obtain ⟨L, rfl⟩ := Int.eq_ofNat_of_zero_le q1
  obtain ⟨R, rfl⟩ := Int.eq_ofNat_of_zero_le q3
  simp only [Int.toNat_natCast] at *
  have HS : Hid (sh cs i = 40 :: (sh cs L ++ rst cs R ++ [41])) := hsp
  have HL : Hid (∀ i, i < cs.length → (sh cs i).length ≤ 33554432) := hsh
  have HP : Hid (PairOk cs) := hp
  have hLl := hsh L (by omega)
  have hsl := hsh i hi
  have i0 : (0 : Int) ≤ (i : Int) := by omega
  have i1 : (i : Int) < (cs.length : Int) := by omega
  have hLi : L < i := by omega
  have hRi : R < i := by omega
  have hls : (sh cs L).length + (rst cs R).length + 2 ≤ 33554432 := by
   have := HS.out
   rw [this] at hsl
   simp only [List.length_cons, List.length_append, List.length_nil] at hsl
   omega
  clear ih hr hsp hsh hp hwf hsl
  have IL := IH.out L hLi
  generalize hgl : sh cs L = sl at *
  go_enter Try.func77, Try.ntmps77
  go_wp2_with fail
  have hb0 : Below w.heap.size w ((w.alloc (Obj.cells #[Value.slice (some ⟨b1, o1, none⟩) cs.length ca, b] 66)).alloc (Obj.cells #[Value.int .i64 5, Value.int .i64 n, Value.string s, Value.int .i64 (L : Int), Value.int .i64 (R : Int)] 98)) := (bR _ _).alloc (by simp) _
  have k0 : ((w.alloc (Obj.cells #[Value.slice (some ⟨b1, o1, none⟩) cs.length ca, b] 66)).alloc (Obj.cells #[Value.int .i64 5, Value.int .i64 n, Value.string s, Value.int .i64 (L : Int), Value.int .i64 (R : Int)] 98)).heap[w.heap.size]? = some (Obj.cells #[Value.slice (some ⟨b1, o1, none⟩) cs.length ca, b] 66) := blk_past (blk_at _ _ _ rfl)
  have k1 : ((w.alloc (Obj.cells #[Value.slice (some ⟨b1, o1, none⟩) cs.length ca, b] 66)).alloc (Obj.cells #[Value.int .i64 5, Value.int .i64 n, Value.string s, Value.int .i64 (L : Int), Value.int .i64 (R : Int)] 98)).heap[w.heap.size + 1]? = some (Obj.cells #[Value.int .i64 5, Value.int .i64 n, Value.string s, Value.int .i64 (L : Int), Value.int .i64 (R : Int)] 98) := blk_at _ _ _ (by simp)
  refine (IL _ ((HR.out.below hb0).mono hb0.size)).mono ?_
  clear IL
  rintro e w1 ⟨rfl, hb1⟩
  have hb2 : Below w.heap.size w w1 := bT hb0 hb1
  have hc0 := cell_blk (j := 4) (blk_keep k1 hb1 (by simp)) rfl
  have K0 : Hid (w1.heap[w.heap.size]? = some (Obj.cells #[Value.slice (some ⟨b1, o1, none⟩) cs.length ca, b] 66)) := blk_keep k0 hb1 (by simp; omega)
  have hs1 := hb1.size
  simp at hs1
  clear k0 k1 hb0 hb1
  go_wp2
  go_loopw [6, 7] (fun t o wr => ∃ (x : Nat) (acc : List UInt8), x < i ∧ acc ++ rst cs x ++ [41] = sh cs i ∧ t = .string ⟨acc.toArray⟩ ∧ o = .int .i64 x ∧ wr.heap[w.heap.size]? = some (Obj.cells #[Value.slice (some ⟨b1, o1, none⟩) cs.length ca, b] 66) ∧ Below w.heap.size w wr)
   (fun _ o _ => (intOf o).toNat)
  case atStart => exact ⟨R, 40 :: sl, hRi, by rw [HS.out]; simp, congrArg Value.string (ByteArray.mk_append_mk [40] sl), rfl, K0.out, hb2⟩
  case round =>
   clear hc0 K0 hs1 hb2
   obtain ⟨x, acc, hx, hacc, rfl, rfl, hk0, hb⟩ := hrel
   obtain ⟨dx, hdx⟩ : ∃ dx, cs[x]? = some dx := ⟨_, List.getElem?_eq_getElem (by omega)⟩
   obtain ⟨b2, o2, heq, hbb2, c0, c1, c2, c3, c4⟩ := (HR.out.below hb) x dx hdx
   injection heq with heq
   injection heq with heq1 heq2
   subst heq1 heq2
   obtain ⟨hc0, hc1⟩ := zn2 hk0 rfl rfl
   have hsz : w.heap.size < wr.heap.size := (alt hk0)
   have HK : Hid _ := hk0
   have HA : Hid (acc ++ rst cs x ++ [41] = sh cs i) := hacc
   have x0 : (0 : Int) ≤ (x : Int) := by omega
   have x1 : (x : Int) < (cs.length : Int) := by omega
   by_cases hk5 : dx.k = 5
   ·have hrp := rst_pair HP.out hdx hk5
    obtain ⟨u1, u2, u3, u4⟩ := HP.out x dx hdx hk5
    obtain ⟨k', n', s', l', r'⟩ := dx
    simp only at *
    subst hk5
    obtain ⟨L', rfl⟩ := Int.eq_ofNat_of_zero_le u1
    obtain ⟨R', rfl⟩ := Int.eq_ofNat_of_zero_le u3
    simp only [Int.toNat_natCast] at *
    have hL' : L' < i := by omega
    have hR' : R' < x := by omega
    have IL := IH.out L' hL'
    rw [hrp] at hacc
    have HA' : Hid ((acc ++ 32 :: sh cs L') ++ rst cs R' ++ [41] = sh cs i) := by show _ = _; rw [← hacc]; simp
    have hlen : acc.length + (sh cs L').length + 2 ≤ 33554432 := by
     have h1 := HL.out i hi
     rw [← HA'.out] at h1
     simp only [List.length_cons, List.length_append, List.length_nil] at h1
     omega
    clear hrp hacc hk0
    generalize sh cs L' = sl' at *
    go_wp2
    go_region_with (go_at_call 77; refine (IL _ ?_).mono ?_; exact (HR.out.below (below_drewN hb _)).mono hb.size; rintro e w3 ⟨rfl, hb3⟩)
    all_goals
     have hb4 : Below w.heap.size w w3 := (below_drewN hb _).trans (hb3.mono hb.size)
     have hk3 : w3.heap[w.heap.size]? = some (Obj.cells #[Value.slice (some ⟨b1, o1, none⟩) cs.length ca, b] 66) := (hb3.block _ hsz).trans HK.out
     obtain ⟨b3, o3, heq3, _, d0, d1, d2, d3, d4⟩ := (HR.out.below hb4) x _ hdx
     injection heq3 with heq3
     injection heq3 with heq31 heq32
     subst heq31 heq32
     have hc3 := zB 0 hk3 rfl
     have HK3 : Hid _ := hk3
     clear hk3 c0 c1 c2 c3 c4 hc0 hc1
     go_wp2
     go_roundw
     case rel => exact ⟨R', acc ++ 32 :: sl', by omega, HA'.out, congrArg Value.string (app3 acc [32] sl'), rfl, HK3.out, hb4⟩
     case measure => simp [intOf]; omega
   ·have hk5' : (dx.k == 5) = false := by simp [hk5]
    by_cases hk4 : dx.k = 4
    ·rw [rst_nil hdx hk4, List.append_nil] at HA
     obtain ⟨k', n', s', l', r'⟩ := dx
     simp only at *
     subst hk4
     have hlen : acc.length + 1 ≤ 33554432 := by
      have h1 := HL.out i hi
      rw [← HA.out] at h1
      simp only [List.length_cons, List.length_append, List.length_nil] at h1
      omega
     clear hacc
     go_wp2
     go_ret
     exact ⟨by rw [← HA.out]; exact congrArg (fun z => Ending.returned (Value.string z)) (ByteArray.mk_append_mk acc [41]), hb⟩
    ·have hk4' : (dx.k != 4) = true := by simp [hk4]
     rw [rst_other hdx hk5 hk4] at HA
     have IL := IH.out x hx
     have hlen : acc.length + (sh cs x).length + 4 ≤ 33554432 := by
      have h1 := HL.out i hi
      rw [← HA.out] at h1
      simp only [List.length_cons, List.length_append, List.length_nil] at h1
      omega
     clear hacc
     generalize sh cs x = sl' at *
     go_wp2_with fail
     refine (IL _ ((HR.out.below hb).mono hb.size)).mono ?_
     rintro e w3 ⟨rfl, hb3⟩
     have hb4 : Below w.heap.size w w3 := bT hb hb3
     go_wp2
     go_ret
     exact ⟨by rw [← HA.out]; exact congrArg (fun z => Ending.returned (Value.string z)) ((congrArg (· ++ (⟨[41].toArray⟩ : ByteArray)) (app3 acc [32, 46, 32] sl')).trans (ByteArray.mk_append_mk _ [41])), hb4⟩
 ·exact l2Show_flat a ca b cs i d w hr hd (hwf d (List.mem_of_getElem? hd)) h5
end Go.Proofs.Ytgjeefedcfakdaa.R2
