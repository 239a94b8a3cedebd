/- The model: Show. The model: DataOk of what was read. -/
import Derived.Test.YtgjeefedcfakdaaRta
import Derived.Test.YtgjeefedcfakdaaRsa
import Derived.Test.YtgjeefedcfakdaaRpw
import Derived.Test.YtgjeefedcfakdaaRtp
set_option linter.unusedVariables false
namespace Go.Proofs.Ytgjeefedcfakdaa.R2
open Go.ChangeShapes Go.WideShapes Go.ChangeAt Go.RowKit
theorem shAll_snoc (cs : List Dat) (ts : List Int) (i : Nat) (t : Int) (h : ts[i]? = some t) : shAll cs (ts.take (i + 1)) = shAll cs (ts.take i) ++ (sh cs t.toNat ++ [10]) := by
 simp [shAll, List.take_add_one, h]
theorem shAll_take (cs : List Dat) (ts : List Int) (i : Nat) : (shAll cs (ts.take i)).length ≤ (shAll cs ts).length := by
 have h : shAll cs ts = shAll cs (ts.take i) ++ shAll cs (ts.drop i) := by
  unfold shAll
  rw [← List.flatMap_append, List.take_append_drop]
 rw [h, List.length_append]
 omega
noncomputable def showR (cs : List Dat) (ts : List Int) : List UInt8 := if treeB cs ts = true then shAll cs ts else []
theorem showR_tree {cs : List Dat} {ts : List Int} (h : treeB cs ts = true) : showR cs ts = shAll cs ts := if_pos h
theorem showR_not {cs : List Dat} {ts : List Int} (h : treeB cs ts = false) : showR cs ts = [] := if_neg (by rw [h]; decide)
set_option maxRecDepth 100000 in
set_option maxHeartbeats 4000000 in
theorem specShow_any (a b : Option Addr) (ca cb : Nat) (cs : List Dat) (ts : List Int) (w : World) (hbk : bulkD cs + ts.length ≤ 1048576) (hwf : ∀ d ∈ cs, d.wf) (hr : RowD w w.heap.size a cs) (hi : RowI w w.heap.size b ts) :
  Calls Try.prog 68 #[.agg #[.slice a cs.length ca, .slice b ts.length cb]] w fun e w' => Ans w (.string ⟨(showR cs ts).toArray⟩) e w' := by
 have hln := bulkD_len cs
 have HT : Hid (∀ w1, Below w.heap.size w w1 → Calls Try.prog 76 #[.agg #[.slice a cs.length ca, .slice b ts.length cb]] w1 fun e w' => Ans w1 (.bool (treeB cs ts)) e w') := fun w1 h => l2Tree_any a b ca cb cs ts w1 (by omega) (by omega) ((hr.below h).mono h.size) ((hi.below h).mono h.size)
 have hb0 : Below w.heap.size w (w.alloc (Obj.cells #[Value.slice a cs.length ca, Value.slice b ts.length cb] 66)) := bR _ _
 cases htb : treeB cs ts with
 | false =>
  rw [showR_not htb]
  rw [htb] at HT
  clear hr hi
  go_enter Try.func68, Try.ntmps68
  go_wp2_with fail
  refine (HT.out _ hb0).mono ?_
  rintro e w1 ⟨rfl, hb1⟩
  have hb2 := bT hb0 hb1
  go_wp2
  go_ret
  exact ⟨rfl, hb2⟩
 | true =>
  rw [showR_tree htb]
  rw [htb] at HT
  have htree := treeB_tree htb
  have HTR : Hid (TreeP cs ts) := htree
  have HR : Hid (RowD w w.heap.size a cs) := hr
  have HI : Hid (RowI w w.heap.size b ts) := hi
  have HS : Hid (∀ (i : Nat) (w1 : World), i < cs.length → Below w.heap.size w w1 → Calls Try.prog 77 #[.agg #[.slice a cs.length ca, .slice b ts.length cb], .int .i64 i] w1 fun e w' => Ans w1 (.string ⟨(sh cs i).toArray⟩) e w') := fun i w1 h hb => l2Show_any a ca (.slice b ts.length cb) cs (by omega) hwf htree.1 (fun j hj => sh_bound htree (by omega) j hj) rfl i w1 h ((hr.below hb).mono hb.size)
  have hsl := shAll_bound htree hbk
  clear hr hi htree
  go_enter Try.func68, Try.ntmps68
  go_wp2_with fail
  refine (HT.out _ hb0).mono ?_
  rintro e w1 ⟨rfl, hb1⟩
  have HK1 : Hid (w1.heap[w.heap.size]? = some (Obj.cells #[Value.slice a cs.length ca, Value.slice b ts.length cb] 66)) := blk_keep (blk_alloc w _) hb1 (by simp)
  have hb2 := bT hb0 hb1
  clear hb0 hb1
  go_wp2
  go_loopw [3, 4] (fun t o wr => ∃ (i : Nat), i ≤ ts.length ∧ t = .string ⟨(shAll cs (ts.take i)).toArray⟩ ∧ o = .int .i64 i ∧ wr.heap[w.heap.size]? = some (Obj.cells #[Value.slice a cs.length ca, Value.slice b ts.length cb] 66) ∧ Below w.heap.size w wr)
   (fun _ o _ => ts.length - (intOf o).toNat)
  case atStart => exact ⟨0, by omega, rfl, rfl, HK1.out, hb2⟩
  case round =>
   clear HK1 hb2
   obtain ⟨i, hi, rfl, rfl, hkd, hb⟩ := hrel
   obtain ⟨e0, e1⟩ := zn2 hkd rfl rfl
   have HKD : Hid (wr.heap[w.heap.size]? = some (Obj.cells #[Value.slice a cs.length ca, Value.slice b ts.length cb] 66)) := hkd
   have hsz : w.heap.size < wr.heap.size := (alt hkd)
   clear hkd
   by_cases hlt : i < ts.length
   ·obtain ⟨t, ht⟩ : ∃ t, ts[i]? = some t := ⟨_, List.getElem?_eq_getElem hlt⟩
    obtain ⟨q1, q2⟩ := HTR.out.2.1 t (List.mem_of_getElem? ht)
    obtain ⟨b1, o1, rfl, hbb, c0⟩ := (HI.out.below hb) i t ht
    obtain ⟨T, rfl⟩ := Int.eq_ofNat_of_zero_le q1
    have hsn := shAll_snoc cs ts i (T : Int) ht
    rw [Int.toNat_natCast] at hsn
    have hle := shAll_take cs ts (i + 1)
    have HSN : Hid (shAll cs (ts.take (i + 1)) = shAll cs (ts.take i) ++ (sh cs T ++ [10])) := hsn
    have hl2 : (shAll cs (ts.take i)).length + (sh cs T).length + 1 ≤ 33554432 := by
     rw [hsn] at hle
     simp only [List.length_append, List.length_cons, List.length_nil] at hle
     omega
    have HST := fun w1 hb => HS.out T w1 (by omega) hb
    have HST' : Hid (∀ (w1 : World), Below w.heap.size w w1 → Calls Try.prog 77 #[.agg #[.slice a cs.length ca, .slice (some ⟨b1, o1, none⟩) ts.length cb], .int .i64 T] w1 fun e w' => Ans w1 (.string ⟨(sh cs T).toArray⟩) e w') := HST
    clear hsn hle HST
    generalize shAll cs (ts.take i) = acc at *
    generalize sh cs T = sl at *
    go_wp2
    go_region_with (go_at_call 77; refine (HST'.out _ ?_).mono ?_; exact below_drewN hb _; rintro e w3 ⟨rfl, hb3⟩)
    all_goals
     have hb4 : Below w.heap.size w w3 := (below_drewN hb _).trans (hb3.mono hb.size)
     have hk3 : w3.heap[w.heap.size]? = some (Obj.cells #[Value.slice a cs.length ca, Value.slice (some ⟨b1, o1, none⟩) ts.length cb] 66) := (hb3.block _ hsz).trans HKD.out
     have HK3 : Hid _ := hk3
     clear hk3
     go_wp2
     go_roundw
     case rel => exact ⟨i + 1, by omega, by rw [HSN.out]; exact congrArg Value.string (app3 acc sl [10]), by go_num, HK3.out, hb4⟩
     case measure => simp [intOf]; omega
   ·have i1 : decide ((i : Int) < (ts.length : Int)) = false := by simp; omega
    obtain rfl : i = ts.length := by omega
    rw [List.take_length]
    go_wp2
    go_ret
    exact ⟨rfl, hb⟩
end Go.Proofs.Ytgjeefedcfakdaa.R2
set_option linter.unusedVariables false
namespace Go.Proofs.Ytgjeefedcfakdaa.R2
open Go.ChangeShapes Go.WideShapes Go.ChangeAt Go.RowKit
theorem flatD_get : ∀ (cs : List Dat) (i : Nat) (d : Dat), cs[i]? = some d → (flatD cs)[i * 5]? = some (.int .i64 d.k) ∧ (flatD cs)[i * 5 + 1]? = some (.int .i64 d.n) ∧ (flatD cs)[i * 5 + 2]? = some (.string d.s) ∧ (flatD cs)[i * 5 + 3]? = some (.int .i64 d.l) ∧ (flatD cs)[i * 5 + 4]? = some (.int .i64 d.r)
 | [], i, d, h => by simp at h
 | c :: cs, 0, d, h => by
  obtain rfl : c = d := by simpa using h
  exact ⟨rfl, rfl, rfl, rfl, rfl⟩
 | c :: cs, i + 1, d, h => by
  have ih := flatD_get cs i d (by simpa using h)
  have e : flatD (c :: cs) = [Value.int .i64 c.k, .int .i64 c.n, .string c.s, .int .i64 c.l, .int .i64 c.r] ++ flatD cs := by simp [flatD]
  have sh : ∀ j, (flatD (c :: cs))[(i + 1) * 5 + j]? = (flatD cs)[i * 5 + j]? := fun j => by
   rw [e, List.getElem?_append_right (by simp; omega)]
   congr 1
   simp
   omega
  exact ⟨(sh 0).trans ih.1, (sh 1).trans ih.2.1, (sh 2).trans ih.2.2.1, (sh 3).trans ih.2.2.2.1, (sh 4).trans ih.2.2.2.2⟩
theorem take_get {cur : Array Value} {xs : List Value} {m i : Nat} {v : Value} (h : List.take m cur.toList = xs) (hx : xs[i]? = some v) : cur[i]? = some v := by
 subst h
 have hi : i < m := by
  have := (llt hx)
  simp at this
  omega
 rw [List.getElem?_take_of_lt hi] at hx
 simpa using hx
theorem own_rowD {B cap : Nat} {a : Option Addr} {w : World} {cs : List Dat} (h : w.ownsRow B 98 5 (.slice a cs.length cap) cs.length (flatD cs)) : RowD w w.heap.size a cs := by
 intro i d hd
 obtain ⟨hl, ⟨hv, h0⟩ | ⟨g, cap', cur, hv, a1, hblk, a3, a4, a5, a6⟩⟩ := h
 ·rw [List.eq_nil_of_length_eq_zero h0] at hd
  simp at hd
 ·injection hv with h1 h2 h3
  obtain ⟨f0, f1, f2, f3, f4⟩ := flatD_get cs i d hd
  refine ⟨g, 0, h1, (alt hblk), ?_⟩
  rw [Nat.zero_add]
  exact ⟨cell_blk hblk (take_get a6 f0), cell_blk hblk (take_get a6 f1), cell_blk hblk (take_get a6 f2), cell_blk hblk (take_get a6 f3), cell_blk hblk (take_get a6 f4)⟩
theorem own_rowI {B cap : Nat} {a : Option Addr} {w : World} {ts : List Int} (h : w.ownsRow B 3 1 (.slice a ts.length cap) ts.length (ts.map (Value.int .i64 ·))) : RowI w w.heap.size a ts := by
 intro i x hx
 obtain ⟨hl, ⟨hv, h0⟩ | ⟨g, cap', cur, hv, a1, hblk, a3, a4, a5, a6⟩⟩ := h
 ·rw [List.eq_nil_of_length_eq_zero h0] at hx
  simp at hx
 ·injection hv with h1 h2 h3
  refine ⟨g, 0, h1, (alt hblk), ?_⟩
  rw [Nat.zero_add]
  exact cell_blk hblk (take_get a6 (by rw [List.getElem?_map, hx]; rfl))
def oC : Except Nat (St × List Int) → List Dat
 | .ok (st, _) => st.cs
 | .error _ => []
def oT : Except Nat (St × List Int) → List Int
 | .ok (_, ts) => ts
 | .error _ => []
def oP : Except Nat (St × List Int) → Int
 | .ok _ => -1
 | .error p => p
theorem oP_sign (L : Except Nat (St × List Int)) : oP L = -1 ∨ 0 ≤ oP L := by
 match L with
 | .ok x => exact .inl rfl
 | .error p => exact .inr (by simp [oP])
theorem RdS.out {w w' : World} {L : Except Nat (St × List Int)} {e : Ending} (h : RdS w L e w') : ∃ (ao bo : Option Addr) (ca cb : Nat), e = .returned (.tuple #[.agg #[.slice ao (oC L).length ca, .slice bo (oT L).length cb], .int .i64 (oP L)]) ∧ (oC L).length ≤ 1000 ∧ w'.ownsRow w.heap.size 98 5 (.slice ao (oC L).length ca) (oC L).length (flatD (oC L)) ∧ w'.ownsRow w.heap.size 3 1 (.slice bo (oT L).length cb) (oT L).length ((oT L).map (Value.int .i64 ·)) ∧ Below w.heap.size w w' := by
 match L, h with
 | .ok (st, ts), h =>
  obtain ⟨ao, bo, ca, cb, h1, h2, h3, h4, h5⟩ := h
  exact ⟨ao, bo, ca, cb, h1, h2, h3, h4, h5⟩
 | .error p, h =>
  obtain ⟨h1, h2⟩ := h
  exact ⟨none, none, 0, 0, h1, by simp [oC], ⟨rfl, .inl ⟨rfl, rfl⟩⟩, ⟨rfl, .inl ⟨rfl, rfl⟩⟩, h2⟩
theorem top_len (s : ByteArray) (F : Nat) : ∀ (f : Nat) (ts : List Int) (st st' : St) (ts' : List Int), st.nx ≤ s.size → topP s F f ts st = .ok (st', ts') → ts'.length ≤ ts.length + (s.size - st.nx)
 | 0, ts, st, st', ts', _, h => by cases h
 | f + 1, ts, st, st', ts', hn, h => by
  rw [topP] at h
  split at h
  ·have := Except.ok.inj h
   injection this with _ h2
   subst h2
   omega
  ·obtain ⟨y, h1, h2⟩ := bind_ok h
   obtain ⟨n1, n2⟩ := datP_prog (skAt_le s st.nx hn) h1
   have := top_len s F f _ _ _ _ n2 h2
   have := skAt_ge s st.nx
   simp at *
   omega
theorem oT_len (s : ByteArray) (F f : Nat) : (oT (topP s F f [] ⟨0, 0, []⟩)).length ≤ s.size := by
 cases h : topP s F f [] ⟨0, 0, []⟩ with
 | error p => simp [oT]
 | ok x =>
  obtain ⟨st', ts'⟩ := x
  have := top_len s F f _ _ _ _ (Nat.zero_le _) h
  simpa [oT] using this
def RdO (cs : List Dat) (ts : List Int) (p : Int) (w : World) (e : Ending) (w' : World) : Prop :=
 ∃ (ao bo : Option Addr) (ca cb : Nat), e = .returned (.tuple #[.agg #[.slice ao cs.length ca, .slice bo ts.length cb], .int .i64 p]) ∧ w'.ownsRow w.heap.size 98 5 (.slice ao cs.length ca) cs.length (flatD cs) ∧ w'.ownsRow w.heap.size 3 1 (.slice bo ts.length cb) ts.length (ts.map (Value.int .i64 ·)) ∧ Below w.heap.size w w' ∧ cs.length ≤ 1000
open Go.ChangeShapes Go.WideShapes Go.ChangeAt Go.RowKit
theorem ok_size {cs : List Dat} (h : okC cs) : ∀ d ∈ cs, d.s.size ≤ 16 := by
 intro d hd
 obtain ⟨i, hi⟩ := List.mem_iff_getElem?.1 hd
 rcases h i d hi with ⟨_, s, _⟩ | ⟨_, s, _⟩ | ⟨_, s, _⟩ | ⟨_, s, _⟩ | ⟨_, s, _⟩
 ·rw [s]; decide
 ·rw [s]; decide
 ·simp only [syL, Bool.and_eq_true, decide_eq_true_eq] at s
  have := s.1.1.1.2
  simpa using this
 ·rw [s]; decide
 ·rw [s]; decide
theorem bulk_le : ∀ (cs : List Dat), (∀ d ∈ cs, d.s.size ≤ 16) → bulkD cs ≤ 17 * cs.length
 | [], _ => by simp [bulkD]
 | d :: cs, h => by
  have h1 := h d (by simp)
  have h2 := bulk_le cs fun x hx => h x (by simp [hx])
  simp only [bulkD, List.length_cons]
  omega
open Go.ChangeShapes Go.WideShapes Go.ChangeAt Go.RowKit
set_option maxRecDepth 100000 in
set_option maxHeartbeats 1000000 in
theorem specDok (a b : Option Addr) (ca cb : Nat) (cs cs' : List Dat) (ts ts' : List Int) (p : Int) (S : ByteArray) (w : World) (hm : ts'.length ≤ 33554432) (hr : RowD w w.heap.size a cs) (hi : RowI w w.heap.size b ts)
  (HSH : ∀ w1, Below w.heap.size w w1 → Calls Try.prog 68 #[.agg #[.slice a cs.length ca, .slice b ts.length cb]] w1 fun e w' => Ans w1 (.string S) e w')
  (HRD : ∀ w1, Calls Try.prog 40 #[.string S] w1 fun e w' => RdO cs' ts' p w1 e w') (r : Bool) (hpr : p < 0 → r = (decide (cs' = cs) && decide (ts' = ts))) (hpn : 0 ≤ p → r = false) :
  Calls Try.prog 54 #[.agg #[.slice a cs.length ca, .slice b ts.length cb]] w fun e w' => Ans w (.bool r) e w' := by
 have HS : Hid (∀ w1, Below w.heap.size w w1 → Calls Try.prog 68 #[.agg #[.slice a cs.length ca, .slice b ts.length cb]] w1 fun e w' => Ans w1 (.string S) e w') := HSH
 have HR : Hid (∀ w1, Calls Try.prog 40 #[.string S] w1 fun e w' => RdO cs' ts' p w1 e w') := HRD
 have HD : Hid (RowD w w.heap.size a cs) := hr
 have HI : Hid (RowI w w.heap.size b ts) := hi
 have HP : Hid (p < 0 → r = (decide (cs' = cs) && decide (ts' = ts))) := hpr
 have HN : Hid (0 ≤ p → r = false) := hpn
 clear HSH HRD hr hi hpr hpn
 go_enter Try.func54, Try.ntmps54
 obtain ⟨v0, hv0⟩ : ∃ v0, v0 = w.alloc (Obj.cells #[Value.slice a cs.length ca, Value.slice b ts.length cb] 66) := ⟨_, rfl⟩
 have hb0 : Below w.heap.size w v0 := by rw [hv0]; exact bR _ _
 have k0 : v0.heap[w.heap.size]? = some (Obj.cells #[Value.slice a cs.length ca, Value.slice b ts.length cb] 66) := by rw [hv0]; exact blk_at _ _ _ rfl
 have HV0 : Hid (v0 = w.alloc (Obj.cells #[Value.slice a cs.length ca, Value.slice b ts.length cb] 66)) := hv0
 have HB0 : Hid (Below w.heap.size w v0) := hb0
 have K0 : Hid (v0.heap[w.heap.size]? = some (Obj.cells #[Value.slice a cs.length ca, Value.slice b ts.length cb] 66)) := k0
 clear hv0 hb0 k0
 go_wp2_with fail
 rw [← HV0.out]
 refine (HS.out v0 HB0.out).mono ?_
 rintro e w1 ⟨rfl, hb1⟩
 have hz0 := HB0.out.size
 have k1 : w1.heap[w.heap.size]? = some (Obj.cells #[Value.slice a cs.length ca, Value.slice b ts.length cb] 66) := (hb1.block _ (alt K0.out)).trans K0.out
 have HB1 : Hid (Below w.heap.size w w1) := HB0.out.trans (hb1.mono hz0)
 have K1 : Hid (w1.heap[w.heap.size]? = some (Obj.cells #[Value.slice a cs.length ca, Value.slice b ts.length cb] 66)) := k1
 clear hb1 k1
 go_wp2_with fail
 refine (HR.out w1).mono ?_
 rintro e w2 ⟨a2, b2, ca2, cb2, rfl, o2, i2, hb2, hn2⟩
 have hz2 := hb2.size
 have hz1 := HB1.out.size
 have hzl := (alt K1.out)
 obtain ⟨v2, hv2⟩ : ∃ v2, v2 = w2.alloc (Obj.cells #[Value.slice a2 cs'.length ca2, Value.slice b2 ts'.length cb2] 66) := ⟨_, rfl⟩
 have hbv : Below w2.heap.size w2 v2 := by rw [hv2]; exact bR _ _
 have hB2 : Below w1.heap.size w1 v2 := hb2.trans (hbv.mono hz2)
 have hBw : Below w.heap.size w v2 := HB1.out.trans (hB2.mono hz1)
 have k2 : v2.heap[w.heap.size]? = some (Obj.cells #[Value.slice a cs.length ca, Value.slice b ts.length cb] 66) := (hB2.block _ hzl).trans K1.out
 have c0 : (w2.alloc (Obj.cells #[Value.slice a2 cs'.length ca2, Value.slice b2 ts'.length cb2] 66)).cell? ⟨w.heap.size, 0, none⟩ = some (Value.slice a cs.length ca) := by rw [← hv2]; exact cell_blk (j := 0) k2 rfl
 have c1 : (w2.alloc (Obj.cells #[Value.slice a2 cs'.length ca2, Value.slice b2 ts'.length cb2] 66)).cell? ⟨w.heap.size, 1, none⟩ = some (Value.slice b ts.length cb) := by rw [← hv2]; exact cell_blk (j := 1) k2 rfl
 have HSA : Hid (Calls Try.prog 69 #[.agg #[.slice a2 cs'.length ca2, .slice b2 ts'.length cb2], .agg #[.slice a cs.length ca, .slice b ts.length cb]] v2 fun e w' => Ans v2 (.bool (decide (cs' = cs) && decide (ts' = ts))) e w') := l2Same_any a2 b2 a b cs' cs ts' ts ca2 cb2 ca cb v2 (by omega) (by omega) (((own_rowD o2).below hbv).mono hbv.size) (((own_rowI i2).below hbv).mono hbv.size) ((HD.out.below hBw).mono hBw.size) ((HI.out.below hBw).mono hBw.size)
 have HV2 : Hid (v2 = w2.alloc (Obj.cells #[Value.slice a2 cs'.length ca2, Value.slice b2 ts'.length cb2] 66)) := hv2
 have HBW : Hid (Below w.heap.size w v2) := hBw
 clear o2 i2 hb2 hv2 hbv hB2 hBw k2
 by_cases hp : p < 0
 ·have hr := HP.out hp
  obtain ⟨q, hq⟩ : ∃ q, q = (decide (cs' = cs) && decide (ts' = ts)) := ⟨_, rfl⟩
  rw [← hq] at HSA hr
  subst hr
  clear hq
  go_wp2_with fail
  rw [← HV2.out]
  refine HSA.out.mono ?_
  rintro e w3 ⟨rfl, hb3⟩
  have HB3 : Hid (Below w.heap.size w w3) := bT HBW.out hb3
  clear hb3 c0 c1
  go_wp2
  go_ret
  exact ⟨rfl, HB3.out⟩
 ·have hr := HN.out (by omega)
  subst hr
  have hpd : decide (p < 0) = false := by simp; omega
  clear hp
  go_wp2
  go_ret
  refine ⟨rfl, ?_⟩
  rw [← HV2.out]
  exact HBW.out
theorem read_ok (s : ByteArray) (hs : s.size ≤ 1048576) : ∃ (cs : List Dat) (ts : List Int) (p : Int), (p = -1 ∨ 0 ≤ p) ∧ okC cs ∧ ts.length ≤ s.size ∧ (∀ t ∈ ts, 0 ≤ t ∧ t < cs.length) ∧ ∀ w, Calls Try.prog 40 #[.string s] w fun e w' => RdO cs ts p w e w' := by
 obtain ⟨L, hL⟩ : ∃ L, L = topP s (2 * s.size + 2) (s.size + 1) [] ⟨0, 0, []⟩ := ⟨_, rfl⟩
 have hT : (oT L).length ≤ s.size := by rw [hL]; exact oT_len s _ _
 have hq : okC (oC L) ∧ ∀ t ∈ oT L, 0 ≤ t ∧ t < (oC L).length := by
  cases h : L with
  | error p => exact ⟨fun i d h => by simp [oC] at h, fun t h => by simp [oT] at h⟩
  | ok x =>
   obtain ⟨st, ts⟩ := x
   rw [h] at hL
   exact top_ok s _ _ _ _ _ _ (fun i d h => by simp at h) (fun t h => by simp at h) hL.symm
 refine ⟨oC L, oT L, oP L, oP_sign L, hq.1, hT, hq.2, fun w => ?_⟩
 have := specRead_any s w hs (2 * s.size + 2) (by omega) (s.size + 1) (by omega)
 rw [← hL] at this
 refine this.mono fun e w' h => ?_
 obtain ⟨ao, bo, ca, cb, h1, h2, h3, h4, h5⟩ := RdS.out h
 exact ⟨ao, bo, ca, cb, h1, h3, h4, h5, h2⟩
theorem ok_wf {cs : List Dat} (h : okC cs) (hn : cs.length ≤ 1000) : ∀ d ∈ cs, d.wf := by
 intro d hd
 have hz := ok_size h d hd
 obtain ⟨i, hi⟩ := List.mem_iff_getElem?.1 hd
 have hlt := (llt hi)
 rcases h i d hi with ⟨k, _, n1, n2, l, r⟩ | ⟨k, _, n, l, r⟩ | ⟨k, _, n, l, r⟩ | ⟨k, _, n, l, r⟩ | ⟨k, _, n, l0, l1, r0, r1⟩ <;>
  exact ⟨⟨by omega, by omega⟩, ⟨by omega, by omega⟩, ⟨by omega, by omega⟩, ⟨by omega, by omega⟩, by omega⟩
theorem show_sz {cs : List Dat} {ts : List Int} (hok : okC cs) (hn : cs.length ≤ 1000) (ht : ts.length ≤ 1000000) : (⟨(showR cs ts).toArray⟩ : ByteArray).size ≤ 1048576 := by
 have hb := bulk_le cs (ok_size hok)
 show (showR cs ts).toArray.size ≤ _
 rw [List.size_toArray]
 cases hb2 : treeB cs ts with
 | false => rw [showR_not hb2]; simp
 | true =>
  rw [showR_tree hb2]
  have h1 := tops_wt (treeB_tree hb2)
  have h2 := shAll_le (treeB_tree hb2).1 ts
  omega
theorem dok_any (cs : List Dat) (ts : List Int) (hok : okC cs) (hn : cs.length ≤ 1000) (ht : ts.length ≤ 1000000) : ∃ r : Bool, ∀ (a b : Option Addr) (ca cb : Nat) (w : World), RowD w w.heap.size a cs → RowI w w.heap.size b ts →
  Calls Try.prog 54 #[.agg #[.slice a cs.length ca, .slice b ts.length cb]] w fun e w' => Ans w (.bool r) e w' := by
 have hb := bulk_le cs (ok_size hok)
 have hz := show_sz (ts := ts) hok hn ht
 obtain ⟨cs', ts', p, hp, _, ht', _, hrd⟩ := read_ok _ hz
 refine ⟨if p < 0 then (decide (cs' = cs) && decide (ts' = ts)) else false, fun a b ca cb w hr hi => ?_⟩
 exact specDok a b ca cb cs cs' ts ts' p _ w (by omega) hr hi
  (fun w1 h => specShow_any a b ca cb cs ts w1 (by omega) (ok_wf hok hn) ((hr.below h).mono h.size) ((hi.below h).mono h.size))
  hrd _ (fun h => if_pos h) (fun h => if_neg (by omega))
end Go.Proofs.Ytgjeefedcfakdaa.R2
