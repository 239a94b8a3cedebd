/- The model: a program and a place in it, drawn. The law's own functions: big, has, sameTexts. How deep the nodes of a program stand, as a plain function; depths in memory. What is free in a node: told by a variable in it, not bound around; how deep a program is. A map by a name and a way, its elements numbers: what it says, key by key. What the program counts while it goes through a node: how often a name is bound around, and whether it is told. A key of the map counted up or down: its entry, and what is stored there. -/
import Derived.Test.YtgjeefedcfakdaaYsy
import Derived.Test.YtgjeefedcfakdaaKmp
import Derived.Test.YtgjeefedcfakdaaPsa
import Derived.Test.YtgjeefedcfakdaaXbn
import Derived.DeepKeys4
import Derived.WideKeyEntry
set_option linter.unusedVariables false
namespace Go.Proofs.Ytgjeefedcfakdaa
open Go.ChangeShapes Go.WideShapes Go.ChangeAt Go.RowKit
open Cu (Cw Code1 CurS CodeAt)
def DfPost (w : World) (e : Ending) (w' : World) : Prop :=
 ∃ (a : Option Addr) (cap : Nat) (ns : List Nod) (root i : Int), e = .returned (.tuple #[.agg #[.slice a ns.length cap, .int .i64 root], .int .i64 i]) ∧ RowN w' w'.heap.size a ns ∧ ns.length ≤ 401 ∧ (∀ d ∈ ns, NSw d) ∧ i64B root ∧ i64B i ∧ Below w.heap.size w w'
theorem wrap_b (x : Int) : i64B (IntKind.i64.wrap x) := by
 simp [i64B, IntKind.wrap, IntKind.bits, IntKind.signed]
 omega
theorem info26s : (Try.prog.info? 26).map (·.size) = some 2 := by kernel_rfl
theorem ret26 {fn : Func} {p u : Tmp} {tmps : Array Value} {W : World} {g : Nat} {v0 v1 z : Value} (hf : fn.results = #[.cell p 26, .tmp u]) (hp : tmps.getD p undef = .pointer (some ⟨g, 0, none⟩)) (hu : tmps.getD u undef = z) (hk : W.heap[g]? = some (.cells #[v0, v1] 26 (0, 0))) :
  (results fn tmps).run Try.prog W = .ok (.tuple #[.agg #[v0, v1], z]) W := by
 have hp' : tmps[p]?.getD undef = .pointer (some ⟨g, 0, none⟩) := by simpa using hp
 have hu' : tmps[u]?.getD undef = z := by simpa using hu
 simp [results, hf, hp', hu', asAddr, run_loadVar_row _ g 26 26 _ (0, 0) _ hk Try.underlying26 rfl info26s]
theorem two_set {W : World} {g : Nat} {x0 x1 v0 v1 : Value} (h : W.heap[g]? = some (.cells #[x0, x1] 26 (0, 0))) : ((W.setCell ⟨g, 0, none⟩ v0).setCell ⟨g, 1, none⟩ v1).heap[g]? = some (.cells #[v0, v1] 26 (0, 0)) :=
 heap_setCell_same _ _ 1 _ _ v1 (heap_setCell_same _ _ 0 _ _ v0 h)
theorem DfPost.drew {w W : World} {e : Ending} (h : DfPost w e W) : DfPost w e W.drew := by
 obtain ⟨a, cap, ns, root, i, h1, h2, h3, h4, h5, h6, h7⟩ := h
 exact ⟨a, cap, ns, root, i, h1, h2, h3, h4, h5, h6, h7.drew⟩
theorem cw_below {w w1 W : World} {c : Nat} {d : Code1} (hb : Below w.heap.size w w1) (hc : w.heap.size ≤ c) (h : Cw w1 c d W) : Below w.heap.size w W :=
 ⟨h.2.1.os.trans hb.os, h.2.1.tape.trans hb.tape, h.2.1.output.trans hb.output, Nat.le_trans hb.size h.2.1.size, fun b hlt => (h.2.1.block b (Nat.lt_of_lt_of_le hlt hb.size) fun e => by have := Option.some.inj e; omega).trans (hb.block b hlt)⟩
theorem codeAt_up {w w' : World} {B B' : Nat} {d : Code1} (h : CodeAt w B d) (hb : B ≤ B') (hk : ∀ b, b < B → w'.heap[b]? = w.heap[b]?) : CodeAt w' B' d := by
 obtain ⟨h1, h2, h3⟩ := Cu.code_of_block h hk
 exact ⟨h1, h2, fun j hj => by obtain ⟨b, o, e, hlt, hc⟩ := h3 j hj; exact ⟨b, o, e, by omega, hc⟩⟩
theorem df_end {w w1 W : World} {c : Nat} {d : Code1} {a : Option Addr} {cap lo : Nat} {ns : List Nod} {root i : Int} (hb : Below w.heap.size w w1) (hc : w.heap.size ≤ c) (h : Cw w1 c d W) (hr : RowG W lo a ns) (hlo : w.heap.size < lo) (hl : ns.length ≤ 401) (hs : ∀ d ∈ ns, NSw d) (h1 : i64B root) (h2 : i64B i) (x y : Value) : DfPost w (.returned (.tuple #[.agg #[.slice a ns.length cap, .int .i64 root], .int .i64 i])) ((W.setCell ⟨w.heap.size, 0, none⟩ x).setCell ⟨w.heap.size, 1, none⟩ y) :=
 ⟨a, cap, ns, root, i, rfl, ((hr.set hlo).set hlo).rown, hl, hs, h1, h2, ((cw_below hb hc h).setCell (p := ⟨w.heap.size, _, none⟩) (Nat.le_refl _) _).setCell (p := ⟨w.heap.size, _, none⟩) (Nat.le_refl _) _⟩
set_option maxRecDepth 100000 in
set_option maxHeartbeats 4000000 in
theorem drawFree_any (d : Code1) (w : World) (hc : CodeAt w w.heap.size d) : Calls Try.prog 5 #[.slice d.a d.len d.cap] w fun e W => DfPost w e W := by
 have HN : Hid (Calls Try.prog 15 #[.slice d.a d.len d.cap] (w.alloc (Obj.cells #[.slice none 0 0, .int .i64 0] 26)) fun e w' => e = .returned (.pointer (some ⟨w.heap.size + 1, 0, none⟩)) ∧ CurS w' (w.heap.size + 1) d (Cu.newS d) ∧ Below (w.heap.size + 1) (w.alloc (Obj.cells #[.slice none 0 0, .int .i64 0] 26)) w') := by
  have hz : (w.alloc (Obj.cells #[.slice none 0 0, .int .i64 0] 26)).heap.size = w.heap.size + 1 := by simp
  have h := Cu.new_st d (w.alloc (Obj.cells #[.slice none 0 0, .int .i64 0] 26)) (codeAt_up hc (by rw [hz]; omega) fun b hb => heap_push_lt hb)
  rw [hz] at h
  exact h
 clear hc
 go_enter Try.func5, Try.ntmps5
 go_wp2_with fail
 refine HN.out.mono ?_
 rintro e w1 ⟨rfl, hcur, hb1⟩
 have HZ1 : Hid (w1.heap[w.heap.size]? = some (Obj.cells #[.slice none 0 0, .int .i64 0] 26)) := (hb1.block _ (by omega)).trans (blk_at _ _ _ rfl)
 have HB1 : Hid (Below w.heap.size w w1) := (bR _ _).trans (hb1.mono (by omega))
 have HC1 : Hid (Cw w1 (w.heap.size + 1) d w1) := Cw_self ⟨_, hcur⟩ (Cu.cur_lt hcur)
 clear HN hcur hb1
 go_wp2_with fail
 refine (Cu.below_cw w1 _ d 4 w1 HC1.out (by decide) (by decide)).mono ?_
 rintro e w2 ⟨k, rfl, hk, hc2⟩
 have HC2 : Hid (Cw w1 (w.heap.size + 1) d w2) := hc2
 have hlt2 : w.heap.size + 1 < w2.heap.size := hc2.lt
 have HZ2 : Hid (w2.heap[w.heap.size]? = some (Obj.cells #[.slice none 0 0, .int .i64 0] 26)) := Cw_blk hc2 HZ1.out (by omega)
 have HL : Hid (Calls Try.prog 16 #[.pointer (some ⟨w.heap.size + 1, 0, none⟩), .int .i64 ((1 : Int) + (k : Int))] w2 fun e w' => PwPost w2 (w.heap.size + 1) d e w') := by
  have h := l3Any_any w2 (w.heap.size + 1) d (1 + k) (by omega) hc2.1 hlt2
  have e1 : ((1 + k : Nat) : Int) = (1 : Int) + (k : Int) := by omega
  rw [e1] at h
  exact h
 clear hc2 HC1 HZ1
 go_wp2_with fail
 refine HL.out.mono ?_
 rintro e w3 ⟨a, cap, ns, root, rfl, hrow, hl, hsm, hroot, hc3⟩
 have HC3 : Hid (Cw w1 (w.heap.size + 1) d w3) := Cw_trans HC2.out hc3
 have HZ3 : Hid (w3.heap[w.heap.size]? = some (Obj.cells #[.slice none 0 0, .int .i64 0] 26)) := Cw_blk hc3 HZ2.out (by omega)
 have hs3 : w2.heap.size ≤ w3.heap.size := hc3.2.1.size
 have HR3 : Hid (RowG w3 (w2.heap.size + 1) a ns) := hrow
 have HS : Hid (∀ d ∈ ns, NSw d) := hsm
 have HI : Hid (i64B root) := hroot
 have HLN : Hid (ns.length ≤ 401) := hl
 clear HL hrow hsm hroot hc3 HC2 HZ2
 go_wp2_with fail
 refine (Cu.once_cw (w3.alloc (Obj.cells #[.slice a ns.length cap, .int .i64 root] 26)) _ d 2 _ (Cw_self ((Cw_self HC3.out.1 HC3.out.lt).alloc _).1 (Nat.lt_trans HC3.out.lt (by simp))) (by decide) (by decide)).mono ?_
 rintro e w4 ⟨b, rfl, hc4⟩
 have HC4 : Hid (Cw w1 (w.heap.size + 1) d w4) := Cw_trans (HC3.out.alloc _) hc4
 have z4 : w4.heap[w.heap.size]? = some (Obj.cells #[.slice none 0 0, .int .i64 0] 26) := Cw_blk hc4 ((heap_push_lt (by omega)).trans HZ3.out) (by omega)
 have k4 : w4.heap[w3.heap.size]? = some (Obj.cells #[.slice a ns.length cap, .int .i64 root] 26) := Cw_blk hc4 (blk_at _ _ _ rfl) (by omega)
 have HR4 : Hid (RowG w4 (w2.heap.size + 1) a ns) := HR3.out.keep (Nat.le_trans (by simp) hc4.2.1.size) fun q h1 h2 => (hc4.2.1.block q (Nat.lt_trans h2 (by simp)) (fun e => by have := Option.some.inj e; omega)).trans (heap_push_lt h2)
 have HZ4 : Hid _ := z4
 have hs4 : w3.heap.size < w4.heap.size := (alt k4)
 obtain ⟨z0, z1⟩ := zn2 z4 rfl rfl
 have f0 := frozen_blk z4 0
 have f1 := frozen_blk z4 1
 obtain ⟨p0, p1⟩ := zn2 k4 rfl rfl
 have n1 : ¬ w.heap.size = w3.heap.size := by omega
 have n2 : ¬ w3.heap.size = w.heap.size := by omega
 clear HC3 HZ3 HR3 hc4 z4
 cases b
 ·have HCL : Hid (Calls Try.prog 17 #[.pointer (some ⟨w.heap.size + 1, 0, none⟩), .int .i64 (IntKind.i64.wrap ((ns.length : Int) + 2))] w4.drew fun e W' => ∃ q : Nat, e = .returned (.int .i64 (q : Int)) ∧ q < ns.length + 2 ∧ Cw w4 (w.heap.size + 1) d W') := by
   have hl := HLN.out
   have e1 : IntKind.i64.wrap ((ns.length : Int) + 2) = ((ns.length + 2 : Nat) : Int) := by simp [IntKind.wrap, IntKind.bits, IntKind.signed]; omega
   rw [e1]
   exact Cu.below_cw w4 _ d (ns.length + 2) _ ((Cw_self HC4.out.1 HC4.out.lt).drew 1) (by omega) (by omega)
  go_upto_region 5 with fail
  go_region_with (go_at_call 17; refine HCL.out.mono ?_; rintro e w5 ⟨q, rfl, hq, hc5⟩; have HC5 : Hid (Cw w1 (w.heap.size + 1) d w5) := Cw_trans HC4.out hc5; have z5 : w5.heap[w.heap.size]? = some (Obj.cells #[.slice none 0 0, .int .i64 0] 26) := Cw_blk hc5 HZ4.out (by omega); have k5 := Cw_blk hc5 k4 (by omega); have HR5 : Hid (RowG w5 (w2.heap.size + 1) a ns) := HR4.out.keep hc5.2.1.size fun q h1 h2 => hc5.2.1.block q h2 (fun e => by have := Option.some.inj e; omega); have HZ5 : Hid _ := z5; have q0 := cell_blk (j := 0) k5 rfl; have q1 := cell_blk (j := 1) k5 rfl; have y0 := cell_blk (j := 0) z5 rfl; have y1 := cell_blk (j := 1) z5 rfl; have g0 := frozen_blk z5 0; have g1 := frozen_blk z5 1; clear hc5 z5)
  all_goals
   have HI5 : Hid (i64B (IntKind.i64.wrap ((q : Int) - 1))) := wrap_b _
   go_wp2
   refine bodyPost_ret (ret26 rfl rfl rfl (two_set HZ5.out)) rfl ?_
   exact df_end HB1.out (Nat.le_succ _) HC5.out HR5.out (by omega) HLN.out HS.out HI.out HI5.out _ _
 ·go_upto_region 4 with fail
  go_region
  all_goals
   go_wp2
   refine bodyPost_ret (ret26 rfl rfl rfl (two_set HZ4.out)) rfl ?_
   exact DfPost.drew (df_end HB1.out (Nat.le_succ _) HC4.out HR4.out (by omega) HLN.out HS.out HI.out HI.out _ _)
end Go.Proofs.Ytgjeefedcfakdaa
set_option linter.unusedVariables false
set_option maxRecDepth 100000
set_option maxHeartbeats 8000000
namespace Go.Proofs.Ytgjeefedcfakdaa
open Go.ChangeShapes Go.WideShapes Go.ChangeAt Go.RowKit
theorem big_any (a : Option Addr) (n cap : Nat) (w : World) : Calls Try.prog 4 #[.slice a n cap] w fun e w' => Ans w (.bool (decide ((1048576 : Int) < (n : Int)))) e w' := by
 go_enter Try.func4, Try.ntmps4
 go_wp2
 go_ret
 exact ⟨rfl, Below.refl _ _⟩
theorem has_any (a : Option Addr) (ts : List ByteArray) (cap : Nat) (s : ByteArray) (w : World) (hn : ts.length ≤ 1048576) (hr : RowS w w.heap.size a ts) :
  Calls Try.prog 10 #[.slice a ts.length cap, .string s] w fun e w' => e = .returned (.bool (hasS ts s)) ∧ ∃ m, w' = w.drewN m := by
 have HR : Hid (RowS w w.heap.size a ts) := hr
 clear hr
 go_enter Try.func10, Try.ntmps10
 go_wp2
 go_loopw [5] (fun o wr => ∃ (i m : Nat), i ≤ ts.length ∧ o = .int .i64 i ∧ hasS (ts.take i) s = false ∧ wr = w.drewN m)
  (fun o _ => ts.length - (intOf o).toNat)
 case atStart => exact ⟨0, 0, by omega, rfl, by simp [hasS], rfl⟩
 case round =>
  obtain ⟨i, m, hi, rfl, hno, rfl⟩ := hrel
  by_cases hlt : i < ts.length
  ·obtain ⟨d, hd⟩ : ∃ d, ts[i]? = some d := ⟨_, List.getElem?_eq_getElem hlt⟩
   obtain ⟨b1, o1, rfl, hbb, c0⟩ := HR.out i d hd
   by_cases he : (d.toList == s.toList) = true
   ·have HQ : Hid (hasS ts s = true) := hasS_of hd he
    clear hno
    go_wp2
    all_goals (try go_quiet (fail))
    all_goals (try go_wp2)
    all_goals
     go_ret
     exact ⟨by rw [HQ.out]; rfl, _, by first | rfl | exact World.drewN_drewN ..⟩
   ·have he : (d.toList == s.toList) = false := by simpa using he
    have HQ : Hid (hasS (ts.take (i + 1)) s = false) := by show _ = _; rw [hasS_take hd, hno, he]; rfl
    clear hno
    go_wp2
    all_goals (try go_quiet (fail))
    all_goals (try go_wp2)
    all_goals
     go_roundw
     case rel => exact ⟨i + 1, _, by omega, by go_num, HQ.out, by first | rfl | exact World.drewN_drewN ..⟩
     case measure => simp [intOf]; omega
  ·have hlt' : decide ((i : Int) < (ts.length : Int)) = false := by simp; omega
   obtain rfl : i = ts.length := by omega
   rw [List.take_length] at hno
   have HQ : Hid (hasS ts s = false) := hno
   clear hno
   go_wp2
   go_ret
   exact ⟨by rw [HQ.out]; rfl, _, rfl⟩
theorem same_any (a b : Option Addr) (ts : List ByteArray) (c1 c2 : Nat) (w : World) (hn : ts.length ≤ 1048576) (hr : RowS w w.heap.size a ts) (hs : RowS w w.heap.size b ts) :
  Calls Try.prog 7 #[.slice a ts.length c1, .slice b ts.length c2] w fun e w' => Ans w (.bool true) e w' := by
 have HR : Hid (RowS w w.heap.size a ts) := hr
 have HS : Hid (RowS w w.heap.size b ts) := hs
 clear hr hs
 go_enter Try.func7, Try.ntmps7
 go_wp2
 go_loopw [5] (fun o wr => ∃ (i : Nat), i ≤ ts.length ∧ o = .int .i64 i ∧ Below w.heap.size w wr)
  (fun o _ => ts.length - (intOf o).toNat)
 case atStart => exact ⟨0, by omega, rfl, Below.refl _ _⟩
 case round =>
  obtain ⟨i, hi, rfl, hb⟩ := hrel
  by_cases hlt : i < ts.length
  ·obtain ⟨d, hd⟩ : ∃ d, ts[i]? = some d := ⟨_, List.getElem?_eq_getElem hlt⟩
   obtain ⟨b1, o1, rfl, hbb, c0⟩ := (HR.out.below hb) i d hd
   obtain ⟨b2, o2, rfl, hbb2, c2⟩ := (HS.out.below hb) i d hd
   have he : (d.toList == d.toList) = true := by simp
   go_wp2
   all_goals (try go_region)
   all_goals (try go_wp2)
   all_goals
    go_roundw
    case rel => exact ⟨i + 1, by omega, by go_num, by first | exact hb | exact below_drewN hb _⟩
    case measure => simp [intOf]; omega
  ·have hlt' : decide ((i : Int) < (ts.length : Int)) = false := by simp; omega
   go_wp2
   go_ret
   exact ⟨rfl, hb⟩
end Go.Proofs.Ytgjeefedcfakdaa
set_option linter.unusedVariables false
set_option maxRecDepth 100000
set_option maxHeartbeats 8000000
namespace Go.Proofs.Ytgjeefedcfakdaa
open Go.ChangeShapes Go.WideShapes Go.ChangeAt Go.RowKit
def dpO (l : List Nat) (args : List Int) : Nat := args.foldl (fun m a => max m (l.getD a.toNat 0)) 0
theorem dpO_snoc (l : List Nat) (args : List Int) (x : Int) : dpO l (args ++ [x]) = max (dpO l args) (l.getD x.toNat 0) := by simp [dpO]
def dps (ns : List Nod) : List Nat := ns.foldl (fun l d => l ++ [dpO l d.args + 1]) []
theorem dps_snoc (ns : List Nod) (d : Nod) : dps (ns ++ [d]) = dps ns ++ [dpO (dps ns) d.args + 1] := by simp [dps]
theorem dps_take {ns : List Nod} {i : Nat} {d : Nod} (h : ns[i]? = some d) : dps (ns.take (i + 1)) = dps (ns.take i) ++ [dpO (dps (ns.take i)) d.args + 1] := by
 rw [List.take_add_one, h]
 exact dps_snoc _ _
theorem getD_le {l : List Nat} {B : Nat} (h : ∀ x ∈ l, x ≤ B) (j : Nat) : l.getD j 0 ≤ B := by
 rw [List.getD_eq_getElem?_getD]
 cases hj : l[j]? with
 | none => simp
 | some x => exact h x (List.mem_of_getElem? hj)
theorem dpO_le {l : List Nat} {B : Nat} (h : ∀ x ∈ l, x ≤ B) (args : List Int) : dpO l args ≤ B := by
 have : ∀ (args : List Int) (m : Nat), m ≤ B → args.foldl (fun m a => max m (l.getD a.toNat 0)) m ≤ B := by
  intro args
  induction args with
  | nil => intro m hm; exact hm
  | cons a bs ih => intro m hm; exact ih _ (Nat.max_le.2 ⟨hm, getD_le h _⟩)
 exact this args 0 (Nat.zero_le _)
theorem dps_len : ∀ (n : Nat) (ns : List Nod), ns.length = n → (dps ns).length = n ∧ ∀ x ∈ dps ns, x ≤ n
 | 0, ns, h => by
  obtain rfl := List.length_eq_zero_iff.1 h
  simp [dps]
 | n + 1, ns, h => by
  obtain ⟨bs, d, rfl⟩ : ∃ bs d, ns = bs ++ [d] := by
   have : ns ≠ [] := by intro e; rw [e] at h; simp at h
   exact ⟨ns.dropLast, ns.getLast this, (List.dropLast_concat_getLast this).symm⟩
  have hl : bs.length = n := by simp at h; exact h
  obtain ⟨h1, h2⟩ := dps_len n bs hl
  rw [dps_snoc]
  refine ⟨by simp [h1], fun x hx => ?_⟩
  rcases List.mem_append.1 hx with h | h
  ·have := h2 x h; omega
  ·have := dpO_le h2 d.args
   rw [List.mem_singleton.1 h]
   omega
def DpAt (w : World) (g len : Nat) (l : List Nat) : Prop := ∃ cur : Array Value, w.heap[g]? = some (.cells cur 3 (0, 0)) ∧ cur.size = len ∧ ∀ j : Nat, j < len → cur[j]? = some (.int .i64 (l.getD j 0 : Nat))
theorem DpAt.keep {w w' : World} {g len B : Nat} {l : List Nat} (h : DpAt w g len l) (hb : Below B w w') (hg : g < B) : DpAt w' g len l := by
 obtain ⟨cur, h1, h2, h3⟩ := h
 exact ⟨cur, (hb.block g hg).trans h1, h2, h3⟩
theorem DpAt.lt {w : World} {g len : Nat} {l : List Nat} (h : DpAt w g len l) : g < w.heap.size := by
 obtain ⟨cur, h1, _⟩ := h
 exact (alt h1)
theorem DpAt.cell {w : World} {g len : Nat} {l : List Nat} (h : DpAt w g len l) {j : Nat} (hj : j < len) : w.cell? ⟨g, j, none⟩ = some (.int .i64 (l.getD j 0 : Nat)) ∧ w.frozen? ⟨g, j, none⟩ = false := by
 obtain ⟨cur, h1, h2, h3⟩ := h
 exact ⟨cell_blk h1 (h3 j hj), frozen_blk h1 j⟩
theorem DpAt.put {w : World} {g len : Nat} {l : List Nat} {x : Nat} (h : DpAt w g len (l ++ [x])) {y : Nat} (hl : l.length < len) : DpAt (w.setCell ⟨g, l.length, none⟩ (.int .i64 (y : Nat))) g len (l ++ [y]) := by
 obtain ⟨cur, h1, h2, h3⟩ := h
 refine ⟨_, heap_setCell_same _ _ _ _ _ _ h1, by simp [h2], fun j hj => ?_⟩
 rw [Array.getElem?_setIfInBounds]
 by_cases hjl : l.length = j
 ·subst hjl
  rw [if_pos rfl, if_pos (by omega)]
  simp [List.getD_eq_getElem?_getD]
 ·rw [if_neg hjl, h3 j hj]
  simp only [List.getD_eq_getElem?_getD, List.getElem?_append]
  by_cases hlt : j < l.length
  ·simp [hlt]
  ·have : j - l.length ≠ 0 := by omega
   simp [hlt]
   rw [List.getElem?_eq_none (by simp; omega), List.getElem?_eq_none (by simp; omega)]
theorem DpAt.zero {w : World} {B g len : Nat} (h : w.ownsRow B 3 1 (.slice (some ⟨g, 0, none⟩) len len) len (madeCells #[Value.int .i64 0] len).toList) : DpAt w g len [] := by
 obtain ⟨cur, h1, h2, h3⟩ := made_row h
 exact ⟨cur, h1, h2, fun j hj => by rw [h3 j hj]; rfl⟩
theorem DpAt.begin {w : World} {g len : Nat} {l : List Nat} (h : DpAt w g len l) : DpAt w g len (l ++ [0]) := by
 obtain ⟨cur, h1, h2, h3⟩ := h
 refine ⟨cur, h1, h2, fun j hj => ?_⟩
 rw [h3 j hj]
 simp only [List.getD_eq_getElem?_getD, List.getElem?_append]
 by_cases hlt : j < l.length
 ·simp [hlt]
 ·rw [List.getElem?_eq_none (by omega : l.length ≤ j)]
  simp [hlt]
  cases hq : ([0] : List Nat)[j - l.length]? with
  | none => rfl
  | some x =>
   have := List.mem_of_getElem? hq
   simp at this
   simp [this]
def depN (ns : List Nod) : Nat := (dps ns).getD (ns.length - 1) 0
theorem depN_le (ns : List Nod) : depN ns ≤ ns.length := getD_le (dps_len _ ns rfl).2 _
theorem getD_snoc_lt {l : List Nat} {x j : Nat} (h : j < l.length) : (l ++ [x]).getD j 0 = l.getD j 0 := by
 simp only [List.getD_eq_getElem?_getD, List.getElem?_append, h, if_true]
theorem getD_snoc_eq {l : List Nat} {x : Nat} : (l ++ [x]).getD l.length 0 = x := by
 simp [List.getD_eq_getElem?_getD]
end Go.Proofs.Ytgjeefedcfakdaa
set_option linter.unusedVariables false
set_option maxRecDepth 100000
set_option maxHeartbeats 8000000
namespace Go.Proofs.Ytgjeefedcfakdaa
open Go.ChangeShapes Go.WideShapes Go.ChangeAt Go.RowKit
def VarTo (ns : List Nod) (i : Nat) (s : ByteArray) : Prop := ∃ (j : Nat) (d : Nod), j ≤ i ∧ ns[j]? = some d ∧ d.k = 5 ∧ d.s = s
theorem tell_mem {b out : List ByteArray} {s t : ByteArray} (h : t ∈ tellF b out s) : t ∈ out ∨ (t ∉ b ∧ t = s) := by
 unfold tellF at h
 split at h
 ·rename_i hc
  rcases List.mem_append.1 h with h | h
  ·exact .inl h
  ·have e := List.mem_singleton.1 h
   exact .inr ⟨by rw [e]; exact hasS_not.1 hc.1, e⟩
 ·exact .inl h
theorem free_mem {ns : List Nod} (hin : inR ns) : ∀ (f i : Nat) (b out : List ByteArray) (s : ByteArray), i < f → s ∈ freeF ns f (i : Int) b out → s ∈ out ∨ (s ∉ b ∧ VarTo ns i s)
 | 0, i, b, out, s, h, _ => absurd h (by omega)
 | f + 1, i, b, out, s, h, hs => by
  cases hd : ns[i]? with
  | none =>
   simp only [freeF, Int.toNat_natCast, hd] at hs
   exact .inl hs
  | some d =>
   by_cases hk : d.k = 5
   ·rw [freeF_var hd hk] at hs
    rcases tell_mem hs with h | ⟨h1, h2⟩
    ·exact .inl h
    ·exact .inr ⟨h1, i, d, Nat.le_refl _, hd, hk, h2.symm⟩
   ·rw [freeF_else hd hk] at hs
    have key : ∀ (l : List Int) (o : List ByteArray), (∀ a ∈ l, 0 ≤ a ∧ a < (i : Int)) → s ∈ l.foldl (fun o a => freeF ns f a (bndF d b) o) o → s ∈ o ∨ (s ∉ bndF d b ∧ VarTo ns i s) := by
     intro l
     induction l with
     | nil => intro o _ h; exact .inl h
     | cons a l ih =>
      intro o hl h
      obtain ⟨h1, h2⟩ := hl a (by simp)
      obtain ⟨A, rfl⟩ := Int.eq_ofNat_of_zero_le h1
      rcases ih _ (fun a' ha' => hl a' (by simp [ha'])) h with h | h
      ·rcases free_mem hin f A _ o s (by omega) h with h | ⟨h3, j, e, h4, h5, h6, h7⟩
       ·exact .inl h
       ·exact .inr ⟨h3, j, e, by omega, h5, h6, h7⟩
      ·exact .inr h
    rcases key d.args out (hin i d hd) hs with h | ⟨h1, h2⟩
    ·exact .inl h
    ·refine .inr ⟨fun hb => h1 ?_, h2⟩
     unfold bndF
     split
     ·exact List.mem_append_left _ hb
     ·exact hb
theorem free_lam {ns : List Nod} (hin : inR ns) {f i : Nat} {d : Nod} (hf : i ≤ f) (hd : ns[i]? = some d) (hk : d.k = 7) {s : ByteArray} (hs : s ∈ freeF ns (f + 1) (i : Int) [] []) : s ∉ d.names := by
 rw [freeF_else hd (by rw [hk]; omega)] at hs
 have hb : bndF d [] = d.names := by unfold bndF; rw [if_pos hk]; rfl
 rw [hb] at hs
 have key : ∀ (l : List Int) (o : List ByteArray), (∀ a ∈ l, 0 ≤ a ∧ a < (i : Int)) → s ∈ l.foldl (fun o a => freeF ns f a d.names o) o → s ∈ o ∨ s ∉ d.names := by
  intro l
  induction l with
  | nil => intro o _ h; exact .inl h
  | cons a l ih =>
   intro o hl h
   obtain ⟨h1, h2⟩ := hl a (by simp)
   obtain ⟨A, rfl⟩ := Int.eq_ofNat_of_zero_le h1
   rcases ih _ (fun a' ha' => hl a' (by simp [ha'])) h with h | h
   ·rcases free_mem hin f A _ o s (by omega) h with h | ⟨h3, _⟩
    ·exact .inl h
    ·exact .inr h3
   ·exact .inr h
 rcases key d.args [] (hin i d hd) hs with h | h
 ·cases h
 ·exact h
theorem depN_pos {ns : List Nod} (h : 1 ≤ ns.length) : 1 ≤ depN ns := by
 obtain ⟨bs, d, rfl⟩ : ∃ bs d, ns = bs ++ [d] := by
  have : ns ≠ [] := by intro e; rw [e] at h; simp at h
  exact ⟨ns.dropLast, ns.getLast this, (List.dropLast_concat_getLast this).symm⟩
 unfold depN
 rw [dps_snoc]
 have hl := (dps_len _ bs rfl).1
 have e : (bs ++ [d]).length - 1 = (dps bs).length := by rw [hl]; simp
 rw [e, getD_snoc_eq]
 omega
end Go.Proofs.Ytgjeefedcfakdaa
namespace Go.Proofs.Ytgjeefedcfakdaa
open Go.ChangeShapes Go.WideShapes Go.ChangeAt Go.RowKit
open Go.Maps (Keyed has)
theorem Try.laidOut1 : laidOutB Try.prog = true := by kernel_rfl
theorem Try.row50 : (47 : Nat) < Try.prog.types.size := by
 have h : Try.prog.types.size = 142 := by kernel_rfl
 rw [h]
 omega
theorem Try.law50 : Keyed Try.prog 47 := Keyed.of_law (deep_law_laid Try.laidOut1 (m := 2) (by omega) Try.row50 (by kernel_rfl) (by kernel_rfl))
theorem Try.keyType50 : Try.prog.keyType 47 = true := by kernel_rfl
theorem Try.cells50 : Try.prog.cellsOf 47 = 2 := by kernel_rfl
theorem Try.cells9 : Try.prog.cellsOf 9 = 1 := by kernel_rfl
theorem Try.cells3 : Try.prog.cellsOf 3 = 1 := by kernel_rfl
def Ks (s : ByteArray) (h : Int) : Value := .agg #[.string s, .int .i64 h]
def ksl (s : ByteArray) (h : Int) : Lit := .string (keyBytes [.string s.data.toList, .int .i64 h])
theorem keyOf_S {s : ByteArray} {h : Int} (hs : s.size ≤ 1048576) (hh : i64B h) : keyOf Try.prog 47 (Ks s h) = some (ksl s h) := by
 have wb := lit_wf hh
 have wa : s.size ≤ maxLen := by simp [maxLen]; omega
 obtain ⟨m, hm⟩ := Try.size99
 unfold keyOf Ks ksl
 simp only [Try.underlying47]
 rw [if_pos (by simp [Try.keyType50, Value.formed, Try.underlying47, Try.cells50]), hm]
 unfold Program.keyLits
 simp only [Try.underlying47, Value.cells]
 rw [if_pos (by rw [Try.cells50]; exact ⟨rfl, by simp⟩)]
 simp [List.mapM_cons, Try.cells9, Try.cells3, Program.keyLits, Try.underlying3, Try.underlying9, wa, wb]
theorem ksl_inj {s s' : ByteArray} {h h' : Int} (hs : s.size ≤ 1048576) (hs' : s'.size ≤ 1048576) (hh : i64B h) (hh' : i64B h') (e : ksl s h = ksl s' h') : s = s' ∧ h = h' := by
 have h1 := keyOf_S hs hh
 have h2 := keyOf_S hs' hh'
 rw [← e] at h2
 have := Try.law50.inj h1 h2
 simpa [Ks] using this
def ReI (v : Value) : Option (DataW Unit × List MemPlace) :=
 match v with
 | .int .i64 n => some (.lit (.int .i64 n), [])
 | _ => none
theorem ReI_mk (n : Int) : ReI (.int .i64 n) = some (.lit (.int .i64 n), []) := rfl
theorem ReI_inv {v : Value} {n : Int} {ps : List MemPlace} (e : ReI v = some (.lit (.int .i64 n), ps)) : v = .int .i64 n := by
 unfold ReI at e
 split at e
 ·simp at e
  rw [e.1]
 ·cases e
theorem ksl_key (s : ByteArray) (h : Int) : WideAt.IsKeyLit (ksl s h) := trivial
def MapC (w : World) (m : Nat) (L : List Value) (F : ByteArray → Int → Int) : Prop :=
 ∃ D : DataW Unit, w.ownsMap Try.prog 47 ReI m L.length D ∧ (∀ es clock, w.heap[m]? = some (.map es clock) → ∀ x ∈ es.toList, x.key ∈ L) ∧ ∀ s h, s.size ≤ 1048576 → i64B h → D.atKey (ksl s h) (.lit (.int .i64 0)) = .lit (.int .i64 (F s h))
def updC (F : ByteArray → Int → Int) (s0 : ByteArray) (h0 v : Int) : ByteArray → Int → Int := fun s h => if s = s0 ∧ h = h0 then v else F s h
theorem MapC.made (w : World) (L : List Value) : MapC (w.alloc (.map #[] 0)) w.heap.size L (fun _ _ => 0) := by
 obtain ⟨es, clock, h1, h2, h3, h4⟩ := World.ownsMap_made w Try.prog 47 ReI
 refine ⟨_, ⟨es, clock, h1, h2, Nat.le_trans h3 (Nat.zero_le _), h4⟩, fun es' clock' h x hx => ?_, fun _ _ _ _ => rfl⟩
 have e : (w.alloc (.map #[] 0)).heap[w.heap.size]? = some (.map #[] 0) := blk_at _ _ _ rfl
 have := e.symm.trans h
 simp at this
 rw [this.1] at hx
 simp at hx
theorem MapC.same {w w' : World} {m : Nat} {L : List Value} {F : ByteArray → Int → Int} (h : MapC w m L F) (hb : w'.heap[m]? = w.heap[m]?) : MapC w' m L F := by
 obtain ⟨D, ⟨es, clock, h1, h2⟩, hk, hD⟩ := h
 exact ⟨D, ⟨es, clock, hb.trans h1, h2⟩, fun es' clock' h => hk es' clock' (hb.symm.trans h), hD⟩
theorem MapC.lt {w : World} {m : Nat} {L : List Value} {F : ByteArray → Int → Int} (h : MapC w m L F) : m < w.heap.size := by
 obtain ⟨D, ho, _⟩ := h
 exact ho.lt
theorem MapC.eq {w : World} {m : Nat} {L : List Value} {F G : ByteArray → Int → Int} (h : MapC w m L F) (e : ∀ s k, F s k = G s k) : MapC w m L G := by
 have : F = G := funext fun s => funext fun k => e s k
 exact this ▸ h
theorem MapC.store {w : World} {m : Nat} {L : List Value} {F : ByteArray → Int → Int} (h : MapC w m L F) (hn : L.length < maxLen) {s0 : ByteArray} {h0 : Int} (hs : s0.size ≤ 1048576) (hh : i64B h0) (hL : Ks s0 h0 ∈ L) (v : Int) :
  ∃ w', (Instr.mapUpdate 44 (.map (some m)) (Ks s0 h0) (.int .i64 v)).run Try.prog w = .ok () w' ∧ MapC w' m L (updC F s0 h0 v) ∧ w.grownBy w' (some m) := by
 obtain ⟨D, ho, hkeys, hD⟩ := h
 have hm := ho.isMap
 obtain ⟨es, clock, hb, F0, hsz, hDe⟩ := id ho
 obtain ⟨w', hr, ho', hg⟩ := ho.update Try.law50 Try.underlying44 hn (keyOf_S hs hh) (ReI_mk v)
 obtain ⟨es', clock', hrun, _, _, _, _, hwho⟩ := Maps.fit_store (R' := ReI) Try.law50 Try.underlying44 hb F0 (Nat.lt_of_le_of_lt hsz hn) (fun _ _ _ _ hz => hz) (keyOf_S hs hh) (ReI_mk v)
 have hw : w' = ChangeMaps.setBlock w m (.map es' clock') := by rw [hr] at hrun; simpa using hrun
 have hb' : w'.heap[m]? = some (.map es' clock') := by rw [hw]; exact ChangeMaps.heap_setBlock_same hb _
 obtain ⟨es2, clock2, hb2, F2, hsz2, hD2⟩ := ho'
 obtain ⟨rfl, rfl⟩ : es2 = es' ∧ clock2 = clock' := by have := hb2.symm.trans hb'; simpa using this
 have hk2 : ∀ x ∈ es2.toList, x.key ∈ L := by
  intro x hx
  rcases hwho x hx with ⟨h1, _⟩ | ⟨h1, _⟩
  ·exact hkeys es clock hb x h1
  ·rw [h1]; exact hL
 have hlen : es2.size ≤ L.length := by
  letI : DecidableEq Value := fun a b => Classical.propDecidable (a = b)
  have := nodup_le (es2.toList.map (·.key)) L (List.pairwise_map.2 ((MapKept.stamped_iff es2 clock2).1 F2.stamped).2.2) (fun y hy => by
   obtain ⟨x, hx, rfl⟩ := List.mem_map.1 hy
   exact hk2 x hx)
  simpa using this
 refine ⟨w', hr, ⟨_, ⟨es2, clock2, hb2, F2, hlen, hD2⟩, fun es3 clock3 h3 x hx => ?_, fun s k hs' hk' => ?_⟩, hg⟩
 ·obtain ⟨rfl, rfl⟩ : es3 = es2 ∧ clock3 = clock2 := by have := h3.symm.trans hb2; simpa using this
  exact hk2 x hx
 ·by_cases he : s = s0 ∧ k = h0
  ·obtain ⟨rfl, rfl⟩ := he
   rw [show updC F s k v s k = v from if_pos ⟨rfl, rfl⟩]
   exact Maps.atKey_put_same hm (ksl_key _ _) _ _
  ·rw [show updC F s0 h0 v s k = F s k from if_neg he]
   have hne : ksl s k ≠ ksl s0 h0 := fun e => he (ksl_inj hs' hs hk' hh e)
   rw [Maps.atKey_put_other hne]
   exact hD s k hs' hk'
theorem Try.zero3 (w : World) : (zeroValue 3).run Try.prog w = .ok (.int .i64 0) w := by kernel_rfl
theorem MapC.look {w : World} {m : Nat} {L : List Value} {F : ByteArray → Int → Int} (h : MapC w m L F) {s : ByteArray} {k : Int} (hs : s.size ≤ 1048576) (hh : i64B k) :
  (Instr.lookup 44 (.map (some m)) (Ks s k) false).run Try.prog w = .ok (.int .i64 (F s k)) w := by
 obtain ⟨D, ho, _, hD⟩ := h
 obtain ⟨v, ps, hr, hv⟩ := ho.lookup Try.law50 Try.underlying44 (Try.zero3 w) (ReI_mk 0) (keyOf_S hs hh)
 rw [hD s k hs hh] at hv
 rw [ReI_inv hv] at hr
 exact hr
end Go.Proofs.Ytgjeefedcfakdaa
set_option linter.unusedVariables false
set_option maxRecDepth 100000
set_option maxHeartbeats 8000000
namespace Go.Proofs.Ytgjeefedcfakdaa
open Go.ChangeShapes Go.WideShapes Go.ChangeAt Go.RowKit
def cbS (b : List ByteArray) (s : ByteArray) : Nat := b.countP fun t => decide (t = s)
def FB (b out : List ByteArray) (s : ByteArray) (h : Int) : Int := if h = 0 then (cbS b s : Nat) else if h = 1 then (if hasS out s = true then 1 else 0) else 0
theorem FB_nil (s : ByteArray) (k : Int) : (0 : Int) = FB [] [] s k := by
 unfold FB
 split
 ·rfl
 ·split
  ·rfl
  ·rfl
theorem cbS_zero {b : List ByteArray} {s : ByteArray} : cbS b s = 0 ↔ hasS b s = false := by
 unfold cbS
 rw [List.countP_eq_zero, hasS_not]
 constructor
 ·intro h hm
  have := h s hm
  simp at this
 ·intro h t ht
  simp
  rintro rfl
  exact h ht
theorem cbS_le (b : List ByteArray) (s : ByteArray) : cbS b s ≤ b.length := List.countP_le_length
theorem FB_0 (b out : List ByteArray) (s : ByteArray) : FB b out s 0 = (cbS b s : Nat) := if_pos rfl
theorem FB_1 (b out : List ByteArray) (s : ByteArray) : FB b out s 1 = if hasS out s = true then 1 else 0 := by
 unfold FB
 rw [if_neg (by omega), if_pos rfl]
theorem FB_bind (b out : List ByteArray) (s0 s : ByteArray) (k : Int) : updC (FB b out) s0 0 ((cbS b s0 : Nat) + 1) s k = FB (b ++ [s0]) out s k := by
 unfold updC
 by_cases h : s = s0 ∧ k = 0
 ·obtain ⟨rfl, rfl⟩ := h
  rw [if_pos ⟨rfl, rfl⟩, FB_0]
  simp [cbS]
 ·rw [if_neg h]
  by_cases hk : k = 0
  ·subst hk
   have hs : ¬ s0 = s := fun e => h ⟨e.symm, rfl⟩
   rw [FB_0, FB_0]
   simp [cbS, hs]
  ·unfold FB
   rw [if_neg hk, if_neg hk]
theorem FB_unbind (b r out : List ByteArray) (s0 s : ByteArray) (k : Int) : updC (FB (b ++ s0 :: r) out) s0 0 ((cbS (b ++ s0 :: r) s0 : Nat) - 1) s k = FB (b ++ r) out s k := by
 unfold updC
 by_cases h : s = s0 ∧ k = 0
 ·obtain ⟨rfl, rfl⟩ := h
  rw [if_pos ⟨rfl, rfl⟩, FB_0]
  simp [cbS]
  omega
 ·rw [if_neg h]
  by_cases hk : k = 0
  ·subst hk
   have hs : ¬ s0 = s := fun e => h ⟨e.symm, rfl⟩
   rw [FB_0, FB_0]
   simp [cbS, hs]
  ·unfold FB
   rw [if_neg hk, if_neg hk]
theorem FB_tell (b out : List ByteArray) (s0 : ByteArray) (s : ByteArray) (k : Int) : updC (FB b out) s0 1 1 s k = FB b (out ++ [s0]) s k := by
 unfold updC
 have ha : ∀ t, hasS (out ++ [s0]) t = (hasS out t || s0.toList == t.toList) := fun t => by unfold hasS; simp
 by_cases h : s = s0 ∧ k = 1
 ·obtain ⟨rfl, rfl⟩ := h
  rw [if_pos ⟨rfl, rfl⟩, FB_1, ha]
  simp
 ·rw [if_neg h]
  by_cases hk : k = 1
  ·subst hk
   have hs : ¬ s0 = s := fun e => h ⟨e.symm, rfl⟩
   have : hasS (out ++ [s0]) s = hasS out s := by
    cases hq : hasS out s
    ·rw [hasS_not] at hq ⊢
     simp [hq]
     exact fun e => hs e.symm
    ·rw [hasS_iff] at hq ⊢
     simp [hq]
   rw [FB_1, FB_1, this]
  ·unfold FB
   by_cases h0 : k = 0
   ·rw [if_pos h0, if_pos h0]
   ·rw [if_neg h0, if_neg h0, if_neg hk, if_neg hk]
def Lk (ns : List Nod) : List Value := (ns.flatMap fun d => d.s :: d.names).flatMap fun s => [Ks s 0, Ks s 1]
theorem Lk_s {ns : List Nod} {i : Nat} {d : Nod} (h : ns[i]? = some d) : Ks d.s 1 ∈ Lk ns := by
 refine List.mem_flatMap.2 ⟨d.s, List.mem_flatMap.2 ⟨d, List.mem_of_getElem? h, by simp⟩, by simp⟩
theorem Lk_n {ns : List Nod} {i : Nat} {d : Nod} {s : ByteArray} (h : ns[i]? = some d) (hs : s ∈ d.names) : Ks s 0 ∈ Lk ns := by
 refine List.mem_flatMap.2 ⟨s, List.mem_flatMap.2 ⟨d, List.mem_of_getElem? h, by simp [hs]⟩, by simp⟩
theorem Lk_len (ns : List Nod) : (Lk ns).length = 2 * (ns.flatMap fun d => d.s :: d.names).length := by
 unfold Lk
 generalize (ns.flatMap fun d => d.s :: d.names) = l
 induction l with
 | nil => rfl
 | cons x l ih => simp only [List.flatMap_cons, List.length_append, ih, List.length_cons]; simp; omega
def nmsF (d : Nod) : List ByteArray := if d.k = 7 then d.names else []
theorem bndF_eq (d : Nod) (b : List ByteArray) : bndF d b = b ++ nmsF d := by
 unfold bndF nmsF
 split <;> simp
theorem boundBy_any (d : Nod) (an aa : Option Addr) (cn ca : Nat) (w : World) (hk : i64B d.k) : Calls Try.prog 22 #[.agg #[.int .i64 d.k, .int .i64 d.n, .string d.s, .slice an d.names.length cn, .slice aa d.args.length ca]] w fun e w' => e = .returned (if d.k = 7 then .slice an d.names.length cn else .slice none 0 0) ∧ Below w.heap.size w w' := by
 have hb : Below w.heap.size w (w.alloc (Obj.cells #[.int .i64 d.k, .int .i64 d.n, .string d.s, .slice an d.names.length cn, .slice aa d.args.length ca] 35)) := bR _ _
 by_cases h : d.k = 7
 ·rw [if_pos h]
  have h1 : (d.k != 7) = false := by rw [h]; rfl
  clear h
  go_enter Try.func22, Try.ntmps22
  go_wp2
  go_ret
  exact ⟨rfl, hb⟩
 ·rw [if_neg h]
  have h1 : (d.k != 7) = true := by rw [bne_iff_ne]; exact h
  clear h
  go_enter Try.func22, Try.ntmps22
  go_wp2
  go_ret
  exact ⟨rfl, hb⟩
end Go.Proofs.Ytgjeefedcfakdaa
namespace Go.Proofs.Ytgjeefedcfakdaa
open Go.ChangeShapes Go.WideShapes Go.ChangeAt Go.RowKit
open Go.ChangeMaps (setBlock)
theorem Try.klaw50 : WideMaps.KeyLaw Try.prog 47 := deep_law_laid Try.laidOut1 (m := 2) (by omega) Try.row50 (by kernel_rfl) (by kernel_rfl)
theorem entry_all {w : World} {m : Nat} {es : Array MapEntry} {clock : Nat} (hb : w.heap[m]? = some (.map es clock)) (F : WideElems.Fit Try.prog 47 ReI es clock) {key : Value} {kl : Lit} (hkey : keyOf Try.prog 47 key = some kl) :
  ∃ (v0 : Value) (st : Nat) (w1 : World), (Instr.mapEntry 44 (.map (some m)) key).run Try.prog w = .ok (.tuple #[v0, goInt st]) w1 ∧ (Instr.mapUpdate 44 (.map (some m)) key v0).run Try.prog w = .ok () w1 ∧ (Instr.lookup 44 (.map (some m)) key false).run Try.prog w = .ok v0 w := by
 have K := Try.klaw50
 have g1 := MapKept.run_getObj_map (P := Try.prog) hb
 have g2 := fun o => MapKept.run_setObj_map (P := Try.prog) o hb
 have c1 := K.check w false hkey
 have c2 := K.check w es.isEmpty hkey
 rcases K.find w hkey es.toList F.keys with ⟨h1, _⟩ | ⟨j, e0, h1, h2, h3⟩
 ·refine ⟨.int .i64 0, clock, setBlock w m (.map (es.push ⟨key, .int .i64 0, clock⟩) (clock + 1)), ?_, ?_, ?_⟩
  ·simp [Instr.mapEntry, run_underlying Try.underlying44, g1, c1, h1, g2, Result.andThen, setBlock]
  ·simp [Instr.mapUpdate, run_underlying Try.underlying44, g1, c1, h1, g2, Result.andThen, setBlock]
  ·simp [Instr.lookup, run_underlying Try.underlying44, g1, c2, h1]
 ·have hj : es[j]? = some e0 := by simpa using h2
  have hm : ∀ (f : MapEntry → MapEntry), f e0 = e0 → es.modify j f = es := by
   intro f hf
   apply Array.ext'
   rw [Array.toList_modify]
   apply List.ext_getElem?
   intro i
   rw [List.getElem?_modify]
   by_cases hij : j = i
   ·subst hij
    simp [h2, hf]
   ·simp [hij]
  have hst := K.stays w hkey
  refine ⟨e0.val, e0.born, setBlock w m (.map es clock), ?_, ?_, ?_⟩
  ·simp [Instr.mapEntry, run_underlying Try.underlying44, g1, c1, h1, hj, h3, hst, g2, Result.andThen, setBlock]
   rw [hm _ (by rw [← h3])]
  ·simp [Instr.mapUpdate, run_underlying Try.underlying44, g1, c1, h1, hj, h3, hst, g2, Result.andThen, setBlock]
   rw [hm _ (by rw [← h3])]
  ·simp [Instr.lookup, run_underlying Try.underlying44, g1, c2, h1]
theorem MapC.entry {w : World} {m : Nat} {L : List Value} {F : ByteArray → Int → Int} (h : MapC w m L F) (hn : L.length < maxLen) {s : ByteArray} {k : Int} (hs : s.size ≤ 1048576) (hh : i64B k) (hL : Ks s k ∈ L) :
  ∃ (st : Nat) (w1 : World), (Instr.mapEntry 44 (.map (some m)) (Ks s k)).run Try.prog w = .ok (.tuple #[.int .i64 (F s k), goInt st]) w1 ∧ MapC w1 m L F ∧ w.grownBy w1 (some m) ∧
   ∀ (w2 : World) (v : Int), w2.heap[m]? = w1.heap[m]? → ∃ w3, (Instr.entryStore 44 (.map (some m)) (goInt st) (.int .i64 v)).run Try.prog w2 = .ok () w3 ∧ MapC w3 m L (updC F s k v) ∧ w2.grownBy w3 (some m) := by
 obtain ⟨D, ho, hkeys, hD⟩ := id h
 obtain ⟨es, clock, hb, F0, hsz, hDe⟩ := id ho
 obtain ⟨v0, st, w1, r1, r2, r3⟩ := entry_all hb F0 (keyOf_S hs hh)
 obtain rfl : v0 = .int .i64 (F s k) := by
  have := (h.look hs hh).symm.trans r3
  simpa using this.symm
 obtain ⟨v0', st', es1, clock1, hrun, _, hst⟩ := WideElems.entry_then_store Try.klaw50 Try.underlying44 Try.zero3 hb F0 (keyOf_S hs hh)
 have heq := r1.symm.trans hrun
 simp only [Result.ok.injEq, Value.tuple.injEq] at heq
 obtain ⟨hv, hw1⟩ := heq
 have hg : goInt st' = goInt st := by
  have := congrArg (fun (xs : Array Value) => xs[1]?) hv
  simpa using this.symm
 obtain ⟨w', hr, hm', hgr⟩ := h.store hn hs hh hL (F s k)
 obtain rfl : w' = w1 := by
  have := hr.symm.trans r2
  simpa using this
 refine ⟨st, w', r1, hm'.eq (fun s' k' => ?_), hgr, fun w2 v hw2 => ?_⟩
 ·unfold updC
  split
  ·rename_i he
   rw [he.1, he.2]
  ·rfl
 ·have hb1 : w'.heap[m]? = some (.map es1 clock1) := by rw [hw1]; exact ChangeMaps.heap_setBlock_same hb _
  obtain ⟨es', clock', q1, q2⟩ := hst w2 (.int .i64 v) (hw2.trans hb1)
  obtain ⟨w'', hr2, hm2, _⟩ := h.store hn hs hh hL v
  obtain rfl : w'' = setBlock w m (.map es' clock') := by
   have := hr2.symm.trans q2
   simpa using this
  rw [hg] at q1
  have hb2 := hw2.trans hb1
  refine ⟨_, q1, hm2.same ?_, ⟨rfl, rfl, rfl, by simp [setBlock], fun i _ hi => ChangeMaps.heap_setBlock_other hb2 _ (fun e => hi (by rw [e]))⟩⟩
  rw [ChangeMaps.heap_setBlock_same hb2 _, ChangeMaps.heap_setBlock_same hb _]
end Go.Proofs.Ytgjeefedcfakdaa
