/- The model's ProgOk. -/
import Derived.Test.YtamjofdgikifnaaGreatPrp
import Derived.Test.YtamjofdgikifnaaGreatSnp
namespace Go.Proofs.YtamjofdgikifnaaGreat
open Go.ChangeShapes Go.WideShapes Go.ChangeAt Go.RowKit
theorem Tryz.info3 : (Tryz.prog.info? 3).map (fun i => (i.zero, i.size, i.bytes)) = some (some (.int .i64 0), 1, 8) := by kernel_rfl
def CntAt (w : World) (g len : Nat) (l : List Int) : Prop := ∃ cur : Array Value, w.heap[g]? = some (.cells cur 3 (0, 0)) ∧ cur.size = len ∧ ∀ j : Nat, j < len → cur[j]? = some (.int .i64 (l.count (j : Int) : Nat))
theorem CntAt.keep {w w' : World} {g len B : Nat} {l : List Int} (h : CntAt w g len l) (hb : Below B w w') (hg : g < B) : CntAt w' g len l := by
 obtain ⟨cur, h1, h2⟩ := h
 exact ⟨cur, (hb.block g hg).trans h1, h2⟩
theorem CntAt.lt {w : World} {g len : Nat} {l : List Int} (h : CntAt w g len l) : g < w.heap.size := by
 obtain ⟨cur, h1, _⟩ := h
 exact (Array.getElem?_eq_some_iff.1 h1).1
theorem CntAt.cell {w : World} {g len : Nat} {l : List Int} (h : CntAt w g len l) {j : Nat} (hj : j < len) : w.cell? ⟨g, j, none⟩ = some (.int .i64 (l.count (j : Int) : Nat)) ∧ w.frozen? ⟨g, j, none⟩ = false := by
 obtain ⟨cur, h1, h2, h3⟩ := h
 exact ⟨cell_blk h1 (h3 j hj), frozen_blk h1 j⟩
theorem CntAt.add {w : World} {g len : Nat} {l : List Int} (h : CntAt w g len l) {a : Nat} (ha : a < len) : CntAt (w.setCell ⟨g, a, none⟩ (.int .i64 ((l.count (a : Int) : Nat) + 1 : Int))) g len (l ++ [(a : Int)]) := by
 obtain ⟨cur, h1, h2, h3⟩ := h
 refine ⟨_, heap_setCell_same _ _ _ _ _ _ h1, by simp [h2], fun j hj => ?_⟩
 rw [Array.getElem?_setIfInBounds]
 by_cases e : a = j
 ·subst e
  rw [if_pos rfl, if_pos (by omega), count_snoc_same]
  simp
 ·rw [if_neg e, h3 j hj, count_snoc_other l (by omega)]
theorem OkPost.no {ns : List Nod} {root : Int} {w w' : World} (h : ¬ OkP ns root) (hb : Below w.heap.size w w') : OkPost ns root w (.returned (.bool false)) w' :=
 ⟨false, rfl, ⟨fun h => (by cases h), fun h' => absurd h' h⟩, hb⟩
theorem OkPost.yes {ns : List Nod} {root : Int} {w w' : World} (h : OkP ns root) (hb : Below w.heap.size w w') : OkPost ns root w (.returned (.bool true)) w' :=
 ⟨true, rfl, ⟨fun _ => h, fun _ => rfl⟩, hb⟩
theorem made_rowN {w : World} {B g len t : Nat} {v : Value} (h : w.ownsRow B t 1 (.slice (some ⟨g, 0, none⟩) len len) len (madeCells #[v] len).toList) : ∃ cur : Array Value, w.heap[g]? = some (.cells cur t (0, 0)) ∧ cur.size = len ∧ ∀ j : Nat, j < len → cur[j]? = some v := by
 obtain ⟨hlen, ⟨h0, _⟩ | ⟨g', cp, cur, hv, _, hblk, _, _, hcs, htk⟩⟩ := h
 ·cases h0
 simp only [Value.slice.injEq, Option.some.injEq, Addr.mk.injEq] at hv
 obtain ⟨⟨rfl, _⟩, _, rfl⟩ := hv
 have hcs : cur.size = len := by omega
 refine ⟨cur, hblk, hcs, fun j hj => ?_⟩
 have e : cur.toList = (madeCells #[v] len).toList := by
  rw [← htk, List.take_of_length_le]
  simp [hcs]
 rw [toList_madeCells_one] at e
 rw [← Array.getElem?_toList, e, List.getElem?_replicate, if_pos hj]
theorem CntAt.zero {w : World} {B g len : Nat} (h : w.ownsRow B 3 1 (.slice (some ⟨g, 0, none⟩) len len) len (madeCells #[Value.int .i64 0] len).toList) : CntAt w g len [] := by
 obtain ⟨cur, h1, h2, h3⟩ := made_rowN h
 exact ⟨cur, h1, h2, fun j hj => by rw [h3 j hj]; rfl⟩
theorem not_ok {ns : List Nod} {root : Int} {i : Nat} {d : Nod} (h : ns[i]? = some d) (hd : d.ok = false) : ¬ OkP ns root := by
 rintro ⟨_, _, _, h4, _⟩
 have := h4 d (List.mem_of_getElem? h)
 rw [hd] at this
 cases this
theorem not_in {ns : List Nod} {root : Int} {i : Nat} {d : Nod} {x : Int} (h : ns[i]? = some d) (hx : x ∈ d.args) (hd : ¬ (0 ≤ x ∧ x < (i : Int))) : ¬ OkP ns root := by
 rintro ⟨_, _, _, _, h5, _⟩
 exact hd (h5 i d h x hx)
def GoodTo (ns : List Nod) (i : Nat) : Prop := ∀ (j : Nat) (d : Nod), j < i → ns[j]? = some d → d.ok = true ∧ ∀ x ∈ d.args, 0 ≤ x ∧ x < (j : Int)
set_option maxRecDepth 100000 in
set_option maxHeartbeats 4000000 in
theorem specOk_any (a : Option Addr) (ns : List Nod) (cap : Nat) (root : Int) (w : World) (hn : ns.length ≤ 1048576) (hfl : (flat ns).length ≤ 1048576) (hr : RowN w w.heap.size a ns) (hsm : ∀ d ∈ ns, d.small) :
  Calls Tryz.prog 58 #[.agg #[.slice a ns.length cap, .int .i64 root]] w fun e w' => OkPost ns root w e w' := by
 have HI : Hid (∀ w, Calls Tryz.prog 57 #[.int .i64 ns.length, .int .i64 1, .int .i64 400] w fun e w' => e = .returned (.bool (decide ((1 : Int) ≤ ns.length) && decide ((ns.length : Int) ≤ 400))) ∧ w' = w) := fun w => l1In_any _ _ _ w
 have hbB : Below w.heap.size w (w.alloc (Obj.cells #[.slice a ns.length cap, .int .i64 root] 54)) := (Below.refl _ _).alloc (Nat.le_refl _) _
 by_cases hl : 1 ≤ ns.length ∧ ns.length ≤ 400
 ·have g1 : (decide ((1 : Int) ≤ ns.length) && decide ((ns.length : Int) ≤ 400)) = true := by simp; omega
  rw [g1] at HI
  obtain ⟨hl1, hl2⟩ := hl
  by_cases hroot : root = (ns.length : Int) - 1
  ·have g2 : (root != ((ns.length : Int) - 1)) = false := by rw [hroot]; simp
   have HR : Hid (RowN w w.heap.size a ns) := hr
   have HS : Hid (∀ d ∈ ns, d.small) := hsm
   have HRT : Hid (root = (ns.length : Int) - 1) := hroot
   clear hr hsm g1 hroot
   obtain ⟨i0, hi, hz0, hz1, hz2⟩ := info_parts Tryz.info3
   go_enter Tryz.func58, Tryz.ntmps58
   go_wp2_with (first | (go_at_call 57; refine (HI.out _).mono ?_; rintro e w' ⟨rfl, rfl⟩) | (at_make; refine wpList_make_full _ rfl _ _ 94 rfl (w.heap.size + 1) 3 i0 _ 1 Tryz.underlying94 hi hz0 hz1 .i64 .i64 _ _ ns.length rfl rfl rfl rfl ?c1 ?c2 ?c3 ?_))
   case c1 => rw [hz2]; omega
   case c2 => simp [maxLen]; omega
   case c3 => simp
   intro w1 hown1 hgr1
   have hb1' : Below (w.heap.size + 1) (w.alloc (Obj.cells #[.slice a ns.length cap, .int .i64 root] 54)) w1 := (Below.refl _ _).grown hgr1 (by simp) (fun _ h => by cases h)
   have hb1 : Below w.heap.size w w1 := hbB.trans (hb1'.mono (by omega))
   have HKD : Hid (w1.heap[w.heap.size]? = some (Obj.cells #[.slice a ns.length cap, .int .i64 root] 54)) := blk_keep (blk_alloc w _) hb1' (by omega)
   have HC : Hid (CntAt w1 (w.heap.size + 1) ns.length []) := CntAt.zero hown1
   clear hown1 hgr1 hb1' hbB
   go_wp2
   go_loopw [4] (fun o wr => ∃ (i : Nat), i ≤ ns.length ∧ o = .int .i64 i ∧ GoodTo ns i ∧ wr.heap[w.heap.size]? = some (Obj.cells #[.slice a ns.length cap, .int .i64 root] 54) ∧ CntAt wr (w.heap.size + 1) ns.length (flat (ns.take i)) ∧ Below w.heap.size w wr)
    (fun o _ => ns.length - (intOf o).toNat)
   case atStart => exact ⟨0, by omega, rfl, fun j d h => absurd h (by omega), HKD.out, by simpa [flat] using HC.out, hb1⟩
   case round =>
    clear HKD HC hb1
    obtain ⟨i, hi, rfl, hgt, hkd, hcn, hb⟩ := hrel
    have e0 := cell_blk (j := 0) hkd rfl
    have HKD : Hid (wr.heap[w.heap.size]? = some (Obj.cells #[.slice a ns.length cap, .int .i64 root] 54)) := hkd
    have HCN : Hid (CntAt wr (w.heap.size + 1) ns.length (flat (ns.take i))) := hcn
    have HGT : Hid (GoodTo ns i) := hgt
    have hsz := hcn.lt
    have hws := hb.size
    clear hkd hcn hgt
    by_cases hlt : i < ns.length
    ·obtain ⟨d, hd⟩ : ∃ d, ns[i]? = some d := ⟨_, List.getElem?_eq_getElem hlt⟩
     have HD : Hid (ns[i]? = some d) := hd
     obtain ⟨b1, o1, rfl, hbb, an, cn, aa, ca, v0, v1, v2, v3, v4, hrs, hri, hcn1, hca1⟩ := HR.out i d hd
     have c0 := cell_keepN v0 hb hbb
     have c1 := cell_keepN v1 hb hbb
     have c2 := cell_keepN v2 hb hbb
     have c3 := cell_keepN v3 hb hbb
     have c4 := cell_keepN v4 hb hbb
     obtain ⟨s1, s2, s3, s4, s5, s6⟩ := HS.out d (List.mem_of_getElem? hd)
     have HN : Hid (Calls Tryz.prog 84 #[.agg #[.int .i64 d.k, .int .i64 d.n, .string d.s, .slice an d.names.length cn, .slice aa d.args.length ca]] wr fun e w' => Ans wr (.bool d.ok) e w') := l3Node_any d.k d.n d.s an aa d.names d.args.length cn ca wr s3 s4 s5 hcn1 (hrs.keep fun b h => ⟨by omega, hb.block b h⟩) s6
     have HRI : Hid (∀ w3, Below w.heap.size w w3 → RowIP w3 (fun b => b < w.heap.size) aa d.args) := fun w3 h3 => hri.keep fun b h => ⟨h, h3.block b h⟩
     have C4 : Hid (∀ w3, Below w.heap.size w w3 → w3.cell? ⟨b1, o1 + i * 5 + 4, none⟩ = some (.slice aa d.args.length ca)) := fun w3 h3 => cell_keepN v4 h3 hbb
     clear hrs hri hd s6 v0 v1 v2 v3 v4
     cases hok : d.ok
     ·rw [hok] at HN
      have HNO : Hid (¬ OkP ns root) := not_ok HD.out hok
      clear hok
      go_wp2_with (go_at_call 84; refine HN.out.mono ?_; rintro e w2 ⟨rfl, hb2⟩)
      go_ret
      exact OkPost.no HNO.out (hb.trans (hb2.mono hws))
     ·rw [hok] at HN
      have HOK : Hid (d.ok = true) := hok
      clear hok
      go_wp2_with (go_at_call 84; refine HN.out.mono ?_; rintro e w2 ⟨rfl, hb2⟩)
      have hb3 : Below w.heap.size w w2 := hb.trans (hb2.mono hws)
      have HKD2 : Hid (w2.heap[w.heap.size]? = some (Obj.cells #[.slice (some ⟨b1, o1, none⟩) ns.length cap, .int .i64 root] 54)) := blk_keep HKD.out hb2 (by omega)
      have HCN2 : Hid (CntAt w2 (w.heap.size + 1) ns.length (flat (ns.take i))) := HCN.out.keep hb2 hsz
      have HFT : Hid (flat (ns.take (i + 1)) = flat (ns.take i) ++ d.args) := flat_take HD.out
      have HLE : Hid ((flat (ns.take i) ++ d.args).length ≤ 1048576) := by
       have h1 := flat_split HD.out
       rw [h1, List.length_append] at hfl
       show _ ≤ _
       omega
      clear HKD HCN hb c0 c1 c2 c3 c4 e0 HN
      go_loopw [5] (fun o wr => ∃ (k : Nat), k ≤ d.args.length ∧ o = .int .i64 k ∧ (∀ x ∈ d.args.take k, 0 ≤ x ∧ x < (i : Int)) ∧ wr.heap[w.heap.size]? = some (Obj.cells #[.slice (some ⟨b1, o1, none⟩) ns.length cap, .int .i64 root] 54) ∧ CntAt wr (w.heap.size + 1) ns.length (flat (ns.take i) ++ d.args.take k) ∧ Below w.heap.size w wr)
       (fun o _ => d.args.length - (intOf o).toNat)
      case atStart => exact ⟨0, by omega, rfl, fun x hx => by simp at hx, HKD2.out, by simpa using HCN2.out, hb3⟩
      case round =>
       clear HKD2 HCN2 hb3
       obtain ⟨k, hk, rfl, hin, hkd, hcn, hb⟩ := hrel
       have e0 := cell_blk (j := 0) hkd rfl
       have c4 := C4.out _ hb
       have HKD : Hid (wr.heap[w.heap.size]? = some (Obj.cells #[.slice (some ⟨b1, o1, none⟩) ns.length cap, .int .i64 root] 54)) := hkd
       have HCN : Hid (CntAt wr (w.heap.size + 1) ns.length (flat (ns.take i) ++ d.args.take k)) := hcn
       have HIN : Hid (∀ x ∈ d.args.take k, 0 ≤ x ∧ x < (i : Int)) := hin
       clear hkd hcn hin
       by_cases hkl : k < d.args.length
       ·obtain ⟨x, hx⟩ : ∃ x, d.args[k]? = some x := ⟨_, List.getElem?_eq_getElem hkl⟩
        obtain ⟨b2, o2, rfl, hb2b, cx⟩ := HRI.out _ hb k x hx
        have HX : Hid (d.args[k]? = some x) := hx
        have HTS : Hid (d.args.take (k + 1) = d.args.take k ++ [x]) := by show _ = _; rw [List.take_add_one, hx]; rfl
        clear hx
        by_cases hxr : 0 ≤ x ∧ x < (i : Int)
        ·obtain ⟨hx0, hx1⟩ := hxr
         obtain ⟨A, rfl⟩ := Int.eq_ofNat_of_zero_le hx0
         obtain ⟨g3, f3⟩ := HCN.out.cell (j := A) (by omega)
         have hcl : (flat (ns.take i) ++ d.args.take k).count (A : Int) ≤ 1048576 := by
          have h1 := List.count_le_length (a := (A : Int)) (l := flat (ns.take i) ++ d.args.take k)
          have h2 := HLE.out
          rw [List.length_append] at h1 h2
          rw [List.length_take] at h1
          omega
         have HADD : Hid _ := HCN.out.add (a := A) (by omega)
         generalize hcA : (flat (ns.take i) ++ d.args.take k).count (A : Int) = cA at *
         have q1 : decide ((A : Int) < 0) = false := by simp
         have q2 : decide ((i : Int) ≤ (A : Int)) = false := by simp; omega
         go_wp2
         go_roundw
         case rel =>
          refine ⟨k + 1, by omega, by go_num, ?_, (heap_setCell_other _ _ _ _ (by simp)).trans HKD.out, ?_, hb.setCell (p := ⟨_, _, none⟩) (by simp) _⟩
          ·intro y hy
           rw [HTS.out] at hy
           rcases List.mem_append.1 hy with h | h
           ·exact HIN.out y h
           ·rw [List.mem_singleton.1 h]; exact ⟨hx0, hx1⟩
          ·rw [HTS.out, ← List.append_assoc]
           exact HADD.out
         case measure => simp [intOf]; omega
        ·have HNO : Hid (¬ OkP ns root) := not_in HD.out (List.mem_of_getElem? HX.out) hxr
         by_cases hx0 : x < 0
         ·have q1 : decide (x < 0) = true := by simp [hx0]
          clear hxr
          go_wp2
          go_ret
          exact OkPost.no HNO.out hb
         ·have q1 : decide (x < 0) = false := by simp; omega
          have q2 : decide ((i : Int) ≤ x) = true := by simp; omega
          clear hxr
          go_wp2
          go_ret
          exact OkPost.no HNO.out hb
       ·have hkl' : decide ((k : Int) < (d.args.length : Int)) = false := by simp; omega
        obtain rfl : k = d.args.length := by omega
        have HIN2 : Hid (∀ x ∈ d.args, 0 ≤ x ∧ x < (i : Int)) := by have := HIN.out; rwa [List.take_length] at this
        have HCN3 : Hid (CntAt wr (w.heap.size + 1) ns.length (flat (ns.take (i + 1)))) := by have := HCN.out; rw [List.take_length] at this; rw [HFT.out]; exact this
        clear HIN HCN
        go_wp2
        go_roundw
        case rel =>
         refine ⟨i + 1, by omega, by go_num, ?_, HKD.out, HCN3.out, hb⟩
         intro j e hj he
         by_cases hji : j = i
         ·subst hji
          obtain rfl := Option.some.inj (HD.out.symm.trans he)
          exact ⟨HOK.out, HIN2.out⟩
         ·exact HGT.out j e (by omega) he
        case measure => simp [intOf]; omega
    ·have hlt' : decide ((i : Int) < (ns.length : Int)) = false := by simp; omega
     obtain rfl : i = ns.length := by omega
     rw [List.take_length] at HCN
     clear hlt hi
     go_wp2
     go_loopw [7] (fun o wr2 => ∃ (k : Nat), k + 1 ≤ ns.length ∧ o = .int .i64 k ∧ (∀ j : Nat, j < k → (flat ns).count (j : Int) = 1) ∧ CntAt wr2 (w.heap.size + 1) ns.length (flat ns) ∧ Below w.heap.size w wr2)
      (fun o _ => ns.length - (intOf o).toNat)
     case atStart => exact ⟨0, by omega, rfl, fun j h => absurd h (by omega), HCN.out, hb⟩
     case round =>
      obtain ⟨k, hk, rfl, hon, hcn, hb'⟩ := hrel
      have HON : Hid (∀ j : Nat, j < k → (flat ns).count (j : Int) = 1) := hon
      have HC2 : Hid (CntAt wr (w.heap.size + 1) ns.length (flat ns)) := hcn
      clear hon hcn
      by_cases hkl : k + 1 < ns.length
      ·obtain ⟨g3, f3⟩ := HC2.out.cell (j := k) (by omega)
       by_cases h1 : (flat ns).count (k : Int) = 1
       ·rw [h1] at g3
        have q : decide ((k : Int) < (ns.length : Int) - 1) = true := by simp; omega
        go_wp2
        go_roundw
        case rel =>
         refine ⟨k + 1, by omega, by go_num, fun j hj => ?_, HC2.out, hb'⟩
         by_cases hjk : j = k
         ·subst hjk; exact h1
         ·exact HON.out j (by omega)
        case measure => simp [intOf]; omega
       ·have HNO : Hid (¬ OkP ns root) := fun h => h1 (h.2.2.2.2.2 k hkl)
        have q : decide ((k : Int) < (ns.length : Int) - 1) = true := by simp; omega
        have q2 : ((((flat ns).count (k : Int) : Nat) : Int) != 1) = true := by rw [bne_iff_ne]; omega
        generalize (flat ns).count (k : Int) = c at *
        go_wp2
        go_ret
        exact OkPost.no HNO.out hb'
      ·have q : decide ((k : Int) < (ns.length : Int) - 1) = false := by simp; omega
       have HYES : Hid (OkP ns root) := ⟨hl1, hl2, HRT.out, fun d hd => by
        obtain ⟨j, hj⟩ := List.getElem?_of_mem hd
        exact (HGT.out j d (List.getElem?_eq_some_iff.1 hj).1 hj).1, fun j d hj => (HGT.out j d (List.getElem?_eq_some_iff.1 hj).1 hj).2, fun j hj => HON.out j (by omega)⟩
       go_wp2
       go_ret
       exact OkPost.yes HYES.out hb'
  ·have g2 : (root != ((ns.length : Int) - 1)) = true := by rw [bne_iff_ne]; exact hroot
   have HNO : Hid (¬ OkP ns root) := fun h => hroot h.2.2.1
   clear hr hsm hroot
   go_enter Tryz.func58, Tryz.ntmps58
   go_wp2_with (go_at_call 57; refine (HI.out _).mono ?_; rintro e w' ⟨rfl, rfl⟩)
   go_ret
   exact OkPost.no HNO.out hbB
 ·have g1 : (decide ((1 : Int) ≤ ns.length) && decide ((ns.length : Int) ≤ 400)) = false := by simp; omega
  rw [g1] at HI
  have HNO : Hid (¬ OkP ns root) := fun h => hl ⟨h.1, h.2.1⟩
  clear hr hsm hl g1
  go_enter Tryz.func58, Tryz.ntmps58
  go_wp2_with (go_at_call 57; refine (HI.out _).mono ?_; rintro e w' ⟨rfl, rfl⟩)
  go_ret
  exact OkPost.no HNO.out hbB
end Go.Proofs.YtamjofdgikifnaaGreat
