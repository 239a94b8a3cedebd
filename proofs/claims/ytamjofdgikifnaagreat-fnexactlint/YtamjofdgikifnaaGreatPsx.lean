/- The program's ProgOk. The program's ProgOk: each Arg once, and the whole. -/
import Derived.Test.YtamjofdgikifnaaGreatPsa
import Derived.Test.YtamjofdgikifnaaGreatNix
namespace Go.Proofs.YtamjofdgikifnaaGreat
open Go.ChangeShapes Go.WideShapes Go.ChangeAt Go.RowKit
theorem Tryz.info4 : (Tryz.prog.info? 4).map (fun i => (i.zero, i.size, i.bytes)) = some (some (.bool false), 1, 1) := by kernel_rfl
def UseAt (w : World) (g len : Nat) (l : List Int) : Prop := ∃ cur : Array Value, w.heap[g]? = some (.cells cur 4 (0, 0)) ∧ cur.size = len ∧ ∀ j : Nat, j < len → cur[j]? = some (.bool (l.contains (j : Int)))
theorem UseAt.lt {w : World} {g len : Nat} {l : List Int} (h : UseAt w g len l) : g < w.heap.size := by
 obtain ⟨cur, h1, _⟩ := h
 exact (Array.getElem?_eq_some_iff.1 h1).1
theorem UseAt.alloc {w : World} {g len : Nat} {l : List Int} (h : UseAt w g len l) (o : Obj) : UseAt (w.alloc o) g len l := by
 obtain ⟨cur, h1, h2⟩ := h
 exact ⟨cur, blk_past h1, h2⟩
theorem UseAt.cell {w : World} {g len : Nat} {l : List Int} (h : UseAt w g len l) {j : Nat} (hj : j < len) : w.cell? ⟨g, j, none⟩ = some (.bool (l.contains (j : Int))) ∧ w.frozen? ⟨g, j, none⟩ = false := by
 obtain ⟨cur, h1, h2, h3⟩ := h
 exact ⟨cell_blk h1 (h3 j hj), frozen_blk h1 j⟩
theorem UseAt.add {w : World} {g len : Nat} {l : List Int} (h : UseAt w g len l) {a : Nat} (ha : a < len) : UseAt (w.setCell ⟨g, a, none⟩ (.bool true)) g len (l ++ [(a : Int)]) := by
 obtain ⟨cur, h1, h2, h3⟩ := h
 refine ⟨_, heap_setCell_same _ _ _ _ _ _ h1, by simp [h2], fun j hj => ?_⟩
 rw [Array.getElem?_setIfInBounds]
 by_cases e : a = j
 ·subst e
  rw [if_pos rfl, if_pos (by omega)]
  simp
 ·have e' : ¬ (j : Int) = (a : Int) := by omega
  rw [if_neg e, h3 j hj]
  simp [e']
def IbPost (bs : Nat → Bool) (n : Nat) (w : World) (e : Ending) (w' : World) : Prop := ∃ x : Int, e = .returned (.int .i64 x) ∧ (0 ≤ x ↔ ∃ j, j < n ∧ bs j = false) ∧ w' = w
set_option maxRecDepth 100000 in
theorem indexB_any (g n cap : Nat) (bs : Nat → Bool) (w : World) (hn : n ≤ 1048576) (hc : ∀ j, j < n → w.cell? ⟨g, j, none⟩ = some (.bool (bs j))) :
  Calls Tryz.prog 125 #[.slice (some ⟨g, 0, none⟩) n cap, .bool false] w fun e w' => IbPost bs n w e w' := by
 have HC : Hid _ := hc
 clear hc
 go_enter Tryz.func125, Tryz.ntmps125
 go_wp2
 go_loop [8] (fun o => ∃ (i : Nat), i ≤ n ∧ o = .int .i64 i ∧ ∀ j, j < i → bs j = true) (fun o => n - (intOf o).toNat)
 case atStart => exact ⟨0, by omega, rfl, fun j h => absurd h (by omega)⟩
 case round =>
  obtain ⟨i, hi, rfl, hno⟩ := hrel
  have HNO : Hid (∀ j, j < i → bs j = true) := hno
  clear hno
  by_cases hlt : i < n
  ·have c0 := HC.out i hlt
   cases hb : bs i
   ·have HQ : Hid (bs i = false) := hb
    rw [hb] at c0
    clear hb
    go_wp2
    go_ret
    exact ⟨i, rfl, ⟨fun _ => ⟨i, hlt, HQ.out⟩, fun _ => by omega⟩, rfl⟩
   ·have HQ : Hid (bs i = true) := hb
    rw [hb] at c0
    clear hb
    go_wp2
    go_round
    case rel =>
     refine ⟨i + 1, by omega, by go_num, fun j hj => ?_⟩
     by_cases e : j = i
     ·subst e; exact HQ.out
     ·exact HNO.out j (by omega)
    case measure => simp [intOf]; omega
  ·have hlt' : decide ((i : Int) < (n : Int)) = false := by simp; omega
   obtain rfl : i = n := by omega
   go_wp2
   go_ret
   refine ⟨-1, rfl, ⟨fun h => by omega, ?_⟩, rfl⟩
   rintro ⟨j, hj, hb⟩
   rw [HNO.out j hj] at hb
   cases hb
def CbPost (bs : Nat → Bool) (n : Nat) (w : World) (e : Ending) (w' : World) : Prop := ∃ b : Bool, e = .returned (.bool b) ∧ (b = true ↔ ∃ j, j < n ∧ bs j = false) ∧ w' = w
set_option maxRecDepth 100000 in
theorem containsB_any (g n cap : Nat) (bs : Nat → Bool) (w : World) (hn : n ≤ 1048576) (hc : ∀ j, j < n → w.cell? ⟨g, j, none⟩ = some (.bool (bs j))) :
  Calls Tryz.prog 118 #[.slice (some ⟨g, 0, none⟩) n cap, .bool false] w fun e w' => CbPost bs n w e w' := by
 have HI : Hid (Calls Tryz.prog 125 #[.slice (some ⟨g, 0, none⟩) n cap, .bool false] w fun e w' => IbPost bs n w e w') := indexB_any g n cap bs w hn hc
 clear hc
 go_enter Tryz.func118, Tryz.ntmps118
 go_wp2_with fail
 refine HI.out.mono ?_
 rintro e w1 ⟨x, rfl, hx, rfl⟩
 have HX : Hid _ := hx
 clear hx HI
 go_wp2
 go_ret
 exact ⟨decide (0 ≤ x), by simp, by rw [decide_eq_true_iff]; exact HX.out, rfl⟩
def EaPost (ns : List Nod) (w : World) (e : Ending) (w' : World) : Prop := ∃ b : Bool, e = .returned (.bool b) ∧ (b = true ↔ (inR ns ∧ onceP ns)) ∧ Below w.heap.size w w'
theorem EaPost.no {ns : List Nod} {w w' : World} (h : ¬ (inR ns ∧ onceP ns)) (hb : Below w.heap.size w w') : EaPost ns w (.returned (.bool false)) w' :=
 ⟨false, rfl, ⟨fun h => (by cases h), fun h' => absurd h' h⟩, hb⟩
theorem not_in' {ns : List Nod} {i : Nat} {d : Nod} {x : Int} (h : ns[i]? = some d) (hx : x ∈ d.args) (hd : ¬ (0 ≤ x ∧ x < (i : Int))) : ¬ (inR ns ∧ onceP ns) := by
 rintro ⟨h5, _⟩
 exact hd (h5 i d h x hx)
theorem not_twice {ns : List Nod} {i k : Nat} {d : Nod} {x : Int} (h : ns[i]? = some d) (hx : d.args[k]? = some x) (hm : x ∈ flat (ns.take i) ++ d.args.take k) : ¬ (inR ns ∧ onceP ns) := by
 rintro ⟨_, h5, _⟩
 have h1 := h5 x
 have e : d.args = d.args.take k ++ [x] ++ d.args.drop (k + 1) := by
  conv => lhs; rw [← List.take_append_drop (k + 1) d.args]
  rw [List.take_add_one, hx]
  rfl
 rw [flat_split h, e] at h1
 have h2 := List.count_pos_iff.2 hm
 simp only [List.count_append] at h1 h2
 have h3 : ([x] : List Int).count x = 1 := by simp
 omega
def ArgsTo (ns : List Nod) (i : Nat) : Prop := ∀ (j : Nat) (d : Nod), j < i → ns[j]? = some d → ∀ x ∈ d.args, 0 ≤ x ∧ x < (j : Int)
def Lone (l : List Int) : Prop := ∀ a, l.count a ≤ 1
theorem Lone.add {l : List Int} {x : Int} (h : Lone l) (hx : x ∉ l) : Lone (l ++ [x]) := by
 intro a
 by_cases e : x = a
 ·subst e
  rw [count_snoc_same, List.count_eq_zero_of_not_mem hx]
  exact Nat.le_refl _
 ·rw [count_snoc_other l e]
  exact h a
end Go.Proofs.YtamjofdgikifnaaGreat
namespace Go.Proofs.YtamjofdgikifnaaGreat
open Go.ChangeShapes Go.WideShapes Go.ChangeAt Go.RowKit
set_option maxRecDepth 100000 in
set_option maxHeartbeats 4000000 in
theorem once_any (a : Option Addr) (ns : List Nod) (cap : Nat) (w : World) (hl1 : 1 ≤ ns.length) (hl2 : ns.length ≤ 400) (hr : RowN w w.heap.size a ns) (hsm : ∀ d ∈ ns, d.small) :
  Calls Tryz.prog 109 #[.slice a ns.length cap] w fun e w' => EaPost ns w e w' := by
 have HR : Hid (RowN w w.heap.size a ns) := hr
 have HS : Hid (∀ d ∈ ns, d.small) := hsm
 clear hr hsm
 obtain ⟨i0, hi, hz0, hz1, hz2⟩ := info_parts Tryz.info4
 go_enter Tryz.func109, Tryz.ntmps109
 go_wp2_with (at_make; refine wpList_make_full _ rfl _ _ 152 rfl w.heap.size 4 i0 _ 1 Tryz.underlying152 hi hz0 hz1 .i64 .i64 _ _ ns.length rfl rfl rfl rfl ?c1 ?c2 ?c3 ?_)
 case c1 => rw [hz2]; omega
 case c2 => simp [maxLen]; omega
 case c3 => exact Nat.le_refl _
 intro w1 hown1 hgr1
 have hb1 : Below w.heap.size w w1 := (Below.refl _ _).grown hgr1 (Nat.le_refl _) (fun _ h => by cases h)
 have HU : Hid (UseAt w1 w.heap.size ns.length []) := by
  obtain ⟨cur, h1, h2, h3⟩ := made_rowN hown1
  exact ⟨cur, h1, h2, fun j hj => by rw [h3 j hj]; rfl⟩
 clear hown1 hgr1
 go_wp2
 go_loopw [13] (fun o wr => ∃ (i : Nat), i ≤ ns.length ∧ o = .int .i64 i ∧ ArgsTo ns i ∧ Lone (flat (ns.take i)) ∧ UseAt wr w.heap.size ns.length (flat (ns.take i)) ∧ Below w.heap.size w wr)
  (fun o _ => ns.length - (intOf o).toNat)
 case atStart => exact ⟨0, by omega, rfl, fun j d h => absurd h (by omega), fun a => by simp [flat], by simpa [flat] using HU.out, hb1⟩
 case round =>
  clear HU hb1
  obtain ⟨i, hi, rfl, hat, hlo, hu, hb⟩ := hrel
  have HAT : Hid (ArgsTo ns i) := hat
  have HLO : Hid (Lone (flat (ns.take i))) := hlo
  have HU : Hid (UseAt wr w.heap.size ns.length (flat (ns.take i))) := hu
  have hul := hu.lt
  have hws := hb.size
  clear hat hlo hu
  by_cases hlt : i < ns.length
  ·obtain ⟨d, hd⟩ : ∃ d, ns[i]? = some d := ⟨_, List.getElem?_eq_getElem hlt⟩
   have HD : Hid (ns[i]? = some d) := hd
   obtain ⟨b1, o1, rfl, hbb, an, cn, aa, ca, v0, v1, v2, v3, v4, hrs, hri, hcn1, hca1⟩ := HR.out i d hd
   have c0 := cell_keepN v0 hb hbb
   have c1 := cell_keepN v1 hb hbb
   have c2 := cell_keepN v2 hb hbb
   have c3 := cell_keepN v3 hb hbb
   have c4 := cell_keepN v4 hb hbb
   have HRI : Hid (∀ w3, Below w.heap.size w w3 → RowIP w3 (fun b => b < w.heap.size) aa d.args) := fun w3 h3 => hri.keep fun b h => ⟨h, h3.block b h⟩
   have hal := (HS.out d (List.mem_of_getElem? hd)).2.2.2.2.1
   have HFT : Hid (flat (ns.take (i + 1)) = flat (ns.take i) ++ d.args) := flat_take HD.out
   clear hrs hri hd v0 v1 v2 v3 v4
   go_wp2
   have hb2 : Below w.heap.size w (wr.alloc (Obj.cells #[.int .i64 d.k, .int .i64 d.n, .string d.s, .slice an d.names.length cn, .slice aa d.args.length ca] 96)) := hb.alloc (by omega) _
   have HU2 : Hid (UseAt (wr.alloc (Obj.cells #[.int .i64 d.k, .int .i64 d.n, .string d.s, .slice an d.names.length cn, .slice aa d.args.length ca] 96)) w.heap.size ns.length (flat (ns.take i))) := HU.out.alloc _
   clear HU c0 c1 c2 c3 c4
   go_loopw [21] (fun o wr => ∃ (k : Nat), k ≤ d.args.length ∧ o = .int .i64 k ∧ (∀ x ∈ d.args.take k, 0 ≤ x ∧ x < (i : Int)) ∧ Lone (flat (ns.take i) ++ d.args.take k) ∧ UseAt wr w.heap.size ns.length (flat (ns.take i) ++ d.args.take k) ∧ Below w.heap.size w wr)
    (fun o _ => d.args.length - (intOf o).toNat)
   case atStart => exact ⟨0, by omega, rfl, fun x hx => by simp at hx, by simpa using HLO.out, by simpa using HU2.out, hb2⟩
   case round =>
    clear HU2 hb2 hb hul hws
    obtain ⟨k, hk, rfl, hin, hlo, hu, hb⟩ := hrel
    have HIN : Hid (∀ x ∈ d.args.take k, 0 ≤ x ∧ x < (i : Int)) := hin
    have HLO2 : Hid (Lone (flat (ns.take i) ++ d.args.take k)) := hlo
    have HU : Hid (UseAt wr w.heap.size ns.length (flat (ns.take i) ++ d.args.take k)) := hu
    clear hin hlo hu
    by_cases hkl : k < d.args.length
    ·obtain ⟨x, hx⟩ : ∃ x, d.args[k]? = some x := ⟨_, List.getElem?_eq_getElem hkl⟩
     obtain ⟨b2, o2, rfl, hb2b, cx⟩ := HRI.out _ hb k x hx
     have HX : Hid (d.args[k]? = some x) := hx
     have HTS : Hid (d.args.take (k + 1) = d.args.take k ++ [x]) := by show _ = _; rw [List.take_add_one, hx]; rfl
     clear hx
     by_cases hxr : 0 ≤ x ∧ x < (i : Int)
     ·obtain ⟨hx0, hx1⟩ := hxr
      obtain ⟨A, rfl⟩ := Int.eq_ofNat_of_zero_le hx0
      obtain ⟨g3, f3⟩ := HU.out.cell (j := A) (by omega)
      have HADD : Hid _ := HU.out.add (a := A) (by omega)
      have q1 : decide ((A : Int) < 0) = false := by simp
      have q2 : decide ((i : Int) ≤ (A : Int)) = false := by simp; omega
      cases hus : (flat (ns.take i) ++ d.args.take k).contains (A : Int)
      ·rw [hus] at g3
       have HLO3 : Hid (Lone (flat (ns.take i) ++ d.args.take k ++ [(A : Int)])) := HLO2.out.add (fun h => by rw [List.contains_iff_mem.2 h] at hus; cases hus)
       clear hus
       go_wp2
       go_roundw
       case rel =>
        refine ⟨k + 1, by omega, by go_num, ?_, ?_, ?_, hb.setCell (p := ⟨_, _, none⟩) (by simp) _⟩
        ·intro y hy
         rw [HTS.out] at hy
         rcases List.mem_append.1 hy with h | h
         ·exact HIN.out y h
         ·rw [List.mem_singleton.1 h]; exact ⟨hx0, hx1⟩
        ·rw [HTS.out, ← List.append_assoc]
         exact HLO3.out
        ·rw [HTS.out, ← List.append_assoc]
         exact HADD.out
       case measure => simp [intOf]; omega
      ·rw [hus] at g3
       have HNO : Hid (¬ (inR ns ∧ onceP ns)) := not_twice HD.out HX.out (List.contains_iff_mem.1 hus)
       clear hus
       go_wp2
       go_ret
       exact EaPost.no HNO.out hb
     ·have HNO : Hid (¬ (inR ns ∧ onceP ns)) := not_in' HD.out (List.mem_of_getElem? HX.out) hxr
      by_cases hx0 : x < 0
      ·have q1 : decide (x < 0) = true := by simp [hx0]
       clear hxr
       go_wp2
       go_ret
       exact EaPost.no HNO.out hb
      ·have q1 : decide (x < 0) = false := by simp; omega
       have q2 : decide ((i : Int) ≤ x) = true := by simp; omega
       clear hxr
       go_wp2
       go_ret
       exact EaPost.no HNO.out hb
    ·have hkl' : decide ((k : Int) < (d.args.length : Int)) = false := by simp; omega
     obtain rfl : k = d.args.length := by omega
     have HIN2 : Hid (∀ x ∈ d.args, 0 ≤ x ∧ x < (i : Int)) := by have := HIN.out; rwa [List.take_length] at this
     have HU3 : Hid (UseAt wr w.heap.size ns.length (flat (ns.take (i + 1)))) := by have := HU.out; rw [List.take_length] at this; rw [HFT.out]; exact this
     have HLO3 : Hid (Lone (flat (ns.take (i + 1)))) := by have := HLO2.out; rw [List.take_length] at this; rw [HFT.out]; exact this
     clear HIN HU HLO2
     go_wp2
     go_roundw
     case rel =>
      refine ⟨i + 1, by omega, by go_num, ?_, HLO3.out, HU3.out, hb⟩
      intro j e hj he
      by_cases hji : j = i
      ·subst hji
       obtain rfl := Option.some.inj (HD.out.symm.trans he)
       exact HIN2.out
      ·exact HAT.out j e (by omega) he
     case measure => simp [intOf]; omega
  ·have hlt' : decide ((i : Int) < (ns.length : Int)) = false := by simp; omega
   obtain rfl : i = ns.length := by omega
   rw [List.take_length] at HU HLO
   have HIR : Hid (inR ns) := fun j d hj => HAT.out j d (List.getElem?_eq_some_iff.1 hj).1 hj
   obtain ⟨m, hm⟩ : ∃ m, ns.length = m + 1 := ⟨ns.length - 1, by omega⟩
   have HCB : Hid (Calls Tryz.prog 118 #[.slice (some ⟨w.heap.size, 0, none⟩) m (m + 1), .bool false] wr fun e w' => CbPost (fun j => (flat ns).contains (j : Int)) m wr e w') := containsB_any w.heap.size m (m + 1) _ wr (by omega) fun j hj => (HU.out.cell (by omega)).1
   have hm' : (ns.length : Int) - 1 = (m : Int) := by omega
   clear hlt hi
   go_wp2_with fail
   refine HCB.out.mono ?_
   rintro e w2 ⟨b, rfl, hbq, rfl⟩
   have HEQ : Hid ((!b) = true ↔ (inR ns ∧ onceP ns)) := by
    constructor
    ·intro h
     have hbf : b = false := by simpa using h
     refine ⟨HIR.out, HLO.out, fun j hj => ?_⟩
     refine Classical.byContradiction fun hn => ?_
     have : b = true := hbq.2 ⟨j, by omega, by
      show (flat ns).contains (j : Int) = false
      cases hc : (flat ns).contains (j : Int)
      ·rfl
      ·exact absurd (List.contains_iff_mem.1 hc) hn⟩
     rw [hbf] at this
     cases this
    ·rintro ⟨_, _, h⟩
     cases hb' : b
     ·rfl
     ·obtain ⟨j, hj, hc⟩ := hbq.1 hb'
      have := h j (by omega)
      have hc : (flat ns).contains (j : Int) = false := hc
      rw [List.contains_iff_mem.2 this] at hc
      cases hc
   clear hbq HCB HIR HLO HU HAT
   go_wp2
   go_ret
   exact ⟨!b, rfl, HEQ.out, hb⟩
theorem nmA_nil {ts : List ByteArray} (h : ts.length = 0) : nmA ts = true := by
 unfold nmA
 rw [h]
 rfl
theorem Nod.ok_eq (d : Nod) : nodB d.k d.n d.s d.names.length d.args.length (nmA d.names) = d.ok := (sp_nod _ _ _ _ _ _ nmA_nil).symm
set_option maxRecDepth 100000 in
set_option maxHeartbeats 4000000 in
theorem fits_any (a : Option Addr) (ns : List Nod) (cap : Nat) (root : Int) (m : Nat) (w : World) (hn : ns.length ≤ 1048576) (hr : RowN w w.heap.size a ns) (hsm : ∀ d ∈ ns, d.small) (hM0 : MapIs w m 39 (F2 9)) :
  Calls Tryz.prog 93 #[.agg #[.slice a ns.length cap, .int .i64 root], .map (some m)] w fun e w' => OkPost ns root w e w' := by
 have hbB : Below w.heap.size w (w.alloc (Obj.cells #[.slice a ns.length cap, .int .i64 root] 54)) := (Below.refl _ _).alloc (Nat.le_refl _) _
 by_cases h0 : ns.length = 0
 ·have HNO : Hid (¬ OkP ns root) := fun h => by have := h.1; omega
  obtain rfl : ns = [] := List.eq_nil_of_length_eq_zero h0
  simp only [List.length_nil] at *
  clear hr hsm
  go_enter Tryz.func93, Tryz.ntmps93
  go_wp2
  go_ret
  exact OkPost.no HNO.out hbB
 ·have q1 : decide ((ns.length : Int) - 1 < 0) = false := by simp; omega
  by_cases h400 : ns.length ≤ 400
  ·have q2 : decide ((400 : Int) ≤ (ns.length : Int) - 1) = false := by simp; omega
   by_cases hroot : root = (ns.length : Int) - 1
   ·have q3 : (root != ((ns.length : Int) - 1)) = false := by rw [hroot]; simp
    have HE : Hid (∀ w2, Below w.heap.size w w2 → Calls Tryz.prog 109 #[.slice a ns.length cap] w2 fun e w' => EaPost ns w2 e w') := fun w2 h2 => once_any a ns cap w2 (by omega) h400 ((hr.below h2).mono h2.size) hsm
    have HR : Hid (RowN w w.heap.size a ns) := hr
    have HS : Hid (∀ d ∈ ns, d.small) := hsm
    have HRT : Hid (root = (ns.length : Int) - 1) := hroot
    have HM0 : Hid (MapIs w m 39 (F2 9)) := hM0
    clear hr hsm hroot hM0
    go_enter Tryz.func93, Tryz.ntmps93
    go_wp2_with fail
    refine (HE.out _ hbB).mono ?_
    rintro e w1 ⟨b, rfl, hbq, hb1⟩
    have hb2 : Below w.heap.size w w1 := hbB.trans (hb1.mono hbB.size)
    have HKD : Hid (w1.heap[w.heap.size]? = some (Obj.cells #[.slice a ns.length cap, .int .i64 root] 54)) := blk_keep (blk_alloc w _) hb1 (by simp)
    have HBQ : Hid (b = true ↔ (inR ns ∧ onceP ns)) := hbq
    clear hbq hb1 hbB HE
    cases b
    ·have HNO : Hid (¬ OkP ns root) := fun h => by
      have := HBQ.out.2 ⟨h.2.2.2.2.1, (once_iff h.2.2.2.2.1).1 h.2.2.2.2.2⟩
      cases this
     clear HBQ
     go_wp2
     go_ret
     exact OkPost.no HNO.out hb2
    ·have HON : Hid (inR ns ∧ onceP ns) := HBQ.out.1 rfl
     have e0 := cell_blk (j := 0) HKD.out rfl
     clear HBQ
     have hM := HM0.out.keep hb2 HM0.out.lt
     have HM : Hid (MapIs w1 m 39 (F2 9)) := hM
     have hws2 := hb2.size
     clear hM
     go_wp2
     go_loopw [33] (fun o wr => ∃ (i : Nat), i ≤ ns.length ∧ o = .int .i64 i ∧ (∀ (j : Nat) (d : Nod), j < i → ns[j]? = some d → d.ok = true) ∧ MapIs wr m 39 (F2 9) ∧ Below w.heap.size w wr)
      (fun o _ => ns.length - (intOf o).toNat)
     case atStart => exact ⟨0, by omega, rfl, fun j d h => absurd h (by omega), HM.out, hb2⟩
     case round =>
      clear HM e0 hb2 hws2 HKD
      obtain ⟨i, hi, rfl, hgt, hM, hb⟩ := hrel
      have HGT : Hid (∀ (j : Nat) (d : Nod), j < i → ns[j]? = some d → d.ok = true) := hgt
      have HM : Hid (MapIs wr m 39 (F2 9)) := hM
      have hml := hM.lt
      have hws := hb.size
      clear hgt hM
      by_cases hlt : i < ns.length
      ·obtain ⟨d, hd⟩ : ∃ d, ns[i]? = some d := ⟨_, List.getElem?_eq_getElem hlt⟩
       have HD : Hid (ns[i]? = some d) := hd
       obtain ⟨b1, o1, rfl, hbb, an, cn, aa, ca, v0, v1, v2, v3, v4, hrs, hri, hcn1, hca1⟩ := HR.out i d hd
       obtain ⟨s1, s2, s3, s4, s5, s6⟩ := HS.out d (List.mem_of_getElem? hd)
       have c0 := cell_keepN v0 hb hbb
       have c1 := cell_keepN v1 hb hbb
       have c2 := cell_keepN v2 hb hbb
       have c3 := cell_keepN v3 hb hbb
       have c4 := cell_keepN v4 hb hbb
       have hb5 : Below w.heap.size w (wr.alloc (Obj.cells #[.int .i64 d.k, .int .i64 d.n, .string d.s, .slice an d.names.length cn, .slice aa d.args.length ca] 96)) := hb.alloc hws _
       have hb6 : Below wr.heap.size wr (wr.alloc (Obj.cells #[.int .i64 d.k, .int .i64 d.n, .string d.s, .slice an d.names.length cn, .slice aa d.args.length ca] 96)) := (Below.refl _ _).alloc (Nat.le_refl _) _
       have HM6 : Hid (MapIs (wr.alloc (Obj.cells #[.int .i64 d.k, .int .i64 d.n, .string d.s, .slice an d.names.length cn, .slice aa d.args.length ca] 96)) m 39 (F2 9)) := HM.out.keep hb6 hml
       have HN : Hid (Calls Tryz.prog 110 #[.agg #[.int .i64 d.k, .int .i64 d.n, .string d.s, .slice an d.names.length cn, .slice aa d.args.length ca], .map (some m)] (wr.alloc (Obj.cells #[.int .i64 d.k, .int .i64 d.n, .string d.s, .slice an d.names.length cn, .slice aa d.args.length ca] 96)) fun e w' => Ans (wr.alloc (Obj.cells #[.int .i64 d.k, .int .i64 d.n, .string d.s, .slice an d.names.length cn, .slice aa d.args.length ca] 96)) (.bool d.ok) e w') := by
        have := nodeOk_any d.k d.n d.s an aa d.names d.args.length cn ca m (wr.alloc (Obj.cells #[.int .i64 d.k, .int .i64 d.n, .string d.s, .slice an d.names.length cn, .slice aa d.args.length ca] 96)) s1 s3 s4 s5 hcn1 (hrs.keep fun b h => ⟨by simp; omega, hb5.block b h⟩) s6 HM6.out
        rwa [Nod.ok_eq] at this
       clear hrs hri hd s6 v0 v1 v2 v3 v4 hb6
       cases hok : d.ok
       ·rw [hok] at HN
        have HNO : Hid (¬ OkP ns root) := not_ok HD.out hok
        clear hok HM6
        go_wp2_with (go_at_call 110; refine HN.out.mono ?_; rintro e w3 ⟨rfl, hb7⟩)
        go_ret
        exact OkPost.no HNO.out (hb5.trans (hb7.mono hb5.size))
       ·rw [hok] at HN
        have HOK : Hid (d.ok = true) := hok
        clear hok
        go_wp2_with (go_at_call 110; refine HN.out.mono ?_; rintro e w3 ⟨rfl, hb7⟩)
        go_roundw
        case rel =>
         refine ⟨i + 1, by omega, by go_num, ?_, HM6.out.keep hb7 (by simp; omega), hb5.trans (hb7.mono hb5.size)⟩
         intro j e hj he
         by_cases hji : j = i
         ·subst hji
          obtain rfl := Option.some.inj (HD.out.symm.trans he)
          exact HOK.out
         ·exact HGT.out j e (by omega) he
        case measure => simp [intOf]; omega
      ·have hlt' : decide ((i : Int) < (ns.length : Int)) = false := by simp; omega
       obtain rfl : i = ns.length := by omega
       have HYES : Hid (OkP ns root) := ⟨by omega, h400, HRT.out, fun d hd => by
        obtain ⟨j, hj⟩ := List.getElem?_of_mem hd
        exact HGT.out j d (List.getElem?_eq_some_iff.1 hj).1 hj, HON.out.1, (once_iff HON.out.1).2 HON.out.2⟩
       go_wp2
       go_ret
       exact OkPost.yes HYES.out hb
   ·have q3 : (root != ((ns.length : Int) - 1)) = true := by rw [bne_iff_ne]; exact hroot
    have HNO : Hid (¬ OkP ns root) := fun h => hroot h.2.2.1
    clear hr hsm hroot
    go_enter Tryz.func93, Tryz.ntmps93
    go_wp2
    go_ret
    exact OkPost.no HNO.out hbB
  ·have q2 : decide ((400 : Int) ≤ (ns.length : Int) - 1) = true := by simp; omega
   have HNO : Hid (¬ OkP ns root) := fun h => h400 h.2.1
   clear hr hsm
   go_enter Tryz.func93, Tryz.ntmps93
   go_wp2
   go_ret
   exact OkPost.no HNO.out hbB
end Go.Proofs.YtamjofdgikifnaaGreat
