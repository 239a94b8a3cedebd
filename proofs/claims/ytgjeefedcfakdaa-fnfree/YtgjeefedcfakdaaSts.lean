/- The program's ProgOk. The program's ProgOk: each Arg once, and the whole. The names that a program sets, as a plain function; rows of texts that a call made; the library's Clone, Index and Contains. The model's Sets. -/
import Derived.Test.YtgjeefedcfakdaaPsa
import Derived.Test.YtgjeefedcfakdaaNok
import Derived.Shelf.LaysM
import Derived.Shelf.Strconv.Clone
import Derived.Deep.AppendLies
import Derived.Deep.RegionLaw
import Derived.Test.YtgjeefedcfakdaaBlk
set_option linter.unusedVariables false
set_option maxRecDepth 100000
set_option maxHeartbeats 8000000
namespace Go.Proofs.Ytgjeefedcfakdaa
open Go.ChangeShapes Go.WideShapes Go.ChangeAt Go.RowKit
theorem Try.info4 : (Try.prog.info? 4).map (fun i => (i.zero, i.size, i.bytes)) = some (some (.bool false), 1, 1) := by kernel_rfl
def UseAt (w : World) (g len : Nat) (l : List Int) : Prop := ∃ cur : Array Value, w.heap[g]? = some (.cells cur 4 (0, 0)) ∧ cur.size = len ∧ ∀ j : Nat, j < len → cur[j]? = some (.bool (l.contains (j : Int)))
theorem UseAt.lt {w : World} {g len : Nat} {l : List Int} (h : UseAt w g len l) : g < w.heap.size := by
 obtain ⟨cur, h1, _⟩ := h
 exact (alt h1)
theorem UseAt.alloc {w : World} {g len : Nat} {l : List Int} (h : UseAt w g len l) (o : Obj) : UseAt (w.alloc o) g len l := by
 obtain ⟨cur, h1, h2⟩ := h
 exact ⟨cur, blk_past h1, h2⟩
theorem UseAt.cell {w : World} {g len : Nat} {l : List Int} (h : UseAt w g len l) {j : Nat} (hj : j < len) : w.cell? ⟨g, j, none⟩ = some (.bool (l.contains (j : Int))) ∧ w.frozen? ⟨g, j, none⟩ = false := by
 obtain ⟨cur, h1, h2, h3⟩ := h
 exact ⟨cell_blk h1 (h3 j hj), frozen_blk h1 j⟩
theorem UseAt.add {w : World} {g len : Nat} {l : List Int} (h : UseAt w g len l) {a : Nat} (ha : a < len) : UseAt (w.setCell ⟨g, a, none⟩ (.bool true)) g len (l ++ [(a : Int)]) := by
 obtain ⟨cur, h1, h2, h3⟩ := h
 refine ⟨_, heap_setCell_same _ _ _ _ _ _ h1, by simp [h2], fun j hj => ?_⟩
 rw [Array.getElem?_setIfInBounds]
 by_cases e : a = j
 ·subst e
  rw [if_pos rfl, if_pos (by omega)]
  simp
 ·have e' : ¬ (j : Int) = (a : Int) := by omega
  rw [if_neg e, h3 j hj]
  simp [e']
def IbPost (bs : Nat → Bool) (n : Nat) (w : World) (e : Ending) (w' : World) : Prop := ∃ x : Int, e = .returned (.int .i64 x) ∧ (0 ≤ x ↔ ∃ j, j < n ∧ bs j = false) ∧ w' = w
theorem indexB_any (g n cap : Nat) (bs : Nat → Bool) (w : World) (hn : n ≤ 1048576) (hc : ∀ j, j < n → w.cell? ⟨g, j, none⟩ = some (.bool (bs j))) :
  Calls Try.prog 56 #[.slice (some ⟨g, 0, none⟩) n cap, .bool false] w fun e w' => IbPost bs n w e w' := by
 have HC : Hid _ := hc
 clear hc
 go_enter Try.func56, Try.ntmps56
 go_wp2
 go_loop [8] (fun o => ∃ (i : Nat), i ≤ n ∧ o = .int .i64 i ∧ ∀ j, j < i → bs j = true) (fun o => n - (intOf o).toNat)
 case atStart => exact ⟨0, by omega, rfl, fun j h => absurd h (by omega)⟩
 case round =>
  obtain ⟨i, hi, rfl, hno⟩ := hrel
  have HNO : Hid (∀ j, j < i → bs j = true) := hno
  clear hno
  by_cases hlt : i < n
  ·have c0 := HC.out i hlt
   cases hb : bs i
   ·have HQ : Hid (bs i = false) := hb
    rw [hb] at c0
    clear hb
    go_wp2
    go_ret
    exact ⟨i, rfl, ⟨fun _ => ⟨i, hlt, HQ.out⟩, fun _ => by omega⟩, rfl⟩
   ·have HQ : Hid (bs i = true) := hb
    rw [hb] at c0
    clear hb
    go_wp2
    go_round
    case rel =>
     refine ⟨i + 1, by omega, by go_num, fun j hj => ?_⟩
     by_cases e : j = i
     ·subst e; exact HQ.out
     ·exact HNO.out j (by omega)
    case measure => simp [intOf]; omega
  ·have hlt' : decide ((i : Int) < (n : Int)) = false := by simp; omega
   obtain rfl : i = n := by omega
   go_wp2
   go_ret
   refine ⟨-1, rfl, ⟨fun h => by omega, ?_⟩, rfl⟩
   rintro ⟨j, hj, hb⟩
   rw [HNO.out j hj] at hb
   cases hb
def CbPost (bs : Nat → Bool) (n : Nat) (w : World) (e : Ending) (w' : World) : Prop := ∃ b : Bool, e = .returned (.bool b) ∧ (b = true ↔ ∃ j, j < n ∧ bs j = false) ∧ w' = w
theorem containsB_any (g n cap : Nat) (bs : Nat → Bool) (w : World) (hn : n ≤ 1048576) (hc : ∀ j, j < n → w.cell? ⟨g, j, none⟩ = some (.bool (bs j))) :
  Calls Try.prog 43 #[.slice (some ⟨g, 0, none⟩) n cap, .bool false] w fun e w' => CbPost bs n w e w' := by
 have HI : Hid (Calls Try.prog 56 #[.slice (some ⟨g, 0, none⟩) n cap, .bool false] w fun e w' => IbPost bs n w e w') := indexB_any g n cap bs w hn hc
 clear hc
 go_enter Try.func43, Try.ntmps43
 go_wp2_with fail
 refine HI.out.mono ?_
 rintro e w1 ⟨x, rfl, hx, rfl⟩
 have HX : Hid _ := hx
 clear hx HI
 go_wp2
 go_ret
 exact ⟨decide (0 ≤ x), by simp, by rw [decide_eq_true_iff]; exact HX.out, rfl⟩
def EaPost (ns : List Nod) (w : World) (e : Ending) (w' : World) : Prop := ∃ b : Bool, e = .returned (.bool b) ∧ (b = true ↔ (inR ns ∧ onceP ns)) ∧ Below w.heap.size w w'
theorem EaPost.no {ns : List Nod} {w w' : World} (h : ¬ (inR ns ∧ onceP ns)) (hb : Below w.heap.size w w') : EaPost ns w (.returned (.bool false)) w' :=
 ⟨false, rfl, ⟨fun h => (by cases h), fun h' => absurd h' h⟩, hb⟩
theorem not_in' {ns : List Nod} {i : Nat} {d : Nod} {x : Int} (h : ns[i]? = some d) (hx : x ∈ d.args) (hd : ¬ (0 ≤ x ∧ x < (i : Int))) : ¬ (inR ns ∧ onceP ns) := by
 rintro ⟨h5, _⟩
 exact hd (h5 i d h x hx)
theorem not_twice {ns : List Nod} {i k : Nat} {d : Nod} {x : Int} (h : ns[i]? = some d) (hx : d.args[k]? = some x) (hm : x ∈ flat (ns.take i) ++ d.args.take k) : ¬ (inR ns ∧ onceP ns) := by
 rintro ⟨_, h5, _⟩
 have h1 := h5 x
 have e : d.args = d.args.take k ++ [x] ++ d.args.drop (k + 1) := by
  conv => lhs; rw [← List.take_append_drop (k + 1) d.args]
  rw [List.take_add_one, hx]
  rfl
 rw [flat_split h, e] at h1
 have h2 := List.count_pos_iff.2 hm
 simp only [List.count_append] at h1 h2
 have h3 : ([x] : List Int).count x = 1 := by simp
 omega
def ArgsTo (ns : List Nod) (i : Nat) : Prop := ∀ (j : Nat) (d : Nod), j < i → ns[j]? = some d → ∀ x ∈ d.args, 0 ≤ x ∧ x < (j : Int)
def Lone (l : List Int) : Prop := ∀ a, l.count a ≤ 1
theorem Lone.add {l : List Int} {x : Int} (h : Lone l) (hx : x ∉ l) : Lone (l ++ [x]) := by
 intro a
 by_cases e : x = a
 ·subst e
  rw [count_snoc_same, List.count_eq_zero_of_not_mem hx]
  exact Nat.le_refl _
 ·rw [count_snoc_other l e]
  exact h a
end Go.Proofs.Ytgjeefedcfakdaa
set_option linter.unusedVariables false
set_option maxRecDepth 100000
set_option maxHeartbeats 8000000
namespace Go.Proofs.Ytgjeefedcfakdaa
open Go.ChangeShapes Go.WideShapes Go.ChangeAt Go.RowKit
theorem once_any (a : Option Addr) (ns : List Nod) (cap : Nat) (w : World) (hl1 : 1 ≤ ns.length) (hl2 : ns.length ≤ 400) (hr : RowN w w.heap.size a ns) (hsm : ∀ d ∈ ns, d.small) :
  Calls Try.prog 31 #[.slice a ns.length cap] w fun e w' => EaPost ns w e w' := by
 have HR : Hid (RowN w w.heap.size a ns) := hr
 have HS : Hid (∀ d ∈ ns, d.small) := hsm
 clear hr hsm
 obtain ⟨i0, hi, hz0, hz1, hz2⟩ := info_parts Try.info4
 go_enter Try.func31, Try.ntmps31
 go_wp2_with (at_make; refine wpList_make_full _ rfl _ _ 72 rfl w.heap.size 4 i0 _ 1 Try.underlying72 hi hz0 hz1 .i64 .i64 _ _ ns.length rfl rfl rfl rfl ?c1 ?c2 ?c3 ?_)
 case c1 => rw [hz2]; omega
 case c2 => simp [maxLen]; omega
 case c3 => exact Nat.le_refl _
 intro w1 hown1 hgr1
 have hb1 : Below w.heap.size w w1 := (Below.refl _ _).grown hgr1 (Nat.le_refl _) (fun _ h => by cases h)
 have HU : Hid (UseAt w1 w.heap.size ns.length []) := by
  obtain ⟨cur, h1, h2, h3⟩ := made_row hown1
  exact ⟨cur, h1, h2, fun j hj => by rw [h3 j hj]; rfl⟩
 clear hown1 hgr1
 go_wp2
 go_loopw [13] (fun o wr => ∃ (i : Nat), i ≤ ns.length ∧ o = .int .i64 i ∧ ArgsTo ns i ∧ Lone (flat (ns.take i)) ∧ UseAt wr w.heap.size ns.length (flat (ns.take i)) ∧ Below w.heap.size w wr)
  (fun o _ => ns.length - (intOf o).toNat)
 case atStart => exact ⟨0, by omega, rfl, fun j d h => absurd h (by omega), fun a => by simp [flat], by simpa [flat] using HU.out, hb1⟩
 case round =>
  clear HU hb1
  obtain ⟨i, hi, rfl, hat, hlo, hu, hb⟩ := hrel
  have HAT : Hid (ArgsTo ns i) := hat
  have HLO : Hid (Lone (flat (ns.take i))) := hlo
  have HU : Hid (UseAt wr w.heap.size ns.length (flat (ns.take i))) := hu
  have hul := hu.lt
  have hws := hb.size
  clear hat hlo hu
  by_cases hlt : i < ns.length
  ·obtain ⟨d, hd⟩ : ∃ d, ns[i]? = some d := ⟨_, List.getElem?_eq_getElem hlt⟩
   have HD : Hid (ns[i]? = some d) := hd
   obtain ⟨b1, o1, rfl, hbb, an, cn, aa, ca, v0, v1, v2, v3, v4, hrs, hri, hcn1, hca1⟩ := HR.out i d hd
   have c0 := cell_keep v0 hb hbb
   have c1 := cell_keep v1 hb hbb
   have c2 := cell_keep v2 hb hbb
   have c3 := cell_keep v3 hb hbb
   have c4 := cell_keep v4 hb hbb
   have HRI : Hid (∀ w3, Below w.heap.size w w3 → RowIP w3 (fun b => b < w.heap.size) aa d.args) := fun w3 h3 => hri.keep fun b h => ⟨h, h3.block b h⟩
   have hal := (HS.out d (List.mem_of_getElem? hd)).2.2.2.2.1
   have HFT : Hid (flat (ns.take (i + 1)) = flat (ns.take i) ++ d.args) := flat_take HD.out
   clear hrs hri hd v0 v1 v2 v3 v4
   go_wp2
   have hb2 : Below w.heap.size w (wr.alloc (Obj.cells #[.int .i64 d.k, .int .i64 d.n, .string d.s, .slice an d.names.length cn, .slice aa d.args.length ca] 35)) := hb.alloc (by omega) _
   have HU2 : Hid (UseAt (wr.alloc (Obj.cells #[.int .i64 d.k, .int .i64 d.n, .string d.s, .slice an d.names.length cn, .slice aa d.args.length ca] 35)) w.heap.size ns.length (flat (ns.take i))) := HU.out.alloc _
   clear HU c0 c1 c2 c3 c4
   go_loopw [21] (fun o wr => ∃ (k : Nat), k ≤ d.args.length ∧ o = .int .i64 k ∧ (∀ x ∈ d.args.take k, 0 ≤ x ∧ x < (i : Int)) ∧ Lone (flat (ns.take i) ++ d.args.take k) ∧ UseAt wr w.heap.size ns.length (flat (ns.take i) ++ d.args.take k) ∧ Below w.heap.size w wr)
    (fun o _ => d.args.length - (intOf o).toNat)
   case atStart => exact ⟨0, by omega, rfl, fun x hx => by simp at hx, by simpa using HLO.out, by simpa using HU2.out, hb2⟩
   case round =>
    clear HU2 hb2 hb hul hws
    obtain ⟨k, hk, rfl, hin, hlo, hu, hb⟩ := hrel
    have HIN : Hid (∀ x ∈ d.args.take k, 0 ≤ x ∧ x < (i : Int)) := hin
    have HLO2 : Hid (Lone (flat (ns.take i) ++ d.args.take k)) := hlo
    have HU : Hid (UseAt wr w.heap.size ns.length (flat (ns.take i) ++ d.args.take k)) := hu
    clear hin hlo hu
    by_cases hkl : k < d.args.length
    ·obtain ⟨x, hx⟩ : ∃ x, d.args[k]? = some x := ⟨_, List.getElem?_eq_getElem hkl⟩
     obtain ⟨b2, o2, rfl, hb2b, cx⟩ := HRI.out _ hb k x hx
     have HX : Hid (d.args[k]? = some x) := hx
     have HTS : Hid (d.args.take (k + 1) = d.args.take k ++ [x]) := by show _ = _; rw [List.take_add_one, hx]; rfl
     clear hx
     by_cases hxr : 0 ≤ x ∧ x < (i : Int)
     ·obtain ⟨hx0, hx1⟩ := hxr
      obtain ⟨A, rfl⟩ := Int.eq_ofNat_of_zero_le hx0
      obtain ⟨g3, f3⟩ := HU.out.cell (j := A) (by omega)
      have HADD : Hid _ := HU.out.add (a := A) (by omega)
      have q1 : decide ((A : Int) < 0) = false := by simp
      have q2 : decide ((i : Int) ≤ (A : Int)) = false := by simp; omega
      cases hus : (flat (ns.take i) ++ d.args.take k).contains (A : Int)
      ·rw [hus] at g3
       have HLO3 : Hid (Lone (flat (ns.take i) ++ d.args.take k ++ [(A : Int)])) := HLO2.out.add (fun h => by rw [List.contains_iff_mem.2 h] at hus; cases hus)
       clear hus
       go_wp2
       go_roundw
       case rel =>
        refine ⟨k + 1, by omega, by go_num, ?_, ?_, ?_, hb.setCell (p := ⟨_, _, none⟩) (by simp) _⟩
        ·intro y hy
         rw [HTS.out] at hy
         rcases List.mem_append.1 hy with h | h
         ·exact HIN.out y h
         ·rw [List.mem_singleton.1 h]; exact ⟨hx0, hx1⟩
        ·rw [HTS.out, ← List.append_assoc]
         exact HLO3.out
        ·rw [HTS.out, ← List.append_assoc]
         exact HADD.out
       case measure => simp [intOf]; omega
      ·rw [hus] at g3
       have HNO : Hid (¬ (inR ns ∧ onceP ns)) := not_twice HD.out HX.out (List.contains_iff_mem.1 hus)
       clear hus
       go_wp2
       go_ret
       exact EaPost.no HNO.out hb
     ·have HNO : Hid (¬ (inR ns ∧ onceP ns)) := not_in' HD.out (List.mem_of_getElem? HX.out) hxr
      by_cases hx0 : x < 0
      ·have q1 : decide (x < 0) = true := by simp [hx0]
       clear hxr
       go_wp2
       go_ret
       exact EaPost.no HNO.out hb
      ·have q1 : decide (x < 0) = false := by simp; omega
       have q2 : decide ((i : Int) ≤ x) = true := by simp; omega
       clear hxr
       go_wp2
       go_ret
       exact EaPost.no HNO.out hb
    ·have hkl' : decide ((k : Int) < (d.args.length : Int)) = false := by simp; omega
     obtain rfl : k = d.args.length := by omega
     have HIN2 : Hid (∀ x ∈ d.args, 0 ≤ x ∧ x < (i : Int)) := by have := HIN.out; rwa [List.take_length] at this
     have HU3 : Hid (UseAt wr w.heap.size ns.length (flat (ns.take (i + 1)))) := by have := HU.out; rw [List.take_length] at this; rw [HFT.out]; exact this
     have HLO3 : Hid (Lone (flat (ns.take (i + 1)))) := by have := HLO2.out; rw [List.take_length] at this; rw [HFT.out]; exact this
     clear HIN HU HLO2
     go_wp2
     go_roundw
     case rel =>
      refine ⟨i + 1, by omega, by go_num, ?_, HLO3.out, HU3.out, hb⟩
      intro j e hj he
      by_cases hji : j = i
      ·subst hji
       obtain rfl := Option.some.inj (HD.out.symm.trans he)
       exact HIN2.out
      ·exact HAT.out j e (by omega) he
     case measure => simp [intOf]; omega
  ·have hlt' : decide ((i : Int) < (ns.length : Int)) = false := by simp; omega
   obtain rfl : i = ns.length := by omega
   rw [List.take_length] at HU HLO
   have HIR : Hid (inR ns) := fun j d hj => HAT.out j d (llt hj) hj
   obtain ⟨m, hm⟩ : ∃ m, ns.length = m + 1 := ⟨ns.length - 1, by omega⟩
   have HCB : Hid (Calls Try.prog 43 #[.slice (some ⟨w.heap.size, 0, none⟩) m (m + 1), .bool false] wr fun e w' => CbPost (fun j => (flat ns).contains (j : Int)) m wr e w') := containsB_any w.heap.size m (m + 1) _ wr (by omega) fun j hj => (HU.out.cell (by omega)).1
   have hm' : (ns.length : Int) - 1 = (m : Int) := by omega
   clear hlt hi
   go_wp2_with fail
   refine HCB.out.mono ?_
   rintro e w2 ⟨b, rfl, hbq, rfl⟩
   have HEQ : Hid ((!b) = true ↔ (inR ns ∧ onceP ns)) := by
    constructor
    ·intro h
     have hbf : b = false := by simpa using h
     refine ⟨HIR.out, HLO.out, fun j hj => ?_⟩
     refine Classical.byContradiction fun hn => ?_
     have : b = true := hbq.2 ⟨j, by omega, by
      show (flat ns).contains (j : Int) = false
      cases hc : (flat ns).contains (j : Int)
      ·rfl
      ·exact absurd (List.contains_iff_mem.1 hc) hn⟩
     rw [hbf] at this
     cases this
    ·rintro ⟨_, _, h⟩
     cases hb' : b
     ·rfl
     ·obtain ⟨j, hj, hc⟩ := hbq.1 hb'
      have := h j (by omega)
      have hc : (flat ns).contains (j : Int) = false := hc
      rw [List.contains_iff_mem.2 this] at hc
      cases hc
   clear hbq HCB HIR HLO HU HAT
   go_wp2
   go_ret
   exact ⟨!b, rfl, HEQ.out, hb⟩
theorem nmA_nil {ts : List ByteArray} (h : ts.length = 0) : nmA ts = true := by
 unfold nmA
 rw [h]
 rfl
theorem Nod.ok_eq (d : Nod) : nodB d.k d.n d.s d.names.length d.args.length (nmA d.names) = d.ok := (sp_nod _ _ _ _ _ _ nmA_nil).symm
theorem implOk_any (a : Option Addr) (ns : List Nod) (cap : Nat) (root : Int) (w : World) (hn : ns.length ≤ 1048576) (hr : RowN w w.heap.size a ns) (hsm : ∀ d ∈ ns, d.small) :
  Calls Try.prog 19 #[.agg #[.slice a ns.length cap, .int .i64 root]] w fun e w' => OkPost ns root w e w' := by
 have hbB : Below w.heap.size w (w.alloc (Obj.cells #[.slice a ns.length cap, .int .i64 root] 26)) := bR _ _
 by_cases h0 : ns.length = 0
 ·have HNO : Hid (¬ OkP ns root) := fun h => by have := h.1; omega
  obtain rfl : ns = [] := List.eq_nil_of_length_eq_zero h0
  simp only [List.length_nil] at *
  clear hr hsm
  go_enter Try.func19, Try.ntmps19
  go_wp2
  go_ret
  exact OkPost.no HNO.out hbB
 ·have q1 : decide ((ns.length : Int) - 1 < 0) = false := by simp; omega
  by_cases h400 : ns.length ≤ 400
  ·have q2 : decide ((400 : Int) ≤ (ns.length : Int) - 1) = false := by simp; omega
   by_cases hroot : root = (ns.length : Int) - 1
   ·have q3 : (root != ((ns.length : Int) - 1)) = false := by rw [hroot]; simp
    have HE : Hid (∀ w2, Below w.heap.size w w2 → Calls Try.prog 31 #[.slice a ns.length cap] w2 fun e w' => EaPost ns w2 e w') := fun w2 h2 => once_any a ns cap w2 (by omega) h400 ((hr.below h2).mono h2.size) hsm
    have HR : Hid (RowN w w.heap.size a ns) := hr
    have HS : Hid (∀ d ∈ ns, d.small) := hsm
    have HRT : Hid (root = (ns.length : Int) - 1) := hroot
    clear hr hsm hroot
    go_enter Try.func19, Try.ntmps19
    go_wp2_with fail
    refine (HE.out _ hbB).mono ?_
    rintro e w1 ⟨b, rfl, hbq, hb1⟩
    have hb2 : Below w.heap.size w w1 := bT hbB hb1
    have HKD : Hid (w1.heap[w.heap.size]? = some (Obj.cells #[.slice a ns.length cap, .int .i64 root] 26)) := blk_keep (blk_alloc w _) hb1 (by simp)
    have HBQ : Hid (b = true ↔ (inR ns ∧ onceP ns)) := hbq
    clear hbq hb1 hbB HE
    cases b
    ·have HNO : Hid (¬ OkP ns root) := fun h => by
      have := HBQ.out.2 ⟨h.2.2.2.2.1, (once_iff h.2.2.2.2.1).1 h.2.2.2.2.2⟩
      cases this
     clear HBQ
     go_wp2
     go_ret
     exact OkPost.no HNO.out hb2
    ·have HON : Hid (inR ns ∧ onceP ns) := HBQ.out.1 rfl
     have e0 := zB 0 HKD.out rfl
     clear HBQ
     go_wp2_with (go_at_call 32; refine (shapes_any _).mono ?_; rintro e w2 ⟨m, rfl, hM, hml, hb3⟩; have e1 := cell_keep e0 hb3 (by have := hb2.size; have := (alt HKD.out); omega))
     have hb4 : Below w.heap.size w w2 := bT hb2 hb3
     have hws2 := hb2.size
     have HM : Hid (MapIs w2 m 39 (F2 9)) := hM
     have hmw := hM.lt
     clear hM hb3
     go_loopw [33] (fun o wr => ∃ (i : Nat), i ≤ ns.length ∧ o = .int .i64 i ∧ (∀ (j : Nat) (d : Nod), j < i → ns[j]? = some d → d.ok = true) ∧ MapIs wr m 39 (F2 9) ∧ Below w.heap.size w wr)
      (fun o _ => ns.length - (intOf o).toNat)
     case atStart => exact ⟨0, by omega, rfl, fun j d h => absurd h (by omega), HM.out, hb4⟩
     case round =>
      clear HM hmw hb4 e0 e1 hb2 hws2 HKD hml
      obtain ⟨i, hi, rfl, hgt, hM, hb⟩ := hrel
      have HGT : Hid (∀ (j : Nat) (d : Nod), j < i → ns[j]? = some d → d.ok = true) := hgt
      have HM : Hid (MapIs wr m 39 (F2 9)) := hM
      have hml := hM.lt
      have hws := hb.size
      clear hgt hM
      by_cases hlt : i < ns.length
      ·obtain ⟨d, hd⟩ : ∃ d, ns[i]? = some d := ⟨_, List.getElem?_eq_getElem hlt⟩
       have HD : Hid (ns[i]? = some d) := hd
       obtain ⟨b1, o1, rfl, hbb, an, cn, aa, ca, v0, v1, v2, v3, v4, hrs, hri, hcn1, hca1⟩ := HR.out i d hd
       obtain ⟨s1, s2, s3, s4, s5, s6⟩ := HS.out d (List.mem_of_getElem? hd)
       have c0 := cell_keep v0 hb hbb
       have c1 := cell_keep v1 hb hbb
       have c2 := cell_keep v2 hb hbb
       have c3 := cell_keep v3 hb hbb
       have c4 := cell_keep v4 hb hbb
       have hb5 : Below w.heap.size w (wr.alloc (Obj.cells #[.int .i64 d.k, .int .i64 d.n, .string d.s, .slice an d.names.length cn, .slice aa d.args.length ca] 35)) := hb.alloc hws _
       have hb6 : Below wr.heap.size wr (wr.alloc (Obj.cells #[.int .i64 d.k, .int .i64 d.n, .string d.s, .slice an d.names.length cn, .slice aa d.args.length ca] 35)) := bR _ _
       have HM6 : Hid (MapIs (wr.alloc (Obj.cells #[.int .i64 d.k, .int .i64 d.n, .string d.s, .slice an d.names.length cn, .slice aa d.args.length ca] 35)) m 39 (F2 9)) := HM.out.keep hb6 hml
       have HN : Hid (Calls Try.prog 33 #[.agg #[.int .i64 d.k, .int .i64 d.n, .string d.s, .slice an d.names.length cn, .slice aa d.args.length ca], .map (some m)] (wr.alloc (Obj.cells #[.int .i64 d.k, .int .i64 d.n, .string d.s, .slice an d.names.length cn, .slice aa d.args.length ca] 35)) fun e w' => Ans (wr.alloc (Obj.cells #[.int .i64 d.k, .int .i64 d.n, .string d.s, .slice an d.names.length cn, .slice aa d.args.length ca] 35)) (.bool d.ok) e w') := by
        have := nodeOk_any d.k d.n d.s an aa d.names d.args.length cn ca m (wr.alloc (Obj.cells #[.int .i64 d.k, .int .i64 d.n, .string d.s, .slice an d.names.length cn, .slice aa d.args.length ca] 35)) s1 s3 s4 s5 hcn1 (hrs.keep fun b h => ⟨by simp; omega, hb5.block b h⟩) s6 HM6.out
        rwa [Nod.ok_eq] at this
       clear hrs hri hd s6 v0 v1 v2 v3 v4 hb6
       cases hok : d.ok
       ·rw [hok] at HN
        have HNO : Hid (¬ OkP ns root) := not_ok HD.out hok
        clear hok HM6
        go_wp2_with (go_at_call 33; refine HN.out.mono ?_; rintro e w3 ⟨rfl, hb7⟩)
        go_ret
        exact OkPost.no HNO.out (bT hb5 hb7)
       ·rw [hok] at HN
        have HOK : Hid (d.ok = true) := hok
        clear hok
        go_wp2_with (go_at_call 33; refine HN.out.mono ?_; rintro e w3 ⟨rfl, hb7⟩)
        go_roundw
        case rel =>
         refine ⟨i + 1, by omega, by go_num, ?_, HM6.out.keep hb7 (by simp; omega), bT hb5 hb7⟩
         intro j e hj he
         by_cases hji : j = i
         ·subst hji
          obtain rfl := Option.some.inj (HD.out.symm.trans he)
          exact HOK.out
         ·exact HGT.out j e (by omega) he
        case measure => simp [intOf]; omega
      ·have hlt' : decide ((i : Int) < (ns.length : Int)) = false := by simp; omega
       obtain rfl : i = ns.length := by omega
       have HYES : Hid (OkP ns root) := ⟨by omega, h400, HRT.out, fun d hd => by
        obtain ⟨j, hj⟩ := List.getElem?_of_mem hd
        exact HGT.out j d (llt hj) hj, HON.out.1, (once_iff HON.out.1).2 HON.out.2⟩
       go_wp2
       go_ret
       exact OkPost.yes HYES.out hb
   ·have q3 : (root != ((ns.length : Int) - 1)) = true := by rw [bne_iff_ne]; exact hroot
    have HNO : Hid (¬ OkP ns root) := fun h => hroot h.2.2.1
    clear hr hsm hroot
    go_enter Try.func19, Try.ntmps19
    go_wp2
    go_ret
    exact OkPost.no HNO.out hbB
  ·have q2 : decide ((400 : Int) ≤ (ns.length : Int) - 1) = true := by simp; omega
   have HNO : Hid (¬ OkP ns root) := fun h => h400 h.2.1
   clear hr hsm
   go_enter Try.func19, Try.ntmps19
   go_wp2
   go_ret
   exact OkPost.no HNO.out hbB
end Go.Proofs.Ytgjeefedcfakdaa
set_option linter.unusedVariables false
namespace Go.Proofs
def Try.laysM316_ren : Go.Shelf.Ren := ⟨fun | 316 => 34 | n => n, fun | 9 => 9 | 3 => 3 | 4 => 4 | 37 => 22 | 0 => 0 | 127 => 82 | 5 => 5 | n => n, fun | n => n⟩
theorem Try.laysM316 : Go.Proofs.LaysM.n316 Try.prog Try.laysM316_ren := {
 mixed := by kernel_rfl
 f316 := Try.func34.trans (congrArg some (by kernel_rfl))
 t0 := Try.underlying0
 a0 := Try.isAgg0
 z0 := Try.sizeOf0
 v0 := Try.zeroValue0
 t3 := Try.underlying3
 a3 := Try.isAgg3
 z3 := Try.sizeOf3
 v3 := Try.zeroValue3
 t4 := Try.underlying4
 a4 := Try.isAgg4
 z4 := Try.sizeOf4
 v4 := Try.zeroValue4
 t9 := Try.underlying9
 a9 := Try.isAgg9
 z9 := Try.sizeOf9
 v9 := Try.zeroValue9
 t37 := Try.underlying22
 a37 := Try.isAgg22
 z37 := Try.sizeOf22
 v37 := Try.zeroValue22
 t127 := Try.underlying82
 a127 := Try.isAgg82
 z127 := Try.sizeOf82
 v127 := Try.zeroValue82
 t5 := Try.underlying5
 a5 := Try.isAgg5
 z5 := Try.sizeOf5
 v5 := Try.zeroValue5
 i0 := by kernel_rfl
 i3 := by kernel_rfl
 i4 := by kernel_rfl
 i5 := by kernel_rfl
 i9 := by kernel_rfl
 i37 := by kernel_rfl
 i127 := by kernel_rfl }
open Go.RowKit in
theorem Try.stringslite_Clone (s : ByteArray) (w : World) (hlim : s.size ≤ 281474976710656) :
  Calls Try.prog 34 #[.string s] w fun e w' => e = .returned (.string s) ∧ Below w.heap.size w w' := Any.stringslite_Clone Try.laysM316 s w hlim
end Go.Proofs
namespace Go.Proofs.Ytgjeefedcfakdaa
open Go.ChangeShapes Go.WideShapes Go.ChangeAt Go.RowKit
theorem clone_any (s : ByteArray) (w : World) (hs : s.size ≤ 1048576) : Calls Try.prog 21 #[.string s] w fun e w' => Ans w (.string s) e w' := by
 have HC : Hid (Calls Try.prog 34 #[.string s] w fun e w' => e = .returned (.string s) ∧ Below w.heap.size w w') := Try.stringslite_Clone s w (by omega)
 go_enter Try.func21, Try.ntmps21
 go_wp2_with (go_at_call 34; refine HC.out.mono ?_; rintro e w2 ⟨rfl, hb⟩)
 go_ret
 exact ⟨rfl, hb⟩
def setsL (ns : List Nod) : List ByteArray := ns.foldl (fun l d => if d.k = 10 ∧ hasS l d.s = false then l ++ [d.s] else l) []
theorem setsL_snoc (ns : List Nod) (d : Nod) : setsL (ns ++ [d]) = if d.k = 10 ∧ hasS (setsL ns) d.s = false then setsL ns ++ [d.s] else setsL ns := by
 unfold setsL
 rw [List.foldl_append]
 rfl
theorem setsL_take {ns : List Nod} {i : Nat} {d : Nod} (h : ns[i]? = some d) : setsL (ns.take (i + 1)) = if d.k = 10 ∧ hasS (setsL (ns.take i)) d.s = false then setsL (ns.take i) ++ [d.s] else setsL (ns.take i) := by
 rw [List.take_add_one, h]
 exact setsL_snoc _ _
theorem setsL_len : ∀ (n : Nat) (ns : List Nod), ns.length = n → (setsL ns).length ≤ n
 | 0, ns, h => by
  obtain rfl := List.length_eq_zero_iff.1 h
  simp [setsL]
 | n + 1, ns, h => by
  obtain ⟨bs, d, rfl⟩ : ∃ bs d, ns = bs ++ [d] := by
   have : ns ≠ [] := by intro e; rw [e] at h; simp at h
   exact ⟨ns.dropLast, ns.getLast this, (List.dropLast_concat_getLast this).symm⟩
  have hl : bs.length = n := by simp at h; exact h
  have h1 := setsL_len n bs hl
  rw [setsL_snoc]
  split
  ·simp; omega
  ·omega
theorem take_get {cur : Array Value} {xs : List Value} {m i : Nat} {v : Value} (h : List.take m cur.toList = xs) (hx : xs[i]? = some v) : cur[i]? = some v := by
 rw [← h] at hx
 by_cases hi : i < m
 ·rw [List.getElem?_take_of_lt hi] at hx
  simpa using hx
 ·rw [List.getElem?_take_eq_none (by omega)] at hx
  cases hx
def OwnS (w : World) (B : Nat) (v : Value) (l : List ByteArray) : Prop := w.ownsRow B 9 1 v l.length (l.map Value.string)
theorem OwnS.row {w : World} {B cap : Nat} {a : Option Addr} {l : List ByteArray} {n : Nat} (h : OwnS w B (.slice a n cap) l) : n = l.length ∧ RowS w w.heap.size a l := by
 obtain ⟨hl, ⟨hv, h0⟩ | ⟨g, cap', cur, hv, a1, hblk, a3, a4, a5, a6⟩⟩ := h
 ·injection hv with h1 h2 h3
  refine ⟨by omega, fun i x hx => ?_⟩
  rw [List.eq_nil_of_length_eq_zero h0] at hx
  simp at hx
 ·injection hv with h1 h2 h3
  refine ⟨h2, fun i x hx => ⟨g, 0, h1, (alt hblk), ?_⟩⟩
  rw [Nat.zero_add]
  exact cell_blk hblk (take_get a6 (by rw [List.getElem?_map, hx]; rfl))
theorem OwnS.slice {w : World} {B : Nat} {v : Value} {l : List ByteArray} (h : OwnS w B v l) : ∃ (a : Option Addr) (cap : Nat), v = .slice a l.length cap := by
 obtain ⟨hl, ⟨hv, h0⟩ | ⟨g, cap', cur, hv, _⟩⟩ := h
 ·exact ⟨none, 0, by rw [hv, h0]⟩
 ·exact ⟨_, _, hv⟩
theorem OwnS.below {w w' : World} {B : Nat} {v : Value} {l : List ByteArray} (h : OwnS w B v l) (hb : Below w.heap.size w w') : OwnS w' B v l := by
 obtain ⟨hl, ⟨hv, h0⟩ | ⟨g, cap', cur, hv, a1, hblk, a3⟩⟩ := h
 ·exact ⟨hl, .inl ⟨hv, h0⟩⟩
 ·exact ⟨hl, .inr ⟨g, cap', cur, hv, a1, (hb.block g (alt hblk)).trans hblk, a3⟩⟩
def TellP (l : List ByteArray) (w : World) (e : Ending) (w' : World) : Prop := ∃ v, e = .returned v ∧ OwnS w' w.heap.size v l ∧ Below w.heap.size w w'
end Go.Proofs.Ytgjeefedcfakdaa
set_option linter.unusedVariables false
set_option maxRecDepth 100000
set_option maxHeartbeats 8000000
namespace Go.Proofs.Ytgjeefedcfakdaa
open Go.ChangeShapes Go.WideShapes Go.ChangeAt Go.RowKit
theorem OwnS.lt {w : World} {B b : Nat} {v : Value} {l : List ByteArray} (h : OwnS w B v l) (hv : v.ownBlock = some b) : B ≤ b ∧ b < w.heap.size := World.ownsRow.lt h b hv
theorem OwnS.weak {w : World} {B B' : Nat} {v : Value} {l : List ByteArray} (h : OwnS w B v l) (hB : B' ≤ B) : OwnS w B' v l := by
 obtain ⟨hl, ⟨hv, h0⟩ | ⟨g, cap', cur, hv, a1, a3⟩⟩ := h
 ·exact ⟨hl, .inl ⟨hv, h0⟩⟩
 ·exact ⟨hl, .inr ⟨g, cap', cur, hv, Nat.le_trans hB a1, a3⟩⟩
theorem ownS_snoc {w : World} {B g cap : Nat} {l : List ByteArray} {s : ByteArray} (h : w.ownsRow B 9 1 (.slice (some ⟨g, 0, none⟩) (l.length + 1) cap) (l.length + 1) (l.map Value.string ++ [.string s])) : OwnS w B (.slice (some ⟨g, 0, none⟩) (l ++ [s]).length cap) (l ++ [s]) := by
 show World.ownsRow _ _ _ _ _ _ _
 rw [List.length_append, List.map_append]
 exact h
theorem specSets_yes (a : Option Addr) (ns : List Nod) (cap : Nat) (root : Int) (w : World) (hn : ns.length ≤ 1048576) (hfl : (flat ns).length ≤ 1048576) (hr : RowN w w.heap.size a ns) (hsm : ∀ d ∈ ns, d.small) (hok : OkP ns root) :
  Calls Try.prog 13 #[.agg #[.slice a ns.length cap, .int .i64 root]] w fun e w' => TellP (setsL ns) w e w' := by
 have HOK : Hid (∀ w1, Below w.heap.size w w1 → Calls Try.prog 9 #[.agg #[.slice a ns.length cap, .int .i64 root]] w1 fun e w' => OkPost ns root w1 e w') := fun w1 h => specOk_any a ns cap root w1 hn hfl ((hr.below h).mono h.size) hsm
 have HR : Hid (RowN w w.heap.size a ns) := hr
 have HS : Hid (∀ d ∈ ns, d.small) := hsm
 obtain ⟨hl1, hl2, -⟩ := id hok
 have HOKP : Hid (OkP ns root) := hok
 clear hr hsm hok
 obtain ⟨i9, hi9, hz90, hz91, hz92⟩ := info_parts Try.info9
 go_enter Try.func13, Try.ntmps13
 go_wp2
 go_loopw [3, 4] (fun v o wr => ∃ (i : Nat), i ≤ ns.length ∧ o = .int .i64 i ∧ wr.heap[w.heap.size]? = some (Obj.cells #[.slice a ns.length cap, .int .i64 root] 26) ∧ OwnS wr (w.heap.size + 1) v (setsL (ns.take i)) ∧ Below w.heap.size w wr)
  (fun _ o _ => ns.length - (intOf o).toNat)
 case atStart =>
  refine ⟨0, by omega, rfl, blk_past (blk_at _ _ _ rfl), ?_, (bR _ _).alloc (by simp) _⟩
  exact ⟨rfl, .inr ⟨w.heap.size + 1, 0, #[], rfl, Nat.le_refl _, blk_at _ _ _ (by simp), Nat.le_refl _, Nat.zero_le _, rfl, rfl⟩⟩
 case round =>
  obtain ⟨i, hi, rfl, hkd, hown, hb⟩ := hrel
  obtain ⟨oa, oc, rfl⟩ := hown.slice
  obtain ⟨e0, e1⟩ := zn2 hkd rfl rfl
  have HKD : Hid (wr.heap[w.heap.size]? = some (Obj.cells #[.slice a ns.length cap, .int .i64 root] 26)) := hkd
  have HOW : Hid (OwnS wr (w.heap.size + 1) (.slice oa (setsL (ns.take i)).length oc) (setsL (ns.take i))) := hown
  have hws := (alt hkd)
  have hsl : (setsL (ns.take i)).length ≤ i := setsL_len i _ (by rw [List.length_take]; omega)
  clear hkd hown
  by_cases hlt : i < ns.length
  ·obtain ⟨d, hd⟩ : ∃ d, ns[i]? = some d := ⟨_, List.getElem?_eq_getElem hlt⟩
   have HD : Hid (ns[i]? = some d) := hd
   obtain ⟨b1, o1, rfl, hbb, an, cn, aa, ca, v0, v1, v2, v3, v4, hrs, hri, hcn1, hca1⟩ := HR.out i d hd
   have HST : Hid (setsL (ns.take (i + 1)) = if d.k = 10 ∧ hasS (setsL (ns.take i)) d.s = false then setsL (ns.take i) ++ [d.s] else setsL (ns.take i)) := setsL_take hd
   have HO : Hid (Calls Try.prog 9 #[.agg #[.slice (some ⟨b1, o1, none⟩) ns.length cap, .int .i64 root]] wr fun e w' => OkPost ns root wr e w') := HOK.out wr hb
   have C0 : Hid (∀ w3, Below w.heap.size w w3 → w3.cell? ⟨b1, o1 + i * 5, none⟩ = some (.int .i64 d.k) ∧ w3.cell? ⟨b1, o1 + i * 5 + 2, none⟩ = some (.string d.s)) := fun w3 h3 => ⟨cell_keep v0 h3 hbb, cell_keep v2 h3 hbb⟩
   have hki := (HS.out d (List.mem_of_getElem? hd)).1
   clear hrs hri hd v0 v1 v2 v3 v4
   generalize setsL (ns.take i) = l at *
   go_wp2_with fail
   refine HO.out.mono ?_
   rintro e w2 ⟨b, rfl, hq, hb2⟩
   obtain rfl : b = true := hq.2 HOKP.out
   have hk2 := blk_keep HKD.out hb2 hws
   have HK2 : Hid (w2.heap[w.heap.size]? = some (Obj.cells #[.slice (some ⟨b1, o1, none⟩) ns.length cap, .int .i64 root] 26)) := hk2
   have HO2 : Hid (OwnS w2 (w.heap.size + 1) (.slice oa l.length oc) l) := HOW.out.below hb2
   have hb3 : Below w.heap.size w w2 := hb.trans (hb2.mono (Nat.le_of_lt hws))
   obtain ⟨c0, c2⟩ := C0.out w2 hb3
   have HIN : Hid (Calls Try.prog 27 #[.slice oa l.length oc, .string d.s] w2 fun e w' => Ans w2 (.bool (hasS l d.s)) e w') := l3In_any oa l oc d.s w2 (by omega) HO2.out.row.2
   have k0 := zB 0 hk2 rfl
   have hws2 := (alt hk2)
   clear hq hb2 hb HO HKD HOW e0 e1 hk2
   by_cases hk : d.k = 10
   ·have hkb : (d.k == 10) = true := by rw [hk]; rfl
    cases hh : hasS l d.s
    ·rw [hh] at HIN HST
     have HST2 : Hid (setsL (ns.take (i + 1)) = l ++ [d.s]) := by have := HST.out; rw [if_pos ⟨hk, rfl⟩] at this; exact this
     clear HST hh hk
     go_wp2_with fail
     refine HIN.out.mono ?_
     rintro e w3 ⟨rfl, hb4⟩
     have hk3 := blk_keep HK2.out hb4 hws2
     have HK3 : Hid (w3.heap[w.heap.size]? = some (Obj.cells #[.slice (some ⟨b1, o1, none⟩) ns.length cap, .int .i64 root] 26)) := hk3
     have hb5 : Below w.heap.size w w3 := hb3.trans (hb4.mono (Nat.le_of_lt hws2))
     have hws3 := (alt hk3)
     obtain ⟨_, d2⟩ := C0.out w3 hb5
     have m0 := zB 0 hk3 rfl
     have HO3 : Hid (OwnS w3 (w.heap.size + 1) (.slice oa l.length oc) l) := HO2.out.below hb4
     have HOA : Hid ((w3.alloc (.cells #[.string d.s] 9 (0, 0))).ownsRow (w.heap.size + 1) 9 1 (.slice oa l.length oc) l.length (l.map Value.string)) := World.ownsRow.alloc HO3.out _
     have kA : (w3.alloc (.cells #[.string d.s] 9 (0, 0))).heap[w3.heap.size]? = some (.cells #[.string d.s] 9 (0, 0)) := blk_at _ _ _ rfl
     have hAz : (w3.alloc (.cells #[.string d.s] 9 (0, 0))).heap.size = w3.heap.size + 1 := by simp
     have hwA : w.heap.size + 1 ≤ (w3.alloc (.cells #[.string d.s] 9 (0, 0))).heap.size := by rw [hAz]; omega
     have HBA : Hid (Below w.heap.size w (w3.alloc (.cells #[.string d.s] 9 (0, 0)))) := hb5.alloc (by omega) _
     clear hk3 hb3 hb4 c0 c2 k0 HO2 HK2 HIN
     go_wp2_with (at_builtin; refine wpList_append_lies _ rfl _ _ 29 rfl (w.heap.size + 1) 9 i9 _ 1 16 Try.underlying29 hi9 hz90 hz91 hz92 rfl (by omega) (.slice oa l.length oc) l.length (l.map Value.string) rfl HOA.out ⟨w3.heap.size, 0, none⟩ 1 1 [.string d.s] rfl rfl (World.news_of_block kA) (by intro u hu; simp at hu; subst hu; rfl) (by omega) (by simp [maxLen]; omega) (by omega) hwA (w3.heap.size + 1) hAz ?_)
     intro gg cap' w4 hown hgrow hat hlt4
     have HO4 : Hid (OwnS w4 (w.heap.size + 1) (.slice (some ⟨gg, 0, none⟩) (l ++ [d.s]).length cap') (l ++ [d.s])) := ownS_snoc hown
     have HK4 : Hid (w4.heap[w.heap.size]? = some (Obj.cells #[.slice (some ⟨b1, o1, none⟩) ns.length cap, .int .i64 root] 26)) := (hgrow.block _ (by rw [hAz]; omega) (fun e => by have := (World.ownsRow.lt HOA.out _ e.symm).1; omega)).trans (blk_past HK3.out)
     have HB4 : Hid (Below w.heap.size w w4) := HBA.out.trans ⟨hgrow.os, hgrow.tape, hgrow.output, hgrow.size, fun k hk => hgrow.block k (by rw [hAz]; omega) (fun e => by have := (World.ownsRow.lt HOA.out _ e.symm).1; omega)⟩
     have hln : (l ++ [d.s]).length = l.length + 1 := by simp
     clear hown hgrow hat hlt4 kA hAz hwA HBA HOA HK3 HO3 d2 m0
     go_wp2
     go_roundw
     case rel => exact ⟨i + 1, by omega, by go_num, HK4.out, by rw [HST2.out, ← hln]; exact HO4.out, HB4.out⟩
     case measure => simp [intOf]; omega
    ·rw [hh] at HIN HST
     have HST2 : Hid (setsL (ns.take (i + 1)) = l) := by have := HST.out; rw [if_neg (by simp)] at this; exact this
     clear HST hh hk
     go_wp2_with fail
     refine HIN.out.mono ?_
     rintro e w3 ⟨rfl, hb4⟩
     have HK3 : Hid (w3.heap[w.heap.size]? = some (Obj.cells #[.slice (some ⟨b1, o1, none⟩) ns.length cap, .int .i64 root] 26)) := blk_keep HK2.out hb4 hws2
     have HB3 : Hid (Below w.heap.size w w3) := hb3.trans (hb4.mono (Nat.le_of_lt hws2))
     have HO3 : Hid (OwnS w3 (w.heap.size + 1) (.slice oa l.length oc) l) := HO2.out.below hb4
     clear hb3 hb4 c0 c2 k0 HO2 HK2 HIN
     go_wp2
     go_roundw
     case rel => exact ⟨i + 1, by omega, by go_num, HK3.out, by rw [HST2.out]; exact HO3.out, HB3.out⟩
     case measure => simp [intOf]; omega
   ·have hkb : (d.k == 10) = false := by rw [beq_eq_false_iff_ne]; exact hk
    have HST2 : Hid (setsL (ns.take (i + 1)) = l) := by have := HST.out; rw [if_neg (by simp [hk])] at this; exact this
    clear HST hk
    go_wp2
    go_roundw
    case rel => exact ⟨i + 1, by omega, by go_num, HK2.out, by rw [HST2.out]; exact HO2.out, hb3⟩
    case measure => simp [intOf]; omega
  ·have hlt' : decide ((i : Int) < (ns.length : Int)) = false := by simp; omega
   obtain rfl : i = ns.length := by omega
   rw [List.take_length] at HOW ⊢
   clear hlt hi
   go_wp2
   go_ret
   exact ⟨.slice oa (setsL ns).length oc, rfl, HOW.out.weak (Nat.le_succ _), hb⟩
end Go.Proofs.Ytgjeefedcfakdaa
