/- Notes: rows of them, made of names, held against each other, marked. -/
import Derived.Test.YtamjofdgikifnaaGreatVlp
import Derived.Test.YtamjofdgikifnaaGreatOhm
import Derived.Test.YtamjofdgikifnaaGreatApl
import Derived.Deep.RegionWith
set_option linter.unusedVariables false
namespace Go.Proofs.YtamjofdgikifnaaGreat
open Go.ChangeShapes Go.WideShapes Go.ChangeAt Go.RowKit
structure Nte where
 kind : Int
 name : ByteArray
def ntC (x : Nte) : List Value := [.int .i64 x.kind, .string x.name]
def OwnN (w : World) (B : Nat) (v : Value) (l : List Nte) : Prop := w.ownsRow B 58 2 v l.length (l.flatMap ntC)
def NtPost (l : List Nte) (w : World) (e : Ending) (w' : World) : Prop := ∃ a cap, e = .returned (.slice a l.length cap) ∧ OwnN w' w.heap.size (.slice a l.length cap) l ∧ Below w.heap.size w w'
theorem Tryz.inf58 : (Tryz.prog.info? 58).map (fun i => (i.zero, i.size, i.bytes)) = some (some (.agg #[.int .i64 0, .string ⟨#[]⟩]), 2, 24) := by kernel_rfl
theorem ntC_len (l : List Nte) : (l.flatMap ntC).length = l.length * 2 := by
 induction l with
 | nil => rfl
 | cons x l ih => simp only [List.flatMap_cons, List.length_append, ih, List.length_cons]; simp [ntC]; omega
theorem nt_get0 {l : List Nte} {i : Nat} {x : Nte} (h : l[i]? = some x) : (l.flatMap ntC)[i * 2]? = some (.int .i64 x.kind) ∧ (l.flatMap ntC)[i * 2 + 1]? = some (.string x.name) := by
 induction l generalizing i with
 | nil => simp at h
 | cons y l ih =>
  cases i with
  | zero =>
   obtain rfl : y = x := by simpa using h
   exact ⟨rfl, rfl⟩
  | succ i =>
   have := ih (i := i) (by simpa using h)
   have e1 : (i + 1) * 2 = i * 2 + 1 + 1 := by omega
   rw [e1]
   exact this
theorem OwnN.slice {w : World} {B : Nat} {v : Value} {l : List Nte} (h : OwnN w B v l) : ∃ (a : Option Addr) (cap : Nat), v = .slice a l.length cap := by
 obtain ⟨hl, ⟨hv, h0⟩ | ⟨g, cap', cur, hv, _⟩⟩ := h
 ·exact ⟨none, 0, by rw [hv, h0]⟩
 ·exact ⟨_, _, hv⟩
theorem OwnN.keep' {w w' : World} {B : Nat} {v : Value} {l : List Nte} (h : OwnN w B v l) (hb : Below w.heap.size w w') : OwnN w' B v l := by
 obtain ⟨hl, ⟨hv, h0⟩ | ⟨g, cap', cur, hv, a1, hblk, a3⟩⟩ := h
 ·exact ⟨hl, .inl ⟨hv, h0⟩⟩
 ·exact ⟨hl, .inr ⟨g, cap', cur, hv, a1, (hb.block g (Array.getElem?_eq_some_iff.1 hblk).1).trans hblk, a3⟩⟩
theorem OwnN.weak {w : World} {B B' : Nat} {v : Value} {l : List Nte} (h : OwnN w B v l) (hB : B' ≤ B) : OwnN w B' v l := by
 obtain ⟨hl, ⟨hv, h0⟩ | ⟨g, cap', cur, hv, a1, a3⟩⟩ := h
 ·exact ⟨hl, .inl ⟨hv, h0⟩⟩
 ·exact ⟨hl, .inr ⟨g, cap', cur, hv, Nat.le_trans hB a1, a3⟩⟩
theorem OwnN.alloc' {W : World} {B : Nat} {v : Value} {l : List Nte} (h : OwnN W B v l) (o : Obj) : OwnN (W.alloc o) B v l := World.ownsRow.alloc h o
theorem OwnN.snoc {w : World} {B : Nat} {v : Value} {l : List Nte} {x : Nte} (h : w.ownsRow B 58 2 v (l.length + 1) (l.flatMap ntC ++ ntC x)) : OwnN w B v (l ++ [x]) := by
 show World.ownsRow _ _ _ _ _ _ _
 rw [List.length_append, List.flatMap_append, List.flatMap_singleton]
 exact h
theorem OwnN.at {w : World} {B n cap i : Nat} {a : Option Addr} {l : List Nte} {x : Nte} (h : OwnN w B (.slice a n cap) l) (hi : l[i]? = some x) : ∃ g, a = some ⟨g, 0, none⟩ ∧ B ≤ g ∧ g < w.heap.size ∧ w.cell? ⟨g, i * 2, none⟩ = some (.int .i64 x.kind) ∧ w.cell? ⟨g, i * 2 + 1, none⟩ = some (.string x.name) := by
 obtain ⟨hl, ⟨hv, h0⟩ | ⟨g, cap', cur, hv, a1, hblk, a3, a4, a5, a6⟩⟩ := h
 ·rw [List.eq_nil_of_length_eq_zero h0] at hi
  simp at hi
 ·injection hv with h1 h2 h3
  exact ⟨g, h1, a1, (Array.getElem?_eq_some_iff.1 hblk).1, cell_blk hblk (Fr.take_get a6 (nt_get0 hi).1), cell_blk hblk (Fr.take_get a6 (nt_get0 hi).2)⟩
theorem app_belowN {B : Nat} {w0 w1 w2 : World} {v : Value} {l : List Nte} (hb : Below B w0 w1) (hB2 : B ≤ w1.heap.size) (ho : OwnN w1 B v l) (hg : w1.grownBy w2 v.ownBlock) : Below B w0 w2 := app_belowR hb hB2 ho hg
set_option maxRecDepth 100000 in
set_option maxHeartbeats 1000000 in
theorem notes_any (k : Int) (hk : i64B k) (a : Option Addr) (l : List ByteArray) (ca : Nat) (w : World) (hn : l.length ≤ 1048576) (hs : ∀ x ∈ l, smS x) (hr : RowS w w.heap.size a l) :
  Calls Tryz.prog 37 #[.int .i64 k, .slice a l.length ca] w fun e w' => NtPost (l.map (Nte.mk k)) w e w' := by
 have HR : Hid (RowS w w.heap.size a l) := hr
 have HS : Hid (∀ x ∈ l, smS x) := hs
 clear hr hs
 obtain ⟨i9, hi9, hz90, hz91, hz92⟩ := info_parts Tryz.inf58
 go_enter Tryz.func37, Tryz.ntmps37
 go_wp2
 go_loopw [5, 10] (fun v o wr => ∃ i : Nat, i ≤ l.length ∧ o = .int .i64 i ∧ OwnN wr w.heap.size v ((l.take i).map (Nte.mk k)) ∧ Below w.heap.size w wr)
  (fun _ o _ => l.length - (intOf o).toNat)
 case atStart => exact ⟨0, by omega, rfl, ⟨rfl, .inl ⟨rfl, rfl⟩⟩, Below.refl _ _⟩
 case round =>
  obtain ⟨i, hi, rfl, hown, hb⟩ := hrel
  obtain ⟨oa, oc, rfl⟩ := hown.slice
  have HOW : Hid (OwnN wr w.heap.size (.slice oa ((l.take i).map (Nte.mk k)).length oc) ((l.take i).map (Nte.mk k))) := hown
  have hsl : ((l.take i).map (Nte.mk k)).length ≤ 1048576 := by rw [List.length_map, List.length_take]; omega
  clear hown
  by_cases hlt : i < l.length
  ·obtain ⟨d, hd⟩ : ∃ d, l[i]? = some d := ⟨_, List.getElem?_eq_getElem hlt⟩
   obtain ⟨b1, o1, rfl, hbb, c0⟩ := (HR.out.below hb) i d hd
   have hds : d.size ≤ 1048576 := HS.out d (List.mem_of_getElem? hd)
   have HMT : Hid ((l.take (i + 1)).map (Nte.mk k) = (l.take i).map (Nte.mk k) ++ [⟨k, d⟩]) := map_take _ hd
   clear hd
   generalize hls : (l.take i).map (Nte.mk k) = ls at *
   clear hls
   have hsz := hb.size
   have HCL : Hid (∀ w3, Calls Tryz.prog 68 #[.string d] w3 fun e w' => Ans w3 (.string d) e w') := fun w3 => Fr.clone_any d w3 hds
   go_wp2_with fail
   refine (HCL.out _).mono ?_
   rintro e w2 ⟨rfl, hb2⟩
   have hb3 : Below w.heap.size w w2 := hb.trans (hb2.mono hsz)
   have HO2 : Hid (OwnN w2 w.heap.size (.slice oa ls.length oc) ls) := HOW.out.keep' hb2
   have hnews : ∀ j u, [Value.int .i64 k, Value.string d][j]? = some u → (w2.alloc (Obj.cells #[.int .i64 k, .string d] 58)).cell? ((⟨w2.heap.size, 0, none⟩ : Addr).add j) = some u := by
    intro j u hj
    rw [add_lit, Nat.zero_add]
    exact cell_blk (blk_at _ _ _ (by simp)) (by simpa using hj)
   have HO1 : Hid ((w2.alloc (Obj.cells #[.int .i64 k, .string d] 58)).ownsRow w.heap.size 58 2 (.slice oa ls.length oc) ls.length (ls.flatMap ntC)) := World.ownsRow.alloc HO2.out _
   have HB1 : Hid (Below w.heap.size w (w2.alloc (Obj.cells #[.int .i64 k, .string d] 58))) := hb3.alloc hb3.size _
   have hsz3 := hb3.size
   clear HCL hb2 hb HOW HO2
   go_wp2_with (at_builtin; go_loud (refine wpList_append_row rfl _ _ 29 rfl w.heap.size 58 i9 _ 2 24 Tryz.underlying29 hi9 hz90 hz91 hz92 rfl (by omega) (.slice oa ls.length oc) ls.length (ls.flatMap ntC) rfl HO1.out (some ⟨w2.heap.size, 0, none⟩) 1 1 [.int .i64 k, .string d] rfl rfl (fun _ => ⟨_, rfl, hnews⟩) (by intro u hu; simp at hu; rcases hu with rfl | rfl <;> rfl) (by unfold maxLen; omega) (by omega) (by simp; omega) ?_; intro v' w4 hown hgrow hat; refine stop ?_))
   have HO4 : Hid (OwnN w4 w.heap.size v' (ls ++ [⟨k, d⟩])) := OwnN.snoc hown
   have HB4 : Hid (Below w.heap.size w w4) := app_belowN HB1.out HB1.out.size HO1.out hgrow
   unfold Hid
   clear hown hgrow hat hnews hb3
   go_wp2
   go_roundw
   case rel => exact ⟨i + 1, by omega, by go_num, by rw [HMT.out]; exact HO4.out, HB4.out⟩
   case measure => simp [intOf]; omega
  ·obtain rfl : i = l.length := by omega
   rw [List.take_length] at HOW ⊢
   have hlt' : decide ((l.length : Int) < (l.length : Int)) = false := by simp
   go_wp2
   go_ret
   exact ⟨oa, oc, by rw [List.length_map]; rfl, HOW.out, hb⟩
set_option maxRecDepth 100000 in
set_option maxHeartbeats 1000000 in
theorem eqE_Note (x : Nte) (w : World) (hk : i64B x.kind) (hs : x.name.size ≤ 1048576) :
  Calls Tryz.prog 39 #[.agg #[.int .i64 x.kind, .string x.name], .agg #[.int .i64 x.kind, .string x.name]] w fun e w' => Ans w (.bool true) e w' := by
 have hb : Below w.heap.size w ((w.alloc (Obj.cells #[.int .i64 x.kind, .string x.name] 58)).alloc (Obj.cells #[.int .i64 x.kind, .string x.name] 58)) := ((Below.refl _ _).alloc (Nat.le_refl _) _).alloc (by simp) _
 have k0 : ((w.alloc (Obj.cells #[.int .i64 x.kind, .string x.name] 58)).alloc (Obj.cells #[.int .i64 x.kind, .string x.name] 58)).heap[w.heap.size]? = some (Obj.cells #[.int .i64 x.kind, .string x.name] 58) := blk_past (blk_at _ _ _ rfl)
 have k1 : ((w.alloc (Obj.cells #[.int .i64 x.kind, .string x.name] 58)).alloc (Obj.cells #[.int .i64 x.kind, .string x.name] 58)).heap[w.heap.size + 1]? = some (Obj.cells #[.int .i64 x.kind, .string x.name] 58) := blk_at _ _ _ (by simp)
 go_enter Tryz.func39, Tryz.ntmps39
 go_wp2
 go_ret
 exact ⟨rfl, hb⟩
def Nte.small (x : Nte) : Prop := i64B x.kind ∧ x.name.size ≤ 1048576
set_option maxRecDepth 100000 in
set_option maxHeartbeats 1000000 in
theorem eq_Note (B B' : Nat) (a b : Option Addr) (l : List Nte) (ca cb : Nat) (w : World) (hn : l.length ≤ 1048576) (hsm : ∀ d ∈ l, Nte.small d) (hr : OwnN w B (.slice a l.length ca) l) (hr' : OwnN w B' (.slice b l.length cb) l) :
  Calls Tryz.prog 11 #[.slice a l.length ca, .slice b l.length cb] w fun e w' => Ans w (.bool true) e w' := by
 have HR : Hid (OwnN w B (.slice a l.length ca) l) := hr
 have HR' : Hid (OwnN w B' (.slice b l.length cb) l) := hr'
 have HS : Hid (∀ d ∈ l, Nte.small d) := hsm
 clear hr hr' hsm
 go_enter Tryz.func11, Tryz.ntmps11
 go_wp2
 go_loopw [5] (fun o wr => ∃ (i : Nat), i ≤ l.length ∧ o = .int .i64 i ∧ Below w.heap.size w wr)
  (fun o _ => l.length - (intOf o).toNat)
 case atStart => exact ⟨0, by omega, rfl, Below.refl _ _⟩
 case round =>
  obtain ⟨i, hi, rfl, hb⟩ := hrel
  by_cases hlt : i < l.length
  ·obtain ⟨d, hd⟩ : ∃ d, l[i]? = some d := ⟨_, List.getElem?_eq_getElem hlt⟩
   have hsz := hb.size
   obtain ⟨b1, rfl, _, _, cx0, cx1⟩ := (HR.out.keep' hb).at hd
   obtain ⟨b2, rfl, _, _, cy0, cy1⟩ := (HR'.out.keep' hb).at hd
   have hds := HS.out d (List.mem_of_getElem? hd)
   have hdk := hds.1
   have HE : Hid (∀ w1, Calls Tryz.prog 39 #[.agg #[.int .i64 d.kind, .string d.name], .agg #[.int .i64 d.kind, .string d.name]] w1 fun e w' => Ans w1 (.bool true) e w') := fun w1 => eqE_Note d w1 hds.1 hds.2
   clear hd hds
   go_wp2_with fail
   go_region_with (go_at_call 39; refine (HE.out _).mono ?_; rintro e w2 ⟨rfl, hb2⟩)
   all_goals
    have hb3 : Below w.heap.size w w2 := (below_drewN hb 1).trans (hb2.mono hsz)
    go_wp2
    go_roundw
    case rel => exact ⟨i + 1, by omega, by go_num, hb3⟩
    case measure => simp [intOf]; omega
  ·have hlt' : decide ((i : Int) < (l.length : Int)) = false := by simp; omega
   go_wp2
   go_ret
   exact ⟨rfl, hb⟩
def marksN (k n : Nat) : List Nte := (List.range n).map fun i => ⟨((k + 2 * i : Nat) : Int), mtx (k + 2 * i + 1)⟩
theorem marksN_len (k n : Nat) : (marksN k n).length = n := by simp [marksN]
theorem marksN_get {k n i : Nat} (h : i < n) : (marksN k n)[i]? = some ⟨((k + 2 * i : Nat) : Int), mtx (k + 2 * i + 1)⟩ := by simp [marksN, h]
def MkUp (k i : Nat) (X : List Value) : Prop := ∀ j, j < i → X[j * 2]? = some (.int .i64 ((k + 2 * j : Nat) : Int)) ∧ X[j * 2 + 1]? = some (.string (mtx (k + 2 * j + 1)))
theorem MkUp.all {k n : Nat} {X : List Value} (h : MkUp k n X) (hl : X.length = n * 2) : X = (marksN k n).flatMap ntC := by
 refine list_eq hl (by rw [ntC_len, marksN_len]) fun q hq => ?_
 obtain ⟨j, hj⟩ : ∃ j, q = j * 2 ∨ q = j * 2 + 1 := ⟨q / 2, by omega⟩
 have hjn : j < n := by omega
 have g := nt_get0 (marksN_get (k := k) hjn)
 rcases hj with rfl | rfl
 ·rw [(h j hjn).1, g.1]
 ·rw [(h j hjn).2, g.2]
theorem MkUp.more {k i m : Nat} {X : List Value} (h : MkUp k i X) (hm : m = k + 2 * i) (hl : i * 2 + 1 < X.length) : MkUp k (i + 1) ((X.set (i * 2) (.int .i64 (m : Nat))).set (i * 2 + 1) (.string (mtx (m + 1)))) := by
 subst hm
 intro j hj
 by_cases hji : j = i
 ·subst hji
  refine ⟨?_, ?_⟩
  ·rw [List.getElem?_set_ne (by omega), List.getElem?_set_self (by omega)]
  ·rw [List.getElem?_set_self (by rw [List.length_set]; omega)]
 ·have := h j (by omega)
  refine ⟨?_, ?_⟩
  ·rw [List.getElem?_set_ne (by omega), List.getElem?_set_ne (by omega)]; exact this.1
  ·rw [List.getElem?_set_ne (by omega), List.getElem?_set_ne (by omega)]; exact this.2
set_option maxRecDepth 100000 in
set_option maxHeartbeats 1000000 in
theorem markNoteS_o (B : Nat) (a : Option Addr) (l : List Nte) (n cap k : Nat) (w : World) (h : OwnN w B (.slice a n cap) l) (hn : n = l.length) (hk1 : 1 ≤ k) (hk : k + 2 * n ≤ 1000000000000) :
  Calls Tryz.prog 16 #[.slice a n cap, .int .i64 (k : Int)] w fun e w' => e = .returned (.int .i64 ((k + 2 * n : Nat) : Int)) ∧ OwnN w' B (.slice a n cap) (marksN k n) ∧ w.grownBy w' (Value.slice a n cap).ownBlock := by
 have H0 : Hid (w.ownsRow B 58 2 (.slice a n cap) n (l.flatMap ntC)) := by rw [hn]; rw [hn] at h; exact h
 have HL0 : Hid ((l.flatMap ntC).length = n * 2) := by show _ = _; rw [ntC_len, hn]
 clear h hn
 go_enter Tryz.func16, Tryz.ntmps16
 go_wp2
 go_loopw [1, 5] (fun kv iv wr => ∃ (i m : Nat) (X : List Value), i ≤ n ∧ m = k + 2 * i ∧ kv = .int .i64 m ∧ iv = .int .i64 i ∧ X.length = n * 2 ∧ MkUp k i X ∧ wr.ownsRow B 58 2 (.slice a n cap) n X ∧ w.grownBy wr (Value.slice a n cap).ownBlock)
  (fun kv iv _ => n - (intOf iv).toNat)
 case atStart => exact ⟨0, k, _, Nat.zero_le _, by omega, rfl, rfl, HL0.out, fun j hj => by omega, H0.out, gb_refl _ _⟩
 case round =>
  obtain ⟨i, m, X, hi, hm, rfl, rfl, hL, hmk, ho, hg⟩ := hrel
  have HM : Hid (m = k + 2 * i) := hm
  have hm6 : m + 1 ≤ 1000000000000 ∨ i = n := by omega
  have hm5 : m ≤ 1000000000000 := by omega
  have hm1 : 1 ≤ m := by omega
  have HG : Hid (w.grownBy wr (Value.slice a n cap).ownBlock) := hg
  have HL : Hid (X.length = n * 2) := hL
  have HK : Hid (MkUp k i X) := hmk
  by_cases hlt : i < n
  ·obtain ⟨g, cur, rfl, hblk, hcs⟩ := own_some ho (by omega : 0 < n)
   have HO : Hid (wr.ownsRow B 58 2 (.slice (some ⟨g, 0, none⟩) n cap) n X) := ho
   have hbl : g < wr.heap.size := (Array.getElem?_eq_some_iff.1 hblk).1
   have HT : Hid (∀ w, Calls Tryz.prog 44 #[.int .i64 ((m + 1 : Nat) : Int)] w fun e w' => Ans w (.string (mtx (m + 1))) e w') := fun w => markText_any (m + 1) w (by omega) (by omega)
   have hm7 : m + 1 ≤ 1000000000000 := by omega
   obtain ⟨y0, e0⟩ := cell_blk' hblk (i * 2) (by omega)
   have f0 := frozen_blk hblk (i * 2)
   have HN : Hid (((m + 1 : Nat) : Int) = (m : Int) + 1) := by show _ = _; omega
   rw [HN.out] at HT
   have HB0 : Hid (wr.heap[g]? = some (.cells cur 58 (0, 0))) := hblk
   clear hg hmk hm ho hblk hL hm6
   go_wp2_with fail
   obtain ⟨w1, hw1⟩ : ∃ w1, w1 = wr.setCell ⟨g, i * 2, none⟩ (Value.int .i64 (m : Int)) := ⟨_, rfl⟩
   have HO1 : Hid (w1.ownsRow B 58 2 (.slice (some ⟨g, 0, none⟩) n cap) n (X.set (i * 2) (.int .i64 (m : Int)))) := by rw [hw1]; exact own_set _ HO.out (by omega)
   have HG1 : Hid (wr.grownBy w1 (Value.slice (some ⟨g, 0, none⟩) n cap).ownBlock) := by rw [hw1]; exact gb_set _ _ _ _
   have KX : Hid (w1.heap[g]? = some (.cells (cur.setIfInBounds (i * 2) (.int .i64 (m : Int))) 58 (0, 0))) := by rw [hw1]; exact heap_setCell_same _ _ _ _ _ _ HB0.out
   have hz1 : g < w1.heap.size := (Array.getElem?_eq_some_iff.1 KX.out).1
   rw [← hw1]
   clear hw1 e0 f0
   refine (HT.out _).mono ?_
   rintro e w2 ⟨rfl, hb2⟩
   have k2 := (hb2.block g hz1).trans KX.out
   obtain ⟨y1, e1⟩ := cell_blk' k2 (i * 2 + 1) (by simp; omega)
   have f1 := frozen_blk k2 (i * 2 + 1)
   have HO2 : Hid (w2.ownsRow B 58 2 (.slice (some ⟨g, 0, none⟩) n cap) n (X.set (i * 2) (.int .i64 (m : Int)))) := own_keep HO1.out fun b hb => by
    obtain rfl : g = b := Option.some.inj hb
    exact hb2.block g hz1
   have HB2 : Hid (Below w1.heap.size w1 w2) := hb2
   clear k2 hb2 HT KX
   go_wp2
   go_roundw
   case rel =>
    have hL := HL.out
    have hM := HM.out
    exact ⟨i + 1, m + 2, _, by omega, by omega, by go_num, by go_num, by rw [List.length_set, List.length_set]; exact hL, HK.out.more hM (by omega), own_set _ HO2.out (by omega), gb_trans (gb_trans (gb_trans HG.out HG1.out) (gb_below _ HB2.out)) (gb_set _ _ _ _)⟩
   case measure => simp [intOf]; omega
  ·have hlt' : decide ((i : Int) < (n : Int)) = false := by simp; omega
   obtain rfl : i = n := by omega
   have HO : Hid (OwnN wr B (.slice a i cap) (marksN k i)) := by
    show World.ownsRow _ _ _ _ _ _ _
    rw [marksN_len, ← hmk.all hL]; exact ho
   clear hlt hg hmk hm ho hL
   go_wp2
   go_ret
   exact ⟨by rw [HM.out]; rfl, HO.out, HG.out⟩
set_option maxRecDepth 100000 in
set_option maxHeartbeats 1000000 in
theorem heldNoteS_o (B : Nat) (a : Option Addr) (n cap k : Nat) (w : World) (hk1 : 1 ≤ k) (hk : k + 2 * n ≤ 1000000000000) (hr : OwnN w B (.slice a n cap) (marksN k n)) :
  Calls Tryz.prog 17 #[.slice a n cap, .int .i64 (k : Int)] w fun e w' => Ans w (.int .i64 ((k + 2 * n : Nat) : Int)) e w' := by
 have HR : Hid (OwnN w B (.slice a n cap) (marksN k n)) := hr
 clear hr
 go_enter Tryz.func17, Tryz.ntmps17
 go_wp2
 go_loopw [1, 5] (fun kv iv wr => ∃ (i m : Nat), i ≤ n ∧ m = k + 2 * i ∧ kv = .int .i64 m ∧ iv = .int .i64 i ∧ Below w.heap.size w wr)
  (fun kv iv _ => n - (intOf iv).toNat)
 case atStart => exact ⟨0, k, Nat.zero_le _, by omega, rfl, rfl, Below.refl _ _⟩
 case round =>
  obtain ⟨i, m, hi, hm, rfl, rfl, hb⟩ := hrel
  have HM : Hid (m = k + 2 * i) := hm
  have hm5 : m ≤ 1000000000000 := by omega
  have hm1 : 1 ≤ m := by omega
  have HB : Hid (Below w.heap.size w wr) := hb
  have hsz := hb.size
  by_cases hlt : i < n
  ·obtain ⟨b, rfl, _, hbl, e0, e1⟩ := (HR.out.keep' hb).at (marksN_get hlt)
   simp only at e0 e1
   rw [← hm] at e0 e1
   have hm7 : m + 1 ≤ 1000000000000 := by omega
   have HT : Hid (∀ w, Calls Tryz.prog 44 #[.int .i64 ((m + 1 : Nat) : Int)] w fun e w' => Ans w (.string (mtx (m + 1))) e w') := fun w => markText_any (m + 1) w (by omega) (by omega)
   have HN : Hid (((m + 1 : Nat) : Int) = (m : Int) + 1) := by show _ = _; omega
   rw [HN.out] at HT
   have hq : ((mtx (m + 1)).toList != (mtx (m + 1)).toList) = false := by simp
   have hq2 : ((m : Int) != (m : Int)) = false := by simp
   clear hb hm
   go_wp2_with fail
   go_region_with (go_at_call 44; refine (HT.out _).mono ?_; rintro e w2 ⟨rfl, hb2⟩; have e2 : w2.cell? ⟨b, i * 2 + 1, none⟩ = some (.string (mtx (m + 1))) := (World.cell?_of_block (w := wr) (a := ⟨b, _, none⟩) (hb2.block b (by show b < wr.heap.size; omega))).trans e1)
   all_goals
    have hb3 : Below w.heap.size w w2 := (below_drewN HB.out 1).trans (hb2.mono hsz)
    go_wp2
    go_roundw
    case rel => exact ⟨i + 1, m + 2, by omega, by have := HM.out; omega, by go_num, by go_num, hb3⟩
    case measure => simp [intOf]; omega
  ·have hlt' : decide ((i : Int) < (n : Int)) = false := by simp; omega
   obtain rfl : i = n := by omega
   clear hlt hb hm
   go_wp2
   go_ret
   exact ⟨by rw [HM.out]; rfl, HB.out⟩
end Go.Proofs.YtamjofdgikifnaaGreat
