/- The program's way with names, texts and counts of a node. The program's look at a node: its counts, and what the map says of them. -/
import Derived.Test.YtamjofdgikifnaaGreatNms
namespace Go.Proofs.YtamjofdgikifnaaGreat
open Go.ChangeShapes Go.WideShapes Go.ChangeAt Go.RowKit
def IxPost (ts : List ByteArray) (s : ByteArray) (w : World) (e : Ending) (w' : World) : Prop := ∃ x : Int, e = .returned (.int .i64 x) ∧ decide (0 ≤ x) = hasS ts s ∧ Below w.heap.size w w'
set_option maxRecDepth 100000 in
theorem indexS_any (a : Option Addr) (ts : List ByteArray) (cap : Nat) (s : ByteArray) (w : World) (hn : ts.length ≤ 1048576) (hr : RowS w w.heap.size a ts) :
  Calls Tryz.prog 95 #[.slice a ts.length cap, .string s] w fun e w' => IxPost ts s w e w' := by
 have HR : Hid (RowS w w.heap.size a ts) := hr
 clear hr
 go_enter Tryz.func95, Tryz.ntmps95
 go_wp2
 go_loopw [8] (fun o wr => ∃ (i : Nat), i ≤ ts.length ∧ o = .int .i64 i ∧ hasS (ts.take i) s = false ∧ Below w.heap.size w wr)
  (fun o _ => ts.length - (intOf o).toNat)
 case atStart => exact ⟨0, by omega, rfl, by simp [hasS], Below.refl _ _⟩
 case round =>
  obtain ⟨i, hi, rfl, hno, hb⟩ := hrel
  by_cases hlt : i < ts.length
  ·obtain ⟨d, hd⟩ : ∃ d, ts[i]? = some d := ⟨_, List.getElem?_eq_getElem hlt⟩
   obtain ⟨b1, o1, rfl, hbb, c0⟩ := (HR.out.below hb) i d hd
   by_cases he : (d.toList == s.toList) = true
   ·have HQ : Hid (hasS ts s = true) := hasS_of hd he
    have he' : (s.toList == d.toList) = true := by rw [BEq.comm]; exact he
    clear hno he
    go_wp2
    go_ret
    exact ⟨i, rfl, by rw [HQ.out]; simp, hb⟩
   ·have he : (d.toList == s.toList) = false := by simpa using he
    have he' : (s.toList == d.toList) = false := by rw [BEq.comm]; exact he
    have HQ : Hid (hasS (ts.take (i + 1)) s = false) := by show _ = _; rw [hasS_take hd, hno, he]; rfl
    clear hno he
    go_wp2
    go_roundw
    case rel => exact ⟨i + 1, by omega, by go_num, HQ.out, hb⟩
    case measure => simp [intOf]; omega
  ·have hlt' : decide ((i : Int) < (ts.length : Int)) = false := by simp; omega
   obtain rfl : i = ts.length := by omega
   rw [List.take_length] at hno
   have HQ : Hid (hasS ts s = false) := hno
   clear hno
   go_wp2
   go_ret
   exact ⟨-1, rfl, by rw [HQ.out]; rfl, hb⟩
set_option maxRecDepth 100000 in
theorem containsS_any (a : Option Addr) (ts : List ByteArray) (cap : Nat) (s : ByteArray) (w : World) (hn : ts.length ≤ 1048576) (hr : RowS w w.heap.size a ts) :
  Calls Tryz.prog 71 #[.slice a ts.length cap, .string s] w fun e w' => Ans w (.bool (hasS ts s)) e w' := by
 have HI : Hid (Calls Tryz.prog 95 #[.slice a ts.length cap, .string s] w fun e w' => IxPost ts s w e w') := indexS_any a ts cap s w hn hr
 clear hr
 go_enter Tryz.func71, Tryz.ntmps71
 go_wp2_with fail
 refine HI.out.mono ?_
 rintro e w1 ⟨x, rfl, hx, hb⟩
 have HX : Hid (decide (0 ≤ x) = hasS ts s) := hx
 clear hx HI
 go_wp2
 go_ret
 exact ⟨by rw [← HX.out]; simp, hb⟩
set_option maxRecDepth 100000 in
set_option maxHeartbeats 1000000 in
theorem namesOk_any (a : Option Addr) (ts : List ByteArray) (cap : Nat) (w : World) (hn : ts.length ≤ 1048576) (hcap : ts.length ≤ cap) (hr : RowS w w.heap.size a ts) (hsz : ∀ x ∈ ts, x.size ≤ 1048576) :
  Calls Tryz.prog 89 #[.slice a ts.length cap] w fun e w' => Ans w (.bool (nmA ts)) e w' := by
 have HR : Hid (RowS w w.heap.size a ts) := hr
 have HS : Hid (∀ x ∈ ts, x.size ≤ 1048576) := hsz
 clear hr hsz
 go_enter Tryz.func89, Tryz.ntmps89
 go_wp2
 go_loopw [7] (fun o wr => ∃ (i : Nat), i ≤ ts.length ∧ o = .int .i64 i ∧ nmB ts i = true ∧ Below w.heap.size w wr)
  (fun o _ => ts.length - (intOf o).toNat)
 case atStart => exact ⟨0, by omega, rfl, rfl, Below.refl _ _⟩
 case round =>
  obtain ⟨i, hi, rfl, hno, hb⟩ := hrel
  by_cases hlt : i < ts.length
  ·obtain ⟨d, hd⟩ : ∃ d, ts[i]? = some d := ⟨_, List.getElem?_eq_getElem hlt⟩
   have hrow := (HR.out.below hb)
   obtain ⟨b1, o1, rfl, hbb, c0⟩ := hrow i d hd
   have hsz0 := hb.size
   have HRT : Hid (∀ w2, Below wr.heap.size wr w2 → RowS w2 w2.heap.size (some ⟨b1, o1, none⟩) (ts.take i)) := fun w2 h2 => ((hrow.take i).keep (fun b hb' => h2.block b (by omega))).mono (by have := h2.size; omega)
   have HN : Hid (∀ w, Calls Tryz.prog 61 #[.string d] w fun e w' => Ans w (.bool (naL d.toList)) e w') := fun w => implNa_any d w (HS.out d (List.mem_of_getElem? hd))
   have HI : Hid (∀ w2, Below wr.heap.size wr w2 → Calls Tryz.prog 71 #[.slice (some ⟨b1, o1, none⟩) i cap, .string d] w2 fun e w' => Ans w2 (.bool (hasS (ts.take i) d)) e w') := fun w2 h2 => by
    have := containsS_any (some ⟨b1, o1, none⟩) (ts.take i) cap d w2 (by rw [List.length_take]; omega) (HRT.out w2 h2)
    rwa [List.length_take, Nat.min_eq_left (by omega)] at this
   clear hrow HRT
   cases hna : naL d.toList
   ·have HQ : Hid (nmA ts = false) := nmA_false hd (.inl hna)
    rw [hna] at HN
    clear hno hna HI
    go_wp2_with (go_at_call 61; refine (HN.out _).mono ?_; rintro e w2 ⟨rfl, hb2⟩)
    go_ret
    exact ⟨by rw [HQ.out]; rfl, hb.trans (hb2.mono hsz0)⟩
   ·rw [hna] at HN
    cases hha : hasS (ts.take i) d
    ·have HQ : Hid (nmB ts (i + 1) = true) := by show _ = _; rw [nmB_step hd, hno, hna, hha]; rfl
     rw [hha] at HI
     clear hno hna hha
     go_wp2_with (first | (go_at_call 61; refine (HN.out _).mono ?_; rintro e w2 ⟨rfl, hb2⟩) | (go_at_call 71; refine (HI.out _ hb2).mono ?_; rintro e w3 ⟨rfl, hb3⟩))
     go_roundw
     case rel => exact ⟨i + 1, by omega, by go_num, HQ.out, (hb.trans (hb2.mono hsz0)).trans (hb3.mono (by have := hb2.size; omega))⟩
     case measure => simp [intOf]; omega
    ·have HQ : Hid (nmA ts = false) := nmA_false hd (.inr hha)
     rw [hha] at HI
     clear hno hna hha
     go_wp2_with (first | (go_at_call 61; refine (HN.out _).mono ?_; rintro e w2 ⟨rfl, hb2⟩) | (go_at_call 71; refine (HI.out _ hb2).mono ?_; rintro e w3 ⟨rfl, hb3⟩))
     go_ret
     exact ⟨by rw [HQ.out]; rfl, (hb.trans (hb2.mono hsz0)).trans (hb3.mono (by have := hb2.size; omega))⟩
  ·have hlt' : decide ((i : Int) < (ts.length : Int)) = false := by simp; omega
   obtain rfl : i = ts.length := by omega
   have HQ : Hid (nmA ts = true) := hno
   clear hno
   go_wp2
   go_ret
   exact ⟨by rw [HQ.out]; rfl, hb⟩
set_option maxRecDepth 100000 in
theorem textOk_any (s : ByteArray) (t : Int) (w : World) (hs : s.size ≤ 1048576) (ht : t = 0 ∨ t = 1 ∨ t = 2 ∨ t = 3) :
  Calls Tryz.prog 120 #[.string s, .int .i64 t] w fun e w' => Ans w (.bool (txB s t)) e w' := by
 have HE : Hid (s.data.toList = s.toList) := by show _ = _; rw [ByteArray.toList_eq]
 have HY : Hid (∀ w, Calls Tryz.prog 86 #[.string s] w fun e w' => Ans w (.bool (syL s.toList)) e w') := fun w => by rw [← HE.out]; exact isSymbol_any s w hs
 have HN : Hid (∀ w, Calls Tryz.prog 61 #[.string s] w fun e w' => Ans w (.bool (naL s.toList)) e w') := fun w => implNa_any s w hs
 have HS : Hid (∀ w, Calls Tryz.prog 108 #[.string s] w fun e w' => e = .returned (.int .i64 (soL s.toList)) ∧ w' = w) := fun w => implSo_any s w
 rcases ht with rfl | rfl | rfl | rfl
 ·have HT : Hid (txB s 0 = s.toList.isEmpty) := rfl
  rw [HT.out]
  go_enter Tryz.func120, Tryz.ntmps120
  go_wp2
  go_ret
  exact ⟨by simp, Below.refl _ _⟩
 ·have HT : Hid (txB s 1 = syL s.toList) := rfl
  rw [HT.out]
  generalize syL s.toList = q at *
  go_enter Tryz.func120, Tryz.ntmps120
  go_wp2_with (go_at_call 86; refine (HY.out _).mono ?_; rintro e w1 ⟨rfl, hb1⟩)
  go_ret
  exact ⟨rfl, hb1⟩
 ·have HT : Hid (txB s 2 = naL s.toList) := rfl
  rw [HT.out]
  generalize naL s.toList = q at *
  go_enter Tryz.func120, Tryz.ntmps120
  go_wp2_with (go_at_call 61; refine (HN.out _).mono ?_; rintro e w1 ⟨rfl, hb1⟩)
  go_ret
  exact ⟨rfl, hb1⟩
 ·have HT : Hid (txB s 3 = !(soL s.toList == 0)) := rfl
  rw [HT.out]
  generalize soL s.toList = q at *
  go_enter Tryz.func120, Tryz.ntmps120
  go_wp2_with (go_at_call 108; refine (HS.out _).mono ?_; rintro e w1 ⟨rfl, rfl⟩)
  go_ret
  exact ⟨by simp; rfl, Below.refl _ _⟩
end Go.Proofs.YtamjofdgikifnaaGreat
namespace Go.Proofs.YtamjofdgikifnaaGreat
open Go.ChangeShapes Go.WideShapes Go.ChangeAt Go.RowKit
def c1 (k : Int) (s : ByteArray) : Int := if k = 9 then soL s.toList else 0
def c3 (k : Int) (la : Nat) : Int := if k = 11 then min (la : Int) 2 else la
set_option maxRecDepth 100000 in
set_option maxHeartbeats 1000000 in
theorem countsOf_any (k n : Int) (s : ByteArray) (an aa : Option Addr) (ln la cn ca : Nat) (w : World) (hla : la ≤ 1048576) :
  Calls Tryz.prog 119 #[.agg #[.int .i64 k, .int .i64 n, .string s, .slice an ln cn, .slice aa la ca]] w fun e w' => Ans w (Kv k (c1 k s) ln (c3 k la)) e w' := by
 have HS : Hid (∀ w, Calls Tryz.prog 108 #[.string s] w fun e w' => e = .returned (.int .i64 (soL s.toList)) ∧ w' = w) := fun w => implSo_any s w
 by_cases k9 : k = 9
 ·subst k9
  have HC : Hid (Kv 9 (c1 9 s) ln (c3 9 la) = Kv 9 (soL s.toList) ln la) := rfl
  rw [HC.out]
  clear HC
  generalize soL s.toList = q at *
  go_enter Tryz.func119, Tryz.ntmps119
  go_wp2_with (go_at_call 108; refine (HS.out _).mono ?_; rintro e w1 ⟨rfl, rfl⟩)
  refine bodyPost_ret (results_cell_row rfl _ _ (w.heap.size + 1) 137 #[.int .i64 9, .int .i64 q, .int .i64 ln, .int .i64 la] (0, 0) _ rfl (blk_past (blk_at _ _ _ (by simp))) Tryz.underlying137 rfl (by kernel_rfl)) rfl ?_
  exact ⟨rfl, (((Below.refl _ _).alloc (Nat.le_refl _) _).alloc (by simp) _).alloc (by simp; omega) _⟩
 ·by_cases k11 : k = 11
  ·subst k11
   have HC : Hid (Kv 11 (c1 11 s) ln (c3 11 la) = Kv 11 0 ln (min (la : Int) 2)) := rfl
   rw [HC.out]
   clear HC
   by_cases h2 : la ≤ 2
   ·have hm : min (la : Int) 2 = la := by omega
    rw [hm]
    go_enter Tryz.func119, Tryz.ntmps119
    go_wp2
    refine bodyPost_ret (results_cell_row rfl _ _ (w.heap.size + 1) 137 #[.int .i64 11, .int .i64 0, .int .i64 ln, .int .i64 la] (0, 0) _ rfl (blk_past (blk_at _ _ _ (by simp))) Tryz.underlying137 rfl (by kernel_rfl)) rfl ?_
    exact ⟨rfl, (((Below.refl _ _).alloc (Nat.le_refl _) _).alloc (by simp) _).alloc (by simp; omega) _⟩
   ·have hm : min (la : Int) 2 = 2 := by omega
    rw [hm]
    go_enter Tryz.func119, Tryz.ntmps119
    go_wp2
    refine bodyPost_ret (results_cell_row rfl _ _ (w.heap.size + 1) 137 #[.int .i64 11, .int .i64 0, .int .i64 ln, .int .i64 2] (0, 0) _ rfl (blk_past (blk_at _ _ _ (by simp))) Tryz.underlying137 rfl (by kernel_rfl)) rfl ?_
    exact ⟨rfl, (((Below.refl _ _).alloc (Nat.le_refl _) _).alloc (by simp) _).alloc (by simp; omega) _⟩
  ·have HC : Hid (Kv k (c1 k s) ln (c3 k la) = Kv k 0 ln la) := by show _ = _; simp [c1, c3, k9, k11]
   rw [HC.out]
   clear HC
   have e9 : (k == 9) = false := by simpa using k9
   have e11 : (k == 11) = false := by simpa using k11
   go_enter Tryz.func119, Tryz.ntmps119
   go_wp2
   refine bodyPost_ret (results_cell_row rfl _ _ (w.heap.size + 1) 137 #[.int .i64 k, .int .i64 0, .int .i64 ln, .int .i64 la] (0, 0) _ rfl (blk_past (blk_at _ _ _ (by simp))) Tryz.underlying137 rfl (by kernel_rfl)) rfl ?_
   exact ⟨rfl, (((Below.refl _ _).alloc (Nat.le_refl _) _).alloc (by simp) _).alloc (by simp; omega) _⟩
theorem wpList_look_m {w : World} {ops : Array Oper} {rest : List Oper} {o : Oper} {a : Act} {Q : Exit → Act → World → Prop}
  (hg : o.guard = none) (mo x : Operand) (hop : o.op = Op.lookup 122 mo x true) {m : Nat} {key v : Value}
  (hm : a.eval mo = .map (some m)) (hx : a.eval x = key) (hrun : (Instr.lookup 122 (.map (some m)) key true).run Tryz.prog w = .ok v w)
  (hK : wpList Tryz.prog ops Q rest (a.put o.dst v) w) :
  wpList Tryz.prog ops Q (o :: rest) a w := by
 refine wpList_plain hg fun K' hK' => ?_
 unfold Oper.wp
 simp [execOp, hop, hm, hx, hrun, Result.andThen]
 exact hK' _ _ hK
theorem F2_t {a b c d l h t : Int} (e : F2 9 a b c d = some (l, h, t)) : t = 0 ∨ t = 1 ∨ t = 2 ∨ t = 3 := by
 rw [F2_at] at e
 unfold baseF at e
 by_cases h0 : a = 8 ∧ b = 0 ∧ c = 0 ∧ 1 ≤ d ∧ d < 10
 ·rw [if_pos h0] at e
  injection e with e
  simp only [Prod.mk.injEq] at e
  omega
 rw [if_neg h0] at e
 by_cases h1 : a = 9 ∧ b = 3 ∧ c = 1 ∧ 0 ≤ d ∧ d < 9
 ·rw [if_pos h1] at e
  injection e with e
  simp only [Prod.mk.injEq] at e
  omega
 rw [if_neg h1] at e
 by_cases h2 : a = 7 ∧ b = 0 ∧ d = 1 ∧ 0 ≤ c ∧ c < 9
 ·rw [if_pos h2] at e
  injection e with e
  simp only [Prod.mk.injEq] at e
  omega
 rw [if_neg h2] at e
 by_cases h3 : a = 1 ∧ b = 0 ∧ c = 0 ∧ d = 0
 ·rw [if_pos h3] at e
  injection e with e
  simp only [Prod.mk.injEq] at e
  omega
 rw [if_neg h3] at e
 by_cases h4 : a = 2 ∧ b = 0 ∧ c = 0 ∧ d = 0
 ·rw [if_pos h4] at e
  injection e with e
  simp only [Prod.mk.injEq] at e
  omega
 rw [if_neg h4] at e
 by_cases h5 : a = 3 ∧ b = 0 ∧ c = 0 ∧ d = 0
 ·rw [if_pos h5] at e
  injection e with e
  simp only [Prod.mk.injEq] at e
  omega
 rw [if_neg h5] at e
 by_cases h6 : a = 4 ∧ b = 0 ∧ c = 0 ∧ d = 0
 ·rw [if_pos h6] at e
  injection e with e
  simp only [Prod.mk.injEq] at e
  omega
 rw [if_neg h6] at e
 by_cases h7 : a = 5 ∧ b = 0 ∧ c = 0 ∧ d = 0
 ·rw [if_pos h7] at e
  injection e with e
  simp only [Prod.mk.injEq] at e
  omega
 rw [if_neg h7] at e
 by_cases h8 : a = 6 ∧ b = 0 ∧ c = 0 ∧ d = 3
 ·rw [if_pos h8] at e
  injection e with e
  simp only [Prod.mk.injEq] at e
  omega
 rw [if_neg h8] at e
 by_cases h9 : a = 9 ∧ b = 1 ∧ c = 0 ∧ d = 1
 ·rw [if_pos h9] at e
  injection e with e
  simp only [Prod.mk.injEq] at e
  omega
 rw [if_neg h9] at e
 by_cases h10 : a = 9 ∧ b = 2 ∧ c = 0 ∧ d = 2
 ·rw [if_pos h10] at e
  injection e with e
  simp only [Prod.mk.injEq] at e
  omega
 rw [if_neg h10] at e
 by_cases h11 : a = 9 ∧ b = 4 ∧ c = 1 ∧ d = 1
 ·rw [if_pos h11] at e
  injection e with e
  simp only [Prod.mk.injEq] at e
  omega
 rw [if_neg h11] at e
 by_cases h12 : a = 9 ∧ b = 5 ∧ c = 1 ∧ d = 1
 ·rw [if_pos h12] at e
  injection e with e
  simp only [Prod.mk.injEq] at e
  omega
 rw [if_neg h12] at e
 by_cases h13 : a = 10 ∧ b = 0 ∧ c = 0 ∧ d = 1
 ·rw [if_pos h13] at e
  injection e with e
  simp only [Prod.mk.injEq] at e
  omega
 rw [if_neg h13] at e
 by_cases h14 : a = 11 ∧ b = 0 ∧ c = 0 ∧ d = 2
 ·rw [if_pos h14] at e
  injection e with e
  simp only [Prod.mk.injEq] at e
  omega
 rw [if_neg h14] at e
 cases e
theorem nod_some {k n : Int} {s : ByteArray} {ln la : Nat} {nm : Bool} {l h t : Int} (e : F2 9 k (c1 k s) ln (c3 k la) = some (l, h, t)) : nodB k n s ln la nm = (decide (l ≤ n) && decide (n ≤ h) && txB s t && nm) := by
 have e' : F2 9 k (if k = 9 then soL s.toList else 0) ln (if k = 11 then min (la : Int) 2 else la) = some (l, h, t) := e
 unfold nodB
 rw [e']
theorem nod_none {k n : Int} {s : ByteArray} {ln la : Nat} {nm : Bool} (e : F2 9 k (c1 k s) ln (c3 k la) = none) : nodB k n s ln la nm = false := by
 have e' : F2 9 k (if k = 9 then soL s.toList else 0) ln (if k = 11 then min (la : Int) 2 else la) = none := e
 unfold nodB
 rw [e']
theorem c1_in (k : Int) (s : ByteArray) : i64B (c1 k s) := by
 unfold c1 i64B
 split
 ·rcases so_ar s with ⟨e, _⟩ | ⟨e, _⟩ | ⟨e, _⟩ | ⟨e, _⟩ | ⟨e, _⟩ | ⟨e, _⟩ <;> rw [e] <;> omega
 ·omega
theorem c3_in (k : Int) (la : Nat) (h : la ≤ 1048576) : i64B (c3 k la) := by
 unfold c3 i64B
 split <;> omega
set_option maxRecDepth 100000 in
set_option maxHeartbeats 1000000 in
theorem nodeOk_any (k n : Int) (s : ByteArray) (an aa : Option Addr) (ts : List ByteArray) (la cn ca m : Nat) (w : World) (hk : i64B k) (hs : s.size ≤ 1048576) (hln : ts.length ≤ 1048576) (hla : la ≤ 1048576) (hcap : ts.length ≤ cn)
  (hr : RowS w w.heap.size an ts) (hsz : ∀ x ∈ ts, x.size ≤ 1048576) (hM : MapIs w m 39 (F2 9)) :
  Calls Tryz.prog 110 #[.agg #[.int .i64 k, .int .i64 n, .string s, .slice an ts.length cn, .slice aa la ca], .map (some m)] w fun e w' => Ans w (.bool (nodB k n s ts.length la (nmA ts))) e w' := by
 have HC : Hid (∀ w, Calls Tryz.prog 119 #[.agg #[.int .i64 k, .int .i64 n, .string s, .slice an ts.length cn, .slice aa la ca]] w fun e w' => Ans w (Kv k (c1 k s) ts.length (c3 k la)) e w') := fun w => countsOf_any k n s an aa ts.length la cn ca w hla
 have HN : Hid (∀ w2, Below w.heap.size w w2 → Calls Tryz.prog 89 #[.slice an ts.length cn] w2 fun e w' => Ans w2 (.bool (nmA ts)) e w') := fun w2 h2 => namesOk_any an ts cn w2 hln hcap ((hr.below h2).mono h2.size) hsz
 have hml := hM.lt
 have HM : Hid (∀ w2, Below w.heap.size w w2 → MapIs w2 m 39 (F2 9)) := fun w2 h2 => hM.keep h2 hml
 have h1 := c1_in k s
 have h3 := c3_in k la hla
 have h2 : i64B (ts.length : Int) := by unfold i64B; omega
 clear hM hr hsz
 cases hF : F2 9 k (c1 k s) ts.length (c3 k la) with
 | none =>
  have HQ : Hid (nodB k n s ts.length la (nmA ts) = false) := nod_none hF
  have HL : Hid (∀ w2, Below w.heap.size w w2 → (Instr.lookup 122 (.map (some m)) (Kv k (c1 k s) ts.length (c3 k la)) true).run Tryz.prog w2 = .ok (.tuple #[.agg #[.int .i64 0, .int .i64 0, .int .i64 0], .bool false]) w2) := fun w2 hb => (HM.out w2 hb).look_none hk h1 h2 h3 hF
  clear hF h1 h2 h3 HM
  go_enter Tryz.func110, Tryz.ntmps110
  go_wp2_with fail
  refine (HC.out _).mono ?_
  rintro e w1 ⟨rfl, hb1⟩
  have hb2 : Below w.heap.size w w1 := ((Below.refl w.heap.size w).alloc (Nat.le_refl _) _).trans (hb1.mono (by simp))
  go_wp2_with (at_lookup; refine wpList_look_m rfl _ _ rfl rfl rfl (HL.out _ hb2) ?_)
  go_ret
  exact ⟨by rw [HQ.out]; rfl, hb2.alloc hb2.size _⟩
 | some v =>
  obtain ⟨l, h, t⟩ := v
  have ht := F2_t hF
  have HQ : Hid (nodB k n s ts.length la (nmA ts) = (decide (l ≤ n) && decide (n ≤ h) && txB s t && nmA ts)) := nod_some hF
  have HL : Hid (∀ w2, Below w.heap.size w w2 → (Instr.lookup 122 (.map (some m)) (Kv k (c1 k s) ts.length (c3 k la)) true).run Tryz.prog w2 = .ok (.tuple #[.agg #[.int .i64 l, .int .i64 h, .int .i64 t], .bool true]) w2) := fun w2 hb => (HM.out w2 hb).look_some hk h1 h2 h3 hF
  have HT : Hid (∀ w, Calls Tryz.prog 120 #[.string s, .int .i64 t] w fun e w' => Ans w (.bool (txB s t)) e w') := fun w => textOk_any s t w hs ht
  clear hF h1 h2 h3 HM ht
  generalize nodB k n s ts.length la (nmA ts) = nb at *
  generalize txB s t = tx at *
  generalize nmA ts = nm at *
  go_enter Tryz.func110, Tryz.ntmps110
  go_wp2_with fail
  refine (HC.out _).mono ?_
  rintro e w1 ⟨rfl, hb1⟩
  have hb2 : Below w.heap.size w w1 := ((Below.refl w.heap.size w).alloc (Nat.le_refl _) _).trans (hb1.mono (by simp))
  have k0 := blk_keep (blk_alloc w (Obj.cells #[.int .i64 k, .int .i64 n, .string s, .slice an ts.length cn, .slice aa la ca] 96)) hb1 (by simp)
  have k1 := blk_past (o := Obj.cells #[.int .i64 l, .int .i64 h, .int .i64 t] 139) k0
  have e1 := cell_blk (j := 1) k1 rfl
  have e2 := cell_blk (j := 2) k1 rfl
  have e3 := cell_blk (j := 3) k1 rfl
  have s1 := hb1.size
  simp at s1
  clear k0 k1
  have hbB : Below w.heap.size w (w1.alloc (Obj.cells #[.int .i64 l, .int .i64 h, .int .i64 t] 139)) := hb2.alloc hb2.size _
  by_cases hl : l ≤ n
  ·have el : decide (l ≤ n) = true := by simp [hl]
   by_cases hh : n ≤ h
   ·have eh : decide (n ≤ h) = true := by simp [hh]
    rw [el, eh] at HQ
    cases tx
    ·have HV : Hid (nb = false) := by show _ = _; rw [HQ.out]; rfl
     clear HQ
     go_wp2_with (first | (at_lookup; refine wpList_look_m rfl _ _ rfl rfl rfl (HL.out _ hb2) ?_) | (go_at_call 120; refine (HT.out _).mono ?_; rintro e w3 ⟨rfl, hb3⟩; have e4 := cell_keepN e3 hb3 (by simp; omega); have hb4 : Below w.heap.size w w3 := hbB.trans (hb3.mono hbB.size)))
     go_ret
     exact ⟨by rw [HV.out]; rfl, hb4⟩
    ·have HV : Hid (nb = nm) := by show _ = _; rw [HQ.out]; simp
     clear HQ
     go_wp2_with (first | (at_lookup; refine wpList_look_m rfl _ _ rfl rfl rfl (HL.out _ hb2) ?_) | (go_at_call 120; refine (HT.out _).mono ?_; rintro e w3 ⟨rfl, hb3⟩; have e4 := cell_keepN e3 hb3 (by simp; omega); have hb4 : Below w.heap.size w w3 := hbB.trans (hb3.mono hbB.size)) | (go_at_call 89; refine (HN.out _ hb4).mono ?_; rintro e w4 ⟨rfl, hb5⟩))
     go_ret
     exact ⟨by rw [HV.out]; rfl, (hb4.trans (hb5.mono hb4.size))⟩
   ·have eh : decide (n ≤ h) = false := by simp [hh]
    have HV : Hid (nb = false) := by show _ = _; rw [HQ.out, eh]; simp
    clear HQ
    go_wp2_with (first | (at_lookup; refine wpList_look_m rfl _ _ rfl rfl rfl (HL.out _ hb2) ?_))
    go_ret
    exact ⟨by rw [HV.out]; rfl, hbB⟩
  ·have el : decide (l ≤ n) = false := by simp [hl]
   have HV : Hid (nb = false) := by show _ = _; rw [HQ.out, el]; simp
   clear HQ
   go_wp2_with (first | (at_lookup; refine wpList_look_m rfl _ _ rfl rfl rfl (HL.out _ hb2) ?_))
   go_ret
   exact ⟨by rw [HV.out]; rfl, hbB⟩
end Go.Proofs.YtamjofdgikifnaaGreat
