/- The program's copies: of texts, of values, of rows of them. The program's copies: of values in a row, of a heap. The program's copy of a heap. -/
import Derived.Shelf.LaysM
import Derived.Shelf.Strconv.Clone
import Derived.Lib.SliceRun
import Derived.Test.YtngelfohpkpekaaCpa
set_option linter.unusedVariables false
namespace Go.Proofs
def Try.laysM316_ren : Go.Shelf.Ren := ⟨fun | 316 => 50 | n => n, fun | 9 => 9 | 3 => 3 | 4 => 4 | 37 => 22 | 0 => 0 | 127 => 83 | 5 => 5 | n => n, fun | n => n⟩
theorem Try.laysM316 : Go.Proofs.LaysM.n316 Try.prog Try.laysM316_ren := {
  mixed := by kernel_rfl
  f316 := Try.func50.trans (congrArg some (by kernel_rfl))
  t0 := Try.underlying0
  a0 := Try.isAgg0
  z0 := Try.sizeOf0
  v0 := Try.zeroValue0
  t3 := Try.underlying3
  a3 := Try.isAgg3
  z3 := Try.sizeOf3
  v3 := Try.zeroValue3
  t4 := Try.underlying4
  a4 := Try.isAgg4
  z4 := Try.sizeOf4
  v4 := Try.zeroValue4
  t9 := Try.underlying9
  a9 := Try.isAgg9
  z9 := Try.sizeOf9
  v9 := Try.zeroValue9
  t37 := Try.underlying22
  a37 := Try.isAgg22
  z37 := Try.sizeOf22
  v37 := Try.zeroValue22
  t127 := Try.underlying83
  a127 := Try.isAgg83
  z127 := Try.sizeOf83
  v127 := Try.zeroValue83
  t5 := Try.underlying5
  a5 := Try.isAgg5
  z5 := Try.sizeOf5
  v5 := Try.zeroValue5
  i0 := by kernel_rfl
  i3 := by kernel_rfl
  i4 := by kernel_rfl
  i5 := by kernel_rfl
  i9 := by kernel_rfl
  i37 := by kernel_rfl
  i127 := by kernel_rfl }
open Go.RowKit in
theorem Try.stringslite_Clone (s : ByteArray) (w : World) (hlim : s.size ≤ 281474976710656) :
    Calls Try.prog 50 #[.string s] w fun e w' => e = .returned (.string s) ∧ Below w.heap.size w w' := Any.stringslite_Clone Try.laysM316 s w hlim
end Go.Proofs
namespace Go.Proofs.Ytngelfohpkpekaa
open Go.ChangeShapes Go.WideShapes Go.ChangeAt Go.RowKit
theorem clone_any (s : ByteArray) (w : World) (hs : s.size ≤ 1048576) : Calls Try.prog 35 #[.string s] w fun e w' => Ans w (.string s) e w' := by
  have HC : Hid (Calls Try.prog 50 #[.string s] w fun e w' => e = .returned (.string s) ∧ Below w.heap.size w w') := Try.stringslite_Clone s w (by omega)
  go_enter Try.func35, Try.ntmps35
  go_wp2_with (go_at_call 50; refine HC.out.mono ?_; rintro e w2 ⟨rfl, hb⟩)
  go_ret
  exact ⟨rfl, hb⟩
theorem set_same {α : Type} {l : List α} {i : Nat} {x : α} (h : l[i]? = some x) : l.set i x = l := by
  apply List.ext_getElem?
  intro j
  rw [List.getElem?_set]
  by_cases hji : i = j
  · subst hji
    rw [if_pos rfl, if_pos (List.getElem?_eq_some_iff.1 h).1, h]
  · rw [if_neg hji]
set_option maxRecDepth 100000 in
set_option maxHeartbeats 1000000 in
theorem cloneS_any (a : Option Addr) (l : List ByteArray) (cap : Nat) (w : World) (hn : l.length ≤ 1048576) (hr : RowS w w.heap.size a l) :
    Calls Try.prog 51 #[.slice a l.length cap] w fun e w' => ∃ v, e = .returned v ∧ OwnS w' w.heap.size v l ∧ Below w.heap.size w w' := by
  obtain ⟨i9, hi9, hz90, hz91, hz92⟩ := info_parts info9
  have q : ∀ (w : World) (a : Option Addr) (n c n' c' : Nat), (binOp .eql 40 (.slice a n c) (.slice none n' c')).run Try.prog w = .ok (.bool a.isNone) w := fun w a n c n' c' => Lib.run_eql_slice_nil w _ _ a n c n' c' Try.underlying40
  cases a with
  | none =>
    obtain rfl : l = [] := by
      match l, hr with
      | [], _ => rfl
      | x :: r, hr => obtain ⟨b, o, e, _⟩ := hr 0 x rfl; cases e
    clear hr
    go_enter Try.func51, Try.ntmps51
    go_wp2
    go_ret
    exact ⟨_, rfl, ⟨rfl, .inl ⟨rfl, rfl⟩⟩, Below.refl _ _⟩
  | some ad =>
    have hb1 : Below w.heap.size w (w.alloc (Obj.cells #[] 9)) := (Below.refl _ _).alloc (Nat.le_refl _) _
    have hn1 := news_S (w := w.alloc (Obj.cells #[] 9)) (p := fun b => b < w.heap.size) (RowSP.keep (w := w) (p := fun b => b < w.heap.size) hr fun b hb' => ⟨hb', hb1.block b (by omega)⟩)
    have ho1 : (w.alloc (Obj.cells #[] 9)).ownsRow w.heap.size 9 1 (.slice (some ⟨w.heap.size, 0, none⟩) 0 0) 0 [] := own_empty (blk_at _ _ _ rfl) (Nat.le_refl _)
    clear hr
    go_enter Try.func51, Try.ntmps51
    go_wp2_with (at_builtin; go_loud (refine wpList_append_row rfl _ _ 40 rfl w.heap.size 9 i9 _ 1 16 Try.underlying40 hi9 hz90 hz91 hz92 rfl (by omega) (.slice (some ⟨w.heap.size, 0, none⟩) 0 0) 0 [] rfl ho1 (some ad) l.length cap (l.map Value.string) rfl (by simp) hn1 (by intro u hu; obtain ⟨z, _, rfl⟩ := List.mem_map.1 hu; rfl) (by unfold maxLen; omega) (by omega) (by simp) ?_; intro nv w2 hown2 hgr2 hat2))
    rw [Nat.zero_add, List.nil_append] at hown2
    go_ret
    exact ⟨nv, rfl, hown2, hb1.grown hgr2 (by simp) (by intro k hk; simp [Value.ownBlock] at hk; omega)⟩
set_option maxRecDepth 100000 in
set_option maxHeartbeats 1000000 in
theorem cloneV_any (a : Option Addr) (l : List Val) (cap : Nat) (w : World) (hn : l.length ≤ 1048576) (hr : RowV w w.heap.size a l) :
    Calls Try.prog 52 #[.slice a l.length cap] w fun e w' => ∃ v, e = .returned v ∧ OwnV w' w.heap.size v l ∧ Below w.heap.size w w' := by
  obtain ⟨i28, hi28, hz280, hz281, hz282⟩ := info_parts info28
  have q : ∀ (w : World) (a : Option Addr) (n c n' c' : Nat), (binOp .eql 25 (.slice a n c) (.slice none n' c')).run Try.prog w = .ok (.bool a.isNone) w := fun w a n c n' c' => Lib.run_eql_slice_nil w _ _ a n c n' c' Try.underlying25
  cases a with
  | none =>
    obtain rfl : l = [] := by
      match l, hr with
      | [], _ => rfl
      | x :: r, hr => obtain ⟨b, o, e, _⟩ := hr 0 x rfl; cases e
    clear hr
    go_enter Try.func52, Try.ntmps52
    go_wp2
    go_ret
    exact ⟨_, rfl, OwnV.of ⟨rfl, .inl ⟨rfl, rfl⟩⟩, Below.refl _ _⟩
  | some ad =>
    have hb1 : Below w.heap.size w (w.alloc (Obj.cells #[] 29)) := (Below.refl _ _).alloc (Nat.le_refl _) _
    have hn1 := news_V (w := w.alloc (Obj.cells #[] 29)) (p := fun b => b < w.heap.size) (RowVP.keep (w := w) (p := fun b => b < w.heap.size) hr fun b hb' => ⟨hb', hb1.block b (by omega)⟩)
    have ho1 : (w.alloc (Obj.cells #[] 29)).ownsRow w.heap.size 29 3 (.slice (some ⟨w.heap.size, 0, none⟩) 0 0) 0 [] := own_empty (blk_at _ _ _ rfl) (Nat.le_refl _)
    clear hr
    go_enter Try.func52, Try.ntmps52
    go_wp2_with (at_builtin; go_loud (refine wpList_append_row rfl _ _ 25 rfl w.heap.size 29 i28 _ 3 32 Try.underlying25 hi28 hz280 hz281 hz282 rfl (by omega) (.slice (some ⟨w.heap.size, 0, none⟩) 0 0) 0 [] rfl ho1 (some ad) l.length cap (vcells l) rfl (vcells_len _) hn1 (vcells_one _) (by unfold maxLen; omega) (by omega) (by simp) ?_; intro nv w2 hown2 hgr2 hat2))
    rw [Nat.zero_add, List.nil_append] at hown2
    go_ret
    exact ⟨nv, rfl, OwnV.of hown2, hb1.grown hgr2 (by simp) (by intro k hk; simp [Value.ownBlock] at hk; omega)⟩
set_option maxRecDepth 100000 in
set_option maxHeartbeats 1000000 in
theorem copyTexts_any (a : Option Addr) (l : List ByteArray) (cap : Nat) (w : World) (hn : l.length ≤ 1048576) (hsm : ∀ x ∈ l, x.size ≤ 1048576) (hr : RowS w w.heap.size a l) :
    Calls Try.prog 36 #[.slice a l.length cap] w fun e w' => ∃ v, e = .returned v ∧ OwnS w' w.heap.size v l ∧ Below w.heap.size w w' := by
  have HCL : Hid (Calls Try.prog 51 #[.slice a l.length cap] w fun e w' => ∃ v, e = .returned v ∧ OwnS w' w.heap.size v l ∧ Below w.heap.size w w') := cloneS_any a l cap w hn hr
  have HSM : Hid (∀ x ∈ l, x.size ≤ 1048576) := hsm
  clear hr hsm
  go_enter Try.func36, Try.ntmps36
  go_wp2_with fail
  refine HCL.out.mono ?_
  rintro e w1 ⟨v, rfl, ho1, hb1⟩
  obtain ⟨av, cv, rfl, hcv⟩ := ho1.slice
  have HO1 : Hid (OwnS w1 w.heap.size (.slice av l.length cv) l) := ho1
  have HB1 : Hid (Below w.heap.size w w1) := hb1
  clear ho1 hb1 HCL
  go_wp2
  go_loopw [10] (fun o wr => ∃ (i : Nat), i ≤ l.length ∧ o = .int .i64 i ∧ OwnS wr w.heap.size (.slice av l.length cv) l ∧ Below w.heap.size w wr)
    (fun o _ => l.length - (intOf o).toNat)
  case atStart => exact ⟨0, Nat.zero_le _, rfl, HO1.out, HB1.out⟩
  case round =>
    clear HO1 HB1
    obtain ⟨i, hi, rfl, ho, hb⟩ := hrel
    have HO : Hid (OwnS wr w.heap.size (.slice av l.length cv) l) := ho
    have HB : Hid (Below w.heap.size w wr) := hb
    by_cases hlt : i < l.length
    · obtain ⟨x, hx⟩ : ∃ x, l[i]? = some x := ⟨_, List.getElem?_eq_getElem hlt⟩
      obtain ⟨g, cur, rfl, hblk, hcs⟩ := own_some ho (by omega)
      obtain ⟨b, o, e1, _, hc⟩ := ho.row i x hx
      simp only [Option.some.injEq, Addr.mk.injEq, and_true] at e1
      obtain ⟨rfl, rfl⟩ := e1
      rw [Nat.zero_add] at hc
      have HX : Hid (l[i]? = some x) := hx
      have hgl : g < wr.heap.size := (Array.getElem?_eq_some_iff.1 hblk).1
      have KX : Hid (wr.heap[g]? = some (.cells cur 9 (0, 0))) := hblk
      have HC : Hid (∀ w, Calls Try.prog 35 #[.string x] w fun e w' => Ans w (.string x) e w') := fun w => clone_any x w (HSM.out x (List.mem_of_getElem? hx))
      clear ho hb hx hblk
      go_wp2_with fail
      refine (HC.out _).mono ?_
      rintro e w2 ⟨rfl, hb2⟩
      have k2 := (hb2.block g hgl).trans KX.out
      obtain ⟨y0, e0⟩ := cell_blk' k2 i (by omega)
      have f0 := frozen_blk k2 i
      have HB2 : Hid (Below wr.heap.size wr w2) := hb2
      have hgw : w.heap.size ≤ g := (HO.out.blk rfl).1
      have hsz := HB.out.size
      clear k2 hb2 HC hc
      go_wp2
      go_roundw
      case rel =>
        refine ⟨i + 1, by omega, by go_num, ?_, ((HB.out.trans (HB2.out.mono hsz)).setCell (p := ⟨_, _, none⟩) hgw _)⟩
        have q := (HO.out.keep (w' := w2) fun b hb => HB2.out.block b (HO.out.blk hb).2.1).put x rfl (i := i) hlt
        rw [set_same HX.out] at q
        exact q
      case measure => simp [intOf]; omega
    · have hlt' : decide ((i : Int) < (l.length : Int)) = false := by simp; omega
      clear ho hb
      go_wp2
      go_ret
      exact ⟨_, rfl, HO.out, HB.out⟩
set_option maxRecDepth 100000 in
set_option maxHeartbeats 1000000 in
theorem copyValue_any (d : Val) (w : World) (hs : d.s.size ≤ 1048576) : Calls Try.prog 53 #[.agg #[.int .i64 d.k, .int .i64 d.n, .string d.s]] w fun e w' => Ans w (.agg #[.int .i64 d.k, .int .i64 d.n, .string d.s]) e w' := by
  have HC : Hid (∀ w, Calls Try.prog 35 #[.string d.s] w fun e w' => Ans w (.string d.s) e w') := fun w => clone_any d.s w hs
  have hb0 : Below w.heap.size w ((w.alloc (Obj.cells #[.int .i64 d.k, .int .i64 d.n, .string d.s] 29)).alloc (Obj.cells #[.int .i64 0, .int .i64 0, .string ⟨#[]⟩] 29)) := ((Below.refl _ _).alloc (Nat.le_refl _) _).alloc (by simp) _
  have k0 : ((w.alloc (Obj.cells #[.int .i64 d.k, .int .i64 d.n, .string d.s] 29)).alloc (Obj.cells #[.int .i64 0, .int .i64 0, .string ⟨#[]⟩] 29)).heap[w.heap.size]? = some (Obj.cells #[.int .i64 d.k, .int .i64 d.n, .string d.s] 29) := blk_past (blk_at _ _ _ rfl)
  have k1 : ((w.alloc (Obj.cells #[.int .i64 d.k, .int .i64 d.n, .string d.s] 29)).alloc (Obj.cells #[.int .i64 0, .int .i64 0, .string ⟨#[]⟩] 29)).heap[w.heap.size + 1]? = some (Obj.cells #[.int .i64 0, .int .i64 0, .string ⟨#[]⟩] 29) := blk_at _ _ _ (by simp)
  have hs0 : ((w.alloc (Obj.cells #[.int .i64 d.k, .int .i64 d.n, .string d.s] 29)).alloc (Obj.cells #[.int .i64 0, .int .i64 0, .string ⟨#[]⟩] 29)).heap.size = w.heap.size + 2 := by simp
  go_enter Try.func53, Try.ntmps53
  go_wp2_with fail
  refine (HC.out _).mono ?_
  rintro e w1 ⟨rfl, hb1⟩
  have k2 := blk_keep k0 hb1 (by omega)
  have k3 := blk_keep k1 hb1 (by omega)
  have c0 := cell_blk (j := 0) k2 rfl
  have c1 := cell_blk (j := 1) k2 rfl
  have c2 := cell_blk (j := 2) k2 rfl
  have f2 := frozen_blk k2 2
  have d0 := cell_blk (j := 0) k3 rfl
  have d1 := cell_blk (j := 1) k3 rfl
  have d2 := cell_blk (j := 2) k3 rfl
  have g0 := frozen_blk k3 0
  have g1 := frozen_blk k3 1
  have g2 := frozen_blk k3 2
  have HB : Hid (Below w.heap.size w w1) := hb0.trans (hb1.mono hb0.size)
  have K3 : Hid (w1.heap[w.heap.size + 1]? = some (Obj.cells #[.int .i64 0, .int .i64 0, .string ⟨#[]⟩] 29)) := k3
  clear hb0 hb1 k0 k1 k2 k3 hs0 HC
  go_wp2
  have K4 : (w1.setCell ⟨w.heap.size, 2, none⟩ (.string d.s)).heap[w.heap.size + 1]? = some (Obj.cells #[.int .i64 0, .int .i64 0, .string ⟨#[]⟩] 29) := (heap_setCell_other _ _ _ _ (by show w.heap.size + 1 ≠ w.heap.size; omega)).trans K3.out
  refine bodyPost_ret (results_cell_row rfl _ _ (w.heap.size + 1) 29 #[.int .i64 d.k, .int .i64 d.n, .string d.s] (0, 0) _ rfl (heap_setCell_same _ _ _ _ _ _ (heap_setCell_same _ _ _ _ _ _ (heap_setCell_same _ _ _ _ _ _ K4))) Try.underlying29 rfl (by kernel_rfl)) rfl ?_
  exact ⟨rfl, (((HB.out.setCell (p := ⟨_, _, none⟩) (Nat.le_refl _) _).setCell (p := ⟨_, _, none⟩) (by simp) _).setCell (p := ⟨_, _, none⟩) (by simp) _).setCell (p := ⟨_, _, none⟩) (by simp) _⟩
end Go.Proofs.Ytngelfohpkpekaa
set_option linter.unusedVariables false
namespace Go.Proofs.Ytngelfohpkpekaa
open Go.ChangeShapes Go.WideShapes Go.ChangeAt Go.RowKit
set_option maxRecDepth 100000 in
set_option maxHeartbeats 1000000 in
theorem copyValues_any (a : Option Addr) (l : List Val) (cap : Nat) (w : World) (hn : l.length ≤ 1048576) (hsm : ∀ x ∈ l, x.s.size ≤ 1048576) (hr : RowV w w.heap.size a l) :
    Calls Try.prog 37 #[.slice a l.length cap] w fun e w' => ∃ v, e = .returned v ∧ OwnV w' w.heap.size v l ∧ Below w.heap.size w w' := by
  have HCL : Hid (Calls Try.prog 52 #[.slice a l.length cap] w fun e w' => ∃ v, e = .returned v ∧ OwnV w' w.heap.size v l ∧ Below w.heap.size w w') := cloneV_any a l cap w hn hr
  have HSM : Hid (∀ x ∈ l, x.s.size ≤ 1048576) := hsm
  clear hr hsm
  go_enter Try.func37, Try.ntmps37
  go_wp2_with fail
  refine HCL.out.mono ?_
  rintro e w1 ⟨v, rfl, ho1, hb1⟩
  obtain ⟨av, cv, rfl, hcv⟩ := ho1.slice
  have HO1 : Hid (OwnV w1 w.heap.size (.slice av l.length cv) l) := ho1
  have HB1 : Hid (Below w.heap.size w w1) := hb1
  clear ho1 hb1 HCL
  go_wp2
  go_loopw [10] (fun o wr => ∃ (i : Nat), i ≤ l.length ∧ o = .int .i64 i ∧ OwnV wr w.heap.size (.slice av l.length cv) l ∧ Below w.heap.size w wr)
    (fun o _ => l.length - (intOf o).toNat)
  case atStart => exact ⟨0, Nat.zero_le _, rfl, HO1.out, HB1.out⟩
  case round =>
    clear HO1 HB1
    obtain ⟨i, hi, rfl, ho, hb⟩ := hrel
    have HO : Hid (OwnV wr w.heap.size (.slice av l.length cv) l) := ho
    have HB : Hid (Below w.heap.size w wr) := hb
    by_cases hlt : i < l.length
    · obtain ⟨x, hx⟩ : ∃ x, l[i]? = some x := ⟨_, List.getElem?_eq_getElem hlt⟩
      obtain ⟨g, cur, rfl, hblk, hcs⟩ : ∃ g cur, av = some ⟨g, 0, none⟩ ∧ wr.heap[g]? = some (.cells cur 29 (0, 0)) ∧ l.length * 3 ≤ cur.size := by
        obtain ⟨xs, h1, _⟩ := ho
        exact own_some h1 (by omega)
      obtain ⟨b, o, e1, _, c0, c1, c2⟩ := ho.row i x hx
      simp only [Option.some.injEq, Addr.mk.injEq, and_true] at e1
      obtain ⟨rfl, rfl⟩ := e1
      rw [Nat.zero_add] at c0 c1 c2
      have HX : Hid (l[i]? = some x) := hx
      have hgl : g < wr.heap.size := (Array.getElem?_eq_some_iff.1 hblk).1
      have KX : Hid (wr.heap[g]? = some (.cells cur 29 (0, 0))) := hblk
      have HC : Hid (∀ w, Calls Try.prog 53 #[.agg #[.int .i64 x.k, .int .i64 x.n, .string x.s]] w fun e w' => Ans w (.agg #[.int .i64 x.k, .int .i64 x.n, .string x.s]) e w') := fun w => copyValue_any x w (HSM.out x (List.mem_of_getElem? hx))
      have hbA : Below wr.heap.size wr (wr.alloc (Obj.cells #[.int .i64 x.k, .int .i64 x.n, .string x.s] 29)) := (Below.refl _ _).alloc (Nat.le_refl _) _
      clear ho hb hx hblk
      go_wp2_with fail
      refine (HC.out _).mono ?_
      rintro e w2 ⟨rfl, hb2⟩
      have hb3 := hbA.trans (hb2.mono hbA.size)
      have k2 := (hb3.block g hgl).trans KX.out
      obtain ⟨y0, e0⟩ := cell_blk' k2 (i * 3) (by omega)
      obtain ⟨y1, e1⟩ := cell_blk' k2 (i * 3 + 1) (by omega)
      obtain ⟨y2, e2⟩ := cell_blk' k2 (i * 3 + 2) (by omega)
      have f0 := frozen_blk k2 (i * 3)
      have f1 := frozen_blk k2 (i * 3 + 1)
      have f2 := frozen_blk k2 (i * 3 + 2)
      have HB2 : Hid (Below wr.heap.size wr w2) := hb3
      have hgw : w.heap.size ≤ g := (HO.out.blk rfl).1
      have hsz := HB.out.size
      clear k2 hb2 hb3 hbA HC c0 c1 c2
      go_wp2
      go_roundw
      case rel =>
        refine ⟨i + 1, by omega, by go_num, ?_, (((HB.out.trans (HB2.out.mono hsz)).setCell (p := ⟨_, _, none⟩) hgw _).setCell (p := ⟨_, _, none⟩) hgw _).setCell (p := ⟨_, _, none⟩) hgw _⟩
        obtain ⟨xs, h1, h2⟩ := HO.out.keep (w' := w2) fun b hb => HB2.out.block b (HO.out.blk hb).2.1
        have hxl : xs.length = l.length * 3 := h1.1
        have q := own_set (.string x.s) (own_set (.int .i64 x.n) (own_set (.int .i64 x.k) h1 (o := i * 3) (by omega)) (o := i * 3 + 1) (by omega)) (o := i * 3 + 2) (by omega)
        have q2 := vals_set x hxl hlt h2
        rw [set_same HX.out] at q2
        exact ⟨_, q, q2⟩
      case measure => simp [intOf]; omega
    · have hlt' : decide ((i : Int) < (l.length : Int)) = false := by simp; omega
      clear ho hb
      go_wp2
      go_ret
      exact ⟨_, rfl, HO.out, HB.out⟩
/-- The six cells of each cell of a heap, as they lie. -/
def HCells (w : World) (p : Nat → Prop) (xs : List Value) (h : List Cel) : Prop := ∀ j c, h[j]? = some c → ∃ an cn av cv, xs[j * 6]? = some (.int .i64 c.k) ∧ xs[j * 6 + 1]? = some (.string c.s) ∧ xs[j * 6 + 2]? = some (.int .i64 c.a) ∧ xs[j * 6 + 3]? = some (.int .i64 c.b) ∧ xs[j * 6 + 4]? = some (.slice an c.names.length cn) ∧ xs[j * 6 + 5]? = some (.slice av c.vals.length cv) ∧ CelRows w p an cn av cv c
theorem hcells {w : World} {B : Nat} {a : Option Addr} : ∀ (h : List Cel), RowC w B a h → ∃ xs : List Value, xs.length = h.length * 6 ∧ (∀ u ∈ xs, u.oneCell' = true) ∧ HCells w (fun b => b < B) xs h ∧ (0 < h.length → ∃ b o, a = some ⟨b, o, none⟩ ∧ b < B ∧ ∀ j u, xs[j]? = some u → w.cell? ⟨b, o + j, none⟩ = some u) := by
  intro h hr
  suffices H : ∀ n, n ≤ h.length → ∃ xs : List Value, xs.length = n * 6 ∧ (∀ u ∈ xs, u.oneCell' = true) ∧ HCells w (fun b => b < B) xs (h.take n) ∧ (0 < n → ∃ b o, a = some ⟨b, o, none⟩ ∧ b < B ∧ ∀ j u, xs[j]? = some u → w.cell? ⟨b, o + j, none⟩ = some u) by
    obtain ⟨xs, h1, h2, h3, h4⟩ := H h.length (Nat.le_refl _)
    rw [List.take_length] at h3
    exact ⟨xs, h1, h2, h3, h4⟩
  intro n
  induction n with
  | zero => intro _; exact ⟨[], rfl, fun u hu => (by cases hu), fun j c hj => (by simp at hj), fun h => absurd h (by omega)⟩
  | succ n ih =>
    intro hn
    obtain ⟨xs, h1, h2, h3, h4⟩ := ih (by omega)
    obtain ⟨c, hc⟩ : ∃ c, h[n]? = some c := ⟨_, List.getElem?_eq_getElem (by omega)⟩
    obtain ⟨b, o, rfl, hb, an, cn, av, cv, c0, c1, c2, c3, c4, c5, hrows⟩ := hr n c hc
    have hxl : xs.length = n * 6 := h1
    refine ⟨xs ++ [.int .i64 c.k, .string c.s, .int .i64 c.a, .int .i64 c.b, .slice an c.names.length cn, .slice av c.vals.length cv], by simp; omega, ?_, ?_, ?_⟩
    · intro u hu
      rcases List.mem_append.1 hu with hu | hu
      · exact h2 u hu
      · simp at hu
        rcases hu with rfl | rfl | rfl | rfl | rfl | rfl <;> rfl
    · intro j d hj
      rw [List.take_add_one, hc] at hj
      by_cases hjn : j < n
      · rw [List.getElem?_append_left (by rw [List.length_take]; omega)] at hj
        obtain ⟨an', cn', av', cv', q0, q1, q2, q3, q4, q5, q6⟩ := h3 j d hj
        have f : ∀ {o : Nat} {v : Value}, xs[o]? = some v → (xs ++ [Value.int .i64 c.k, .string c.s, .int .i64 c.a, .int .i64 c.b, .slice an c.names.length cn, .slice av c.vals.length cv])[o]? = some v := by
          intro o v hv
          rw [List.getElem?_append_left (List.getElem?_eq_some_iff.1 hv).1]
          exact hv
        exact ⟨an', cn', av', cv', f q0, f q1, f q2, f q3, f q4, f q5, q6⟩
      · have hlt : (h.take n).length = n := by rw [List.length_take]; omega
        rw [List.getElem?_append_right (by omega), hlt] at hj
        have hj0 : j - n = 0 := by
          have := (List.getElem?_eq_some_iff.1 hj).1
          simp at this
          omega
        obtain rfl : j = n := by omega
        simp at hj
        subst hj
        have f : ∀ i, i < 6 → (xs ++ [Value.int .i64 c.k, .string c.s, .int .i64 c.a, .int .i64 c.b, .slice an c.names.length cn, .slice av c.vals.length cv])[j * 6 + i]? = [Value.int .i64 c.k, .string c.s, .int .i64 c.a, .int .i64 c.b, .slice an c.names.length cn, .slice av c.vals.length cv][i]? := fun i hi => by
          rw [List.getElem?_append_right (by omega)]
          congr 1
          omega
        exact ⟨an, cn, av, cv, f 0 (by omega), f 1 (by omega), f 2 (by omega), f 3 (by omega), f 4 (by omega), f 5 (by omega), hrows⟩
    · intro _
      refine ⟨b, o, rfl, hb, fun j u hu => ?_⟩
      by_cases hjn : j < n * 6
      · rw [List.getElem?_append_left (by omega)] at hu
        obtain ⟨b', o', e, _, hcell⟩ := h4 (by omega)
        simp only [Option.some.injEq, Addr.mk.injEq, and_true] at e
        obtain ⟨rfl, rfl⟩ := e
        exact hcell j u hu
      · rw [List.getElem?_append_right (by omega), hxl] at hu
        have hj6 : j - n * 6 < 6 := by
          have := (List.getElem?_eq_some_iff.1 hu).1
          simpa using this
        obtain ⟨i, rfl⟩ : ∃ i, j = n * 6 + i := ⟨j - n * 6, by omega⟩
        rw [Nat.add_sub_cancel_left] at hu hj6
        rw [← Nat.add_assoc]
        match i, hj6, hu with
        | 0, _, hu => obtain rfl := Option.some.inj hu; exact c0
        | 1, _, hu => obtain rfl := Option.some.inj hu; exact c1
        | 2, _, hu => obtain rfl := Option.some.inj hu; exact c2
        | 3, _, hu => obtain rfl := Option.some.inj hu; exact c3
        | 4, _, hu => obtain rfl := Option.some.inj hu; exact c4
        | 5, _, hu => obtain rfl := Option.some.inj hu; exact c5
set_option maxRecDepth 100000 in
set_option maxHeartbeats 1000000 in
/-- A heap copied by assignment: cells of one's own, their rows the old ones. -/
theorem cloneC_any (a : Option Addr) (h : List Cel) (cap : Nat) (w : World) (hn : h.length ≤ 1048576) (hr : RowC w w.heap.size a h) :
    Calls Try.prog 34 #[.slice a h.length cap] w fun e w' => ∃ v xs, e = .returned v ∧ w'.ownsRow w.heap.size 62 6 v h.length xs ∧ HCells w (fun b => b < w.heap.size) xs h ∧ Below w.heap.size w w' := by
  obtain ⟨i55, hi55, hz550, hz551, hz552⟩ := info_parts info55
  have q : ∀ (w : World) (a : Option Addr) (n c n' c' : Nat), (binOp .eql 24 (.slice a n c) (.slice none n' c')).run Try.prog w = .ok (.bool a.isNone) w := fun w a n c n' c' => Lib.run_eql_slice_nil w _ _ a n c n' c' Try.underlying24
  obtain ⟨xs, hx1, hx2, hx3, hx4⟩ := hcells h hr
  cases a with
  | none =>
    obtain rfl : h = [] := by
      match h, hr with
      | [], _ => rfl
      | x :: r, hr => obtain ⟨b, o, e, _⟩ := hr 0 x rfl; cases e
    clear hr hx1 hx2 hx4
    have HX : Hid (HCells w (fun b => b < w.heap.size) [] []) := fun j c hj => by simp at hj
    clear hx3
    go_enter Try.func34, Try.ntmps34
    go_wp2
    go_ret
    exact ⟨_, [], rfl, ⟨rfl, .inl ⟨rfl, rfl⟩⟩, HX.out, Below.refl _ _⟩
  | some ad =>
    have hb1 : Below w.heap.size w (w.alloc (Obj.cells #[] 62)) := (Below.refl _ _).alloc (Nat.le_refl _) _
    have hn1 : 0 < h.length → ∃ ad', some ad = some ad' ∧ ∀ j u, xs[j]? = some u → (w.alloc (Obj.cells #[] 62)).cell? (ad'.add j) = some u := by
      intro hl
      obtain ⟨b, o, e, hb, hc⟩ := hx4 hl
      refine ⟨_, e, fun j u hu => ?_⟩
      rw [add_lit]
      exact cell_keep (hc j u hu) hb1 hb
    have ho1 : (w.alloc (Obj.cells #[] 62)).ownsRow w.heap.size 62 6 (.slice (some ⟨w.heap.size, 0, none⟩) 0 0) 0 [] := own_empty (blk_at _ _ _ rfl) (Nat.le_refl _)
    have HX : Hid (HCells w (fun b => b < w.heap.size) xs h) := hx3
    clear hr hx3 hx4
    go_enter Try.func34, Try.ntmps34
    go_wp2_with (at_builtin; go_loud (refine wpList_append_row rfl _ _ 24 rfl w.heap.size 62 i55 _ 6 88 Try.underlying24 hi55 hz550 hz551 hz552 rfl (by omega) (.slice (some ⟨w.heap.size, 0, none⟩) 0 0) 0 [] rfl ho1 (some ad) h.length cap xs rfl hx1 hn1 hx2 (by unfold maxLen; omega) (by omega) (by simp) ?_; intro nv w2 hown2 hgr2 hat2))
    rw [Nat.zero_add, List.nil_append] at hown2
    go_ret
    exact ⟨nv, xs, rfl, hown2, HX.out, hb1.grown hgr2 (by simp) (by intro k hk; simp [Value.ownBlock] at hk; omega)⟩
end Go.Proofs.Ytngelfohpkpekaa
set_option linter.unusedVariables false
namespace Go.Proofs.Ytngelfohpkpekaa
open Go.ChangeShapes Go.WideShapes Go.ChangeAt Go.RowKit
/-- Where copyHeap stands: the first i cells have rows of their own, the others the old ones. -/
def CpSt (B g cap : Nat) (h : List Cel) (i : Nat) (w : World) : Prop :=
  ∃ (cur : Array Value) (β : Nat → Nat), w.heap[g]? = some (.cells cur 62 (0, 0)) ∧ cur.size = cap * 6 ∧ h.length ≤ cap ∧ cap ≤ maxLen ∧ B ≤ g ∧ B ≤ β 0 ∧ (∀ j, β j ≤ β (j + 1)) ∧ β i ≤ w.heap.size ∧
    (∀ j c, j < i → h[j]? = some c → COwn w (β j) (β (j + 1)) g (j * 6) c) ∧ ∀ j c, i ≤ j → h[j]? = some c → CelAt w (fun b => b < B) g (j * 6) c
theorem CpSt.start {w w' : World} {cap g : Nat} {h : List Cel} {xs : List Value} (ho : w'.ownsRow w.heap.size 62 6 (.slice (some ⟨g, 0, none⟩) h.length cap) h.length xs) (hx : HCells w (fun b => b < w.heap.size) xs h) (hb : Below w.heap.size w w') : CpSt w.heap.size g cap h 0 w' := by
  have hoc := ho
  obtain ⟨hl, ⟨hv, h0⟩ | ⟨g', cap', cur, hv, a1, hblk, a3, a4, a5, a6⟩⟩ := ho
  · cases hv
  simp only [Value.slice.injEq, Option.some.injEq, Addr.mk.injEq] at hv
  obtain ⟨⟨rfl, _⟩, _, rfl⟩ := hv
  refine ⟨cur, fun _ => w.heap.size, hblk, a5, a3, a4, a1, Nat.le_refl _, fun _ => Nat.le_refl _, hb.size, fun j c hj => absurd hj (by omega), fun j c _ hj => ?_⟩
  obtain ⟨an, cn, av, cv, c0, c1, c2, c3, c4, c5, hrows⟩ := hx j c hj
  have f : ∀ {o : Nat} {v : Value}, xs[o]? = some v → w'.cell? ⟨g, o, none⟩ = some v := by
    intro o v hv
    rw [own_cell hoc (by have := (List.getElem?_eq_some_iff.1 hv).1; omega)]
    exact hv
  exact ⟨an, cn, av, cv, f c0, f c1, f c2, f c3, f c4, f c5, hrows.keep fun b hb' => ⟨hb', hb.block b hb'⟩⟩
theorem CpSt.fin {w : World} {B g cap : Nat} {h : List Cel} (hs : CpSt B g cap h h.length w) : OwnH w B w.heap.size (.slice (some ⟨g, 0, none⟩) h.length cap) h := by
  obtain ⟨cur, β, k, k1, k2, k3, k4, k5, k6, k7, k8, k9⟩ := hs
  refine ⟨⟨cur.toList.take (h.length * 6), ?_, .inr ⟨g, cap, cur, rfl, k4, k, k2, k3, k1, rfl⟩⟩, fun b hb => ?_, β, k5, k6, k7, fun g' cap' hv j c hj => ?_⟩
  · rw [List.length_take]
    simp
    rw [k1, Nat.min_eq_left (Nat.mul_le_mul_right _ k2)]
  · obtain rfl : g = b := by injection hb
    exact (Array.getElem?_eq_some_iff.1 k).1
  · simp only [Value.slice.injEq, Option.some.injEq, Addr.mk.injEq] at hv
    obtain ⟨⟨rfl, _⟩, _⟩ := hv
    exact k8 j c (List.getElem?_eq_some_iff.1 hj).1 hj
theorem CpSt.step {w w' : World} {B g cap i : Nat} {h : List Cel} {c : Cel} {cur : Array Value} {nv vv : Value} (hs : CpSt B g cap h i w) (hi : h[i]? = some c) (hk : w.heap[g]? = some (.cells cur 62 (0, 0)))
    (hk' : w'.heap[g]? = some (.cells (((cur.setIfInBounds (i * 6 + 1) (.string c.s)).setIfInBounds (i * 6 + 4) nv).setIfInBounds (i * 6 + 5) vv) 62 (0, 0)))
    (hoth : ∀ b, b ≠ g → b < w.heap.size → w'.heap[b]? = w.heap[b]?) (hsz : w.heap.size ≤ w'.heap.size) (hBg : B ≤ w.heap.size) (hn : OwnS w' w.heap.size nv c.names) (hv : OwnV w' w.heap.size vv c.vals) : CpSt B g cap h (i + 1) w' := by
  obtain ⟨cur0, β, k, k1, k2, k3, k4, k5, k6, k7, k8, k9⟩ := hs
  rw [hk] at k
  simp at k
  subst k
  have hil := (List.getElem?_eq_some_iff.1 hi).1
  have hc6 : i * 6 + 6 ≤ cur.size := by rw [k1]; have := Nat.mul_le_mul_right 6 (Nat.le_trans (Nat.succ_le_of_lt hil) k2); omega
  have hout : ∀ o, (o < i * 6 ∨ i * 6 + 6 ≤ o) → w'.cell? ⟨g, o, none⟩ = w.cell? ⟨g, o, none⟩ := fun o ho => by
    rw [cell_of_row _ _ _ _ _ _ hk', cell_of_row _ _ _ _ _ _ hk]
    simp only [Array.getElem?_setIfInBounds]
    rw [if_neg (by omega), if_neg (by omega), if_neg (by omega)]
  refine ⟨_, fun j => if j ≤ i then β j else w'.heap.size, hk', by simpa using k1, k2, k3, k4, by simpa using k5, fun j => ?_, ?_, fun j d hj hd => ?_, fun j d hj hd => ?_⟩
  · show (if j ≤ i then β j else w'.heap.size) ≤ (if j + 1 ≤ i then β (j + 1) else w'.heap.size)
    by_cases h1 : j + 1 ≤ i
    · rw [if_pos (by omega), if_pos h1]; exact k6 j
    · rw [if_neg h1]
      by_cases h0 : j ≤ i
      · rw [if_pos h0]
        have q1 : β j ≤ β i := beta_mono k6 h0
        omega
      · rw [if_neg h0]; exact Nat.le_refl _
  · show (if i + 1 ≤ i then β (i + 1) else w'.heap.size) ≤ _
    rw [if_neg (by omega)]
    exact Nat.le_refl _
  · show COwn w' (if j ≤ i then β j else w'.heap.size) (if j + 1 ≤ i then β (j + 1) else w'.heap.size) g (j * 6) d
    by_cases hji : j = i
    · subst hji
      obtain rfl : c = d := Option.some.inj (hi.symm.trans hd)
      rw [if_pos (Nat.le_refl _), if_neg (by omega)]
      obtain ⟨an, cn, av, cv, c0, c1, c2, c3, c4, c5, _⟩ := k9 j c (Nat.le_refl _) hi
      rw [cell_of_row _ _ _ _ _ _ hk] at c0 c2 c3
      have g0 : w'.cell? ⟨g, j * 6, none⟩ = some (.int .i64 c.k) := by
        rw [cell_of_row _ _ _ _ _ _ hk']
        simp only [Array.getElem?_setIfInBounds]
        rw [if_neg (by omega), if_neg (by omega), if_neg (by omega)]
        exact c0
      have g1 : w'.cell? ⟨g, j * 6 + 1, none⟩ = some (.string c.s) := by
        rw [cell_of_row _ _ _ _ _ _ hk']
        simp only [Array.getElem?_setIfInBounds, Array.size_setIfInBounds]
        rw [if_neg (by omega), if_neg (by omega), if_pos trivial, if_pos (by omega)]
      have g2 : w'.cell? ⟨g, j * 6 + 2, none⟩ = some (.int .i64 c.a) := by
        rw [cell_of_row _ _ _ _ _ _ hk']
        simp only [Array.getElem?_setIfInBounds]
        rw [if_neg (by omega), if_neg (by omega), if_neg (by omega)]
        exact c2
      have g3 : w'.cell? ⟨g, j * 6 + 3, none⟩ = some (.int .i64 c.b) := by
        rw [cell_of_row _ _ _ _ _ _ hk']
        simp only [Array.getElem?_setIfInBounds]
        rw [if_neg (by omega), if_neg (by omega), if_neg (by omega)]
        exact c3
      have g4 : w'.cell? ⟨g, j * 6 + 4, none⟩ = some nv := by
        rw [cell_of_row _ _ _ _ _ _ hk']
        simp only [Array.getElem?_setIfInBounds, Array.size_setIfInBounds]
        rw [if_neg (by omega), if_pos trivial, if_pos (by omega)]
      have g5 : w'.cell? ⟨g, j * 6 + 5, none⟩ = some vv := by
        rw [cell_of_row _ _ _ _ _ _ hk']
        simp only [Array.getElem?_setIfInBounds, Array.size_setIfInBounds]
        rw [if_pos trivial, if_pos (by omega)]
      exact ⟨nv, vv, g0, g1, g2, g3, g4, g5, hn.weak k7, hv.weak k7, fun b hb => (hn.blk hb).2.1, fun b hb => (hv.blk hb).2.1⟩
    · rw [if_pos (by omega), if_pos (by omega)]
      have q1 : β (j + 1) ≤ β i := beta_mono k6 (by omega)
      refine (k8 j d (by omega) hd).keep (fun q hq => hout _ (by omega)) fun b m1 m2 m3 ⟨cur', m4⟩ => hoth b ?_ m3
      rintro rfl
      rw [hk] at m4
      simp at m4
  · obtain ⟨an, cn, av, cv, c0, c1, c2, c3, c4, c5, hrows⟩ := k9 j d (by omega) hd
    exact ⟨an, cn, av, cv, (hout _ (by omega)).trans c0, (hout _ (by omega)).trans c1, (hout _ (by omega)).trans c2, (hout _ (by omega)).trans c3, (hout _ (by omega)).trans c4, (hout _ (by omega)).trans c5, hrows.keep fun b hb => ⟨hb, hoth b (by have hb : b < B := hb; omega) (by have hb : b < B := hb; omega)⟩⟩
set_option maxRecDepth 100000 in
set_option maxHeartbeats 2000000 in
theorem copyHeap_any (a : Option Addr) (h : List Cel) (cap : Nat) (w : World) (hn : h.length ≤ 1048576) (hsm : ∀ d ∈ h, d.small) (hr : RowC w w.heap.size a h) :
    Calls Try.prog 22 #[.slice a h.length cap] w fun e w' => ∃ v, e = .returned v ∧ OwnH w' w.heap.size w'.heap.size v h ∧ Below w.heap.size w w' := by
  have HCL : Hid (Calls Try.prog 34 #[.slice a h.length cap] w fun e w' => ∃ v xs, e = .returned v ∧ w'.ownsRow w.heap.size 62 6 v h.length xs ∧ HCells w (fun b => b < w.heap.size) xs h ∧ Below w.heap.size w w') := cloneC_any a h cap w hn hr
  have HSM : Hid (∀ d ∈ h, d.small) := hsm
  clear hr hsm
  go_enter Try.func22, Try.ntmps22
  go_wp2_with fail
  refine HCL.out.mono ?_
  rintro e w1 ⟨v, xs, rfl, ho1, hx1, hb1⟩
  obtain ⟨av, cv, rfl, hcv⟩ := own_slice ho1
  have HO1 : Hid (w1.ownsRow w.heap.size 62 6 (.slice av h.length cv) h.length xs) := ho1
  have HX1 : Hid (HCells w (fun b => b < w.heap.size) xs h) := hx1
  have HB1 : Hid (Below w.heap.size w w1) := hb1
  clear ho1 hb1 hx1 HCL
  by_cases hh : h.length = 0
  · have e0 : h = [] := List.eq_nil_of_length_eq_zero hh
    subst e0
    have HF : Hid (OwnH w1 w.heap.size w1.heap.size (.slice av 0 cv) []) := OwnH.nil HO1.out (fun k hk => (own_blk HO1.out hk).2.1) HB1.out.size
    clear HO1 HX1 hh
    simp only [List.length_nil]
    go_wp2
    go_loopw [10] (fun o wr => o = .int .i64 0 ∧ wr = w1) (fun _ _ => 0)
    case atStart => exact ⟨rfl, rfl⟩
    case round =>
      obtain ⟨rfl, rfl⟩ := hrel
      go_wp2
      go_ret
      exact ⟨_, rfl, HF.out, HB1.out⟩
  · obtain ⟨g, cur0, rfl, -, -⟩ := own_some HO1.out (by omega)
    have HS0 : Hid (CpSt w.heap.size g cv h 0 w1) := CpSt.start HO1.out HX1.out HB1.out
    clear HO1 HX1
    go_wp2
    go_loopw [10] (fun o wr => ∃ (i : Nat), i ≤ h.length ∧ o = .int .i64 i ∧ CpSt w.heap.size g cv h i wr ∧ Below w.heap.size w wr)
      (fun o _ => h.length - (intOf o).toNat)
    case atStart => exact ⟨0, Nat.zero_le _, rfl, HS0.out, HB1.out⟩
    case round =>
      clear HS0 HB1
      obtain ⟨i, hi, rfl, hst, hb⟩ := hrel
      have HST : Hid (CpSt w.heap.size g cv h i wr) := hst
      have HB : Hid (Below w.heap.size w wr) := hb
      by_cases hlt : i < h.length
      · obtain ⟨c, hc⟩ : ∃ c, h[i]? = some c := ⟨_, List.getElem?_eq_getElem hlt⟩
        have HC : Hid (h[i]? = some c) := hc
        obtain ⟨s1, s2, s3, s4, s5, s6, s7, s8⟩ := HSM.out c (List.mem_of_getElem? hc)
        obtain ⟨cur, β, k0, k1, k2, k3, k4, -, -, -, -, k9⟩ := hst
        obtain ⟨an, cn, aa, ca, c0, c1, c2, c3, c4, c5, r1, r2, -, -⟩ := k9 i c (Nat.le_refl _) hc
        have hc6 : i * 6 + 6 ≤ cur.size := by rw [k1]; have := Nat.mul_le_mul_right 6 (Nat.le_trans (Nat.succ_le_of_lt hlt) k2); omega
        have hgl : g < wr.heap.size := (Array.getElem?_eq_some_iff.1 k0).1
        have KX : Hid (wr.heap[g]? = some (.cells cur 62 (0, 0))) := k0
        have hsz := hb.size
        have HCS : Hid (∀ w, Calls Try.prog 35 #[.string c.s] w fun e w' => Ans w (.string c.s) e w') := fun w => clone_any c.s w s4
        have HCN : Hid (∀ w1, Below w.heap.size wr w1 → w.heap.size ≤ w1.heap.size → Calls Try.prog 36 #[.slice an c.names.length cn] w1 fun e w' => ∃ v, e = .returned v ∧ OwnS w' w1.heap.size v c.names ∧ Below w1.heap.size w1 w') := fun w1 h1 h2 => copyTexts_any an c.names cn w1 s5 s7 (r1.keep fun b hb' => ⟨Nat.lt_of_lt_of_le hb' h2, h1.block b hb'⟩)
        have HCV : Hid (∀ w1, Below w.heap.size wr w1 → w.heap.size ≤ w1.heap.size → Calls Try.prog 37 #[.slice aa c.vals.length ca] w1 fun e w' => ∃ v, e = .returned v ∧ OwnV w' w1.heap.size v c.vals ∧ Below w1.heap.size w1 w') := fun w1 h1 h2 => copyValues_any aa c.vals ca w1 s6 (fun x hx => (s8 x hx).2.2) (r2.keep fun b hb' => ⟨Nat.lt_of_lt_of_le hb' h2, h1.block b hb'⟩)
        have hbA : Below wr.heap.size wr (wr.alloc (Obj.cells #[.int .i64 c.k, .string c.s, .int .i64 c.a, .int .i64 c.b, .slice an c.names.length cn, .slice aa c.vals.length ca] 62)) := (Below.refl _ _).alloc (Nat.le_refl _) _
        have kA : (wr.alloc (Obj.cells #[.int .i64 c.k, .string c.s, .int .i64 c.a, .int .i64 c.b, .slice an c.names.length cn, .slice aa c.vals.length ca] 62)).heap[wr.heap.size]? = some (Obj.cells #[.int .i64 c.k, .string c.s, .int .i64 c.a, .int .i64 c.b, .slice an c.names.length cn, .slice aa c.vals.length ca] 62) := blk_at _ _ _ rfl
        clear hb hc k0 k3 k9 r1 r2 s1 s2 s3 s4 s5 s6 s7 s8
        go_wp2_with fail
        refine (HCS.out _).mono ?_
        rintro e w2 ⟨rfl, hb2⟩
        have hb3 := hbA.trans (hb2.mono hbA.size)
        have kx2 := blk_keep kA hb2 (by simp)
        have kg2 := (hb3.block g hgl).trans KX.out
        have e4 := cell_blk (j := 4) kx2 rfl
        have e5 := cell_blk (j := 5) kx2 rfl
        obtain ⟨y1, d1⟩ := cell_blk' kg2 (i * 6 + 1) (by omega)
        have f1 := frozen_blk kg2 (i * 6 + 1)
        have hs2 : wr.heap.size + 1 ≤ w2.heap.size := by have := hb2.size; simpa using this
        have KX2 : Hid (w2.heap[wr.heap.size]? = some (Obj.cells #[.int .i64 c.k, .string c.s, .int .i64 c.a, .int .i64 c.b, .slice an c.names.length cn, .slice aa c.vals.length ca] 62)) := kx2
        have KG2 : Hid (w2.heap[g]? = some (.cells cur 62 (0, 0))) := kg2
        have HB2 : Hid (Below wr.heap.size wr w2) := hb3
        clear hbA hb2 hb3 kx2 kg2 kA c0 c1 c2 c3 c4 c5
        go_wp2_with fail
        have kg3 : (w2.setCell ⟨g, i * 6 + 1, none⟩ (.string c.s)).heap[g]? = some (.cells (cur.setIfInBounds (i * 6 + 1) (.string c.s)) 62 (0, 0)) := heap_setCell_same _ _ _ _ _ _ KG2.out
        have hoth3 : ∀ b, b ≠ g → (w2.setCell ⟨g, i * 6 + 1, none⟩ (.string c.s)).heap[b]? = w2.heap[b]? := fun b hb => heap_setCell_other _ _ _ _ hb
        have hsz3 : (w2.setCell ⟨g, i * 6 + 1, none⟩ (.string c.s)).heap.size = w2.heap.size := by simp
        have hbw3 : Below w.heap.size wr (w2.setCell ⟨g, i * 6 + 1, none⟩ (.string c.s)) := (HB2.out.mono hsz).setCell (p := ⟨_, _, none⟩) k4 _
        generalize (w2.setCell ⟨g, i * 6 + 1, none⟩ (.string c.s)) = w3 at *
        refine (HCN.out w3 hbw3 (by omega)).mono ?_
        rintro e w4 ⟨nv, rfl, hon4, hb4⟩
        obtain ⟨an2, cn2, rfl, hcn2⟩ := hon4.slice
        have kg4 := blk_keep kg3 hb4 (by omega)
        have kx4 := blk_keep ((hoth3 wr.heap.size (by omega)).trans KX2.out) hb4 (by omega)
        have e5 := cell_blk (j := 5) kx4 rfl
        obtain ⟨y4, d4⟩ := cell_blk' kg4 (i * 6 + 4) (by simp; omega)
        have f4 := frozen_blk kg4 (i * 6 + 4)
        have hs4 := hb4.size
        have HON4 : Hid (OwnS w4 w3.heap.size (.slice an2 c.names.length cn2) c.names) := hon4
        have KG4 : Hid (w4.heap[g]? = some (.cells (cur.setIfInBounds (i * 6 + 1) (.string c.s)) 62 (0, 0))) := kg4
        have hoth4 : Hid (∀ b, b ≠ g → b < wr.heap.size → w4.heap[b]? = wr.heap[b]?) := fun b h1 h2 => (hb4.block b (by omega)).trans ((hoth3 b h1).trans (HB2.out.block b h2))
        have hbw4 : Below w.heap.size wr w4 := hbw3.trans (hb4.mono (by omega))
        have HBW4 : Hid (Below w.heap.size wr w4) := hbw4
        clear kg3 hoth3 hbw3 hon4 hb4 kg4 kx4 hbw4 HCN d1 f1 e4
        go_wp2_with fail
        have kg5 : (w4.setCell ⟨g, i * 6 + 4, none⟩ (.slice an2 c.names.length cn2)).heap[g]? = some (.cells ((cur.setIfInBounds (i * 6 + 1) (.string c.s)).setIfInBounds (i * 6 + 4) (.slice an2 c.names.length cn2)) 62 (0, 0)) := heap_setCell_same _ _ _ _ _ _ KG4.out
        have hoth5 : ∀ b, b ≠ g → (w4.setCell ⟨g, i * 6 + 4, none⟩ (.slice an2 c.names.length cn2)).heap[b]? = w4.heap[b]? := fun b hb => heap_setCell_other _ _ _ _ hb
        have hsz5 : (w4.setCell ⟨g, i * 6 + 4, none⟩ (.slice an2 c.names.length cn2)).heap.size = w4.heap.size := by simp
        have hbw5 : Below w.heap.size wr (w4.setCell ⟨g, i * 6 + 4, none⟩ (.slice an2 c.names.length cn2)) := HBW4.out.setCell (p := ⟨_, _, none⟩) k4 _
        generalize (w4.setCell ⟨g, i * 6 + 4, none⟩ (.slice an2 c.names.length cn2)) = w5 at *
        refine (HCV.out w5 hbw5 (by omega)).mono ?_
        rintro e w6 ⟨vv, rfl, hov6, hb6⟩
        obtain ⟨av2, cv2, rfl, hcv2⟩ := hov6.slice
        have kg6 := blk_keep kg5 hb6 (by omega)
        obtain ⟨y5, d5⟩ := cell_blk' kg6 (i * 6 + 5) (by simp; omega)
        have f5 := frozen_blk kg6 (i * 6 + 5)
        have hs6 := hb6.size
        have HOV6 : Hid (OwnV w6 w5.heap.size (.slice av2 c.vals.length cv2) c.vals) := hov6
        have HON6 : Hid (OwnS w6 w3.heap.size (.slice an2 c.names.length cn2) c.names) := HON4.out.keep fun b hb' => (hb6.block b (by have := (HON4.out.blk hb').2.1; omega)).trans (hoth5 b (by have := (HON4.out.blk hb').1; omega))
        have KG6 : Hid (w6.heap[g]? = some (.cells ((cur.setIfInBounds (i * 6 + 1) (.string c.s)).setIfInBounds (i * 6 + 4) (.slice an2 c.names.length cn2)) 62 (0, 0))) := kg6
        have HOTH6 : Hid (∀ b, b ≠ g → b < wr.heap.size → w6.heap[b]? = wr.heap[b]?) := fun b h1 h2 => (hb6.block b (by omega)).trans ((hoth5 b h1).trans (hoth4.out b h1 h2))
        have HBW6 : Hid (Below w.heap.size wr w6) := hbw5.trans (hb6.mono (by omega))
        clear kg5 hoth5 hbw5 hov6 hb6 kg6 hoth4 HBW4 HCV d4 f4 e5
        go_wp2
        go_roundw
        case rel =>
          refine ⟨i + 1, by omega, by go_num, HST.out.step HC.out KX.out (heap_setCell_same _ _ _ _ _ _ KG6.out) (fun b h1 h2 => (heap_setCell_other _ _ _ _ h1).trans (HOTH6.out b h1 h2)) (by simp; omega) hsz ((HON6.out.weak (by omega)).keep fun b hb' => heap_setCell_other _ _ _ _ ?_) ((HOV6.out.weak (by omega)).keep fun b hb' => heap_setCell_other _ _ _ _ ?_), (HB.out.trans HBW6.out).setCell (p := ⟨_, _, none⟩) k4 _⟩
          · show b ≠ g
            have := (HON6.out.blk hb').1
            omega
          · show b ≠ g
            have := (HOV6.out.blk hb').1
            omega
        case measure => simp [intOf]; omega
      · have hlt' : decide ((i : Int) < (h.length : Int)) = false := by simp; omega
        obtain rfl : i = h.length := by omega
        clear hst hb
        go_wp2
        go_ret
        exact ⟨_, rfl, HST.out.fin, HB.out⟩
end Go.Proofs.Ytngelfohpkpekaa
