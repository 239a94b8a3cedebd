/- The program's copies of rows of texts. -/
import Derived.Shelf.LaysM
import Derived.Shelf.Strconv.Clone
import Derived.Lib.SliceRun
import Derived.Test.YtkkpiagchkdamaaGreatDoorSla
set_option linter.unusedVariables false
namespace Go.Proofs
def Tryz.laysM316_ren : Go.Shelf.Ren := ⟨fun | 316 => 71 | n => n, fun | 0 => 0 | 3 => 3 | 4 => 4 | 9 => 9 | 37 => 74 | 127 => 123 | 5 => 5 | n => n, fun | n => n⟩
theorem Tryz.laysM316 : Go.Proofs.LaysM.n316 Tryz.prog Tryz.laysM316_ren := {
  mixed := by kernel_rfl
  f316 := Tryz.func71.trans (congrArg some (by kernel_rfl))
  t0 := Tryz.underlying0
  a0 := Tryz.isAgg0
  z0 := Tryz.sizeOf0
  v0 := Tryz.zeroValue0
  t3 := Tryz.underlying3
  a3 := Tryz.isAgg3
  z3 := Tryz.sizeOf3
  v3 := Tryz.zeroValue3
  t4 := Tryz.underlying4
  a4 := Tryz.isAgg4
  z4 := Tryz.sizeOf4
  v4 := Tryz.zeroValue4
  t9 := Tryz.underlying9
  a9 := Tryz.isAgg9
  z9 := Tryz.sizeOf9
  v9 := Tryz.zeroValue9
  t37 := Tryz.underlying74
  a37 := Tryz.isAgg74
  z37 := Tryz.sizeOf74
  v37 := Tryz.zeroValue74
  t127 := Tryz.underlying123
  a127 := Tryz.isAgg123
  z127 := Tryz.sizeOf123
  v127 := Tryz.zeroValue123
  t5 := Tryz.underlying5
  a5 := Tryz.isAgg5
  z5 := Tryz.sizeOf5
  v5 := Tryz.zeroValue5
  i0 := by kernel_rfl
  i3 := by kernel_rfl
  i4 := by kernel_rfl
  i5 := by kernel_rfl
  i9 := by kernel_rfl
  i37 := by kernel_rfl
  i127 := by kernel_rfl }
open Go.RowKit in
theorem Tryz.stringslite_Clone (s : ByteArray) (w : World) (hlim : s.size ≤ 281474976710656) :
    Calls Tryz.prog 71 #[.string s] w fun e w' => e = .returned (.string s) ∧ Below w.heap.size w w' := Any.stringslite_Clone Tryz.laysM316 s w hlim
end Go.Proofs
namespace Go.Proofs.YtkkpiagchkdamaaGreatDoor
open Go.ChangeShapes Go.WideShapes Go.ChangeAt Go.RowKit
theorem own_set {w : World} {B n s g cap o : Nat} {e : TypeId} {xs : List Value} (u : Value) (h : w.ownsRow B e s (.slice (some ⟨g, 0, none⟩) n cap) n xs) (ho : o < n * s) : (w.setCell ⟨g, o, none⟩ u).ownsRow B e s (.slice (some ⟨g, 0, none⟩) n cap) n (xs.set o u) := by
  obtain ⟨hl, ⟨hv, h0⟩ | ⟨g', cap', cur, hv, a1, hblk, a3, a4, a5, a6⟩⟩ := h
  · cases hv
  · simp only [Value.slice.injEq, Option.some.injEq, Addr.mk.injEq] at hv
    obtain ⟨⟨rfl, _⟩, _, rfl⟩ := hv
    refine ⟨by simpa using hl, .inr ⟨g, cap, cur.setIfInBounds o u, rfl, a1, heap_setCell_same _ _ _ _ _ _ hblk, a3, a4, by simpa using a5, ?_⟩⟩
    rw [Array.toList_setIfInBounds, List.take_set, a6]
theorem OwnS.put {w : World} {B g n cap i : Nat} {l : List ByteArray} (x : ByteArray) (h : OwnS w B (.slice (some ⟨g, 0, none⟩) n cap) l) (hn : n = l.length) (hi : i < l.length) : OwnS (w.setCell ⟨g, i, none⟩ (.string x)) B (.slice (some ⟨g, 0, none⟩) n cap) (l.set i x) := by
  subst hn
  have := own_set (.string x) h (o := i) (by omega)
  unfold OwnS
  rw [List.length_set, List.map_set]
  exact this
theorem own_some {w : World} {B n s : Nat} {e : TypeId} {a : Option Addr} {cap : Nat} {xs : List Value} (h : w.ownsRow B e s (.slice a n cap) n xs) (hn : 0 < n) : ∃ g cur, a = some ⟨g, 0, none⟩ ∧ w.heap[g]? = some (.cells cur e (0, 0)) ∧ n * s ≤ cur.size := by
  obtain ⟨hl, ⟨hv, h0⟩ | ⟨g, cap', cur, hv, a1, hblk, a3, a4, a5, a6⟩⟩ := h
  · omega
  · injection hv with q1 q2 q3
    subst q3
    exact ⟨g, cur, q1, hblk, by rw [a5]; exact Nat.mul_le_mul_right _ a3⟩
theorem clone_any (s : ByteArray) (w : World) (hs : s.size ≤ 1048576) : Calls Tryz.prog 44 #[.string s] w fun e w' => Ans w (.string s) e w' := by
  have HC : Hid (Calls Tryz.prog 71 #[.string s] w fun e w' => e = .returned (.string s) ∧ Below w.heap.size w w') := Tryz.stringslite_Clone s w (by omega)
  go_enter Tryz.func44, Tryz.ntmps44
  go_wp2_with (go_at_call 71; refine HC.out.mono ?_; rintro e w2 ⟨rfl, hb⟩)
  go_ret
  exact ⟨rfl, hb⟩
theorem set_same {α : Type} {l : List α} {i : Nat} {x : α} (h : l[i]? = some x) : l.set i x = l := by
  apply List.ext_getElem?
  intro j
  rw [List.getElem?_set]
  by_cases hji : i = j
  · subst hji
    rw [if_pos rfl, if_pos (List.getElem?_eq_some_iff.1 h).1, h]
  · rw [if_neg hji]
set_option maxRecDepth 100000 in
set_option maxHeartbeats 1000000 in
theorem cloneS_any (a : Option Addr) (l : List ByteArray) (cap : Nat) (w : World) (hn : l.length ≤ 1048576) (hr : RowS w w.heap.size a l) :
    Calls Tryz.prog 43 #[.slice a l.length cap] w fun e w' => ∃ v, e = .returned v ∧ OwnS w' w.heap.size v l ∧ Below w.heap.size w w' := by
  obtain ⟨i9, hi9, hz90, hz91, hz92⟩ := info_parts Tryz.inf9
  have q : ∀ (w : World) (a : Option Addr) (n c n' c' : Nat), (binOp .eql 24 (.slice a n c) (.slice none n' c')).run Tryz.prog w = .ok (.bool a.isNone) w := fun w a n c n' c' => Lib.run_eql_slice_nil w _ _ a n c n' c' Tryz.underlying24
  cases a with
  | none =>
    obtain rfl : l = [] := by
      match l, hr with
      | [], _ => rfl
      | x :: r, hr => obtain ⟨b, o, e, _⟩ := hr 0 x rfl; cases e
    clear hr
    go_enter Tryz.func43, Tryz.ntmps43
    go_wp2
    go_ret
    exact ⟨_, rfl, ⟨rfl, .inl ⟨rfl, rfl⟩⟩, Below.refl _ _⟩
  | some ad =>
    have hb1 : Below w.heap.size w (w.alloc (Obj.cells #[] 9)) := (Below.refl _ _).alloc (Nat.le_refl _) _
    have hn1 := news_S (w := w.alloc (Obj.cells #[] 9)) (p := fun b => b < w.heap.size) (RowSP.keep (w := w) (p := fun b => b < w.heap.size) hr fun b hb' => ⟨hb', hb1.block b (by omega)⟩)
    have ho1 : (w.alloc (Obj.cells #[] 9)).ownsRow w.heap.size 9 1 (.slice (some ⟨w.heap.size, 0, none⟩) 0 0) 0 [] := own_empty (blk_at _ _ _ rfl) (Nat.le_refl _)
    clear hr
    go_enter Tryz.func43, Tryz.ntmps43
    go_wp2_with (at_builtin; go_loud (refine wpList_append_row rfl _ _ 24 rfl w.heap.size 9 i9 _ 1 16 Tryz.underlying24 hi9 hz90 hz91 hz92 rfl (by omega) (.slice (some ⟨w.heap.size, 0, none⟩) 0 0) 0 [] rfl ho1 (some ad) l.length cap (l.map Value.string) rfl (by simp) hn1 (by intro u hu; obtain ⟨z, _, rfl⟩ := List.mem_map.1 hu; rfl) (by unfold maxLen; omega) (by omega) (by simp) ?_; intro nv w2 hown2 hgr2 hat2))
    rw [Nat.zero_add, List.nil_append] at hown2
    go_ret
    exact ⟨nv, rfl, hown2, hb1.grown hgr2 (by simp) (by intro k hk; simp [Value.ownBlock] at hk; omega)⟩
set_option maxRecDepth 100000 in
set_option maxHeartbeats 1000000 in
theorem copyTexts_any (a : Option Addr) (l : List ByteArray) (cap : Nat) (w : World) (hn : l.length ≤ 1048576) (hsm : ∀ x ∈ l, x.size ≤ 1048576) (hr : RowS w w.heap.size a l) :
    Calls Tryz.prog 20 #[.slice a l.length cap] w fun e w' => ∃ v, e = .returned v ∧ OwnS w' w.heap.size v l ∧ Below w.heap.size w w' := by
  have HCL : Hid (Calls Tryz.prog 43 #[.slice a l.length cap] w fun e w' => ∃ v, e = .returned v ∧ OwnS w' w.heap.size v l ∧ Below w.heap.size w w') := cloneS_any a l cap w hn hr
  have HSM : Hid (∀ x ∈ l, x.size ≤ 1048576) := hsm
  clear hr hsm
  go_enter Tryz.func20, Tryz.ntmps20
  go_wp2_with fail
  refine HCL.out.mono ?_
  rintro e w1 ⟨v, rfl, ho1, hb1⟩
  obtain ⟨av, cv, rfl, hcv⟩ := ho1.slice
  have HO1 : Hid (OwnS w1 w.heap.size (.slice av l.length cv) l) := ho1
  have HB1 : Hid (Below w.heap.size w w1) := hb1
  clear ho1 hb1 HCL
  go_wp2
  go_loopw [10] (fun o wr => ∃ (i : Nat), i ≤ l.length ∧ o = .int .i64 i ∧ OwnS wr w.heap.size (.slice av l.length cv) l ∧ Below w.heap.size w wr)
    (fun o _ => l.length - (intOf o).toNat)
  case atStart => exact ⟨0, Nat.zero_le _, rfl, HO1.out, HB1.out⟩
  case round =>
    clear HO1 HB1
    obtain ⟨i, hi, rfl, ho, hb⟩ := hrel
    have HO : Hid (OwnS wr w.heap.size (.slice av l.length cv) l) := ho
    have HB : Hid (Below w.heap.size w wr) := hb
    by_cases hlt : i < l.length
    · obtain ⟨x, hx⟩ : ∃ x, l[i]? = some x := ⟨_, List.getElem?_eq_getElem hlt⟩
      obtain ⟨g, cur, rfl, hblk, hcs⟩ := own_some ho (by omega)
      obtain ⟨b, o, e1, _, hc⟩ := ho.row i x hx
      simp only [Option.some.injEq, Addr.mk.injEq, and_true] at e1
      obtain ⟨rfl, rfl⟩ := e1
      rw [Nat.zero_add] at hc
      have HX : Hid (l[i]? = some x) := hx
      have hgl : g < wr.heap.size := (Array.getElem?_eq_some_iff.1 hblk).1
      have KX : Hid (wr.heap[g]? = some (.cells cur 9 (0, 0))) := hblk
      have HC : Hid (∀ w, Calls Tryz.prog 44 #[.string x] w fun e w' => Ans w (.string x) e w') := fun w => clone_any x w (HSM.out x (List.mem_of_getElem? hx))
      clear ho hb hx hblk
      go_wp2_with fail
      refine (HC.out _).mono ?_
      rintro e w2 ⟨rfl, hb2⟩
      have k2 := (hb2.block g hgl).trans KX.out
      obtain ⟨y0, e0⟩ := cell_blk' k2 i (by omega)
      have f0 := frozen_blk k2 i
      have HB2 : Hid (Below wr.heap.size wr w2) := hb2
      have hgw : w.heap.size ≤ g := (HO.out.blk rfl).1
      have hsz := HB.out.size
      clear k2 hb2 HC hc
      go_wp2
      go_roundw
      case rel =>
        refine ⟨i + 1, by omega, by go_num, ?_, ((HB.out.trans (HB2.out.mono hsz)).setCell (p := ⟨_, _, none⟩) hgw _)⟩
        have q := (HO.out.keep (w' := w2) fun b hb => HB2.out.block b (HO.out.blk hb).2.1).put x rfl (i := i) hlt
        rw [set_same HX.out] at q
        exact q
      case measure => simp [intOf]; omega
    · have hlt' : decide ((i : Int) < (l.length : Int)) = false := by simp; omega
      clear ho hb
      go_wp2
      go_ret
      exact ⟨_, rfl, HO.out, HB.out⟩
end Go.Proofs.YtkkpiagchkdamaaGreatDoor
