/- Names put in order, each once; a name's number. Rows of rows of numbers, each in a block of its own; a row appended as one step of a region. Who imports each. -/
import Derived.Test.YtkkpiagchkdamaaGreatDoorOdq
import Derived.Test.YtkkpiagchkdamaaGreatDoorOmk
import Derived.Test.YtkkpiagchkdamaaGreatDoorSla
import Derived.Deep.RegionLaw
import Derived.Deep.AppendLies
set_option linter.unusedVariables false
namespace Go.Proofs.YtkkpiagchkdamaaGreatDoor
open Go.ChangeShapes Go.WideShapes Go.ChangeAt Go.RowKit Go.Sort
def nmL (s : ByteArray) : Nm := s.data.toList
def ofNm (x : Nm) : ByteArray := ⟨x.toArray⟩
theorem of_nmL (s : ByteArray) : ofNm (nmL s) = s := by simp [ofNm, nmL]
theorem nmL_of (x : Nm) : nmL (ofNm x) = x := by simp [ofNm, nmL]
theorem enc_nmL (s : ByteArray) : encStr (nmL s) = .string s := by simp [encStr, nmL]
theorem enc_of (x : Nm) : encStr x = .string (ofNm x) := rfl
/-- What a call that puts a row leaves. -/
theorem gb_putRow (w : World) (n blk off : Nat) (d : Array Nm) : w.grownBy (putRow encStr (Sort.ahead w n) blk off d) (some blk) :=
  ⟨rfl, rfl, rfl, by simp, fun i hi hne => by
    show (w.heap.modify blk _)[i]? = _
    rw [Array.getElem?_modify]
    exact if_neg (by rintro rfl; exact hne rfl)⟩
theorem gb_grow (w : World) (os : Array Obj) (r : Option Nat) : w.grownBy (grow w os) r :=
  ⟨rfl, rfl, rfl, by simp, fun i hi hne => heap_grow_old w os hi⟩
def RisP (B : Nat) (l : List Nm) (w : World) (e : Ending) (w' : World) : Prop := ∃ a cap, e = .returned (.slice a (rise l).length cap) ∧ (rise l).length ≤ cap ∧ RowSP w' (fun b => B ≤ b ∧ b < w'.heap.size) a ((rise l).map ofNm) ∧ Below B w w'
theorem bel_gb {B g : Nat} {w w' : World} (h : w.grownBy w' (some g)) (hg : B ≤ g) (hB : B ≤ w.heap.size) : Below B w w' :=
  ⟨h.os, h.tape, h.output, h.size, fun k hk => h.block k (by omega) (by intro e; injection e; omega)⟩
theorem compact_at (g cap n : Nat) (zs : List Nm) (w : World) (hn : n = zs.length) (hH : Holds encStr w g 0 zs.toArray) (hsz : n ≤ 9223372036854775807) (hcap : n ≤ cap) :
    Calls Tryz.prog 67 #[.slice (some ⟨g, 0, none⟩) n cap] w fun e w' => e = .returned (.slice (some ⟨g, 0, none⟩) (Lib.compact zs).length cap) ∧ ∃ q, w' = putRow encStr (Sort.ahead w q) g 0 (Lib.compact zs ++ List.replicate (zs.length - (Lib.compact zs).length) []).toArray := by
  subst hn
  exact Tryz.slices_Compact_string g 0 cap zs w hH hsz hcap
theorem rise_nil : rise [] = [] := by simp [rise, sortN, Lib.compact, Lib.compactUpTo]
set_option maxRecDepth 100000 in
set_option maxHeartbeats 1000000 in
theorem rising_any (B : Nat) (v : Value) (l : List ByteArray) (w : World) (hl : l.length ≤ 4194304) (hB : B ≤ w.heap.size) (ho : OwnS w B v l) :
    Calls Tryz.prog 36 #[v] w fun e w' => RisP B (l.map nmL) w e w' := by
  by_cases h0 : l = []
  · subst h0
    obtain ⟨a, cap, rfl, hc⟩ := ho.slice
    go_enter Tryz.func36, Tryz.ntmps36
    go_wp2_with (first
      | (go_at_call 66; refine (Tryz.slices_Sort_none _ _ _).mono ?_; rintro e w2 ⟨rfl, rfl⟩)
      | (go_at_call 67; refine (Tryz.slices_Compact_none _ _ _).mono ?_; rintro e w2 ⟨rfl, rfl⟩))
    go_ret
    refine ⟨a, cap, ?_, ?_, fun i x hx => ?_, Below.refl _ _⟩
    · rw [List.map_nil, rise_nil]
      rfl
    · rw [List.map_nil, rise_nil]
      exact Nat.zero_le _
    · rw [List.map_nil, rise_nil] at hx
      simp at hx
  · obtain ⟨a, cap, rfl, hc⟩ := ho.slice
    have hpos : 0 < l.length := List.length_pos_iff.2 h0
    have ho' := ho
    obtain ⟨hlen, ⟨hv, hz⟩ | ⟨g, cap', cur, hv, a1, hblk, a3, a4, a5, a6⟩⟩ := ho'
    · omega
    injection hv with e1 e2 e3
    subst e1 e3
    have hglt : g < w.heap.size := (Array.getElem?_eq_some_iff.1 hblk).1
    have hrow := ho.row
    have hH : Holds encStr w g 0 (l.map nmL).toArray := by
      intro j hj
      have hj' : j < l.length := by simpa using hj
      obtain ⟨b, o, e, hb, hcell⟩ := hrow j l[j] (List.getElem?_eq_getElem hj')
      simp only [Option.some.injEq, Addr.mk.injEq, and_true] at e
      obtain ⟨rfl, rfl⟩ := e
      refine ⟨?_, by rw [Nat.zero_add]; exact frozen_blk hblk j⟩
      rw [hcell, getElem!_pos _ j hj]
      simp [enc_nmL]
    have hsl : (sortN (l.map nmL)).length = (l.map nmL).length := sortN_len _
    have hll : (l.map nmL).length = l.length := List.length_map _
    have HH : Hid (Holds encStr w g 0 (l.map nmL).toArray) := hH
    have HG : Hid (g < w.heap.size) := hglt
    clear hH hrow ho hblk a4 a5 a6 hlen
    rw [← hll]
    generalize hzz : l.map nmL = zs at *
    have hzl : zs.length ≤ 4194304 := by omega
    have hzc : zs.length ≤ cap := by omega
    have HSL : Hid ((sortN zs).length = zs.length) := hsl
    clear hzz hll hl hc hpos hsl a3 h0
    go_enter Tryz.func36, Tryz.ntmps36
    go_wp2_with (go_at_call 66; go_loud (refine (Tryz.slices_Sort_string g 0 cap zs w HH.out HG.out (by omega)).mono ?_; rintro e w2 ⟨rfl, n, os, rfl⟩; refine stop ?_))
    unfold Hid
    have hH1 : Holds encStr (putRow encStr (Sort.ahead w n) g 0 (sortN zs).toArray) g 0 (sortN zs).toArray := holds_putRow encStr (Sort.ahead w n) g 0 zs.toArray _ HH.out (by simpa using HSL.out)
    have HH2 : Hid (Holds encStr (grow (putRow encStr (Sort.ahead w n) g 0 (sortN zs).toArray) os) g 0 (sortN zs).toArray) := holds_grow encStr _ os g 0 _ (by simpa using HG.out) hH1
    have HB2 : Hid (w.grownBy (grow (putRow encStr (Sort.ahead w n) g 0 (sortN zs).toArray) os) (some g)) := gb_trans (gb_putRow w n g 0 _) (gb_grow _ _ _)
    clear hH1
    have hso : (zs.mergeSort fun x y => decide (x ≤ y)) = sortN zs := rfl
    rw [hso]
    generalize grow (putRow encStr (Sort.ahead w n) g 0 (sortN zs).toArray) os = w3 at *
    go_wp2_with (go_at_call 67; go_loud (refine (compact_at g cap _ (sortN zs) w3 HSL.out.symm HH2.out (by omega) (by omega)).mono ?_; rintro e w2 ⟨rfl, q, rfl⟩))
    go_ret
    have hcl : (rise zs).length ≤ zs.length := rise_len_le zs
    have hsl := HSL.out
    refine ⟨some ⟨g, 0, none⟩, cap, rfl, by omega, ?_, ?_⟩
    · intro j x hx
      rw [List.getElem?_map] at hx
      cases hj : (rise zs)[j]? with
      | none => rw [hj] at hx; cases hx
      | some y =>
        rw [hj] at hx
        obtain rfl := Option.some.inj hx
        have hjl := (List.getElem?_eq_some_iff.1 hj).1
        refine ⟨g, 0, rfl, ?_, ?_⟩
        · have h1 := HG.out
          have h2 := HB2.out.size
          simp only [size_putRow, heap_ahead]
          exact ⟨a1, by omega⟩
        · rw [cell?_putRow encStr (Sort.ahead w3 q) g 0 (sortN zs).toArray _ (holds_ahead _ _ _ _ _ _ HH2.out) ?_ j ?_]
          · have hjc : (Lib.compact (sortN zs))[j]? = some y := hj
            rw [getElem!_pos _ j (by simp; have : (Lib.compact (sortN zs)).length = (rise zs).length := rfl; omega)]
            simp only [List.getElem_toArray]
            have hjl' : j < (Lib.compact (sortN zs)).length := hjl
            rw [List.getElem_append_left hjl']
            rw [List.getElem?_eq_getElem hjl'] at hjc
            rw [Option.some.inj hjc]
            rfl
          · have : (Lib.compact (sortN zs)).length = (rise zs).length := rfl
            simp
            omega
          · have : (Lib.compact (sortN zs)).length = (rise zs).length := rfl
            simp
            omega
    · exact bel_gb (gb_trans HB2.out (gb_putRow _ _ _ _ _)) a1 hB
theorem drewN_keep (w : World) (q : Nat) : w.grownBy (w.drewN q) none := ⟨rfl, rfl, rfl, Nat.le_refl _, fun _ _ _ => rfl⟩
def sxAt (S : List Nm) (x : Nm) (t : Nat) : ByteArray := ofNm (S.getD t x)
theorem sxAt_in {S : List Nm} {x y : Nm} {t : Nat} (h : S[t]? = some y) : sxAt S x t = ofNm y := by simp [sxAt, h]
theorem sxAt_out {S : List Nm} {x : Nm} {t : Nat} (h : S.length ≤ t) : sxAt S x t = ofNm x := by simp [sxAt, h]
theorem num_search {S : List Nm} (h : S.Pairwise (· < ·)) {x : Nm} (hx : x ∈ S) (n : Nat) (hn : n = S.length) (Sx : Nat → ByteArray) (hS : ∀ t y, S[t]? = some y → Sx t = ofNm y) (hT : ∀ t, n ≤ t → Sx t = ofNm x) :
    Lib.bsGo (fun t => Op.bytesLess (Sx t).toList (ofNm x).toList) n 0 n = num S x := by
  subst hn
  have hk := num_lt hx
  have hat := num_at hx
  refine Lib.bsGo_spec _ _ (fun t ht => ?_) (fun t ht => ?_) _ _ _ (by omega) (by omega) (by omega)
  · have htl : t < S.length := by omega
    rw [hS t S[t] (List.getElem?_eq_getElem htl)]
    show Op.bytesLess (ofNm S[t]).toList (ofNm x).toList = true
    rw [bytesLess_eq, Lib.toList_data, Lib.toList_data]
    have h1 := List.pairwise_iff_getElem.1 h t (num S x) htl hk ht
    rw [List.getElem?_eq_getElem hk] at hat
    rw [Option.some.inj hat] at h1
    exact decide_eq_true (by simpa [ofNm] using h1)
  · show Op.bytesLess (Sx t).toList (ofNm x).toList = false
    rw [bytesLess_eq, Lib.toList_data, Lib.toList_data]
    apply decide_eq_false
    by_cases htl : t < S.length
    · rw [hS t S[t] (List.getElem?_eq_getElem htl)]
      rw [List.getElem?_eq_getElem hk] at hat
      have h1 : x ≤ S[t] := by
        by_cases he : num S x = t
        · subst he
          rw [Option.some.inj hat]
          exact List.le_refl _
        · have h2 := List.pairwise_iff_getElem.1 h (num S x) t hk htl (by omega)
          rw [Option.some.inj hat] at h2
          exact List.le_of_lt h2
      have : ¬ S[t] < x := List.not_lt.2 h1
      simpa [ofNm] using this
    · rw [hT t (by omega)]
      exact List.lt_irrefl _
set_option maxRecDepth 100000 in
set_option maxHeartbeats 1000000 in
theorem number_any (S : List Nm) (a a2 : Option Addr) (n cap n2 cap2 : Nat) (x : Nm) (w : World) (hS : S.Pairwise (· < ·)) (hx : x ∈ S) (hn : n = S.length) (hl : S.length ≤ 4194304) (hr : RowS w w.heap.size a (S.map ofNm)) :
    Calls Tryz.prog 37 #[.agg #[.slice a n cap, .slice a2 n2 cap2], .string (ofNm x)] w fun e w' => Ans w (.int .i64 (num S x)) e w' := by
  subst hn
  have hk := num_lt hx
  obtain ⟨b, o, rfl, hbb, _⟩ := hr 0 (ofNm S[0]) (by rw [List.getElem?_map, List.getElem?_eq_getElem (by omega)]; rfl)
  have HR : Hid (RowS w w.heap.size (some ⟨b, o, none⟩) (S.map ofNm)) := hr
  have HS : Hid (Lib.bsGo (fun t => Op.bytesLess (sxAt S x t).toList (ofNm x).toList) S.length 0 S.length = num S x) := num_search hS hx _ rfl (sxAt S x) (fun t y ht => sxAt_in ht) (fun t ht => sxAt_out (by omega))
  have HC : Hid (∀ j, j < S.length → (w.alloc (Obj.cells #[.slice (some ⟨b, o, none⟩) S.length cap, .slice a2 n2 cap2] 47)).cell? ⟨b, o + j, none⟩ = some (.string (sxAt S x j))) := by
    intro j hj
    obtain ⟨b', o', e, hb', hc⟩ := ((HR.out.below ((Below.refl w.heap.size w).alloc (Nat.le_refl _) (Obj.cells #[.slice (some ⟨b, o, none⟩) S.length cap, .slice a2 n2 cap2] 47)))) j (ofNm (S[j]'(by omega))) (by rw [List.getElem?_map, List.getElem?_eq_getElem (by omega)]; rfl)
    simp only [Option.some.injEq, Addr.mk.injEq, and_true] at e
    obtain ⟨rfl, rfl⟩ := e
    rw [hc, sxAt_in (List.getElem?_eq_getElem (by omega))]
  have HF : Hid (num S x < S.length ∧ sxAt S x (num S x) = ofNm x) := ⟨by omega, sxAt_in (num_at hx)⟩
  clear hr hS
  go_enter Tryz.func37, Tryz.ntmps37
  go_wp2_with (go_at_call 68; go_loud (refine (Tryz.slices_Search_string b o S.length cap _ (ofNm x) _ (by omega) HC.out).mono ?_; rintro e w2 ⟨rfl, q, rfl⟩; rw [HS.out, decide_eq_true HF.out]))
  go_ret
  exact ⟨rfl, ((Below.refl w.heap.size w).alloc (Nat.le_refl _) _).grown (drewN_keep _ q) (by simp) (fun _ h => by cases h)⟩
end Go.Proofs.YtkkpiagchkdamaaGreatDoor
set_option linter.unusedVariables false
namespace Go.Proofs.YtkkpiagchkdamaaGreatDoor
open Go.ChangeShapes Go.WideShapes Go.ChangeAt Go.RowKit
theorem step_append_row {ops : Array Oper} {o : Oper} {a : Act} {w : World} {K : Act → World → Prop} {Q : Exit → Act → World → Prop} {E : Prop} (hgd : o.guard = none) (s x : Operand) (t : TypeId)
    (ho : o.op = .call { callee := .builtin .append, args := #[s, x], argTypes := #[t, t] })
    (base : Nat) (e : TypeId) (i : TypeInfo) (z : Value) (size bytes : Nat) (ht : Tryz.prog.underlying t = some (.slice e)) (hi : Tryz.prog.info? e = some i) (hz : i.zero = some z)
    (hsize : i.size = size) (hby : i.bytes = bytes) (hzs : z.cells.size = size) (hsz : 0 < size)
    (v : Value) (n : Nat) (xs : List Value) (hs : a.eval s = v) (hown : w.ownsRow base e size v n xs)
    (ax : Option Addr) (m c : Nat) (news : List Value) (hx : a.eval x = .slice ax m c) (hl : news.length = m * size) (hnews : 0 < m → ∃ ad, ax = some ad ∧ ∀ j u, news[j]? = some u → w.cell? (ad.add j) = some u) (h1 : ∀ u ∈ news, u.oneCell' = true)
    (h63 : n + m ≤ maxLen) (hbytes : (n + m) * bytes ≤ 140737488355328) (hbase : base ≤ w.heap.size)
    (h : ∀ v' w', w'.ownsRow base e size v' (n + m) (xs ++ news) → w.grownBy w' v.ownBlock → (v'.ownBlock = v.ownBlock ∨ v'.ownBlock = some w.heap.size) → K (a.put o.dst v') w') :
    if Region.wanted o (yielded ops a.tmps) = true then Oper.wp Tryz.prog o a w K Q else E := by
  by_cases hm : m = 0
  · subst hm
    obtain rfl : news = [] := List.eq_nil_of_length_eq_zero (by omega)
    obtain ⟨av, cv, rfl, hc⟩ := own_slice hown
    have hw : Region.wanted o (yielded ops a.tmps) = true := by simp [Region.wanted, hgd]
    rw [if_pos hw]
    have hrun := append_zero w i t e ht hi o.type av ax n cv c hc
    have hK := h (.slice av n cv) w (by simpa using hown) (gb_refl _ _) (.inl rfl)
    unfold Oper.wp
    simp [execOp, ho, resolve, invoke, builtin, hs, hx, hrun, Result.andThen]
    exact hK
  · obtain ⟨ad, rfl, hn⟩ := hnews (by omega)
    exact step_append_lies w hgd s x t ho base e i z size bytes ht hi hz hsize hby hzs hsz v n xs hs hown ad m c news hx hl hn h1 (by omega) h63 hbytes hbase w.heap.size rfl fun g cap w' q1 q2 q3 q4 => h _ w' q1 q2 (by
      rcases q3 with q3 | q3
      · exact .inl q3.symm
      · exact .inr (by rw [q3]; rfl))
def nVal (n : Nat) : Value := .int .i64 n
def OwnI (w : World) (B : Nat) (v : Value) (l : List Nat) : Prop := w.ownsRow B 3 1 v l.length (l.map nVal)
theorem OwnI.keep {w w' : World} {B : Nat} {v : Value} {l : List Nat} (h : OwnI w B v l) (hk : ∀ b, v.ownBlock = some b → w'.heap[b]? = w.heap[b]?) : OwnI w' B v l := own_keep h hk
theorem OwnI.blk {w : World} {B b : Nat} {v : Value} {l : List Nat} (h : OwnI w B v l) (hv : v.ownBlock = some b) : B ≤ b ∧ b < w.heap.size := by
  obtain ⟨h1, h2, _⟩ := own_blk h hv
  exact ⟨h1, h2⟩
theorem OwnI.snoc {w : World} {B : Nat} {v : Value} {l : List Nat} {x : Nat} (h : w.ownsRow B 3 1 v (l.length + 1) (l.map nVal ++ [nVal x])) : OwnI w B v (l ++ [x]) := by
  show World.ownsRow _ _ _ _ _ _ _
  rw [List.length_append, List.map_append]
  exact h
theorem OwnI.nil (w : World) (B : Nat) : OwnI w B (.slice none 0 0) [] := ⟨rfl, .inl ⟨rfl, rfl⟩⟩
theorem OwnI.row {w : World} {B n cap : Nat} {a : Option Addr} {l : List Nat} (h : OwnI w B (.slice a n cap) l) : RowI w w.heap.size a (l.map Int.ofNat) := by
  intro i x hx
  rw [List.getElem?_map] at hx
  obtain ⟨hl, ⟨hv, h0⟩ | ⟨g, cap', cur, hv, a1, hblk, a3, a4, a5, a6⟩⟩ := h
  · rw [List.eq_nil_of_length_eq_zero h0] at hx
    simp at hx
  · injection hv with h1 h2 h3
    subst h1
    cases hx' : l[i]? with
    | none => rw [hx'] at hx; cases hx
    | some y =>
      rw [hx'] at hx
      obtain rfl := Option.some.inj hx
      have hil := (List.getElem?_eq_some_iff.1 hx').1
      refine ⟨g, 0, rfl, (Array.getElem?_eq_some_iff.1 hblk).1, ?_⟩
      rw [Nat.zero_add]
      refine cell_blk hblk ?_
      rw [← Array.getElem?_toList, ← List.getElem?_take_of_lt (j := l.length * 1) (by omega), a6, List.getElem?_map, hx']
      rfl
/-- Rows in blocks of their own, the row of them in block g. -/
def MatAt (w : World) (B g N : Nat) (rs : List (List Nat)) : Prop :=
  ∃ cur : Array Value, w.heap[g]? = some (.cells cur 63) ∧ cur.size = N ∧ rs.length = N ∧ B ≤ g ∧
    (∀ (k : Nat) (r : List Nat), rs[k]? = some r → ∃ v, cur[k]? = some v ∧ OwnI w B v r ∧ v.ownBlock ≠ some g) ∧
    (∀ (j k : Nat) (v v' : Value) (b : Nat), j ≠ k → cur[j]? = some v → cur[k]? = some v' → v.ownBlock = some b → v'.ownBlock ≠ some b)
theorem MatAt.len {w : World} {B g N : Nat} {rs : List (List Nat)} (h : MatAt w B g N rs) : rs.length = N := by
  obtain ⟨cur, _, _, h3, _⟩ := h
  exact h3
theorem MatAt.lt {w : World} {B g N : Nat} {rs : List (List Nat)} (h : MatAt w B g N rs) : B ≤ g ∧ g < w.heap.size := by
  obtain ⟨cur, h1, _, _, h4, _⟩ := h
  exact ⟨h4, (Array.getElem?_eq_some_iff.1 h1).1⟩
/-- What changes no block from B on that there was leaves them. -/
theorem MatAt.keep {w w' : World} {B g N : Nat} {rs : List (List Nat)} (h : MatAt w B g N rs) (hk : ∀ b, B ≤ b → b < w.heap.size → w'.heap[b]? = w.heap[b]?) : MatAt w' B g N rs := by
  have hlt := h.lt
  obtain ⟨cur, h1, h2, h3, h4, h5, h6⟩ := h
  refine ⟨cur, (hk g h4 hlt.2).trans h1, h2, h3, h4, fun k r hr => ?_, h6⟩
  obtain ⟨v, hv, ho, hne⟩ := h5 k r hr
  exact ⟨v, hv, ho.keep fun b hb => hk b (ho.blk hb).1 (ho.blk hb).2, hne⟩
theorem MatAt.at {w : World} {B g N k : Nat} {rs : List (List Nat)} {r : List Nat} (h : MatAt w B g N rs) (hr : rs[k]? = some r) : ∃ v, w.cell? ⟨g, k, none⟩ = some v ∧ OwnI w B v r ∧ w.frozen? ⟨g, k, none⟩ = false ∧ v.ownBlock ≠ some g := by
  obtain ⟨cur, h1, h2, h3, h4, h5, h6⟩ := h
  obtain ⟨v, hv, ho, hne⟩ := h5 k r hr
  exact ⟨v, cell_blk h1 hv, ho, frozen_blk h1 k, hne⟩
/-- A number more in row k. -/
theorem MatAt.push {w w2 : World} {B g N k x : Nat} {rs : List (List Nat)} {r : List Nat} {v v' : Value} (h : MatAt w B g N rs) (hr : rs[k]? = some r) (hv : w.cell? ⟨g, k, none⟩ = some v) (hg : w.grownBy w2 v.ownBlock) (ho : OwnI w2 B v' (r ++ [x])) (hat : v'.ownBlock = v.ownBlock ∨ v'.ownBlock = some w.heap.size) :
    MatAt (w2.setCell ⟨g, k, none⟩ v') B g N (rs.set k (r ++ [x])) := by
  have hglt := h.lt.2
  obtain ⟨cur, h1, h2, h3, h4, h5, h6⟩ := h
  have hkl := (List.getElem?_eq_some_iff.1 hr).1
  obtain ⟨u, hu, hou, hne⟩ := h5 k r hr
  obtain rfl : u = v := by
    have := cell_blk h1 hu
    rw [hv] at this
    exact (Option.some.inj this).symm
  have hb2 : w2.heap[g]? = some (.cells cur 63) := (hg.block g hglt (fun e => hne e.symm)).trans h1
  have hnv : v'.ownBlock ≠ some g := by
    rcases hat with e | e
    · rw [e]; exact hne
    · rw [e]; intro e2; injection e2; omega
  have hoth : ∀ b, b ≠ g → (w2.setCell ⟨g, k, none⟩ v').heap[b]? = w2.heap[b]? := fun b hb => heap_setCell_other _ _ _ _ hb
  have cat : ∀ j, (cur.setIfInBounds k v')[j]? = if k = j then some v' else cur[j]? := fun j => by
    rw [Array.getElem?_setIfInBounds]
    by_cases e : k = j
    · subst e
      rw [if_pos rfl, if_pos rfl, if_pos (by omega)]
    · rw [if_neg e, if_neg e]
  have oldb : ∀ j vj, j ≠ k → cur[j]? = some vj → vj.ownBlock ≠ v'.ownBlock ∨ vj.ownBlock = none := fun j vj hj hvj => by
    cases hb : vj.ownBlock with
    | none => exact .inr rfl
    | some b =>
      refine .inl fun e => ?_
      have hjl : j < rs.length := by rw [h3, ← h2]; exact (Array.getElem?_eq_some_iff.1 hvj).1
      obtain ⟨vj', hvj', hoj, _⟩ := h5 j rs[j] (List.getElem?_eq_getElem hjl)
      obtain rfl : vj = vj' := Option.some.inj (hvj.symm.trans hvj')
      rcases hat with e2 | e2
      · rw [e2] at e
        exact h6 j k _ _ b hj hvj hu hb e.symm
      · rw [e2] at e
        injection e with e
        have := (hoj.blk hb).2
        omega
  refine ⟨_, heap_setCell_same _ _ _ _ _ _ hb2, by simp; omega, by simp; omega, h4, fun j q hq => ?_, fun j l vj vl b hjl hj hl hb => ?_⟩
  · rw [List.getElem?_set] at hq
    rw [cat]
    by_cases e : k = j
    · subst e
      rw [if_pos rfl, if_pos hkl] at hq
      obtain rfl := Option.some.inj hq
      exact ⟨v', if_pos rfl, ho.keep fun b hb => hoth b (by rintro rfl; exact hnv hb), hnv⟩
    · rw [if_neg e] at hq ⊢
      obtain ⟨vj, hvj, hoj, hnj⟩ := h5 j q hq
      refine ⟨vj, hvj, hoj.keep fun b hb => (hoth b (by rintro rfl; exact hnj hb)).trans (hg.block b (hoj.blk hb).2 fun e2 => ?_), hnj⟩
      exact h6 j k _ _ b (fun e3 => e e3.symm) hvj hu hb e2.symm
  · rw [cat] at hj hl
    by_cases e1 : k = j
    · subst e1
      rw [if_pos rfl] at hj
      obtain rfl := Option.some.inj hj
      rw [if_neg hjl] at hl
      rcases oldb l vl (fun e => hjl e.symm) hl with h | h
      · intro e; exact h (e.trans hb.symm)
      · rw [h]; simp
    · rw [if_neg e1] at hj
      by_cases e2 : k = l
      · subst e2
        rw [if_pos rfl] at hl
        obtain rfl := Option.some.inj hl
        rcases oldb j vj hjl hj with h | h
        · intro e; exact h (hb.trans e.symm)
        · rw [h] at hb; cases hb
      · rw [if_neg e2] at hl
        exact h6 j l _ _ b hjl hj hl hb
/-- What a fresh row of rows is. -/
theorem MatAt.new {w : World} {B g N : Nat} {cur : Array Value} (h : w.heap[g]? = some (.cells cur 63)) (hs : cur.size = N) (hg : B ≤ g) (hz : ∀ j, j < N → cur[j]? = some (.slice none 0 0)) : MatAt w B g N (List.replicate N []) := by
  refine ⟨cur, h, hs, by simp, hg, fun k r hr => ?_, fun j k v v' b _ hj hk hb => ?_⟩
  · obtain ⟨hk, rfl⟩ := List.getElem?_eq_some_iff.1 hr
    simp at hk ⊢
    exact ⟨_, hz k hk, OwnI.nil _ _, by simp [Value.ownBlock]⟩
  · rw [hz j (by rw [← hs]; exact (Array.getElem?_eq_some_iff.1 hj).1)] at hj
    obtain rfl := Option.some.inj hj
    simp [Value.ownBlock] at hb
end Go.Proofs.YtkkpiagchkdamaaGreatDoor
set_option linter.unusedVariables false
namespace Go.Proofs.YtkkpiagchkdamaaGreatDoor
open Go.ChangeShapes Go.WideShapes Go.ChangeAt Go.RowKit
theorem Tryz.inf63 : (Tryz.prog.info? 63).map (fun i => (i.zero, i.size, i.bytes)) = some (some (.slice none 0 0), 1, 24) := by kernel_rfl
theorem Tryz.inf3 : (Tryz.prog.info? 3).map (fun i => (i.zero, i.size, i.bytes)) = some (some (.int .i64 0), 1, 8) := by kernel_rfl
theorem oneI {w : World} {x : Nat} {n : Nat} {t : TypeId} (h : w.heap[x]? = some (.cells #[.int .i64 n] t)) : ∀ j u, [nVal n][j]? = some u → w.cell? ((⟨x, 0, none⟩ : Addr).add j) = some u := by
  intro j u hj
  rw [add_lit, Nat.zero_add]
  exact cell_blk h (by simpa [nVal] using hj)
theorem grp_row_len {N : Nat} {ps : List (Nat × Nat)} {i : Nat} {row : List Nat} (h : (grp N ps)[i]? = some row) : row.length ≤ ps.length := by
  have hi : i < N := by rw [← grp_len N ps]; exact (List.getElem?_eq_some_iff.1 h).1
  rw [grp_at ps hi] at h
  obtain rfl := Option.some.inj h
  rw [List.length_map]
  exact List.length_filter_le _ _
theorem gb_bel {B : Nat} {w0 w1 w2 : World} {v : Value} (hb : Below B w0 w1) (hB : B ≤ w1.heap.size) (hv : ∀ b, v.ownBlock = some b → B ≤ b) (hg : w1.grownBy w2 v.ownBlock) : Below B w0 w2 :=
  hb.trans ⟨hg.os, hg.tape, hg.output, hg.size, fun k hk => hg.block k (by omega) (fun e => by have := hv k e.symm; omega)⟩
theorem MatAt.weak {w : World} {B B' g N : Nat} {rs : List (List Nat)} (h : MatAt w B g N rs) (hB : B' ≤ B) : MatAt w B' g N rs := by
  obtain ⟨cur, h1, h2, h3, h4, h5, h6⟩ := h
  refine ⟨cur, h1, h2, h3, by omega, fun k r hr => ?_, h6⟩
  obtain ⟨v, hv, ho, hne⟩ := h5 k r hr
  exact ⟨v, hv, own_weak ho hB, hne⟩
/-- Rows of numbers, to be read. -/
def RdMat (w : World) (g : Nat) (rs : List (List Nat)) : Prop := g < w.heap.size ∧ ∀ (k : Nat) (r : List Nat), rs[k]? = some r → ∃ a cap, w.cell? ⟨g, k, none⟩ = some (.slice a r.length cap) ∧ RowI w w.heap.size a (r.map Int.ofNat)
theorem RdMat.now {w w' : World} {g : Nat} {rs : List (List Nat)} (h : RdMat w g rs) (hb : Below w.heap.size w w') : RdMat w' g rs := by
  refine ⟨Nat.lt_of_lt_of_le h.1 hb.size, fun k r hr => ?_⟩
  obtain ⟨a, cap, hc, hi⟩ := h.2 k r hr
  exact ⟨a, cap, (World.cell?_of_block (a := ⟨g, k, none⟩) (hb.block g h.1)).trans hc, (hi.below hb).mono hb.size⟩
theorem MatAt.rd {w : World} {B g N : Nat} {rs : List (List Nat)} (h : MatAt w B g N rs) : RdMat w g rs := by
  refine ⟨h.lt.2, fun k r hr => ?_⟩
  obtain ⟨v, hv, ho, _⟩ := h.at hr
  obtain ⟨a, cap, rfl, _⟩ := own_slice ho
  exact ⟨a, cap, hv, OwnI.row ho⟩
theorem turn1_take {r : List Nat} {n k i : Nat} (h : r[k]? = some i) : turn1 (r.take (k + 1)) n = turn1 (r.take k) n ++ [(i, n)] := by
  simp [turn1, List.take_add_one, h]
set_option maxRecDepth 100000 in
set_option maxHeartbeats 1000000 in
theorem importers_any (na : Option Addr) (nc g N : Nat) (rs : List (List Nat)) (w : World) (hl : rs.length = N) (hN : N ≤ 4194304) (hlt : ∀ r ∈ rs, ∀ i ∈ r, i < N) (hT : ∀ n, (turned rs n).length ≤ 4194304) (hr : RdMat w g rs) :
    Calls Tryz.prog 40 #[.agg #[.slice na N nc, .slice (some ⟨g, 0, none⟩) N N]] w fun e w' => ∃ G, e = .returned (.slice (some ⟨G, 0, none⟩) N N) ∧ MatAt w' w.heap.size G N (grp N (turned rs N)) ∧ Below w.heap.size w w' := by
  obtain ⟨i3, hi3, hz30, hz31, hz32⟩ := info_parts Tryz.inf3
  obtain ⟨i63, hi63, hz630, hz631, hz632⟩ := info_parts Tryz.inf63
  obtain ⟨W1, hW1⟩ : ∃ W1, W1 = w.alloc (Obj.cells #[.slice na N nc, .slice (some ⟨g, 0, none⟩) N N] 47) := ⟨_, rfl⟩
  have hs1 : W1.heap.size = w.heap.size + 1 := by rw [hW1]; simp
  have HB1 : Hid (Below w.heap.size w W1) := by rw [hW1]; exact (Below.refl _ _).alloc (Nat.le_refl _) _
  have HK1 : Hid (W1.heap[w.heap.size]? = some (.cells #[.slice na N nc, .slice (some ⟨g, 0, none⟩) N N] 47)) := by rw [hW1]; exact blk_at _ _ _ rfl
  have HR : Hid (RdMat w g rs) := hr
  have HL : Hid (rs.length = N) := hl
  have HLT : Hid (∀ r ∈ rs, ∀ i ∈ r, i < N) := hlt
  have HT : Hid (∀ n, (turned rs n).length ≤ 4194304) := hT
  clear hr hl hlt hT
  go_enter Tryz.func40, Tryz.ntmps40
  go_wp2_with (at_make; go_loud (refine wpList_make_full _ rfl _ _ 45 rfl (w.heap.size + 1) 63 i63 _ 1 Tryz.underlying45 hi63 hz630 hz631 .i64 .i64 _ _ N rfl rfl ?c0 ?c0' ?c1 ?c2 ?c3 ?_))
  case c0 => rfl
  case c0' => rfl
  case c1 => rw [hz632]; omega
  case c2 => simp [maxLen]; omega
  case c3 => simp
  intro w3 hown3 hgr3
  rw [← hW1] at hgr3
  obtain ⟨cur, hblk, hcs, hz⟩ := made_row hown3
  have HM3 : Hid (MatAt w3 (w.heap.size + 1) (w.heap.size + 1) N (grp N (turned rs 0))) := by
    show MatAt _ _ _ _ (grp N [])
    rw [grp_nil]
    exact MatAt.new hblk hcs (Nat.le_refl _) hz
  have HB3 : Hid (Below (w.heap.size + 1) W1 w3) := (Below.refl _ _).grown hgr3 (by omega) (fun _ h => by cases h)
  have k3 := blk_keep HK1.out HB3.out (by omega)
  have r1 := cell_blk (j := 1) k3 rfl
  clear hown3 hgr3 hblk hcs hz hW1
  go_wp2
  go_loopw [15] (fun o wq => ∃ n : Nat, n ≤ N ∧ o = .int .i64 n ∧ MatAt wq (w.heap.size + 1) (w.heap.size + 1) N (grp N (turned rs n)) ∧ Below (w.heap.size + 1) W1 wq)
    (fun o _ => N - (intOf o).toNat)
  case atStart => exact ⟨0, by omega, rfl, HM3.out, HB3.out⟩
  case round =>
    clear HM3 HB3 k3 r1
    obtain ⟨n, hn, rfl, hmat, hb⟩ := hrel
    have hsz := hb.size
    have hbw : Below w.heap.size w wr := HB1.out.trans (hb.mono (by omega))
    by_cases hnl : n < N
    · obtain ⟨r, hrr⟩ : ∃ r, rs[n]? = some r := ⟨_, List.getElem?_eq_getElem (by have := HL.out; omega)⟩
      obtain ⟨ra, rc, hrc, hri⟩ := (HR.out.now hbw).2 n r hrr
      have HRI : Hid (∀ W5, Below w.heap.size w W5 → RowI W5 W5.heap.size ra (r.map Int.ofNat)) := fun W5 h5 => by
        obtain ⟨ra', rc', hrc', hri'⟩ := (HR.out.now h5).2 n r hrr
        have h1 : W5.cell? ⟨g, n, none⟩ = wr.cell? ⟨g, n, none⟩ := (World.cell?_of_block (a := ⟨g, n, none⟩) (h5.block g HR.out.1)).trans (World.cell?_of_block (a := ⟨g, n, none⟩) (hbw.block g HR.out.1)).symm
        rw [hrc', hrc] at h1
        injection h1 with h1
        injection h1 with h1 h2 h3
        rw [← h1]
        exact hri'
      have hrlt := HLT.out r (List.mem_of_getElem? hrr)
      have HIL : Hid (∀ i ∈ r, i < N) := hrlt
      have HTN : Hid (turned rs (n + 1) = turned rs n ++ turn1 r n) := by
        show _ ++ turn1 (rs.getD n []) n = _
        rw [List.getD_eq_getElem?_getD, hrr]
        rfl
      have HTL : Hid (∀ k, (turned rs n ++ turn1 (r.take k) n).length ≤ 4194304) := fun k => by
        have h1 := HT.out (n + 1)
        rw [HTN.out] at h1
        simp only [List.length_append, turn1, List.length_map, List.length_take] at h1 ⊢
        omega
      have hrl : r.length ≤ 4194304 := by
        have h1 := HT.out (n + 1)
        rw [HTN.out] at h1
        simp only [List.length_append, turn1, List.length_map] at h1
        omega
      have HM4 : Hid (MatAt wr (w.heap.size + 1) (w.heap.size + 1) N (grp N (turned rs n ++ turn1 (r.take 0) n))) := by
        show MatAt _ _ _ _ (grp N (_ ++ []))
        rw [List.append_nil]
        exact hmat
      have HB4 : Hid (Below (w.heap.size + 1) W1 wr) := hb
      clear hrr hrlt hmat hri
      go_wp2
      go_loopw [22] (fun o wq => ∃ k : Nat, k ≤ r.length ∧ o = .int .i64 k ∧ MatAt wq (w.heap.size + 1) (w.heap.size + 1) N (grp N (turned rs n ++ turn1 (r.take k) n)) ∧ Below (w.heap.size + 1) W1 wq)
        (fun o _ => r.length - (intOf o).toNat)
      case atStart => exact ⟨0, by omega, rfl, HM4.out, HB4.out⟩
      case round =>
        clear HM4 HB4 hb hbw hrc hsz
        obtain ⟨k, hk, rfl, hmat, hb⟩ := hrel
        have hsz := hb.size
        by_cases hkl : k < r.length
        · obtain ⟨x, hx⟩ : ∃ x, r[k]? = some x := ⟨_, List.getElem?_eq_getElem hkl⟩
          obtain ⟨xb, xo, rfl, hxb, hxc⟩ := HRI.out wr (HB1.out.trans (hb.mono (by omega))) k (Int.ofNat x) (by rw [List.getElem?_map, hx]; rfl)
          have c0 : wr.cell? ⟨xb, xo + k, none⟩ = some (.int .i64 (x : Int)) := hxc
          have hxN := HIL.out x (List.mem_of_getElem? hx)
          have HP1 : Hid (turned rs n ++ turn1 (r.take (k + 1)) n = (turned rs n ++ turn1 (r.take k) n) ++ [(x, n)]) := by
            show _ = _
            rw [turn1_take hx, List.append_assoc]
          have hpl := HTL.out k
          generalize hps : turned rs n ++ turn1 (r.take k) n = ps at *
          clear hps hx hxc
          obtain ⟨row, hrow⟩ : ∃ row, (grp N ps)[x]? = some row := ⟨_, grp_at ps hxN⟩
          have HGS : Hid (grp N (ps ++ [(x, n)]) = (grp N ps).set x (row ++ [n])) := grp_snoc _ _ _ _ _ hrow
          have hrwl : row.length ≤ 4194304 := Nat.le_trans (grp_row_len hrow) hpl
          have HMk : Hid (MatAt wr (w.heap.size + 1) (w.heap.size + 1) N (grp N ps)) := hmat
          obtain ⟨v, hv, hov, hvf, hvg⟩ := hmat.at hrow
          obtain ⟨av, cv, rfl, hcv⟩ := own_slice hov
          have HVO : Hid (∀ b, (Value.slice av row.length cv).ownBlock = some b → w.heap.size + 1 ≤ b ∧ b < wr.heap.size) := fun b h => ⟨(own_blk hov h).1, (own_blk hov h).2.1⟩
          have HOV : Hid ((wr.alloc (Obj.cells #[.int .i64 n] 3)).ownsRow (w.heap.size + 1) 3 1 (.slice av row.length cv) row.length (row.map nVal)) := World.ownsRow.alloc hov _
          have HBA : Hid (Below (w.heap.size + 1) W1 (wr.alloc (Obj.cells #[.int .i64 n] 3))) := hb.alloc (by omega) _
          have hMA : MatAt (wr.alloc (Obj.cells #[.int .i64 n] 3)) (w.heap.size + 1) (w.heap.size + 1) N (grp N ps) := HMk.out.keep fun b _ h => Below.heap_alloc _ _ _ h
          have HMA : Hid (MatAt (wr.alloc (Obj.cells #[.int .i64 n] 3)) (w.heap.size + 1) (w.heap.size + 1) N (grp N ps)) := hMA
          have zv : (wr.alloc (Obj.cells #[.int .i64 n] 3)).cell? ⟨w.heap.size + 1, x, none⟩ = some (.slice av row.length cv) := (World.cell?_of_block (a := ⟨w.heap.size + 1, x, none⟩) (Below.heap_alloc _ _ _ HMk.out.lt.2)).trans hv
          have zf : (wr.alloc (Obj.cells #[.int .i64 n] 3)).frozen? ⟨w.heap.size + 1, x, none⟩ = false := (World.frozen?_of_block (a := ⟨w.heap.size + 1, x, none⟩) (Below.heap_alloc _ _ _ HMk.out.lt.2)).trans hvf
          have HZV := zv
          have HNG : Hid ((Value.slice av row.length cv).ownBlock ≠ some (w.heap.size + 1)) := hvg
          have hnew : ∀ j u, [nVal n][j]? = some u → (wr.alloc (Obj.cells #[.int .i64 n] 3)).cell? ((⟨wr.heap.size, 0, none⟩ : Addr).add j) = some u := oneI (blk_at _ _ _ rfl)
          have HNW : Hid (∀ j u, [nVal n][j]? = some u → (wr.alloc (Obj.cells #[.int .i64 n] 3)).cell? ((⟨wr.heap.size, 0, none⟩ : Addr).add j) = some u) := hnew
          clear hmat hov hb hvg hMA hnew
          go_wp2_with (at_builtin; go_loud (refine wpList_append_row rfl _ _ 63 rfl (w.heap.size + 1) 3 i3 _ 1 8 Tryz.underlying63 hi3 hz30 hz31 hz32 rfl (by omega) (.slice av row.length cv) row.length (row.map nVal) rfl HOV.out (some ⟨wr.heap.size, 0, none⟩) 1 1 [nVal n] rfl rfl (fun _ => ⟨_, rfl, HNW.out⟩) (by intro u hu; simp [nVal] at hu; subst hu; rfl) (by unfold maxLen; omega) (by omega) (by simp; omega) ?_; intro vB wB hownB hgrB hatB; refine stop ?_))
          unfold Hid
          obtain ⟨ab, cb, rfl, hcb⟩ := own_slice hownB
          have hbB : Below (w.heap.size + 1) W1 wB := gb_bel HBA.out (by simp; omega) (fun b h => (HVO.out b h).1) hgrB
          have hkB := hgrB.block (w.heap.size + 1) HMA.out.lt.2 (fun e => HNG.out e.symm)
          have pv : wB.cell? ⟨w.heap.size + 1, x, none⟩ = some (.slice av row.length cv) := (World.cell?_of_block (a := ⟨w.heap.size + 1, x, none⟩) hkB).trans zv
          have pf : wB.frozen? ⟨w.heap.size + 1, x, none⟩ = false := (World.frozen?_of_block (a := ⟨w.heap.size + 1, x, none⟩) hkB).trans zf
          have HMn : Hid (MatAt (wB.setCell ⟨w.heap.size + 1, x, none⟩ (.slice ab (row.length + 1) cb)) (w.heap.size + 1) (w.heap.size + 1) N ((grp N ps).set x (row ++ [n]))) := HMA.out.push hrow zv hgrB (OwnI.snoc hownB) hatB
          have HBn : Hid (Below (w.heap.size + 1) W1 (wB.setCell ⟨w.heap.size + 1, x, none⟩ (.slice ab (row.length + 1) cb))) := hbB.setCell (p := ⟨_, _, none⟩) (Nat.le_refl _) _
          clear hownB hgrB hatB hbB hkB zv zf hv hvf HZV
          go_wp2
          go_roundw
          case rel => exact ⟨k + 1, by omega, by go_num, by rw [HP1.out, HGS.out]; exact HMn.out, HBn.out⟩
          case measure => simp [intOf]; omega
        · obtain rfl : k = r.length := by omega
          have HM9 : Hid (MatAt wr (w.heap.size + 1) (w.heap.size + 1) N (grp N (turned rs (n + 1)))) := by
            rw [HTN.out]
            rw [List.take_length] at hmat
            exact hmat
          have HB9 : Hid (Below (w.heap.size + 1) W1 wr) := hb
          clear hmat hb
          have hkl' : decide ((r.length : Int) < (r.length : Int)) = false := by simp
          go_wp2
          go_roundw
          case rel => exact ⟨n + 1, by omega, by go_num, HM9.out, HB9.out⟩
          case measure => simp [intOf]; omega
    · obtain rfl : n = N := by omega
      have hlt' : decide ((n : Int) < (n : Int)) = false := by simp
      have HM9 : Hid (MatAt wr w.heap.size (w.heap.size + 1) n (grp n (turned rs n))) := hmat.weak (by omega)
      clear hmat
      go_wp2
      go_ret
      exact ⟨w.heap.size + 1, rfl, HM9.out, hbw⟩
end Go.Proofs.YtkkpiagchkdamaaGreatDoor
