/- The program's question whether each cell is used just once. -/
import Derived.Test.YtgfkmppkeolckaaDoorTrp
import Derived.Test.YtgfkmppkeolckaaDoorTob
import Derived.Test.YtgfkmppkeolckaaDoorShelf
import Derived.Deep.RegionWith
set_option linter.unusedVariables false
namespace Go.Proofs.YtgfkmppkeolckaaDoor
open Go.ChangeShapes Go.WideShapes Go.ChangeAt Go.RowKit
set_option maxRecDepth 100000 in
set_option maxHeartbeats 2000000 in
theorem use_out (u n c : Nat) (x y : Int) (g : Nat) (w : World) (hu : w.cell? ⟨u, 0, none⟩ = some (.slice (some ⟨g, 0, none⟩) n c)) (h : ¬ (0 ≤ x ∧ x < y)) :
    Calls Tryd.prog 63 #[.int .i64 x, .int .i64 y, .pointer (some ⟨u, 0, none⟩)] w fun e w' => e = .returned (.bool false) ∧ w' = w := by
  by_cases h1 : x < 0
  · have h1' : decide (x < 0) = true := by simp [h1]
    go_enter Tryd.func63, Tryd.ntmps63
    go_wp2
    go_ret
    exact ⟨rfl, rfl⟩
  · have h1' : decide (x < 0) = false := by simp; omega
    have h2' : decide (y ≤ x) = true := by simp; omega
    go_enter Tryd.func63, Tryd.ntmps63
    go_wp2
    go_ret
    exact ⟨rfl, rfl⟩
set_option maxRecDepth 100000 in
set_option maxHeartbeats 2000000 in
theorem use_in (u n c g x cx : Nat) (y : Int) (w : World) (hu : w.cell? ⟨u, 0, none⟩ = some (.slice (some ⟨g, 0, none⟩) n c)) (hn : n ≤ 1048576) (hx : x < n) (hxy : (x : Int) < y) (hc : cx ≤ 4194304) (hug : u ≠ g) (hcx : w.cell? ⟨g, x, none⟩ = some (.int .i64 (cx : Int))) (hf : w.frozen? ⟨g, x, none⟩ = false) :
    Calls Tryd.prog 63 #[.int .i64 (x : Int), .int .i64 y, .pointer (some ⟨u, 0, none⟩)] w fun e w' => e = .returned (.bool ((cx : Int) + 1 == 1)) ∧ w' = w.setCell ⟨g, x, none⟩ (.int .i64 ((cx : Int) + 1)) := by
  have h1' : decide ((x : Int) < 0) = false := by simp
  have h2' : decide (y ≤ (x : Int)) = false := by simp; omega
  go_enter Tryd.func63, Tryd.ntmps63
  go_wp2
  go_ret
  exact ⟨rfl, rfl⟩
/-- Where the counting stands: the data's block, the counts' row, the variable that holds the row. -/
def EoSt (w0 : World) (D : Obj) (n U : Nat) (us : List Int) (w : World) : Prop :=
  w.heap[w0.heap.size]? = some D ∧ w.heap[w0.heap.size + 1]? = some (Obj.cells (cntA n us) 3 (0, 0)) ∧ w.heap[U]? = some (Obj.cells #[Value.slice (some ⟨w0.heap.size + 1, 0, none⟩) n n] 26 (0, 0)) ∧ Below w0.heap.size w0 w ∧ w0.heap.size + 1 < U
theorem EoSt.alloc {w0 w : World} {D : Obj} {n U : Nat} {us : List Int} (h : EoSt w0 D n U us w) (o : Obj) : EoSt w0 D n U us (w.alloc o) :=
  ⟨blk_past h.1, blk_past h.2.1, blk_past h.2.2.1, h.2.2.2.1.alloc h.2.2.2.1.size _, h.2.2.2.2⟩
theorem EoSt.use {w0 w : World} {D : Obj} {n U x : Nat} {us : List Int} (h : EoSt w0 D n U us w) (hx : x < n) : EoSt w0 D n U (us ++ [(x : Int)]) (w.setCell ⟨w0.heap.size + 1, x, none⟩ (.int .i64 (((us.count (x : Int) : Nat) : Int) + 1))) := by
  obtain ⟨h1, h2, h3, h4, h5⟩ := h
  refine ⟨(heap_setCell_other _ _ _ _ (by simp)).trans h1, ?_, (heap_setCell_other _ _ _ _ (by intro e; have e' : U = w0.heap.size + 1 := e; omega)).trans h3, h4.setCell (p := ⟨_, _, none⟩) (by simp) _, h5⟩
  rw [← cntA_set us hx]
  exact heap_setCell_same _ _ _ _ _ _ h2
theorem use_in' {w0 w : World} {D : Obj} {n U x : Nat} {us : List Int} (y : Int) (h : EoSt w0 D n U us w) (hn : n ≤ 1048576) (hx : x < n) (hxy : (x : Int) < y) (hus : us.length ≤ 4194304) :
    Calls Tryd.prog 63 #[.int .i64 (x : Int), .int .i64 y, .pointer (some ⟨U, 0, none⟩)] w fun e w' => e = .returned (.bool (((us.count (x : Int) : Nat) : Int) + 1 == 1)) ∧ EoSt w0 D n U (us ++ [(x : Int)]) w' ∧ ∀ k, k ≠ w0.heap.size + 1 → w'.heap[k]? = w.heap[k]? := by
  refine (use_in U n n (w0.heap.size + 1) x (us.count (x : Int)) y w (cell_blk h.2.2.1 rfl) hn hx hxy (by have := List.count_le_length (a := (x : Int)) (l := us); omega) (by have := h.2.2.2.2; omega) (cell_blk h.2.1 (cntA_get _ hx)) (frozen_blk h.2.1 x)).mono ?_
  rintro e w' ⟨rfl, rfl⟩
  exact ⟨rfl, h.use hx, fun k hk => heap_setCell_other _ _ _ _ hk⟩
theorem use_new {w0 w : World} {D : Obj} {n U x : Nat} {us : List Int} (y : Int) (h : EoSt w0 D n U us w) (hn : n ≤ 1048576) (hx : x < n) (hxy : (x : Int) < y) (hus : us.length ≤ 4194304) (h0 : us.count (x : Int) = 0) :
    Calls Tryd.prog 63 #[.int .i64 (x : Int), .int .i64 y, .pointer (some ⟨U, 0, none⟩)] w fun e w' => e = .returned (.bool true) ∧ EoSt w0 D n U (us ++ [(x : Int)]) w' ∧ ∀ k, k ≠ w0.heap.size + 1 → w'.heap[k]? = w.heap[k]? := by
  have := use_in' y h hn hx hxy hus
  rw [h0] at this
  exact this
theorem use_old {w0 w : World} {D : Obj} {n U x : Nat} {us : List Int} (y : Int) (h : EoSt w0 D n U us w) (hn : n ≤ 1048576) (hx : x < n) (hxy : (x : Int) < y) (hus : us.length ≤ 4194304) (h0 : us.count (x : Int) ≠ 0) :
    Calls Tryd.prog 63 #[.int .i64 (x : Int), .int .i64 y, .pointer (some ⟨U, 0, none⟩)] w fun e w' => e = .returned (.bool false) ∧ EoSt w0 D n U (us ++ [(x : Int)]) w' ∧ ∀ k, k ≠ w0.heap.size + 1 → w'.heap[k]? = w.heap[k]? := by
  have := use_in' y h hn hx hxy hus
  rw [show (((us.count (x : Int) : Nat) : Int) + 1 == 1) = false by rw [beq_eq_false_iff_ne]; omega] at this
  exact this
theorem count_snoc_two {us : List Int} {x : Int} (h : us.count x ≠ 0) : 2 ≤ (us ++ [x]).count x := by
  rw [List.count_append, List.count_singleton_self]; omega
theorem use_out' {w0 w : World} {D : Obj} {n U : Nat} {us : List Int} (x y : Int) (h : EoSt w0 D n U us w) (hx : ¬ (0 ≤ x ∧ x < y)) :
    Calls Tryd.prog 63 #[.int .i64 x, .int .i64 y, .pointer (some ⟨U, 0, none⟩)] w fun e w' => e = .returned (.bool false) ∧ w' = w :=
  use_out U n n x y (w0.heap.size + 1) w (cell_blk h.2.2.1 rfl) hx
theorem none_zero {cs : List Dat} {ts : List Int} (hp : PairOk cs) (ht : ∀ t ∈ ts, 0 ≤ t ∧ t < cs.length) (hle : ∀ j : Nat, j < cs.length → (usesOf cs ts).count (j : Int) ≤ 1) :
    ((((List.range cs.length).map fun (j : Nat) => (((usesOf cs ts).count (j : Int) : Nat) : Int)).take cs.length).contains 0) = !treeB cs ts := by
  rw [List.take_of_length_le (by simp)]
  by_cases h : TreeP cs ts
  · rw [treeB_true h]
    rw [Bool.not_true, List.contains_eq_mem, decide_eq_false_iff_not]
    intro hm
    obtain ⟨j, hj, he⟩ := List.mem_map.1 hm
    have := h.2.2 j (List.mem_range.1 hj)
    omega
  · rw [treeB_false h]
    rw [Bool.not_false, List.contains_eq_mem, decide_eq_true_eq]
    apply Classical.byContradiction
    intro hm
    apply h
    refine ⟨hp, ht, fun j hj => ?_⟩
    have h1 := hle j hj
    have h2 : (usesOf cs ts).count (j : Int) ≠ 0 := fun e => hm (List.mem_map.2 ⟨j, List.mem_range.2 hj, by omega⟩)
    omega
theorem contains_any {w0 w : World} {D : Obj} {cs : List Dat} {ts : List Int} {U : Nat} (h : EoSt w0 D cs.length U (usesOf cs ts) w) (hn : cs.length ≤ 1048576) (hp : PairOk cs) (ht : ∀ t ∈ ts, 0 ≤ t ∧ t < cs.length) (hle : ∀ j : Nat, j < cs.length → (usesOf cs ts).count (j : Int) ≤ 1) :
    Calls Tryd.prog 64 #[.slice (some ⟨w0.heap.size + 1, 0, none⟩) cs.length cs.length, .int .i64 0] w fun e w' => e = .returned (.bool (!treeB cs ts)) ∧ w' = w := by
  have := Tryd.slices_Contains_int (w0.heap.size + 1) 0 cs.length cs.length ((List.range cs.length).map fun (j : Nat) => (((usesOf cs ts).count (j : Int) : Nat) : Int)) 0 w (by simp) (by omega) (fun j hj => by
    simp at hj
    rw [Nat.zero_add, cell_blk h.2.1 (cntA_get _ hj)]
    simp [hj])
  rw [none_zero hp ht hle] at this
  exact this
set_option maxRecDepth 100000 in
set_option maxHeartbeats 4000000 in
theorem eachOnce_any (a b : Option Addr) (ca cb : Nat) (cs : List Dat) (ts : List Int) (w : World) (hn : cs.length ≤ 1048576) (hn' : ts.length ≤ 1048576) (hr : RowD w w.heap.size a cs) (hi : RowI w w.heap.size b ts) :
    Calls Tryd.prog 29 #[.agg #[.slice a cs.length ca, .slice b ts.length cb]] w fun e w' => Ans w (.bool (treeB cs ts)) e w' := by
  obtain ⟨i0, hi0, hz0, hz1, hz2⟩ := info_parts Tryd.info3
  have hmf : ∀ (fn : Fn) (first cap : Array Value) (w : World), (Instr.makeFunc fn first cap).run Tryd.prog w = .ok (.func fn first cap) w := fun _ _ _ _ => rfl
  have HR : Hid (RowD w w.heap.size a cs) := hr
  have HI : Hid (RowI w w.heap.size b ts) := hi
  clear hr hi
  go_enter Tryd.func29, Tryd.ntmps29
  go_wp2_with (at_make; refine wpList_make_full _ rfl _ _ 26 rfl (w.heap.size + 1) 3 i0 _ 1 Tryd.underlying26 hi0 hz0 hz1 .i64 .i64 _ _ cs.length rfl rfl rfl rfl ?c1 ?c2 ?c3 ?_)
  case c1 => rw [hz2]; omega
  case c2 => simp [maxLen]; omega
  case c3 => simp
  intro w1 hown1 hgr1
  have hb0 : Below w.heap.size w (w.alloc (Obj.cells #[Value.slice a cs.length ca, Value.slice b ts.length cb] 28)) := (Below.refl _ _).alloc (Nat.le_refl _) _
  have hb1' : Below (w.heap.size + 1) (w.alloc (Obj.cells #[Value.slice a cs.length ca, Value.slice b ts.length cb] 28)) w1 := (Below.refl _ _).grown hgr1 (by simp) (fun _ h => by cases h)
  have hb1 : Below w.heap.size w w1 := hb0.trans (hb1'.mono (by omega))
  have hkd : w1.heap[w.heap.size]? = some (Obj.cells #[Value.slice a cs.length ca, Value.slice b ts.length cb] 28) := blk_keep (blk_alloc w _) hb1' (by omega)
  obtain ⟨hlen, ⟨h0, _⟩ | ⟨g, cp, cur, hv, _, hblk, _, _, hcs, htk⟩⟩ := hown1
  · cases h0
  simp only [Value.slice.injEq, Option.some.injEq, Addr.mk.injEq] at hv
  obtain ⟨⟨hg, _⟩, _, rfl⟩ := hv
  obtain rfl : g = w.heap.size + 1 := by simpa using hg.symm
  have hcur : cur = cntA cs.length [] := cntA_zero _ _ (by omega) (by simpa using htk)
  subst hcur
  have e0 := cell_blk (j := 0) hkd rfl
  have e1 := cell_blk (j := 1) hkd rfl
  have HKD : Hid _ := hkd
  have HBLK : Hid (w1.heap[w.heap.size + 1]? = some (Obj.cells (cntA cs.length []) 3 (0, 0))) := hblk
  have hsz : w.heap.size + 1 < w1.heap.size := (Array.getElem?_eq_some_iff.1 hblk).1
  have hsz2 : w.heap.size < w1.heap.size := by omega
  clear hlen hcs htk hgr1 hb1' hb0 hkd hblk
  go_wp2
  have hst : EoSt w (Obj.cells #[Value.slice a cs.length ca, Value.slice b ts.length cb] 28) cs.length w1.heap.size [] (w1.alloc (Obj.cells #[Value.slice (some ⟨w.heap.size + 1, 0, none⟩) cs.length cs.length] 26)) := ⟨blk_past HKD.out, blk_past HBLK.out, blk_alloc _ _, hb1.alloc (by omega) _, hsz⟩
  generalize w1.heap.size = U at *
  go_loopw [17] (fun o wr => ∃ (i : Nat), i ≤ cs.length ∧ o = .int .i64 i ∧ PairsTo cs i ∧ (∀ j : Nat, j < cs.length → (usesC cs i).count (j : Int) ≤ 1) ∧ EoSt w (Obj.cells #[Value.slice a cs.length ca, Value.slice b ts.length cb] 28) cs.length U (usesC cs i) wr)
    (fun o _ => cs.length - (intOf o).toNat)
  case atStart => exact ⟨0, by omega, rfl, fun j d h => absurd h (by omega), fun j _ => by simp [usesC], by simpa [usesC] using hst⟩
  case round =>
    clear HKD HBLK hb1 e0 e1 hst
    obtain ⟨i, hi, rfl, hpt, hle, hst⟩ := hrel
    have hul := usesC_len cs i
    have HST : Hid (EoSt w (Obj.cells #[Value.slice a cs.length ca, Value.slice b ts.length cb] 28) cs.length U (usesC cs i) wr) := hst
    have HPT : Hid (PairsTo cs i) := hpt
    have HLE : Hid (∀ j : Nat, j < cs.length → (usesC cs i).count (j : Int) ≤ 1) := hle
    have hb := hst.2.2.2.1
    have hUw : U < wr.heap.size := (Array.getElem?_eq_some_iff.1 hst.2.2.1).1
    have hU1 := hst.2.2.2.2
    have hsz : w.heap.size + 1 < wr.heap.size := (Array.getElem?_eq_some_iff.1 hst.2.1).1
    clear hpt hle hst
    by_cases hlt : i < cs.length
    · obtain ⟨d, hd⟩ : ∃ d, cs[i]? = some d := ⟨_, List.getElem?_eq_getElem hlt⟩
      obtain ⟨b1, o1, rfl, hbb, c0, c1, c2, c3, c4⟩ := (HR.out.below hb) i d hd
      have HU' : Hid (usesC cs (i + 1) = usesC cs i ++ partsOf d) := usesC_succ hd
      have hpf : Hid (usesC cs i ++ partsOf d <+: usesOf cs ts) := by show _ <+: _; rw [← HU'.out]; exact usesC_prefix cs ts (i + 1)
      have i1 : decide ((i : Int) < (cs.length : Int)) = true := by simp; omega
      have HST2 : Hid (EoSt w (Obj.cells #[Value.slice (some ⟨b1, o1, none⟩) cs.length ca, Value.slice b ts.length cb] 28) cs.length U (usesC cs i) (wr.alloc (Obj.cells #[Value.int .i64 d.k, Value.int .i64 d.n, Value.string d.s, Value.int .i64 d.l, Value.int .i64 d.r] 67))) := HST.out.alloc _
      have HX : Hid ((wr.alloc (Obj.cells #[Value.int .i64 d.k, Value.int .i64 d.n, Value.string d.s, Value.int .i64 d.l, Value.int .i64 d.r] 67)).heap[wr.heap.size]? = some (Obj.cells #[Value.int .i64 d.k, Value.int .i64 d.n, Value.string d.s, Value.int .i64 d.l, Value.int .i64 d.r] 67)) := blk_alloc _ _
      obtain ⟨k, n, s, l, r⟩ := d
      simp only at *
      by_cases h5 : k = 5
      · subst h5
        by_cases hl : 0 ≤ l ∧ l < i
        · obtain ⟨q1, q2⟩ := hl
          obtain ⟨L, rfl⟩ := Int.eq_ofNat_of_zero_le q1
          have hLn : L < cs.length := by omega
          have hul2 : (usesC cs i).length ≤ 4194304 := by omega
          have hcl := HLE.out L hLn
          by_cases hc0 : (usesC cs i).count (L : Int) = 0
          · have hul3 : (usesC cs i ++ [(L : Int)]).length ≤ 4194304 := by simp; omega
            go_wp2_with fail
            refine (use_new (i : Int) HST2.out hn hLn q2 hul2 hc0).mono ?_
            rintro e w2 ⟨rfl, hs2, hk2⟩
            have hx2 := (hk2 wr.heap.size (by omega)).trans HX.out
            have v4 := cell_blk (j := 4) hx2 rfl
            have HS2 : Hid (EoSt w (Obj.cells #[Value.slice (some ⟨b1, o1, none⟩) cs.length ca, Value.slice b ts.length cb] 28) cs.length U (usesC cs i ++ [(L : Int)]) w2) := hs2
            clear hs2 hk2 hx2
            by_cases hr : 0 ≤ r ∧ r < i
            · obtain ⟨q3, q4⟩ := hr
              obtain ⟨R, rfl⟩ := Int.eq_ofNat_of_zero_le q3
              have hRn : R < cs.length := by omega
              have hpe : partsOf (⟨5, n, s, (L : Int), (R : Int)⟩ : Dat) = [(L : Int)] ++ [(R : Int)] := rfl
              rw [hpe, ← List.append_assoc] at HU' hpf
              by_cases hc1 : (usesC cs i ++ [(L : Int)]).count (R : Int) = 0
              · go_wp2_with fail
                refine (use_new (i : Int) HS2.out hn hRn q4 hul3 hc1).mono ?_
                rintro e w3 ⟨rfl, hs3, hk3⟩
                have HS3 : Hid (EoSt w (Obj.cells #[Value.slice (some ⟨b1, o1, none⟩) cs.length ca, Value.slice b ts.length cb] 28) cs.length U (usesC cs i ++ [(L : Int)] ++ [(R : Int)]) w3) := hs3
                clear hs3 hk3
                go_wp2
                go_roundw
                case rel =>
                  refine ⟨i + 1, by omega, by go_num, ?_, ?_, by rw [HU'.out]; exact HS3.out⟩
                  · intro j d hj hdj h5
                    by_cases hji : j = i
                    · subst hji
                      obtain rfl := Option.some.inj (hd.symm.trans hdj)
                      exact ⟨q1, q2, q3, q4⟩
                    · exact HPT.out j d (by omega) hdj h5
                  · intro j hj
                    rw [HU'.out]
                    have h1 := HLE.out j hj
                    rw [List.count_append] at hc1
                    rw [List.count_append, List.count_append]
                    by_cases hjL : (L : Int) = (j : Int)
                    · have : (R : Int) ≠ (j : Int) := by
                        intro e
                        rw [e, ← hjL] at hc1
                        simp at hc1
                      rw [← hjL] at h1 this ⊢
                      simp [hc0, this]
                    · by_cases hjR : (R : Int) = (j : Int)
                      · rw [← hjR]
                        have h2 : (usesC cs i).count (R : Int) = 0 := by omega
                        have h3 : (L : Int) ≠ (R : Int) := by rw [hjR]; exact hjL
                        simp [h2, h3]
                      · simp [hjL, hjR]; exact h1
                case measure => simp [intOf]; omega
              · have HF : Hid (treeB cs ts = false) := treeB_false (TreeP.not_of_count hRn hpf.out (count_snoc_two hc1))
                go_wp2_with fail
                refine (use_old (i : Int) HS2.out hn hRn q4 hul3 hc1).mono ?_
                rintro e w3 ⟨rfl, hs3, hk3⟩
                have hb3 := hs3.2.2.2.1
                clear hs3 hk3
                go_wp2
                go_ret
                exact ⟨by rw [HF.out]; rfl, hb3⟩
            · have HF : Hid (treeB cs ts = false) := treeB_false (TreeP.not_of_pair hd rfl (by simp only; omega))
              go_wp2_with fail
              refine (use_out' r (i : Int) HS2.out hr).mono ?_
              rintro e w3 ⟨rfl, rfl⟩
              have hb3 := HS2.out.2.2.2.1
              go_wp2
              go_ret
              exact ⟨by rw [HF.out]; rfl, hb3⟩
          · have HF : Hid (treeB cs ts = false) := treeB_false (TreeP.not_of_count hLn ((List.prefix_append (usesC cs i ++ [(L : Int)]) [r]).trans (by rw [List.append_assoc]; exact hpf.out)) (count_snoc_two hc0))
            go_wp2_with fail
            refine (use_old (i : Int) HST2.out hn hLn q2 hul2 hc0).mono ?_
            rintro e w3 ⟨rfl, hs3, hk3⟩
            have hb3 := hs3.2.2.2.1
            clear hs3 hk3
            go_wp2
            go_ret
            exact ⟨by rw [HF.out]; rfl, hb3⟩
        · have HF : Hid (treeB cs ts = false) := treeB_false (TreeP.not_of_pair hd rfl (by simp only; omega))
          go_wp2_with fail
          refine (use_out' l (i : Int) HST2.out hl).mono ?_
          rintro e w3 ⟨rfl, rfl⟩
          have hb3 := HST2.out.2.2.2.1
          go_wp2
          go_ret
          exact ⟨by rw [HF.out]; rfl, hb3⟩
      · have h5' : (k == 5) = false := by simp [h5]
        have hpo : partsOf (⟨k, n, s, l, r⟩ : Dat) = [] := if_neg h5
        rw [hpo, List.append_nil] at HU'
        go_wp2
        go_roundw
        case rel =>
          refine ⟨i + 1, by omega, by go_num, ?_, by rw [HU'.out]; exact HLE.out, by rw [HU'.out]; exact HST2.out⟩
          intro j d hj hdj h5j
          by_cases hji : j = i
          · subst hji
            obtain rfl := Option.some.inj (hd.symm.trans hdj)
            exact absurd h5j h5
          · exact HPT.out j d (by omega) hdj h5j
        case measure => simp [intOf]; omega
    · have i1 : decide ((i : Int) < (cs.length : Int)) = false := by simp; omega
      obtain rfl : i = cs.length := by omega
      rw [usesC_all] at HST HLE
      have HP : Hid (PairOk cs) := fun j d hj h5 => HPT.out j d (List.getElem?_eq_some_iff.1 hj).1 hj h5
      have hul2 : Hid ((cs.flatMap partsOf).length ≤ 2097152) := by
        rw [usesC_all] at hul
        show _ ≤ _; omega
      have e1 := cell_blk (j := 1) HST.out.1 rfl
      clear HPT hul
      go_wp2
      go_loopw [44] (fun o wr => ∃ (i : Nat), i ≤ ts.length ∧ o = .int .i64 i ∧ (∀ t ∈ ts.take i, 0 ≤ t ∧ t < cs.length) ∧ (∀ j : Nat, j < cs.length → (cs.flatMap partsOf ++ ts.take i).count (j : Int) ≤ 1) ∧ EoSt w (Obj.cells #[Value.slice a cs.length ca, Value.slice b ts.length cb] 28) cs.length U (cs.flatMap partsOf ++ ts.take i) wr)
        (fun o _ => ts.length - (intOf o).toNat)
      case atStart => exact ⟨0, by omega, rfl, by simp, by simpa using HLE.out, by simpa using HST.out⟩
      case round =>
        clear HST HLE hb e1 hUw hU1 hsz
        obtain ⟨i, hi, rfl, htt, hle, hst⟩ := hrel
        have HST : Hid (EoSt w (Obj.cells #[Value.slice a cs.length ca, Value.slice b ts.length cb] 28) cs.length U (cs.flatMap partsOf ++ ts.take i) wr) := hst
        have HTT : Hid (∀ t ∈ ts.take i, 0 ≤ t ∧ t < cs.length) := htt
        have HLE : Hid (∀ j : Nat, j < cs.length → (cs.flatMap partsOf ++ ts.take i).count (j : Int) ≤ 1) := hle
        have hb := hst.2.2.2.1
        have e0 := cell_blk (j := 0) hst.1 rfl
        have e1 := cell_blk (j := 1) hst.1 rfl
        have eU := cell_blk (j := 0) hst.2.2.1 rfl
        have hus : (cs.flatMap partsOf ++ ts.take i).length ≤ 4194304 := by
          rw [List.length_append, List.length_take]
          have := hul2.out
          omega
        clear htt hle hst
        by_cases hlt : i < ts.length
        · obtain ⟨t, ht⟩ : ∃ t, ts[i]? = some t := ⟨_, List.getElem?_eq_getElem hlt⟩
          obtain ⟨b1, o1, rfl, hbb, c0⟩ := (HI.out.below hb) i t ht
          have i1 : decide ((i : Int) < (ts.length : Int)) = true := by simp; omega
          have hsn : Hid (cs.flatMap partsOf ++ ts.take (i + 1) = cs.flatMap partsOf ++ ts.take i ++ [t]) := by
            show _ = _; rw [List.take_add_one, ht, Option.toList_some, List.append_assoc]
          by_cases hin : 0 ≤ t ∧ t < cs.length
          · obtain ⟨q1, q2⟩ := hin
            obtain ⟨T, rfl⟩ := Int.eq_ofNat_of_zero_le q1
            have hTn : T < cs.length := by omega
            by_cases hc0 : (cs.flatMap partsOf ++ ts.take i).count (T : Int) = 0
            · go_wp2_with fail
              refine (use_new (cs.length : Int) HST.out hn hTn q2 hus hc0).mono ?_
              rintro e w3 ⟨rfl, hs3, hk3⟩
              have HS3 : Hid (EoSt w (Obj.cells #[Value.slice a cs.length ca, Value.slice (some ⟨b1, o1, none⟩) ts.length cb] 28) cs.length U (cs.flatMap partsOf ++ ts.take i ++ [(T : Int)]) w3) := hs3
              clear hs3 hk3
              go_wp2
              go_roundw
              case rel =>
                refine ⟨i + 1, by omega, by go_num, ?_, ?_, by rw [hsn.out]; exact HS3.out⟩
                · intro u hu
                  rw [List.take_add_one, ht] at hu
                  rcases List.mem_append.1 hu with hu | hu
                  · exact HTT.out u hu
                  · simp at hu
                    subst hu
                    exact ⟨q1, q2⟩
                · intro j hj
                  rw [hsn.out, List.count_append]
                  have h1 := HLE.out j hj
                  by_cases hjT : (T : Int) = (j : Int)
                  · rw [← hjT, hc0]; simp
                  · rw [List.count_singleton, if_neg (by simpa using hjT)]; omega
              case measure => simp [intOf]; omega
            · have HF : Hid (treeB cs ts = false) := treeB_false (TreeP.not_of_count hTn (by rw [← hsn.out]; exact usesT_prefix cs ts (i + 1)) (count_snoc_two hc0))
              go_wp2_with fail
              refine (use_old (cs.length : Int) HST.out hn hTn q2 hus hc0).mono ?_
              rintro e w3 ⟨rfl, hs3, hk3⟩
              have hb3 := hs3.2.2.2.1
              clear hs3 hk3
              go_wp2
              go_ret
              exact ⟨by rw [HF.out]; rfl, hb3⟩
          · have HF : Hid (treeB cs ts = false) := treeB_false (TreeP.not_of_top ht hin)
            go_wp2_with fail
            refine (use_out' t (cs.length : Int) HST.out hin).mono ?_
            rintro e w3 ⟨rfl, rfl⟩
            go_wp2
            go_ret
            exact ⟨by rw [HF.out]; rfl, hb⟩
        · have i1 : decide ((i : Int) < (ts.length : Int)) = false := by simp; omega
          obtain rfl : i = ts.length := by omega
          rw [List.take_length] at HTT HLE HST
          have HCT : Hid (Calls Tryd.prog 64 #[.slice (some ⟨w.heap.size + 1, 0, none⟩) cs.length cs.length, .int .i64 0] wr fun e w' => e = .returned (.bool (!treeB cs ts)) ∧ w' = wr) := contains_any HST.out hn HP.out HTT.out HLE.out
          cases htb : treeB cs ts with
          | true =>
            rw [htb] at HCT
            go_wp2_with fail
            refine HCT.out.mono ?_
            rintro e w3 ⟨rfl, rfl⟩
            go_wp2
            go_ret
            exact ⟨by rw [htb]; rfl, hb⟩
          | false =>
            rw [htb] at HCT
            go_wp2_with fail
            refine HCT.out.mono ?_
            rintro e w3 ⟨rfl, rfl⟩
            go_wp2
            go_ret
            exact ⟨by rw [htb]; rfl, hb⟩
end Go.Proofs.YtgfkmppkeolckaaDoor
