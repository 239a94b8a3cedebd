/- The program's reader: a datum. The program's Read: its deferred function. The program's Read. -/
import Derived.Test.YtgfkmppkeolckaaDoorPge
import Derived.Defers
import Derived.Recover
set_option linter.unusedVariables false
namespace Go.Proofs.YtgfkmppkeolckaaDoor
open Go.ChangeShapes Go.WideShapes Go.ChangeAt Go.RowKit
theorem atomP_none (st : St) : atomP st ⟨#[]⟩ = .error st.la := by
  have h : atomD ⟨#[]⟩ = none := by
    unfold atomD
    rw [if_neg (by decide), if_neg (by rw [ByteArray.toList_eq]; decide), if_neg (by rw [ByteArray.toList_eq]; decide), if_neg (by decide)]
  simp only [atomP, h]
theorem tk_size (t : ByteArray) (b : Nat) (hs : t.size ≤ 33554432) : (tk t b).size ≤ 33554432 := by
  unfold tk
  rw [ByteArray.size_extract]
  omega
set_option maxRecDepth 100000 in
set_option maxHeartbeats 1000000 in
theorem datum_list (R : Nat) (s : ByteArray) (w : World) (P : Ending → World → Prop) (q40 : (s.toList == [40]) = true) (h : Calls Tryd.prog 54 #[.pointer (some ⟨R, 0, none⟩)] w P) (hP : ∀ e w', P e w' → (∃ x, e = .returned (.int .i64 x)) ∨ ∃ p, e = bad p) :
    Calls Tryd.prog 26 #[.pointer (some ⟨R, 0, none⟩), .string s] w P := by
  have H : Hid (Calls Tryd.prog 54 #[.pointer (some ⟨R, 0, none⟩)] w P) := h
  have HP : Hid (∀ e w', P e w' → (∃ x, e = .returned (.int .i64 x)) ∨ ∃ p, e = bad p) := hP
  clear h hP
  go_enter Tryd.func26, Tryd.ntmps26
  go_wp2_with fail
  refine H.out.mono ?_
  intro e w2 hp
  rcases HP.out e w2 hp with ⟨v, rfl⟩ | ⟨p, rfl⟩
  · go_wp2
    exact hp
  · simp only [bad] at hp ⊢
    go_wp2
    exact ⟨rfl, hp⟩
set_option maxRecDepth 100000 in
set_option maxHeartbeats 1000000 in
theorem datum_quote (R : Nat) (s : ByteArray) (w : World) (P : Ending → World → Prop) (q40 : (s.toList == [40]) = false) (q39 : (s.toList == [39]) = true) (h : Calls Tryd.prog 55 #[.pointer (some ⟨R, 0, none⟩)] w P) (hP : ∀ e w', P e w' → (∃ x, e = .returned (.int .i64 x)) ∨ ∃ p, e = bad p) :
    Calls Tryd.prog 26 #[.pointer (some ⟨R, 0, none⟩), .string s] w P := by
  have H : Hid (Calls Tryd.prog 55 #[.pointer (some ⟨R, 0, none⟩)] w P) := h
  have HP : Hid (∀ e w', P e w' → (∃ x, e = .returned (.int .i64 x)) ∨ ∃ p, e = bad p) := hP
  clear h hP
  go_enter Tryd.func26, Tryd.ntmps26
  go_wp2_with fail
  refine H.out.mono ?_
  intro e w2 hp
  rcases HP.out e w2 hp with ⟨v, rfl⟩ | ⟨p, rfl⟩
  · go_wp2
    exact hp
  · simp only [bad] at hp ⊢
    go_wp2
    exact ⟨rfl, hp⟩
set_option maxRecDepth 100000 in
set_option maxHeartbeats 1000000 in
theorem datum_word (R : Nat) (s : ByteArray) (w : World) (P : Ending → World → Prop) (q40 : (s.toList == [40]) = false) (q39 : (s.toList == [39]) = false) (h : Calls Tryd.prog 56 #[.pointer (some ⟨R, 0, none⟩), .string s] w P) (hP : ∀ e w', P e w' → (∃ x, e = .returned (.int .i64 x)) ∨ ∃ p, e = bad p) :
    Calls Tryd.prog 26 #[.pointer (some ⟨R, 0, none⟩), .string s] w P := by
  have H : Hid (Calls Tryd.prog 56 #[.pointer (some ⟨R, 0, none⟩), .string s] w P) := h
  have HP : Hid (∀ e w', P e w' → (∃ x, e = .returned (.int .i64 x)) ∨ ∃ p, e = bad p) := hP
  clear h hP
  go_enter Tryd.func26, Tryd.ntmps26
  go_wp2_with fail
  refine H.out.mono ?_
  intro e w2 hp
  rcases HP.out e w2 hp with ⟨v, rfl⟩ | ⟨p, rfl⟩
  · go_wp2
    exact hp
  · simp only [bad] at hp ⊢
    go_wp2
    exact ⟨rfl, hp⟩
theorem PgPost.two {R B : Nat} {t : ByteArray} {deep : Nat} {r : Except Nat St} {w : World} : ∀ e w', PgPost R B t deep r w e w' → (∃ x, e = .returned (.int .i64 x)) ∨ ∃ p, e = bad p := by
  rintro e w' (⟨st, a1, a2, a3, a4, a5⟩ | ⟨p, a1, a2, a3⟩)
  · exact .inl ⟨_, a2⟩
  · exact .inr ⟨_, a2⟩
theorem datum_any (R B : Nat) (t : ByteArray) (hs : t.size ≤ 33554432) (hB : B ≤ R) (f : Nat) : ∀ deep, deep ≤ 24 → DatQ R B t f deep := by
  induction f using Nat.strongRecOn with
  | ind f ih =>
    intro deep hdeep b cs w hb hbt hf hrs
    cases f with
    | zero => omega
    | succ f =>
      rw [datP_succ]
      by_cases hN : tkE t b = b
      · rw [if_pos hN]
        have hbs : b = t.size := by
          rcases hbt with h | h
          · exact h
          · exact absurd hN h
        have htk : tk t b = ⟨#[]⟩ := by rw [hbs]; exact tk_end t
        rw [htk]
        have hw := word_any R B t deep ⟨tkE t b, b, cs⟩ ⟨#[]⟩ w (by decide) hB hrs
        rw [atomP_none] at hw
        exact datum_word R _ w _ (by rw [ByteArray.toList_eq]; decide) (by rw [ByteArray.toList_eq]; decide) hw PgPost.two
      · rw [if_neg hN]
        have h1 := tkE_ge t b
        have h2 := tkE_le t b hb
        by_cases q40 : ((tk t b).toList == [40]) = true
        · rw [if_pos q40]
          exact datum_list R _ w _ q40 (list_any R B t f deep ⟨tkE t b, b, cs⟩ w hs hB hdeep (by show 2 * (t.size - tkE t b) + 2 ≤ f; omega) (fun g hg deep hd => ih g (by omega) deep hd) hrs) PgPost.two
        · rw [if_neg q40]
          by_cases q39 : ((tk t b).toList == [39]) = true
          · rw [if_pos q39]
            have hbl : b < t.size := by
              rcases Nat.lt_or_ge b t.size with h | h
              · exact h
              · exact absurd (by have : b = t.size := by omega
                                 rw [this]; exact tkE_fin t) hN
            exact datum_quote R _ w _ (by simpa using q40) q39 (quoted_any R B t f deep ⟨tkE t b, b, cs⟩ w hs hB hdeep (by show 2 * (t.size - tkE t b) + 1 ≤ f; omega) (fun deep hd => ih f (by omega) deep hd) hrs) PgPost.two
          · rw [if_neg q39]
            exact datum_word R _ w _ (by simpa using q40) (by simpa using q39) (word_any R B t deep ⟨tkE t b, b, cs⟩ _ w (tk_size t b hs) hB hrs) PgPost.two
end Go.Proofs.YtgfkmppkeolckaaDoor
set_option linter.unusedVariables false
namespace Go.Proofs.YtgfkmppkeolckaaDoor
open Go.ChangeShapes Go.WideShapes Go.ChangeAt Go.RowKit
set_option maxRecDepth 100000 in
set_option maxHeartbeats 1000000 in
theorem catch_bad (D E p : Nat) (x0 x1 x2 : Value) (w : World) (hD : w.heap[D]? = some (.cells #[x0, x1] 28 (0, 0))) (hE : w.heap[E]? = some (.cells #[x2] 3 (0, 0))) (hDE : ¬ D = E) (hED : ¬ E = D) :
    CallsD Tryd.prog 24 #[.pointer (some ⟨D, 0, none⟩), .pointer (some ⟨E, 0, none⟩)] (.panicking [{ v := .iface 47 (.int .i64 (p : Int)), recovered := false }]) w fun e u' w' =>
      e = .returned (.tuple #[]) ∧ u' = .panicking [{ v := .iface 47 (.int .i64 (p : Int)), recovered := true }] ∧ w' = ((w.setCell ⟨D, 0, none⟩ (.slice none 0 0)).setCell ⟨D, 1, none⟩ (.slice none 0 0)).setCell ⟨E, 0, none⟩ (.int .i64 (p : Int)) := by
  have c0 := cell_blk (j := 0) hD rfl
  have c1 := cell_blk (j := 1) hD rfl
  have c2 := cell_blk (j := 0) hE rfl
  have f0 := frozen_blk hD 0
  have f1 := frozen_blk hD 1
  have f2 := frozen_blk hE 0
  have hta : ∀ w, (Instr.typeAssert (.iface 47 (.int .i64 (p : Int))) 20 47 true).run Tryd.prog w = .ok (.tuple #[.int .i64 (p : Int), .bool true]) w := fun w => by kernel_rfl
  refine callsD_of_wpS Tryd.func24 rfl fun c₀ cs hu => ?_
  simp only [Tryd.ntmps24, List.size_toArray, List.length_cons, List.length_nil, Nat.reduceAdd, Nat.reduceSub, Array.replicate_succ, Array.replicate_zero, List.push_toArray, List.append_toArray, List.nil_append, List.cons_append]
  apply wpS_seq
  apply wpS_region
  simp [wpOpsS, go_sem, recoverD, hu, Exit.thenS, hta]
  refine wpS_of_wp ?_
  go_wp2
  simp [bodyPostS, results, Tryd.results24]
theorem catch_idle (D E : Nat) (w : World) :
    CallsD Tryd.prog 24 #[.pointer (some ⟨D, 0, none⟩), .pointer (some ⟨E, 0, none⟩)] .returning w fun e u' w' => e = .returned (.tuple #[]) ∧ u' = .returning ∧ w' = w := by
  have hta : ∀ w, (Instr.typeAssert .nilIface 20 47 true).run Tryd.prog w = .ok (.tuple #[.int .i64 0, .bool false]) w := fun w => by kernel_rfl
  refine callsD_of_wpS Tryd.func24 rfl fun c₀ cs hu => ?_
  simp only [Tryd.ntmps24, List.size_toArray, List.length_cons, List.length_nil, Nat.reduceAdd, Nat.reduceSub, Array.replicate_succ, Array.replicate_zero, List.push_toArray, List.append_toArray, List.nil_append, List.cons_append]
  apply wpS_seq
  apply wpS_region
  simp [wpOpsS, go_sem, recoverD, hu, Exit.thenS, hta]
  refine wpS_of_wp ?_
  go_wp2
  cases c₀
  simp_all [bodyPostS, results, Tryd.results24]
end Go.Proofs.YtgfkmppkeolckaaDoor
set_option linter.unusedVariables false
namespace Go.Proofs.YtgfkmppkeolckaaDoor
open Go.ChangeShapes Go.WideShapes Go.ChangeAt Go.RowKit
theorem own_base {w : World} {B B' T k n : Nat} {v : Value} {xs : List Value} (h : w.ownsRow B T k v n xs) (hB : B' ≤ B) : w.ownsRow B' T k v n xs := by
  obtain ⟨hl, h0 | ⟨g, cap, cur, hv, a1, hblk, a3, a4, a5, a6⟩⟩ := h
  · exact ⟨hl, .inl h0⟩
  · exact ⟨hl, .inr ⟨g, cap, cur, hv, Nat.le_trans hB a1, hblk, a3, a4, a5, a6⟩⟩
/-- On the way through a text: the token at b has been read. -/
def RQ (R B : Nat) (t : ByteArray) (F : Nat) (w0 : World) (L : Except Nat (St × List Int)) (pv kv : Value) (wr : World) : Prop :=
  ∃ (b g : Nat) (st : St) (ts : List Int) (ta : Option Addr) (tc : Nat), kv = .string (tk t b) ∧ pv = .slice ta ts.length tc ∧ b = skAt t st.nx ∧ b ≤ t.size ∧ (b = t.size ∨ tkE t b ≠ b) ∧ RS R B t 0 ⟨tkE t b, b, st.cs⟩ wr ∧ T3 w0 (.slice ta ts.length tc) ts wr ∧ Below B w0 wr ∧ Lib.OthersKept 67 (some R) w0 wr ∧ L = topP t F g ts st ∧ t.size - b + 1 ≤ g ∧ ts.length ≤ b
def RQm (R : Nat) (t : ByteArray) (wr : World) : Nat := t.size + 1 - (intOf ((wr.cell? ⟨R, 1, none⟩).getD undef)).toNat
theorem RQm_at {R B : Nat} {t : ByteArray} {deep : Nat} {st : St} {W : World} (h : RS R B t deep st W) : RQm R t W = t.size + 1 - st.la := by
  obtain ⟨_, _, v, h, _⟩ := h
  unfold RQm
  rw [cell_blk (j := 1) h rfl]
  simp [intOf]
theorem topP_err {t : ByteArray} {F g : Nat} {ts : List Int} {st : St} (hF : 1 ≤ F) (hg : 1 ≤ g) (hb : skAt t st.nx < t.size) (h : tkE t (skAt t st.nx) = skAt t st.nx) : topP t F g ts st = .error (skAt t st.nx) := by
  obtain ⟨g', rfl⟩ : ∃ g', g = g' + 1 := ⟨g - 1, by omega⟩
  rw [topP, if_neg (by omega), datP_none t F _ _ _ hF h]
  rfl
theorem ret5 {tmps : Array Value} {W : World} {D E : Nat} {v0 v1 : Value} {x : Int} (h2 : tmps.getD 2 undef = .pointer (some ⟨D, 0, none⟩)) (h3 : tmps.getD 3 undef = .pointer (some ⟨E, 0, none⟩)) (hD : W.heap[D]? = some (.cells #[v0, v1] 28 (0, 0))) (hE : W.heap[E]? = some (.cells #[.int .i64 x] 3 (0, 0))) :
    (results Tryd.f8 tmps).run Tryd.prog W = .ok (.tuple #[.agg #[v0, v1], .int .i64 x]) W := by
  have h2' : tmps[2]?.getD undef = .pointer (some ⟨D, 0, none⟩) := by simpa using h2
  have h3' : tmps[3]?.getD undef = .pointer (some ⟨E, 0, none⟩) := by simpa using h3
  have c := cell_blk (j := 0) hE rfl
  have c' : (loadVar 3 ⟨E, 0, none⟩).run Tryd.prog W = .ok (.int .i64 x) W := by simp [go_sem, c, Tryd.isAgg3]
  simp [results, Tryd.results8, h2', h3', asAddr, run_loadVar_row _ D 28 28 _ (0, 0) _ hD Tryd.underlying28 rfl Tryd.info25s, c']
theorem leave5 {tmps : Array Value} {W : World} {D E : Nat} {v0 v1 : Value} {x : Int} {Q : Ending → World → Prop} (h2 : tmps.getD 2 undef = .pointer (some ⟨D, 0, none⟩)) (h3 : tmps.getD 3 undef = .pointer (some ⟨E, 0, none⟩)) (hD : W.heap[D]? = some (.cells #[v0, v1] 28 (0, 0))) (hE : W.heap[E]? = some (.cells #[.int .i64 x] 3 (0, 0))) (h : Q (.returned (.tuple #[.agg #[v0, v1], .int .i64 x])) W) :
    Leaves Tryd.prog Tryd.f8 tmps Q [] .returning W := by
  simp only [Leaves]
  exact ⟨_, ret5 h2 h3 hD hE, h⟩
/-- The function's deferred call, as it stands in a frame. -/
def dfr (w : World) : List Deferred := [{ target := Target.fn (Fn.func 24) #[.pointer (some ⟨w.heap.size, 0, none⟩), .pointer (some ⟨w.heap.size + 1, 0, none⟩)], args := #[] }]
theorem below_3 {w W : World} (h : Below w.heap.size w W) (v0 v1 x : Value) : Below w.heap.size w (((W.setCell ⟨w.heap.size, 0, none⟩ v0).setCell ⟨w.heap.size, 1, none⟩ v1).setCell ⟨w.heap.size + 1, 0, none⟩ x) :=
  ((h.setCell (p := ⟨w.heap.size, _, none⟩) (Nat.le_refl _) _).setCell (p := ⟨w.heap.size, _, none⟩) (Nat.le_refl _) _).setCell (p := ⟨w.heap.size + 1, _, none⟩) (by show w.heap.size ≤ w.heap.size + 1; omega) _
theorem set3_D {w W : World} {x0 x1 x2 : Value} (hD : W.heap[w.heap.size]? = some (.cells #[x0, x1] 28 (0, 0))) (v0 v1 x : Value) : (((W.setCell ⟨w.heap.size, 0, none⟩ v0).setCell ⟨w.heap.size, 1, none⟩ v1).setCell ⟨w.heap.size + 1, 0, none⟩ x).heap[w.heap.size]? = some (.cells #[v0, v1] 28 (0, 0)) :=
  (heap_setCell_other _ _ _ _ (by show w.heap.size ≠ w.heap.size + 1; omega)).trans (heap_setCell_same _ _ 1 _ _ v1 (heap_setCell_same _ _ 0 _ _ v0 hD))
theorem set3_E {w W : World} {x2 : Value} (hE : W.heap[w.heap.size + 1]? = some (.cells #[x2] 3 (0, 0))) (v0 v1 x : Value) : (((W.setCell ⟨w.heap.size, 0, none⟩ v0).setCell ⟨w.heap.size, 1, none⟩ v1).setCell ⟨w.heap.size + 1, 0, none⟩ x).heap[w.heap.size + 1]? = some (.cells #[x] 3 (0, 0)) :=
  heap_setCell_same _ _ 0 _ _ x ((heap_setCell_other _ _ _ _ (by show w.heap.size + 1 ≠ w.heap.size; omega)).trans ((heap_setCell_other _ _ _ _ (by show w.heap.size + 1 ≠ w.heap.size; omega)).trans hE))
/-- Out of the function by a panic: it is recovered. -/
theorem bad5 {tmps : Array Value} {w W : World} {L : Except Nat (St × List Int)} {p : Nat} {x0 x1 x2 : Value} (h2 : tmps.getD 2 undef = .pointer (some ⟨w.heap.size, 0, none⟩)) (h3 : tmps.getD 3 undef = .pointer (some ⟨w.heap.size + 1, 0, none⟩)) (hD : W.heap[w.heap.size]? = some (.cells #[x0, x1] 28 (0, 0))) (hE : W.heap[w.heap.size + 1]? = some (.cells #[x2] 3 (0, 0))) (hb : Below w.heap.size w W) (hL : L = .error p) :
    bodyPostD Tryd.prog Tryd.f8 (fun e w' => RdS w L e w') (.panic [{ v := .iface 47 (.int .i64 (p : Int)), recovered := false }]) { tmps := tmps, defers := dfr w } W := by
  refine leaves_cons (f := 24) (args := #[.pointer (some ⟨w.heap.size, 0, none⟩), .pointer (some ⟨w.heap.size + 1, 0, none⟩)]) (by simp) (by simp [go_sem]) ?_
  refine (catch_bad w.heap.size (w.heap.size + 1) p _ _ _ _ hD hE (by omega) (by omega)).mono ?_
  rintro e u' w'' ⟨rfl, rfl, rfl⟩
  refine leave5 h2 h3 (set3_D (x2 := x2) hD _ _ _) (set3_E hE _ _ _) ?_
  rw [hL]
  exact ⟨rfl, below_3 hb _ _ _⟩
/-- Out of the function by its end. -/
theorem end5 {tmps : Array Value} {w W : World} {L : Except Nat (St × List Int)} {v0 v1 : Value} {x : Int} (h2 : tmps.getD 2 undef = .pointer (some ⟨w.heap.size, 0, none⟩)) (h3 : tmps.getD 3 undef = .pointer (some ⟨w.heap.size + 1, 0, none⟩)) (hD : W.heap[w.heap.size]? = some (.cells #[v0, v1] 28 (0, 0))) (hE : W.heap[w.heap.size + 1]? = some (.cells #[.int .i64 x] 3 (0, 0))) (h : RdS w L (.returned (.tuple #[.agg #[v0, v1], .int .i64 x])) W) :
    bodyPostD Tryd.prog Tryd.f8 (fun e w' => RdS w L e w') .ret { tmps := tmps, defers := dfr w } W := by
  refine leaves_cons (f := 24) (args := #[.pointer (some ⟨w.heap.size, 0, none⟩), .pointer (some ⟨w.heap.size + 1, 0, none⟩)]) (by simp) (by simp [go_sem]) ?_
  refine (catch_idle w.heap.size (w.heap.size + 1) _).mono ?_
  rintro e u' w'' ⟨rfl, rfl, rfl⟩
  exact leave5 h2 h3 hD hE h
set_option maxRecDepth 100000 in
set_option maxHeartbeats 1000000 in
theorem implRead_any (t : ByteArray) (F f : Nat) (w : World) (hs : t.size ≤ 33554432) (hF : 2 * t.size + 2 ≤ F) (hf : t.size + 1 ≤ f) :
    Calls Tryd.prog 8 #[.string t] w fun e w' => RdS w (topP t F f [] ⟨0, 0, []⟩) e w' := by
  obtain ⟨i3, hi3, hz30, hz31, hz32⟩ := info_parts bldInfo3
  obtain ⟨L, hL⟩ : ∃ L, L = topP t F f [] ⟨0, 0, []⟩ := ⟨_, rfl⟩
  rw [← hL]
  have HL : Hid (L = topP t F f [] ⟨0, 0, []⟩) := hL
  clear hL
  have hmf : ∀ (fn : Fn) (first cap : Array Value) (w : World), (Instr.makeFunc fn first cap).run Tryd.prog w = .ok (.func fn first cap) w := fun _ _ _ _ => rfl
  obtain ⟨R, hRd⟩ : ∃ R, R = w.heap.size + 1 + 1 := ⟨_, rfl⟩
  obtain ⟨w0, hw0⟩ : ∃ w0, w0 = (((w.alloc (Obj.cells #[Value.slice none 0 0, Value.slice none 0 0] 28)).alloc (Obj.cells #[Value.int .i64 0] 3)).alloc (Obj.cells #[Value.string t, Value.int .i64 0, Value.int .i64 0, Value.int .i64 0, Value.slice none 0 0] 50)) := ⟨_, rfl⟩
  have hb0 : Below w.heap.size w w0 := by rw [hw0]; exact (((Below.refl _ _).alloc (Nat.le_refl _) _).alloc (by simp) _).alloc (by simp; omega) _
  have k0 : w0.heap[w.heap.size]? = some (Obj.cells #[Value.slice none 0 0, Value.slice none 0 0] 28) := by rw [hw0]; exact blk_past (blk_past (blk_at _ _ _ rfl))
  have k1 : w0.heap[w.heap.size + 1]? = some (Obj.cells #[Value.int .i64 0] 3) := by rw [hw0]; exact blk_past (blk_at _ _ _ (by simp))
  have k2 : w0.heap[R]? = some (RdB t 0 0 0 (.slice none 0 0)) := by rw [hw0]; exact blk_at _ _ _ (by rw [hRd]; simp)
  have hz0 : w0.heap.size = R + 1 := by rw [hw0, hRd]; simp
  have HS0 : Hid (RS R R t 0 ⟨0, 0, []⟩ w0) := ⟨Nat.zero_le _, by simp, _, k2, by simp [flatD], .inl ⟨rfl, rfl⟩⟩
  have HW0 : Hid (w0 = (((w.alloc (Obj.cells #[Value.slice none 0 0, Value.slice none 0 0] 28)).alloc (Obj.cells #[Value.int .i64 0] 3)).alloc (Obj.cells #[Value.string t, Value.int .i64 0, Value.int .i64 0, Value.int .i64 0, Value.slice none 0 0] 50))) := hw0
  have HR : Hid (R = w.heap.size + 1 + 1) := hRd
  have HB0 : Hid (Below w.heap.size w w0) := hb0
  have HK0 : Hid (w0.heap[w.heap.size]? = some (Obj.cells #[Value.slice none 0 0, Value.slice none 0 0] 28)) := k0
  have HK1 : Hid (w0.heap[w.heap.size + 1]? = some (Obj.cells #[Value.int .i64 0] 3)) := k1
  clear hb0 k0 k1 k2 hw0
  have HTK : Hid (Calls Tryd.prog 25 #[.pointer (some ⟨w.heap.size + 1 + 1, 0, none⟩)] w0 fun e w' => TkS R R t 0 (skAt t 0) [] w0 e w') := by
    rw [← hRd]; exact token_rs R R t 0 ⟨0, 0, []⟩ w0 hs (Nat.le_refl _) HS0.out
  go_enter_defers Tryd.func8, Tryd.ntmps8
  go_wp2_with fail
  rw [← HW0.out, ← hRd]
  rw [← hRd] at HTK
  have hR1 : w.heap.size + 1 < R := by omega
  clear hRd
  refine HTK.out.mono ?_
  rintro e w2 (⟨b1, b2, rfl, b4⟩ | ⟨b1, rfl, b3, b4, b5⟩)
  · have HLz : Hid (L = .error (skAt t 0)) := by
      have := HL.out
      rw [topP_err (by omega) (by omega) b2 b1] at this
      exact this
    have hD : w2.heap[w.heap.size]? = some (Obj.cells #[Value.slice none 0 0, Value.slice none 0 0] 28) := (b4.block _ (by omega)).trans HK0.out
    have hE : w2.heap[w.heap.size + 1]? = some (Obj.cells #[Value.int .i64 0] 3) := (b4.block _ (by omega)).trans HK1.out
    have HB2 : Hid (Below w.heap.size w w2) := HB0.out.trans (b4.mono (by omega))
    clear b1 b2 b4
    simp only [bad]
    go_wp2
    exact bad5 rfl rfl hD hE HB2.out HLz.out
  · have hsl : skAt t 0 ≤ t.size := skAt_le _ _ (Nat.zero_le _)
    have HQ : Hid (RQ R R t F w0 L (.slice none 0 0) (.string (tk t (skAt t 0))) w2) := ⟨skAt t 0, f, ⟨0, 0, []⟩, [], none, 0, rfl, rfl, rfl, hsl, b1, b3, T3.nil _ _, b4, b5, HL.out, by omega, Nat.zero_le _⟩
    clear b1 b3 b4 b5 HTK HL HS0
    go_wp2
    go_loopw [5, 6] (fun pv kv wr => RQ R R t F w0 L pv kv wr) (fun pv kv wr => RQm R t wr)
    case atStart => exact HQ.out
    case round =>
      clear HQ hsl
      obtain ⟨b, g, st, ts, ta, tc, rfl, rfl, hbd, hbs, hb1, hrs, hT, hb, hk, hL, hg, htl⟩ := hrel
      have HBD : Hid (b = skAt t st.nx) := hbd
      have HB1 : Hid (b = t.size ∨ tkE t b ≠ b) := hb1
      have HRS : Hid (RS R R t 0 ⟨tkE t b, b, st.cs⟩ wr) := hrs
      have HT : Hid (T3 w0 (.slice ta ts.length tc) ts wr) := hT
      have HBW : Hid (Below R w0 wr) := hb
      have HKW : Hid (Lib.OthersKept 67 (some R) w0 wr) := hk
      have HL : Hid (L = topP t F g ts st) := hL
      have HM : Hid (RQm R t wr = t.size + 1 - b) := RQm_at hrs
      clear hbd hb1 hrs hT hb hk hL
      by_cases hend : b = t.size
      · have he : tk t b = ⟨#[]⟩ := by rw [hend]; exact tk_end t
        rw [he]
        have hD : wr.heap[w.heap.size]? = some (Obj.cells #[Value.slice none 0 0, Value.slice none 0 0] 28) := (HBW.out.block _ (by omega)).trans HK0.out
        have hE : wr.heap[w.heap.size + 1]? = some (Obj.cells #[Value.int .i64 0] 3) := (HBW.out.block _ (by omega)).trans HK1.out
        obtain ⟨_, _, v, hRb, hrow⟩ := HRS.out
        obtain ⟨ao, ca, rfl⟩ : ∃ ao ca, v = .slice ao st.cs.length ca := by
          rcases hrow.2 with ⟨hv, h0⟩ | ⟨g, cap, cur, hv, _⟩
          · exact ⟨none, 0, by rw [hv, h0]⟩
          · exact ⟨_, _, hv⟩
        have HLz : Hid (L = .ok (st, ts)) := by
          have := HL.out
          obtain ⟨g', rfl⟩ : ∃ g', g = g' + 1 := ⟨g - 1, by omega⟩
          rw [topP, if_pos (by rw [← HBD.out]; exact hend)] at this
          exact this
        have HRB : Hid (wr.heap[R]? = some (RdB t b (tkE t b) 0 (.slice ao st.cs.length ca))) := hRb
        have HRO : Hid (wr.ownsRow R 67 5 (.slice ao st.cs.length ca) st.cs.length (flatD st.cs)) := hrow
        have HDB : Hid (wr.heap[w.heap.size]? = some (Obj.cells #[Value.slice none 0 0, Value.slice none 0 0] 28)) := hD
        have HEB : Hid (wr.heap[w.heap.size + 1]? = some (Obj.cells #[Value.int .i64 0] 3)) := hE
        have c4 := cell_blk (j := 4) hRb rfl
        have d0 := cell_blk (j := 0) hD rfl
        have d1 := cell_blk (j := 1) hD rfl
        have d2 := cell_blk (j := 0) hE rfl
        have e0 := frozen_blk hD 0
        have e1 := frozen_blk hD 1
        have e2 := frozen_blk hE 0
        clear hRb hrow hD hE he
        go_wp2
        refine end5 rfl rfl (set3_D (x2 := .int .i64 0) HDB.out _ _ _) (set3_E HEB.out _ _ _) ?_
        rw [HLz.out]
        have ot : ∀ j, j ≠ w.heap.size → j ≠ w.heap.size + 1 → (((wr.setCell ⟨w.heap.size, 0, none⟩ (.slice ao st.cs.length ca)).setCell ⟨w.heap.size, 1, none⟩ (.slice ta ts.length tc)).setCell ⟨w.heap.size + 1, 0, none⟩ (.int .i64 (-1))).heap[j]? = wr.heap[j]? := fun j h1 h2 => (heap_setCell_other _ _ _ _ h2).trans ((heap_setCell_other _ _ _ _ h1).trans (heap_setCell_other _ _ _ _ h1))
        refine ⟨ao, ta, ca, tc, rfl, HRS.out.2.1, own_base (B := R) (own_other HRO.out fun k hk => ot k ?_ ?_) (by omega), own_base (B := w0.heap.size) (own_other HT.out fun k hk => ot k ?_ ?_) (by omega), below_3 (HB0.out.trans (HBW.out.mono (by omega))) _ _ _⟩
        · have := (HRO.out.lt k hk).1; omega
        · have := (HRO.out.lt k hk).1; omega
        · have := (T3.blk HT.out hk).1; omega
        · have := (T3.blk HT.out hk).1; omega
      · have hEb : tkE t b ≠ b := by
          rcases HB1.out with h | h
          · exact absurd h hend
          · exact h
        have hE1 := tkE_ge t b
        have hE2 := tkE_le t b hbs
        have hne : (tk t b).toList.isEmpty = false := by
          rw [ByteArray.toList_eq, List.isEmpty_eq_false_iff]
          intro h
          have h0 : (tk t b).data.toList.length = 0 := by rw [h]; rfl
          have h1 : (tk t b).size = 0 := by simpa using h0
          rw [tk, ByteArray.size_extract] at h1
          omega
        obtain ⟨g, rfl⟩ : ∃ g', g = g' + 1 := ⟨g - 1, by omega⟩
        have HL1 : Hid (L = (datP t F 0 b st.cs).bind fun st2 => topP t F g (ts ++ [st2.top]) st2) := by
          have := HL.out
          rw [topP, if_neg (by rw [← HBD.out]; exact hend), ← HBD.out] at this
          exact this
        have HC : Hid (Calls Tryd.prog 26 #[.pointer (some ⟨R, 0, none⟩), .string (tk t b)] wr fun e w' => PgPost R R t 0 (datP t F 0 b st.cs) wr e w') := datum_any R R t hs (Nat.le_refl _) F 0 (by omega) b st.cs wr hbs HB1.out (by omega) HRS.out
        clear HL HB1 HRS HBD
        go_wp2_with fail
        refine HC.out.mono ?_
        rintro e w3 (⟨st2, a1, rfl, a3, a4, a5⟩ | ⟨p, a1, rfl, a3⟩)
        · have HL2 : Hid (L = topP t F g (ts ++ [st2.top]) st2) := by
            have := HL1.out
            rw [a1] at this
            exact this
          obtain ⟨n1, n2⟩ := datP_prog hbs a1
          have H3 : Hid (RS R R t 0 st2 w3) := a3
          have HB3 : Hid (Below R w0 w3) := HBW.out.trans a4
          have HK3 : Hid (Lib.OthersKept 67 (some R) w0 w3) := HKW.out.trans a5
          have HT3 : Hid (T3 w0 (.slice ta ts.length tc) ts w3) := HT.out.ok' (by omega) a5
          have hz3 : w0.heap.size ≤ w3.heap.size := HB3.out.size
          clear a1 a3 a4 a5 HT HBW HKW HC HL1
          obtain ⟨x2, hx2⟩ : ∃ x2, x2 = st2.top := ⟨_, rfl⟩
          rw [← hx2]
          have hbl := (Below.refl _ w3).alloc (Nat.le_refl _) (.cells #[.int .i64 x2] 3 (0, 0))
          have hAz : (w3.alloc (.cells #[.int .i64 x2] 3 (0, 0))).heap.size = w3.heap.size + 1 := by simp
          have kA : (w3.alloc (.cells #[.int .i64 x2] 3 (0, 0))).heap[w3.heap.size]? = some (.cells #[.int .i64 x2] 3 (0, 0)) := blk_at _ _ _ rfl
          have hwA : w0.heap.size ≤ (w3.alloc (.cells #[.int .i64 x2] 3 (0, 0))).heap.size := by omega
          have H4 : Hid (RS R R t 0 st2 (w3.alloc (.cells #[.int .i64 x2] 3 (0, 0)))) := H3.out.below hbl
          have HT4 : Hid (T3 w0 (.slice ta ts.length tc) ts (w3.alloc (.cells #[.int .i64 x2] 3 (0, 0)))) := HT3.out.below hbl
          have HB4 : Hid (Below R w0 (w3.alloc (.cells #[.int .i64 x2] 3 (0, 0)))) := HB3.out.trans (hbl.mono (by omega))
          have HK4 : Hid (Lib.OthersKept 67 (some R) w0 (w3.alloc (.cells #[.int .i64 x2] 3 (0, 0)))) := HK3.out.alloc _
          have HX2 : Hid (x2 = st2.top) := hx2
          have hz0' : R + 1 ≤ w0.heap.size := by omega
          clear hbl hx2 H3 HT3 HB3 HK3 hz0
          go_wp2_with (at_builtin; refine wpList_append_lies _ rfl _ _ 26 rfl w0.heap.size 3 i3 _ 1 8 Tryd.underlying26 hi3 hz30 hz31 hz32 rfl (by omega) (.slice ta ts.length tc) ts.length (ts.map (Value.int .i64 ·)) rfl HT4.out ⟨w3.heap.size, 0, none⟩ 1 1 [.int .i64 x2] rfl rfl (World.news_of_block kA) (by intro u hu; simp at hu; subst hu; rfl) (by omega) (by simp [maxLen] <;> omega) (by omega) hwA (w3.heap.size + 1) hAz ?_)
          intro gg cap' w5 hown hgrow hat hlt
          have HO5 : Hid (T3 w0 (.slice (some ⟨gg, 0, none⟩) (ts ++ [x2]).length cap') (ts ++ [x2]) w5) := by
            show World.ownsRow _ _ _ _ _ _ _
            rw [List.length_append, List.map_append]
            exact hown
          have H5 : Hid (RS R R t 0 st2 w5) := H4.out.grow HT4.out hgrow
          have HB5 : Hid (Below R w0 w5) := HB4.out.trans (below_row HT4.out hgrow (by omega) hwA)
          have HK5 : Hid (Lib.OthersKept 67 (some R) w0 w5) := ok_row HK4.out HT4.out hgrow hwA
          have hln : (ts ++ [x2]).length = ts.length + 1 := by simp
          clear hown hgrow hat hlt hAz kA hwA H4 HT4 HB4 HK4
          obtain ⟨c, hcd⟩ : ∃ c, c = skAt t st2.nx := ⟨_, rfl⟩
          have hc1 : st2.nx ≤ c := by rw [hcd]; exact skAt_ge _ _
          have hc2 : c ≤ t.size := by rw [hcd]; exact skAt_le _ _ n2
          have HTK : Hid (Calls Tryd.prog 25 #[.pointer (some ⟨R, 0, none⟩)] w5 fun e w' => TkS R R t 0 c st2.cs w5 e w') := by rw [hcd]; exact token_rs R R t 0 st2 w5 hs (Nat.le_refl _) H5.out
          have HCD : Hid (c = skAt t st2.nx) := hcd
          clear hcd
          go_wp2_with fail
          refine HTK.out.mono ?_
          rintro e w6 (⟨b1, b2, rfl, b4⟩ | ⟨b1, rfl, b3, b4, b5⟩)
          · have HLz : Hid (L = .error c) := by
              have := HL2.out
              rw [HCD.out] at b1 b2
              rw [topP_err (by omega) (by omega) b2 b1, ← HCD.out] at this
              exact this
            have hB6 := HB5.out.trans b4
            have hD : w6.heap[w.heap.size]? = some (Obj.cells #[Value.slice none 0 0, Value.slice none 0 0] 28) := (hB6.block _ (by omega)).trans HK0.out
            have hE : w6.heap[w.heap.size + 1]? = some (Obj.cells #[Value.int .i64 0] 3) := (hB6.block _ (by omega)).trans HK1.out
            have HB6 : Hid (Below w.heap.size w w6) := HB0.out.trans (hB6.mono (by omega))
            clear b1 b2 b4 hB6
            simp only [bad]
            go_wp2
            exact bad5 rfl rfl hD hE HB6.out HLz.out
          · have H6 : Hid (RS R R t 0 ⟨tkE t c, c, st2.cs⟩ w6) := b3
            have HB6 : Hid (Below R w0 w6) := HB5.out.trans b4
            have HK6 : Hid (Lib.OthersKept 67 (some R) w0 w6) := HK5.out.trans b5
            have HT6 : Hid (T3 w0 (.slice (some ⟨gg, 0, none⟩) (ts ++ [x2]).length cap') (ts ++ [x2]) w6) := HO5.out.ok' (by omega) b5
            have HC1 : Hid (c = t.size ∨ tkE t c ≠ c) := b1
            clear b1 b3 b4 b5 HO5 H5 HB5 HK5 HTK
            go_wp2
            go_roundw
            case rel =>
              refine ⟨c, g, st2, ts ++ [x2], some ⟨gg, 0, none⟩, cap', rfl, by rw [hln], HCD.out, hc2, HC1.out, H6.out, HT6.out, HB6.out, HK6.out, by rw [HX2.out]; exact HL2.out, by omega, by omega⟩
            case measure =>
              have h1 := RQm_at H6.out
              have h2 := HM.out
              show RQm R t w6 < RQm R t wr
              rw [h1, h2]
              show t.size + 1 - c < t.size + 1 - b
              omega
        · have HLz : Hid (L = .error p) := by
            have := HL1.out
            rw [a1] at this
            exact this
          have hB6 := HBW.out.trans a3
          have hD : w3.heap[w.heap.size]? = some (Obj.cells #[Value.slice none 0 0, Value.slice none 0 0] 28) := (hB6.block _ (by omega)).trans HK0.out
          have hE : w3.heap[w.heap.size + 1]? = some (Obj.cells #[Value.int .i64 0] 3) := (hB6.block _ (by omega)).trans HK1.out
          have HB6 : Hid (Below w.heap.size w w3) := HB0.out.trans (hB6.mono (by omega))
          clear a1 a3 hB6
          simp only [bad]
          go_wp2
          exact bad5 rfl rfl hD hE HB6.out HLz.out
end Go.Proofs.YtgfkmppkeolckaaDoor
