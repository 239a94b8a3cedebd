/- The pairs of a list: each part, the last one first; where they do not fit, the panic. -/
import Derived.Test.YtilaonjjpfebgaaBac
import Derived.Test.YtilaonjjpfebgaaRea
import Derived.Test.YtilaonjjpfebgaaVal
set_option linter.unusedVariables false
namespace Go.Proofs.Ytilaonjjpfebgaa
open Go.RowKit Go.Shelf
attribute [local go_sem] Oper.semAt_some
/-- The cells and the end behind k pairs. -/
def prS (cs : List Dat) (ps : List Int) (e : Int) : Nat → List Dat × Int
  | 0 => (cs, e)
  | k + 1 => ((prS cs ps e k).1 ++ [⟨5, 0, ⟨#[]⟩, ps.getD (ps.length - 1 - k) 0, (prS cs ps e k).2⟩], ((prS cs ps e k).1.length : Int))
theorem prS_length (cs : List Dat) (ps : List Int) (e : Int) : ∀ k, (prS cs ps e k).1.length = cs.length + k
  | 0 => rfl
  | k + 1 => by simp [prS, prS_length cs ps e k]; omega
/-- A row of ints in a block of its own kind. -/
def PartsAt (w : World) (S : Nat) (a : Option Addr) (ps : List Int) : Prop :=
  ∀ (i : Nat) (x : Int), ps[i]? = some x → ∃ b o xs, a = some ⟨b, o, none⟩ ∧ b < S ∧ w.heap[b]? = some (.cells xs 3 (0, 0)) ∧ xs[o + i]? = some (.int .i64 x)
theorem PartsAt.keep {w w' : World} {S : Nat} {a : Option Addr} {ps : List Int} (h : PartsAt w S a ps) (hk : ∀ b xs, b < S → w.heap[b]? = some (.cells xs 3 (0, 0)) → w'.heap[b]? = w.heap[b]?) : PartsAt w' S a ps := by
  intro i x hx
  obtain ⟨b, o, xs, ha, hb, hw, hc⟩ := h i x hx
  exact ⟨b, o, xs, ha, hb, (hk b xs hb hw).trans hw, hc⟩
/-- Where the pairs stand behind k of them. -/
def PrJ (w : World) (R B : Nat) (t : ByteArray) (beg nxt deep : Nat) (cs : List Dat) (a : Option Addr) (cap : Nat) (ps : List Int) (e0 : Int) (rc : Loop) (k : Nat) (W : World) : Prop :=
  cs.length + k ≤ 1000 ∧ (∃ v', W.heap[R]? = some (RdB t beg nxt deep v') ∧ W.ownsRow B 49 5 v' (prS cs ps e0 k).1.length (flatD (prS cs ps e0 k).1)) ∧
  W.heap[w.heap.size]? = some (.cells #[.pointer (some ⟨R, 0, none⟩)] 52 (0, 0)) ∧
  W.heap[w.heap.size + 1]? = some (.cells #[.int .i64 (prS cs ps e0 k).2] 3 (0, 0)) ∧
  W.heap[w.heap.size + 1 + 1]? = some (.cells #[.slice a ps.length cap] 23 (0, 0)) ∧
  PartsAt W w.heap.size a ps ∧ W.heap[w.heap.size + 1 + 1 + 1 + 1]? = some (.loop rc) ∧ W.heap[w.heap.size + 1 + 1 + 1]? = some (.deferred (some [])) ∧ Below B w W ∧ Lib.OthersKept 49 (some R) w W
theorem own_put {W : World} {B l : Nat} {v : Value} {n : Nat} {xs : List Value} {o o' : Obj} (h : W.ownsRow B 49 5 v n xs) (hl : W.heap[l]? = some o) (ho : ∀ c fz, o ≠ .cells c 49 fz) : (W.putObj l o').ownsRow B 49 5 v n xs := by
  refine h.kept (grownBy_putObj' W l o') (.inr ?_)
  intro e
  rcases h.2 with ⟨hv, _⟩ | ⟨g, cap', cur, hv, _, hg, _⟩
  · rw [hv] at e; cases e
  · rw [hv] at e
    simp only [Value.ownBlock, Option.some.injEq] at e
    subst e
    exact ho _ _ (Option.some.inj (hl.symm.trans hg))
theorem own_set {W : World} {B l j : Nat} {v u : Value} {n : Nat} {xs : List Value} {ys : Array Value} (h : W.ownsRow B 49 5 v n xs) (hl : W.heap[l]? = some (.cells ys 3 (0, 0))) : (W.setCell ⟨l, j, none⟩ u).ownsRow B 49 5 v n xs := by
  refine h.kept (grownBy_setCell'' W l j u) (.inr ?_)
  intro e
  rcases h.2 with ⟨hv, _⟩ | ⟨g, cap', cur, hv, _, hg, _⟩
  · rw [hv] at e; cases e
  · rw [hv] at e
    simp only [Value.ownBlock, Option.some.injEq] at e
    subst e
    have := hl.symm.trans hg
    simp at this
/-- One pair more. -/
theorem PrJ.step {w : World} {R B : Nat} {t : ByteArray} {beg nxt deep : Nat} {cs : List Dat} {a : Option Addr} {cap : Nat} {ps : List Int} {e0 : Int} {rc : Loop} {k : Nat} {W2 W3 : World} {v3 : Value} {x ek : Int}
    (hRl : R < w.heap.size) (hBw : B ≤ w.heap.size) (hRt : ∀ ys, W2.heap[R]? ≠ some (.cells ys 3 (0, 0))) (hc : cs.length + k < 1000) (hek : (prS cs ps e0 k).2 = ek) (hgd : ps.getD (ps.length - 1 - k) 0 = x)
    (h4 : W2.heap[w.heap.size]? = some (.cells #[.pointer (some ⟨R, 0, none⟩)] 52 (0, 0))) (h5 : W2.heap[w.heap.size + 1]? = some (.cells #[.int .i64 ek] 3 (0, 0))) (h6 : W2.heap[w.heap.size + 1 + 1]? = some (.cells #[.slice a ps.length cap] 23 (0, 0)))
    (h7 : PartsAt W2 w.heap.size a ps) (h8 : W2.heap[w.heap.size + 1 + 1 + 1 + 1]? = some (.loop rc)) (h9 : W2.heap[w.heap.size + 1 + 1 + 1]? = some (.deferred (some []))) (h10 : Below B w W2) (h11 : Lib.OthersKept 49 (some R) w W2)
    (g1 : W3.heap[R]? = some (RdB t beg nxt deep v3)) (g2 : W3.ownsRow B 49 5 v3 ((prS cs ps e0 k).1 ++ ([⟨5, 0, ⟨#[]⟩, x, ek⟩] : List Dat)).length (flatD ((prS cs ps e0 k).1 ++ ([⟨5, 0, ⟨#[]⟩, x, ek⟩] : List Dat)))) (g3 : Below B W2 W3) (g4 : Lib.OthersKept 49 (some R) W2 W3) :
    PrJ w R B t beg nxt deep cs a cap ps e0 rc (k + 1) (W3.setCell ⟨w.heap.size + 1, 0, none⟩ (.int .i64 ((cs.length : Int) + k))) := by
  have hpr : prS cs ps e0 (k + 1) = ((prS cs ps e0 k).1 ++ ([⟨5, 0, ⟨#[]⟩, x, ek⟩] : List Dat), (((prS cs ps e0 k).1.length : Nat) : Int)) := by
    rw [prS, hgd, hek]
  have hln := prS_length cs ps e0 k
  have kp : ∀ j o, j ≠ R → W2.heap[j]? = some o → (∀ c fz, o ≠ .cells c 49 fz) → W3.heap[j]? = some o := fun j o hj ho hn => g4 j o ho (fun e => hj (Option.some.inj e)) hn
  have e3 := kp (w.heap.size + 1) _ (by omega) h5 (fun _ _ e => by injection e with _ e; cases e)
  have ot : ∀ j, j ≠ w.heap.size + 1 → (W3.setCell ⟨w.heap.size + 1, 0, none⟩ (.int .i64 ((cs.length : Int) + k))).heap[j]? = W3.heap[j]? := fun j hj => heap_setCell_other _ _ _ _ hj
  rw [PrJ, hpr]
  refine ⟨by omega, ⟨v3, (ot _ (by omega)).trans g1, own_set g2 e3⟩, (ot _ (by omega)).trans (kp _ _ (by omega) h4 (fun _ _ e => by injection e with _ e; cases e)), ?_, (ot _ (by omega)).trans (kp _ _ (by omega) h6 (fun _ _ e => by injection e with _ e; cases e)), ?_, (ot _ (by omega)).trans (kp _ _ (by omega) h8 (fun _ _ e => by cases e)), (ot _ (by omega)).trans (kp _ _ (by omega) h9 (fun _ _ e => by cases e)), (h10.trans g3).setCell (p := ⟨_, _, none⟩) (by simp; omega) _, ?_⟩
  · have := heap_setCell_same W3 (w.heap.size + 1) 0 _ _ (.int .i64 ((cs.length : Int) + k)) e3
    rw [this]
    simp only [hln]
    simp
  · refine h7.keep fun b xs hb hw => ?_
    have hbR : b ≠ R := by intro e; subst e; exact hRt _ hw
    exact (ot b (by omega)).trans ((kp b _ hbR hw (fun _ _ e => by injection e with _ e; cases e)).trans hw.symm)
  · intro j o hj hjR ho
    have hjl := (Array.getElem?_eq_some_iff.1 hj).1
    exact (ot j (by omega)).trans (g4 j o (h11 j o hj hjR ho) hjR ho)
theorem ok_other {b : Option Nat} {w W W' : World} (h : Lib.OthersKept 49 b w W) (hk : ∀ k, k < w.heap.size → some k ≠ b → W'.heap[k]? = W.heap[k]?) : Lib.OthersKept 49 b w W' :=
  fun k o hk0 hkb ho => (hk k (Array.getElem?_eq_some_iff.1 hk0).1 hkb).trans (h k o hk0 hkb ho)
theorem below_put {B l : Nat} {w W : World} (h : Below B w W) (hl : B ≤ l) (o : Obj) : Below B w (W.putObj l o) :=
  h.trans ⟨rfl, rfl, rfl, (grownBy_putObj' W l o).size, fun k hk => World.putObj_heap_other (by omega)⟩
/-- The record laid or turned: nothing else is. -/
theorem PrJ.put {w : World} {R B : Nat} {t : ByteArray} {beg nxt deep : Nat} {cs : List Dat} {a : Option Addr} {cap : Nat} {ps : List Int} {e0 : Int} {rc rc' : Loop} {k : Nat} {W : World} (h : PrJ w R B t beg nxt deep cs a cap ps e0 rc k W) (hR : R < w.heap.size) (hB : B ≤ w.heap.size) : PrJ w R B t beg nxt deep cs a cap ps e0 rc' k (W.putObj (w.heap.size + 1 + 1 + 1 + 1) (.loop rc')) := by
  obtain ⟨h1, ⟨v', h2, h3⟩, h4, h5, h6, h7, h8, h9, h10, h11⟩ := h
  have ot : ∀ j, j ≠ w.heap.size + 1 + 1 + 1 + 1 → (W.putObj (w.heap.size + 1 + 1 + 1 + 1) (.loop rc')).heap[j]? = W.heap[j]? := fun j hj => World.putObj_heap_other hj
  exact ⟨h1, ⟨v', (ot _ (by omega)).trans h2, own_put h3 h8 (fun _ _ e => by cases e)⟩, (ot _ (by omega)).trans h4, (ot _ (by omega)).trans h5, (ot _ (by omega)).trans h6, h7.keep (fun b _ hb _ => ot b (by omega)), World.putObj_heap_same (Array.getElem?_eq_some_iff.1 h8).1, (ot _ (by omega)).trans h9, below_put h10 (by omega) _, ok_other h11 (fun j hj _ => ot j (by omega))⟩
theorem gen_world {C : World → Prop} {Q : Loop → World → Prop} {W2 : World} {rb : Loop} (h : ∀ W2, Q rb W2 → C W2) (hq : Q rb W2) : C W2 := h W2 hq
theorem back_any (a : Option Addr) (n c : Nat) (w : World) :
    Calls Try.prog 48 #[.slice a n c] w fun e w' => e = .returned (.func (.func 51) #[] #[.pointer (some ⟨w.heap.size, 0, none⟩)]) ∧ w' = w.alloc (.cells #[.slice a n c] 23) := by
  have hmf : ∀ (fn : Fn) (first cap : Array Value) (w : World), (Instr.makeFunc fn first cap).run Try.prog w = .ok (.func fn first cap) w := fun _ _ _ _ => rfl
  go_enter Try.func48, Try.ntmps48
  go_wp2
  go_ret
  exact ⟨rfl, rfl⟩
set_option maxRecDepth 100000 in
set_option maxHeartbeats 4000000 in
theorem pairs_any (R B : Nat) (t : ByteArray) (beg nxt deep : Nat) (v : Value) (cs : List Dat) (a : Option Addr) (cap : Nat) (ps : List Int) (e0 : Int) (w : World) (hR : w.heap[R]? = some (RdB t beg nxt deep v)) (hown : w.ownsRow B 49 5 v cs.length (flatD cs)) (hn : cs.length ≤ 1000) (hB : B ≤ R) (hps : ps.length ≤ 1048576) (hpt : PartsAt w w.heap.size a ps) (hBw : B ≤ w.heap.size) :
    Calls Try.prog 42 #[.pointer (some ⟨R, 0, none⟩), .slice a ps.length cap, .int .i64 e0] w fun e w' =>
      (cs.length + ps.length ≤ 1000 ∧ e = .returned (.int .i64 (prS cs ps e0 ps.length).2) ∧ ∃ v', w'.heap[R]? = some (RdB t beg nxt deep v') ∧ w'.ownsRow B 49 5 v' (prS cs ps e0 ps.length).1.length (flatD (prS cs ps e0 ps.length).1) ∧ Below B w w' ∧ Lib.OthersKept 49 (some R) w w') ∨
      (1000 < cs.length + ps.length ∧ e = bad beg ∧ Below B w w') := by
  refine (callsIn_wide (n := 3)).1 ?_
  refine calls_of_finV (n := 3) Try.func42 rfl ?_
  simp only [Try.ntmps42, List.size_toArray, List.length_cons, List.length_nil, Nat.reduceAdd, Nat.reduceSub, Array.replicate_succ, Array.replicate_zero, List.push_toArray, List.append_toArray, List.nil_append, List.cons_append]
  have HBK : Hid (∀ w, Calls Try.prog 48 #[.slice a ps.length cap] w fun e w' => e = .returned (.func (.func 51) #[] #[.pointer (some ⟨w.heap.size, 0, none⟩)]) ∧ w' = w.alloc (.cells #[.slice a ps.length cap] 23)) := fun w => back_any a ps.length cap w
  have eg : ∀ args w, (callFunc 51 args).run Try.prog w = .ok (.enter 51 args) w := enters_of Try.func51 (by kernel_rfl) rfl
  refine finV_seq (n := 3) ?_
  refine runsV_of_wpIn (n := 3) ?_
  gi_wp2
  refine finV_seq (n := 3) ?_
  refine runsV_seq ?_
  refine runsV_of_wpIn (n := 3) ?_
  gi_wp2_with (refine ⟨trivial, ?_⟩; gi_at_call 48; refine (callsIn_wide.2 (HBK.out _)).mono ?_; rintro e w' ⟨rfl, rfl⟩)
  refine runsV_block ?_
  have hRl : R < w.heap.size := (Array.getElem?_eq_some_iff.1 hR).1
  obtain ⟨W0, hW0⟩ : ∃ W0, W0 = (((w.alloc (Obj.cells #[Value.pointer (some ⟨R, 0, none⟩)] 52)).alloc (Obj.cells #[Value.int .i64 e0] 3)).alloc (Obj.cells #[Value.slice a ps.length cap] 23)) := ⟨_, rfl⟩
  rw [← hW0]
  have hs0 : W0.heap.size = w.heap.size + 1 + 1 + 1 := by rw [hW0]; simp
  have q0 : W0.heap[w.heap.size]? = some (.cells #[.pointer (some ⟨R, 0, none⟩)] 52 (0, 0)) := by rw [hW0]; exact blk_past (blk_past (blk_at _ _ _ rfl))
  have q1 : W0.heap[w.heap.size + 1]? = some (.cells #[.int .i64 e0] 3 (0, 0)) := by rw [hW0]; exact blk_past (blk_at _ _ _ (by simp))
  have q2 : W0.heap[w.heap.size + 1 + 1]? = some (.cells #[.slice a ps.length cap] 23 (0, 0)) := by rw [hW0]; exact blk_at _ _ _ (by simp)
  have qb : Below w.heap.size w W0 := by rw [hW0]; exact (((Below.refl _ _).alloc (Nat.le_refl _) _).alloc (by simp) _).alloc (by simp; omega) _
  have qo : W0.ownsRow B 49 5 v cs.length (flatD cs) := by rw [hW0]; exact ((hown.alloc _).alloc _).alloc _
  clear hW0
  refine runsV_rangeClosure (n := 2) (gf := 51) (lb := #[.pointer (some ⟨w.heap.size + 1 + 1, 0, none⟩)]) rfl eg ?_
  intro fn hfn
  rw [hs0]
  simp only [List.append_toArray, List.cons_append, List.nil_append]
  have qk : ∀ j, j < w.heap.size + 1 + 1 + 1 → ∀ (o o' : Obj), ((W0.alloc o).alloc o').heap[j]? = W0.heap[j]? := by
    intro j hj o o'
    obtain ⟨x, hx⟩ : ∃ x, W0.heap[j]? = some x := ⟨_, Array.getElem?_eq_getElem (by omega)⟩
    rw [hx]; exact blk_past (blk_past hx)
  have hL : ∀ (o o' : Obj), ((W0.alloc o).alloc o').heap[w.heap.size + 1 + 1 + 1 + 1]? = some o' := fun o o' => blk_at _ _ _ (by rw [World.size_alloc, hs0])
  have hD : ∀ (o o' : Obj), ((W0.alloc o).alloc o').heap[w.heap.size + 1 + 1 + 1]? = some o := fun o o' => blk_past (blk_at _ _ _ hs0.symm)
  have hP0 : ∀ (o o' : Obj), PartsAt ((W0.alloc o).alloc o') w.heap.size a ps := by
    intro o1 o2 i x hx
    obtain ⟨b, o, xs, ha, hb, hw, hc⟩ := hpt i x hx
    exact ⟨b, o, xs, ha, hb, ((qk b (by omega) _ _).trans (qb.block b hb)).trans hw, hc⟩
  have hB0 : ∀ (o o' : Obj), Below B w ((W0.alloc o).alloc o') := fun o o' => ((qb.mono hBw).alloc (by omega) _).alloc (by simp; omega) _
  have hK0 : ∀ (o o' : Obj), Lib.OthersKept 49 (some R) w ((W0.alloc o).alloc o') := fun o1 o2 k o hk hkR ho => ((qk k (by have := (Array.getElem?_eq_some_iff.1 hk).1; omega) _ _).trans (qb.block k (Array.getElem?_eq_some_iff.1 hk).1)).trans hk
  have hO0 : ∀ (o o' : Obj), ((W0.alloc o).alloc o').ownsRow B 49 5 v cs.length (flatD cs) := fun o o' => (qo.alloc _).alloc _
  refine (back_in 1 (w.heap.size + 1 + 1 + 1 + 1) (w.heap.size + 1 + 1) cap a ps [{ v := .iface 35 (.int .i64 (beg : Int)), recovered := false }] (PrJ w R B t beg nxt deep cs a cap ps e0 _) (fun W => 1000 < cs.length + ps.length ∧ Below B w W ∧ W.heap[w.heap.size + 1 + 1 + 1]? = some (.deferred (some []))) hps ?hJ ?hY _
    ⟨by omega, ⟨v, (qk R (by omega) _ _).trans ((qb.block R hRl).trans hR), hO0 _ _⟩, (qk _ (by omega) _ _).trans q0, (qk _ (by omega) _ _).trans q1, (qk _ (by omega) _ _).trans q2, hP0 _ _, hL _ _, hD _ _, hB0 _ _, hK0 _ _⟩).mono ?fin
  case hJ =>
    rintro k W ⟨h1, ⟨v', h2, h3⟩, h4, h5, h6, h7, h8, h9, h10, h11⟩
    refine ⟨cell_blk h6 rfl, fun i x hx => ?_⟩
    obtain ⟨b, o, xs, ha, hb, hw, hc⟩ := h7 i x hx
    exact ⟨b, o, ha, cell_blk hw hc⟩
  case hY =>
    clear hP0 hB0 hK0 hO0 hL hD qk q0 q1 q2 qb qo hs0 hpt hown hR HBK eg
    intro k i x W hj hki hx
    have h8 := hj.2.2.2.2.2.2.1
    have hy := run_yield (P := Try.prog) (args := #[.int .i64 (i : Int), .int .i64 x]) h8 rfl
    refine ⟨_, _, _, _, hy, ?_⟩
    have hgd : ps.getD (ps.length - 1 - k) 0 = x := by
      rw [show ps.length - 1 - k = i by omega, List.getD_eq_getElem?_getD, hx]; rfl
    have hpl := prS_length cs ps e0 k
    by_cases hc : cs.length + k < 1000
    · refine roundIn_of_wpIn (F := Fence.wide) (n := 1) trivial ?_
      gi_wp2
      refine ⟨_, run_beginRound h8 rfl, ?_⟩
      refine gen_world (Q := fun rb W2 => PrJ w R B t beg nxt deep cs a cap ps e0 rb k W2) (C := fun W2 => Code.wpIn (Fence.wide.inRound (w.heap.size + 1 + 1 + 1 + 1)) 1 Try.prog _ _ _ W2) ?_ (hj.put hRl hBw)
      clear hj h8 hy
      rintro W2 ⟨h1, ⟨v2, h2, h3⟩, h4, h5, h6, h7, h8, h9, h10, h11⟩
      obtain ⟨ek, hek⟩ : ∃ ek, (prS cs ps e0 k).2 = ek := ⟨_, rfl⟩
      have HADD : Hid (Calls Try.prog 41 #[.pointer (some ⟨R, 0, none⟩), .agg #[.int .i64 5, .int .i64 0, .string ⟨#[]⟩, .int .i64 x, .int .i64 ek]] W2 fun e w' => e = .returned (.int .i64 ((prS cs ps e0 k).1.length : Int)) ∧ ∃ v', w'.heap[R]? = some (RdB t beg nxt deep v') ∧ w'.ownsRow B 49 5 v' ((prS cs ps e0 k).1 ++ ([⟨5, 0, ⟨#[]⟩, x, ek⟩] : List Dat)).length (flatD ((prS cs ps e0 k).1 ++ ([⟨5, 0, ⟨#[]⟩, x, ek⟩] : List Dat))) ∧ Below B W2 w' ∧ Lib.OthersKept 49 (some R) W2 w') := add_ok R B t beg nxt deep v2 (prS cs ps e0 k).1 ⟨5, 0, ⟨#[]⟩, x, ek⟩ W2 h2 h3 (by omega) hB
      rw [hek] at h5
      rw [hpl] at HADD
      have c80 := cell_blk (j := 0) h4 rfl
      have cE := cell_blk (j := 0) h5 rfl
      have HRT : Hid (W2.heap[R]? = some (RdB t beg nxt deep v2)) := h2
      have H4 : Hid _ := h4
      have H5 : Hid _ := h5
      have H6 : Hid _ := h6
      have H7 : Hid (PartsAt W2 w.heap.size a ps) := h7
      have H8 : Hid _ := h8
      have H9 : Hid _ := h9
      have H10 : Hid (Below B w W2) := h10
      have H11 : Hid (Lib.OthersKept 49 (some R) w W2) := h11
      clear h2 h3 h4 h5 h6 h7 h8 h9 h10 h11
      gi_wp2_with (refine ⟨trivial, ?_⟩; gi_at_call 41; refine (CallsIn.inRound _ (callsIn_wide.2 HADD.out)).mono ?_; rintro e W3 ⟨rfl, v3, g1, g2, g3, g4⟩; have e3 := g4 (w.heap.size + 1) _ H5.out (by simp; omega) (fun _ _ e => by cases e); have zE := cell_blk (j := 0) e3 rfl; have fE := frozen_blk e3 0)
      have hst := PrJ.step hRl hBw (fun ys e => by have := HRT.out.symm.trans e; simp [RdB] at this) hc hek hgd H4.out H5.out H6.out H7.out H8.out H9.out H10.out H11.out g1 g2 g3 g4
      refine ⟨_, _, run_endRound none hst.2.2.2.2.2.2.1, .inl ⟨rfl, ?_⟩⟩
      exact hst.put hRl hBw
    · refine roundIn_panics (F := Fence.wide) (n := 1) trivial hfn ?_
      gi_wp2
      refine ⟨_, run_beginRound h8 rfl, ?_⟩
      refine gen_world (Q := fun rb W2 => PrJ w R B t beg nxt deep cs a cap ps e0 rb k W2) (C := fun W2 => Code.wpIn (Fence.wide.inRound (w.heap.size + 1 + 1 + 1 + 1)) 1 Try.prog _ _ _ W2) ?_ (hj.put hRl hBw)
      clear hj h8 hy
      rintro W2 ⟨h1, ⟨v2, h2, h3⟩, h4, h5, h6, h7, h8, h9, h10, h11⟩
      obtain ⟨ek, hek⟩ : ∃ ek, (prS cs ps e0 k).2 = ek := ⟨_, rfl⟩
      have HADD : Hid (Calls Try.prog 41 #[.pointer (some ⟨R, 0, none⟩), .agg #[.int .i64 5, .int .i64 0, .string ⟨#[]⟩, .int .i64 x, .int .i64 ek]] W2 fun e w' => e = .panicked [{ v := .iface 35 (.int .i64 (beg : Int)), recovered := false }] ∧ Below W2.heap.size W2 w') := add_full R B t beg nxt deep v2 (prS cs ps e0 k).1 ⟨5, 0, ⟨#[]⟩, x, ek⟩ W2 h2 h3 (by omega)
      rw [hek] at h5
      have c80 := cell_blk (j := 0) h4 rfl
      have cE := cell_blk (j := 0) h5 rfl
      have H9 : Hid (W2.heap[w.heap.size + 1 + 1 + 1]? = some (.deferred (some []))) := h9
      have H10 : Hid (Below B w W2) := h10
      clear h2 h3 h4 h5 h6 h7 h8 h9 h10 h11
      gi_wp2_with (refine ⟨trivial, ?_⟩; gi_at_call 41; refine (CallsIn.inRound _ (callsIn_wide.2 HADD.out)).mono ?_; rintro e W3 ⟨rfl, hb3⟩)
      have hwz := H10.out.size
      exact ⟨_, rfl, rfl, .inr ⟨rfl, by omega, H10.out.trans (hb3.mono (by omega)), (hb3.block _ (Array.getElem?_eq_some_iff.1 H9.out).1).trans H9.out⟩⟩
  case fin =>
    clear hP0 hB0 hK0 hO0 hL hD qk q0 q1 q2 qb qo hs0 hpt hown hR HBK eg
    rintro e W3 (⟨⟨vv, rfl⟩, hj⟩ | ⟨rfl, hz1, hz2, hz3⟩)
    · refine .inl ⟨vv, rfl, _, run_endLoop hj.2.2.2.2.2.2.1 (by simp), ?_⟩
      refine gen_world (Q := fun rb W2 => PrJ w R B t beg nxt deep cs a cap ps e0 rb ps.length W2) (C := fun W2 => FinV Try.prog Try.f42 _ _ _ W2) ?_ (hj.put hRl hBw)
      clear hj
      rintro W2 ⟨h1, ⟨v2, h2, h3⟩, h4, h5, h6, h7, h8, h9, h10, h11⟩
      have cE := cell_blk (j := 0) h5 rfl
      refine finV_seq (n := 3) (runsV_of_wpIn (n := 3) ?_)
      gi_wp2
      refine finV_ret (n := 3) ?_
      refine ⟨by simp, .inl ⟨_, _, rfl, run_takeDeferred h9, ?_⟩⟩
      have ot : ∀ j, j ≠ w.heap.size + 1 + 1 + 1 → (W2.putObj (w.heap.size + 1 + 1 + 1) (.deferred none)).heap[j]? = W2.heap[j]? := fun j hj => World.putObj_heap_other hj
      exact ⟨_, results_tmp rfl _ _ _, .inl ⟨rfl, v2, (ot _ (by omega)).trans h2, own_put h3 h9 (fun _ _ e => by cases e), below_put h10 (by omega) _, ok_other h11 (fun j hj _ => ot j (by omega))⟩⟩
    · refine .inr ⟨_, rfl, ?_⟩
      refine ⟨by simp, .inl ⟨_, _, rfl, run_takeDeferred hz3, ?_⟩⟩
      exact .inr ⟨hz1, rfl, below_put hz2 (by omega) _⟩
end Go.Proofs.Ytilaonjjpfebgaa
