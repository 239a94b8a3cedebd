/- The law's marks: of data whole. -/
import Derived.Test.YtilaonjjpfebgaaMkc
set_option linter.unusedVariables false
namespace Go.Proofs.Ytilaonjjpfebgaa
open Go.ChangeShapes Go.WideShapes Go.ChangeAt Go.RowKit
set_option maxRecDepth 100000 in
set_option maxHeartbeats 1000000 in
theorem heldIntS_any (a : Option Addr) (n cap k : Nat) (w : World) (hn : n ≤ 1048576) (hk : k ≤ 6291456) (hr : RowI w w.heap.size a (mkI k n)) :
    Calls Try.prog 19 #[.slice a n cap, .int .i64 k] w fun e w' => Ans w (.int .i64 ((k + n : Nat) : Int)) e w' := by
  have HR : Hid (RowI w w.heap.size a (mkI k n)) := hr
  clear hr
  go_enter Try.func19, Try.ntmps19
  go_wp2
  go_loopw [1, 5] (fun kv iv wr => ∃ (i m : Nat), i ≤ n ∧ m = k + i ∧ kv = .int .i64 m ∧ iv = .int .i64 i ∧ Below w.heap.size w wr)
    (fun kv iv _ => n - (intOf iv).toNat)
  case atStart => exact ⟨0, k, Nat.zero_le _, by omega, rfl, rfl, Below.refl _ _⟩
  case round =>
    obtain ⟨i, m, hi, hm, rfl, rfl, hb⟩ := hrel
    have HM : Hid (m = k + i) := hm
    have hm6 : m ≤ 7340032 := by omega
    have HB : Hid (Below w.heap.size w wr) := hb
    by_cases hlt : i < n
    · obtain ⟨b, o, rfl, hbb, c0⟩ := (HR.out.below hb) i _ (mkI_get hlt)
      rw [← hm] at c0
      clear hm hb
      go_wp2
      go_roundw
      case rel => exact ⟨i + 1, m + 1, by omega, by have := HM.out; omega, by go_num, by go_num, HB.out⟩
      case measure => simp [intOf]; omega
    · have hlt' : decide ((i : Int) < (n : Int)) = false := by simp; omega
      obtain rfl : i = n := by omega
      clear hlt hm hb
      go_wp2
      go_ret
      exact ⟨by rw [HM.out]; rfl, HB.out⟩
/-- A row of one's own: no block, or one from B on. -/
def OwnR (B T sz : Nat) (a : Option Addr) (n cap : Nat) (w : World) : Prop :=
  (a = none ∧ n = 0 ∧ cap = 0) ∨ ∃ g X, a = some ⟨g, 0, none⟩ ∧ B ≤ g ∧ w.heap[g]? = some (.cells X T (0, 0)) ∧ n * sz ≤ X.size
theorem OwnR.of {B T sz n cap : Nat} {a : Option Addr} {w : World} {xs : List Value} (h : w.ownsRow B T sz (.slice a n cap) n xs) : OwnR B T sz a n cap w := by
  obtain ⟨hl, ⟨hv, h0⟩ | ⟨g, cap', cur, hv, a1, hblk, a3, a4, a5, a6⟩⟩ := h
  · injection hv with h1 h2 h3
    exact .inl ⟨h1, h2, h3⟩
  · injection hv with h1 h2 h3
    refine .inr ⟨g, cur, h1, a1, hblk, ?_⟩
    rw [a5]
    exact Nat.mul_le_mul_right _ a3
theorem flatD_get : ∀ (cs : List Dat) (i : Nat) (d : Dat), cs[i]? = some d → (flatD cs)[i * 5]? = some (.int .i64 d.k) ∧ (flatD cs)[i * 5 + 1]? = some (.int .i64 d.n) ∧ (flatD cs)[i * 5 + 2]? = some (.string d.s) ∧ (flatD cs)[i * 5 + 3]? = some (.int .i64 d.l) ∧ (flatD cs)[i * 5 + 4]? = some (.int .i64 d.r)
  | [], i, d, h => by simp at h
  | c :: cs, 0, d, h => by
    obtain rfl : c = d := by simpa using h
    exact ⟨rfl, rfl, rfl, rfl, rfl⟩
  | c :: cs, i + 1, d, h => by
    have ih := flatD_get cs i d (by simpa using h)
    have e : flatD (c :: cs) = [Value.int .i64 c.k, .int .i64 c.n, .string c.s, .int .i64 c.l, .int .i64 c.r] ++ flatD cs := by simp [flatD]
    have sh : ∀ j, (flatD (c :: cs))[(i + 1) * 5 + j]? = (flatD cs)[i * 5 + j]? := fun j => by
      rw [e, List.getElem?_append_right (by simp; omega)]
      congr 1
      simp
      omega
    exact ⟨(sh 0).trans ih.1, (sh 1).trans ih.2.1, (sh 2).trans ih.2.2.1, (sh 3).trans ih.2.2.2.1, (sh 4).trans ih.2.2.2.2⟩
theorem take_get {cur : Array Value} {xs : List Value} {m i : Nat} {v : Value} (h : List.take m cur.toList = xs) (hx : xs[i]? = some v) : cur[i]? = some v := by
  subst h
  have hi : i < m := by
    have := (List.getElem?_eq_some_iff.1 hx).1
    simp at this
    omega
  rw [List.getElem?_take_of_lt hi] at hx
  simpa using hx
/-- The rows that a call made, as rows. -/
theorem own_rowD {B cap : Nat} {a : Option Addr} {w : World} {cs : List Dat} (h : w.ownsRow B 49 5 (.slice a cs.length cap) cs.length (flatD cs)) : RowD w w.heap.size a cs := by
  intro i d hd
  obtain ⟨hl, ⟨hv, h0⟩ | ⟨g, cap', cur, hv, a1, hblk, a3, a4, a5, a6⟩⟩ := h
  · rw [List.eq_nil_of_length_eq_zero h0] at hd
    simp at hd
  · injection hv with h1 h2 h3
    obtain ⟨f0, f1, f2, f3, f4⟩ := flatD_get cs i d hd
    refine ⟨g, 0, h1, (Array.getElem?_eq_some_iff.1 hblk).1, ?_⟩
    rw [Nat.zero_add]
    exact ⟨cell_blk hblk (take_get a6 f0), cell_blk hblk (take_get a6 f1), cell_blk hblk (take_get a6 f2), cell_blk hblk (take_get a6 f3), cell_blk hblk (take_get a6 f4)⟩
theorem own_rowI {B cap : Nat} {a : Option Addr} {w : World} {ts : List Int} (h : w.ownsRow B 3 1 (.slice a ts.length cap) ts.length (ts.map (Value.int .i64 ·))) : RowI w w.heap.size a ts := by
  intro i x hx
  obtain ⟨hl, ⟨hv, h0⟩ | ⟨g, cap', cur, hv, a1, hblk, a3, a4, a5, a6⟩⟩ := h
  · rw [List.eq_nil_of_length_eq_zero h0] at hx
    simp at hx
  · injection hv with h1 h2 h3
    refine ⟨g, 0, h1, (Array.getElem?_eq_some_iff.1 hblk).1, ?_⟩
    rw [Nat.zero_add]
    exact cell_blk hblk (take_get a6 (by rw [List.getElem?_map, hx]; rfl))
/-- A row that is marked. -/
theorem mark_rowD {n k g : Nat} {A : Array Value} {w : World} (hg : w.heap[g]? = some (.cells A 49 (0, 0))) (hA : ∀ p, p < n * 5 → A[p]? = some (mkc k p)) : RowD w w.heap.size (some ⟨g, 0, none⟩) (mkD k n) := by
  intro i d hd
  have hi : i < n := by
    have := (List.getElem?_eq_some_iff.1 hd).1
    simpa [mkD] using this
  rw [mkD_get hi] at hd
  obtain rfl := Option.some.inj hd
  refine ⟨g, 0, rfl, (Array.getElem?_eq_some_iff.1 hg).1, ?_⟩
  rw [Nat.zero_add]
  refine ⟨cell_blk hg ((hA _ (by omega)).trans ?_), cell_blk hg ((hA _ (by omega)).trans ?_), cell_blk hg ((hA _ (by omega)).trans ?_), cell_blk hg ((hA _ (by omega)).trans ?_), cell_blk hg ((hA _ (by omega)).trans ?_)⟩
  · exact congrArg some (mkc_int0 (k := k) (i := i) (x := ((k + i * 5 : Nat) : Int)) (by omega)).symm
  · exact congrArg some (mkc_int (k := k) (i := i) (j := 1) (x := ((k + i * 5 : Nat) : Int) + 1) (by omega) (by omega) (by omega)).symm
  · exact congrArg some (mkc_txt rfl).symm
  · exact congrArg some (mkc_int (k := k) (i := i) (j := 3) (x := ((k + i * 5 : Nat) : Int) + 1 + 1 + 1) (by omega) (by omega) (by omega)).symm
  · exact congrArg some (mkc_int (k := k) (i := i) (j := 4) (x := ((k + i * 5 : Nat) : Int) + 1 + 1 + 1 + 1) (by omega) (by omega) (by omega)).symm
theorem mark_rowI {n k g : Nat} {A : Array Value} {w : World} (hg : w.heap[g]? = some (.cells A 3 (0, 0))) (hA : ∀ p, p < n → A[p]? = some (.int .i64 ((k + p : Nat) : Int))) : RowI w w.heap.size (some ⟨g, 0, none⟩) (mkI k n) := by
  intro i d hd
  have hi : i < n := by
    have := (List.getElem?_eq_some_iff.1 hd).1
    simpa [mkI] using this
  rw [mkI_get hi] at hd
  obtain rfl := Option.some.inj hd
  refine ⟨g, 0, rfl, (Array.getElem?_eq_some_iff.1 hg).1, ?_⟩
  rw [Nat.zero_add]
  exact cell_blk hg (hA _ hi)
/-- Marks into a row of data, be there one or not. -/
theorem markD_any (a : Option Addr) (n cap k B : Nat) (w : World) (h : OwnR B 49 5 a n cap w) (hn : n ≤ 1048576) (hk1 : 1 ≤ k) (hk : k ≤ 1048576) (hB : B ≤ w.heap.size) :
    Calls Try.prog 16 #[.slice a n cap, .int .i64 k] w fun e w' => e = .returned (.int .i64 ((k + n * 5 : Nat) : Int)) ∧ Below B w w' ∧ RowD w' w'.heap.size a (mkD k n) ∧ (∀ (b : Nat) (X : Array Value), w.heap[b]? = some (.cells X 3 (0, 0)) → w'.heap[b]? = some (.cells X 3 (0, 0))) ∧ (∀ (b : Nat) (X : Array Value), w.heap[b]? = some (.cells X 25 (0, 0)) → w'.heap[b]? = some (.cells X 25 (0, 0))) ∧ (∀ (c o : Nat), a = some ⟨c, o, none⟩ → ∃ X, w'.heap[c]? = some (.cells X 49 (0, 0))) := by
  rcases h with ⟨rfl, rfl, rfl⟩ | ⟨g, X, rfl, hBg, hg, hX⟩
  · refine (markDatumS_nil k w).mono ?_
    rintro e w' ⟨rfl, rfl⟩
    exact ⟨by simp, Below.refl _ _, fun i d hd => by simp [mkD] at hd, fun b X h => h, fun b X h => h, fun c o h => by cases h⟩
  · refine (markDatumS_any g n cap k X w hg hX hn hk1 hk).mono ?_
    rintro e w' ⟨rfl, hgr, A', hg', hA'⟩
    refine ⟨rfl, below_grown hgr hBg (Array.getElem?_eq_some_iff.1 hg).1, mark_rowD hg' hA', fun b X h => ?_, fun b X h => ?_, fun c o h => ?_⟩
    · refine (hgr.block b (Array.getElem?_eq_some_iff.1 h).1 (fun e => ?_)).trans h
      have hbg := Option.some.inj e
      subst hbg
      have := h.symm.trans hg
      simp at this
    · refine (hgr.block b (Array.getElem?_eq_some_iff.1 h).1 (fun e => ?_)).trans h
      have hbg := Option.some.inj e
      subst hbg
      have := h.symm.trans hg
      simp at this
    · injection h with h
      injection h with h
      subst h
      exact ⟨A', hg'⟩
theorem markI_any (a : Option Addr) (n cap k B : Nat) (w : World) (h : OwnR B 3 1 a n cap w) (hn : n ≤ 1048576) (hk : k ≤ 6291456) (hB : B ≤ w.heap.size) :
    Calls Try.prog 17 #[.slice a n cap, .int .i64 k] w fun e w' => e = .returned (.int .i64 ((k + n : Nat) : Int)) ∧ Below B w w' ∧ RowI w' w'.heap.size a (mkI k n) ∧ (∀ (b : Nat) (X : Array Value), w.heap[b]? = some (.cells X 49 (0, 0)) → w'.heap[b]? = some (.cells X 49 (0, 0))) ∧ (∀ (b : Nat) (X : Array Value), w.heap[b]? = some (.cells X 25 (0, 0)) → w'.heap[b]? = some (.cells X 25 (0, 0))) := by
  rcases h with ⟨rfl, rfl, rfl⟩ | ⟨g, X, rfl, hBg, hg, hX⟩
  · refine (markIntS_nil k w).mono ?_
    rintro e w' ⟨rfl, rfl⟩
    exact ⟨by simp, Below.refl _ _, fun i d hd => by simp [mkI] at hd, fun b X h => h, fun b X h => h⟩
  · refine (markIntS_any g n cap k X w hg (by omega) hn hk).mono ?_
    rintro e w' ⟨rfl, hgr, A', hg', hA'⟩
    refine ⟨rfl, below_grown hgr hBg (Array.getElem?_eq_some_iff.1 hg).1, mark_rowI hg' hA', fun b X h => ?_, fun b X h => ?_⟩
    · refine (hgr.block b (Array.getElem?_eq_some_iff.1 h).1 (fun e => ?_)).trans h
      have hbg := Option.some.inj e
      subst hbg
      have := h.symm.trans hg
      simp at this
    · refine (hgr.block b (Array.getElem?_eq_some_iff.1 h).1 (fun e => ?_)).trans h
      have hbg := Option.some.inj e
      subst hbg
      have := h.symm.trans hg
      simp at this
end Go.Proofs.Ytilaonjjpfebgaa
