/- What data are shown as, in plain words, and how long that is. -/
import Derived.Test.YtgfkmppkeolckaaDoorDat
import Derived.Test.YtgfkmppkeolckaaDoorDecp
namespace Go.Proofs.YtgfkmppkeolckaaDoor
open Go.ChangeShapes Go.WideShapes Go.ChangeAt Go.RowKit
/-- The parts of each pair lie ahead of it. -/
def PairOk (cs : List Dat) : Prop := ∀ (i : Nat) (d : Dat), cs[i]? = some d → d.k = 5 → 0 ≤ d.l ∧ d.l < i ∧ 0 ≤ d.r ∧ d.r < i
/-- The parts of a datum. -/
def partsOf (d : Dat) : List Int := if d.k = 5 then [d.l, d.r] else []
def usesOf (cs : List Dat) (ts : List Int) : List Int := cs.flatMap partsOf ++ ts
/-- Each cell is just once a part of a later one or a top. -/
def TreeP (cs : List Dat) (ts : List Int) : Prop :=
  PairOk cs ∧ (∀ t ∈ ts, 0 ≤ t ∧ t < cs.length) ∧ ∀ i : Nat, i < cs.length → (usesOf cs ts).count (i : Int) = 1
/-- A cell's text (false), or that of the rest of a list (true). -/
def shF (cs : List Dat) : Nat → Nat → Bool → List UInt8
  | 0, _, _ => []
  | f + 1, i, false =>
    match cs[i]? with
    | none => []
    | some d =>
      if d.k = 1 then decL d.n
      else if d.k = 2 then (if d.n = 1 then [35, 116] else [35, 102])
      else if d.k = 3 then d.s.data.toList
      else if d.k = 4 then [40, 41]
      else if d.k = 5 then 40 :: (shF cs f d.l.toNat false ++ shF cs f d.r.toNat true ++ [41])
      else []
  | f + 1, r, true =>
    match cs[r]? with
    | none => []
    | some d =>
      if d.k = 5 then 32 :: (shF cs f d.l.toNat false ++ shF cs f d.r.toNat true)
      else if d.k = 4 then []
      else [32, 46, 32] ++ shF cs f r false
def need (i : Nat) (m : Bool) : Nat := if m then 2 * i + 2 else 2 * i + 1
theorem shF_more {cs : List Dat} (hp : PairOk cs) : ∀ (f g i : Nat) (m : Bool), need i m ≤ f → need i m ≤ g → shF cs f i m = shF cs g i m
  | 0, _, i, m, h, _ => by cases m <;> simp [need] at h
  | _ + 1, 0, i, m, _, h => by cases m <;> simp [need] at h
  | f + 1, g + 1, i, m, hf, hg => by
    cases hd : cs[i]? with
    | none => cases m <;> simp only [shF, hd]
    | some d =>
      cases m with
      | false =>
        simp only [need, Bool.false_eq_true, if_false] at hf hg
        simp only [shF, hd]
        by_cases h5 : d.k = 5
        · obtain ⟨a, b, c, e⟩ := hp i d hd h5
          rw [shF_more hp f g d.l.toNat false (by simp [need]; omega) (by simp [need]; omega), shF_more hp f g d.r.toNat true (by simp [need]; omega) (by simp [need]; omega)]
        · simp only [h5, if_false]
      | true =>
        simp only [need, if_true] at hf hg
        simp only [shF, hd]
        by_cases h5 : d.k = 5
        · obtain ⟨a, b, c, e⟩ := hp i d hd h5
          rw [shF_more hp f g d.l.toNat false (by simp [need]; omega) (by simp [need]; omega), shF_more hp f g d.r.toNat true (by simp [need]; omega) (by simp [need]; omega), shF_more hp f g i false (by simp [need]; omega) (by simp [need]; omega)]
        · rw [shF_more hp f g i false (by simp [need]; omega) (by simp [need]; omega)]
          simp only [h5, if_false]
def sh (cs : List Dat) (i : Nat) : List UInt8 := shF cs (2 * i + 1) i false
def rst (cs : List Dat) (i : Nat) : List UInt8 := shF cs (2 * i + 2) i true
theorem sh_flat {cs : List Dat} {i : Nat} {d : Dat} (hd : cs[i]? = some d) (h : d.k ≠ 5) : sh cs i =
    (if d.k = 1 then decL d.n else if d.k = 2 then (if d.n = 1 then [35, 116] else [35, 102]) else if d.k = 3 then d.s.data.toList else if d.k = 4 then [40, 41] else []) := by
  simp only [sh, shF, hd, h, if_false]
theorem sh_pair {cs : List Dat} {i : Nat} {d : Dat} (hp : PairOk cs) (hd : cs[i]? = some d) (h : d.k = 5) : sh cs i = 40 :: (sh cs d.l.toNat ++ rst cs d.r.toNat ++ [41]) := by
  obtain ⟨a, b, c, e⟩ := hp i d hd h
  have e1 : shF cs (2 * i) d.l.toNat false = sh cs d.l.toNat := shF_more hp _ _ _ _ (by simp [need]; omega) (by simp [need])
  have e2 : shF cs (2 * i) d.r.toNat true = rst cs d.r.toNat := shF_more hp _ _ _ _ (by simp [need]; omega) (by simp [need])
  show shF cs (2 * i + 1) i false = _
  simp [shF, hd, h, e1, e2]
theorem rst_pair {cs : List Dat} {i : Nat} {d : Dat} (hp : PairOk cs) (hd : cs[i]? = some d) (h : d.k = 5) : rst cs i = 32 :: (sh cs d.l.toNat ++ rst cs d.r.toNat) := by
  obtain ⟨a, b, c, e⟩ := hp i d hd h
  have e1 : shF cs (2 * i + 1) d.l.toNat false = sh cs d.l.toNat := shF_more hp _ _ _ _ (by simp [need]; omega) (by simp [need])
  have e2 : shF cs (2 * i + 1) d.r.toNat true = rst cs d.r.toNat := shF_more hp _ _ _ _ (by simp [need]; omega) (by simp [need])
  show shF cs (2 * i + 1 + 1) i true = _
  rw [shF, hd]
  simp only [h, if_true, e1, e2]
theorem rst_nil {cs : List Dat} {i : Nat} {d : Dat} (hd : cs[i]? = some d) (h : d.k = 4) : rst cs i = [] := by
  show shF cs (2 * i + 1 + 1) i true = _
  simp [shF, hd, h]
theorem rst_other {cs : List Dat} {i : Nat} {d : Dat} (hd : cs[i]? = some d) (h : d.k ≠ 5) (h4 : d.k ≠ 4) : rst cs i = [32, 46, 32] ++ sh cs i := by
  show shF cs (2 * i + 1 + 1) i true = _
  rw [shF, hd]
  simp only [h, h4, if_false]
  rfl
/-- What a cell and its parts may take. -/
def wtF (cs : List Dat) : Nat → Nat → Nat
  | 0, _ => 0
  | f + 1, i =>
    match cs[i]? with
    | none => 0
    | some d => d.s.size + 24 + (if d.k = 5 then wtF cs f d.l.toNat + wtF cs f d.r.toNat else 0)
theorem wtF_more {cs : List Dat} (hp : PairOk cs) : ∀ (f g i : Nat), i + 1 ≤ f → i + 1 ≤ g → wtF cs f i = wtF cs g i
  | 0, _, i, h, _ => by omega
  | _ + 1, 0, i, _, h => by omega
  | f + 1, g + 1, i, hf, hg => by
    cases hd : cs[i]? with
    | none => simp only [wtF, hd]
    | some d =>
      simp only [wtF, hd]
      by_cases h5 : d.k = 5
      · obtain ⟨a, b, c, e⟩ := hp i d hd h5
        rw [wtF_more hp f g d.l.toNat (by omega) (by omega), wtF_more hp f g d.r.toNat (by omega) (by omega)]
      · simp only [h5, if_false]
def wt (cs : List Dat) (i : Nat) : Nat := wtF cs (i + 1) i
theorem wt_pair {cs : List Dat} {i : Nat} {d : Dat} (hp : PairOk cs) (hd : cs[i]? = some d) (h : d.k = 5) : wt cs i = d.s.size + 24 + (wt cs d.l.toNat + wt cs d.r.toNat) := by
  obtain ⟨a, b, c, e⟩ := hp i d hd h
  have e1 : wtF cs i d.l.toNat = wt cs d.l.toNat := wtF_more hp _ _ _ (by omega) (by omega)
  have e2 : wtF cs i d.r.toNat = wt cs d.r.toNat := wtF_more hp _ _ _ (by omega) (by omega)
  show wtF cs (i + 1) i = _
  simp [wtF, hd, h, e1, e2]
theorem wt_flat {cs : List Dat} {i : Nat} {d : Dat} (hd : cs[i]? = some d) (h : d.k ≠ 5) : wt cs i = d.s.size + 24 := by
  show wtF cs (i + 1) i = _
  simp [wtF, hd, h]
theorem decL_le (x : Int) : (decL x).length ≤ 21 := by
  rcases Int.lt_trichotomy x 0 with h | rfl | h
  · rw [decL_neg x h]
    have := digs_len_fuel 20 (-x).toNat
    simp; omega
  · decide
  · rw [decL_pos x h]
    have := digs_len_fuel 20 x.toNat
    omega
theorem sh_le {cs : List Dat} (hp : PairOk cs) : ∀ (i : Nat), (sh cs i).length + (match cs[i]? with | some d => if d.k = 5 then 0 else 3 | none => 0) ≤ wt cs i ∧ (rst cs i).length ≤ wt cs i := by
  intro i
  induction i using Nat.strongRecOn with
  | ind i ih =>
    cases hd : cs[i]? with
    | none =>
      have e1 : sh cs i = [] := by simp only [sh, shF, hd]
      have e2 : rst cs i = [] := by show shF cs (2 * i + 1 + 1) i true = _; rw [shF, hd]
      rw [e1, e2]; simp
    | some d =>
      by_cases h5 : d.k = 5
      · obtain ⟨a, b, c, e⟩ := hp i d hd h5
        obtain ⟨l1, _⟩ := ih d.l.toNat (by omega)
        obtain ⟨_, r1⟩ := ih d.r.toNat (by omega)
        rw [sh_pair hp hd h5, rst_pair hp hd h5, wt_pair hp hd h5]
        simp only [h5, if_true, List.length_cons, List.length_append, List.length_nil]
        omega
      · have hx : (sh cs i).length ≤ d.s.size + 21 := by
          rw [sh_flat hd h5]
          have := decL_le d.n
          split
          · omega
          · split
            · split <;> simp
            · split
              · simp [← Array.length_toList, ByteArray.size]
              · split <;> simp
        have hr : (rst cs i).length ≤ (sh cs i).length + 3 := by
          by_cases h4 : d.k = 4
          · rw [rst_nil hd h4]; simp
          · rw [rst_other hd h5 h4]; simp
        rw [wt_flat hd h5]
        simp only [h5, if_false]
        omega
def sumW (f : Nat → Nat) (l : List Nat) : Nat := (l.map f).sum
theorem sumW_perm (f : Nat → Nat) {a b : List Nat} (h : List.Perm a b) : sumW f a = sumW f b := (h.map f).sum_nat
theorem sumW_append (f : Nat → Nat) (a b : List Nat) : sumW f (a ++ b) = sumW f a + sumW f b := by simp [sumW]
theorem le_sumW (f : Nat → Nat) {a : List Nat} {x : Nat} (h : x ∈ a) : f x ≤ sumW f a := by
  induction a with
  | nil => cases h
  | cons y a ih =>
    simp only [sumW, List.map_cons, List.sum_cons]
    rcases List.mem_cons.1 h with rfl | h
    · omega
    · have := ih h; simp only [sumW] at this; omega
/-- All places. -/
theorem uses_perm {cs : List Dat} {ts : List Int} (h : TreeP cs ts) : List.Perm ((usesOf cs ts).map Int.toNat) (List.range cs.length) := by
  obtain ⟨hp, ht, hc⟩ := h
  have hin : ∀ u ∈ usesOf cs ts, 0 ≤ u ∧ u < cs.length := by
    intro u hu
    rcases List.mem_append.1 hu with hu | hu
    · obtain ⟨d, hd, hud⟩ := List.mem_flatMap.1 hu
      unfold partsOf at hud
      split at hud
      · rename_i h5
        obtain ⟨i, hi, rfl⟩ := List.mem_iff_getElem.1 hd
        obtain ⟨a, b, c, e⟩ := hp i _ (List.getElem?_eq_getElem hi) h5
        rcases List.mem_cons.1 hud with rfl | hud
        · omega
        · rcases List.mem_cons.1 hud with rfl | hud
          · omega
          · cases hud
      · cases hud
    · exact ht u hu
  rw [List.perm_iff_count]
  intro a
  have hcount : ((usesOf cs ts).map Int.toNat).count a = (usesOf cs ts).count (a : Int) := by
    generalize usesOf cs ts = l at hin
    induction l with
    | nil => rfl
    | cons x l ih =>
      have hx := hin x (by simp)
      rw [List.map_cons, List.count_cons, List.count_cons, ih (fun u hu => hin u (by simp [hu]))]
      congr 1
      by_cases hxa : x = (a : Int)
      · subst hxa; simp
      · have : x.toNat ≠ a := by omega
        simp [hxa, this]
  rw [hcount]
  by_cases ha : a < cs.length
  · rw [hc a ha, List.count_range]
    simp [ha]
  · rw [List.count_range]
    simp only [ha, if_false]
    apply List.count_eq_zero.2
    intro hm
    have := hin _ hm
    omega
theorem sum_own {cs : List Dat} (hp : PairOk cs) : ∀ (n : Nat), n ≤ cs.length → sumW (wt cs) (List.range n) = bulkD (cs.take n) + 23 * n + sumW (wt cs) (((cs.take n).flatMap partsOf).map Int.toNat)
  | 0, _ => by simp [sumW, bulkD]
  | n + 1, h => by
    have ih := sum_own hp n (by omega)
    obtain ⟨d, hd⟩ : ∃ d, cs[n]? = some d := ⟨_, List.getElem?_eq_getElem (by omega)⟩
    rw [List.range_succ, sumW_append, ih, bulkD_take_succ hd, List.take_add_one, hd]
    simp only [Option.toList_some, List.flatMap_append, List.map_append, sumW_append, List.flatMap_cons, List.flatMap_nil, List.append_nil]
    have e : sumW (wt cs) [n] = d.s.size + 24 + sumW (wt cs) ((partsOf d).map Int.toNat) := by
      unfold partsOf
      by_cases h5 : d.k = 5
      · simp [sumW, h5, wt_pair hp hd h5]
      · simp [sumW, h5, wt_flat hd h5]
    rw [e]
    omega
theorem tops_wt {cs : List Dat} {ts : List Int} (h : TreeP cs ts) : sumW (wt cs) (ts.map Int.toNat) = bulkD cs + 23 * cs.length := by
  have h1 := sumW_perm (wt cs) (uses_perm h)
  rw [sum_own h.1 cs.length (Nat.le_refl _), List.take_length] at h1
  unfold usesOf at h1
  rw [List.map_append, sumW_append] at h1
  omega
theorem wt_le {cs : List Dat} {ts : List Int} (h : TreeP cs ts) : ∀ (k i : Nat), i < cs.length → cs.length - i ≤ k → wt cs i ≤ bulkD cs + 23 * cs.length
  | 0, i, hi, hk => by omega
  | k + 1, i, hi, hk => by
    have hm : (i : Int) ∈ usesOf cs ts := by
      apply List.count_pos_iff.1
      rw [h.2.2 i hi]; omega
    rcases List.mem_append.1 hm with hu | hu
    · obtain ⟨d, hd, hud⟩ := List.mem_flatMap.1 hu
      unfold partsOf at hud
      split at hud
      · rename_i h5
        obtain ⟨j, hj, rfl⟩ := List.mem_iff_getElem.1 hd
        have hjd := List.getElem?_eq_getElem hj
        obtain ⟨a, b, c, e⟩ := h.1 j _ hjd h5
        have hw := wt_pair h.1 hjd h5
        have hij : i < j := by
          rcases List.mem_cons.1 hud with hud | hud
          · omega
          · rcases List.mem_cons.1 hud with hud | hud
            · omega
            · cases hud
        have ih := wt_le h k j hj (by omega)
        rcases List.mem_cons.1 hud with hud | hud
        · rw [← hud] at hw
          simp only [Int.toNat_natCast] at hw
          omega
        · rcases List.mem_cons.1 hud with hud | hud
          · rw [← hud] at hw
            simp only [Int.toNat_natCast] at hw
            omega
          · cases hud
      · cases hud
    · rw [← tops_wt h]
      apply le_sumW
      exact List.mem_map.2 ⟨_, hu, by simp⟩
theorem sh_bound {cs : List Dat} {ts : List Int} (h : TreeP cs ts) (hb : bulkD cs ≤ 1048576) (i : Nat) (hi : i < cs.length) : (sh cs i).length ≤ 33554432 := by
  have h1 := (sh_le h.1 i).1
  have h2 := wt_le h _ i hi (Nat.le_refl _)
  have h3 := bulkD_len cs
  omega
/-- The text of all tops. -/
def shAll (cs : List Dat) (ts : List Int) : List UInt8 := ts.flatMap fun t => sh cs t.toNat ++ [10]
theorem shAll_le {cs : List Dat} (hp : PairOk cs) : ∀ (ts : List Int), (shAll cs ts).length ≤ sumW (wt cs) (ts.map Int.toNat) + ts.length
  | [] => by simp [shAll, sumW]
  | t :: ts => by
    have ih := shAll_le hp ts
    have h1 := (sh_le hp t.toNat).1
    simp only [shAll, sumW, List.flatMap_cons, List.map_cons, List.sum_cons, List.length_append, List.length_cons, List.length_nil] at *
    omega
theorem shAll_bound {cs : List Dat} {ts : List Int} (h : TreeP cs ts) (hb : bulkD cs + ts.length ≤ 1048576) : (shAll cs ts).length ≤ 33554432 := by
  have h1 := shAll_le h.1 ts
  have h2 := tops_wt h
  have h3 := bulkD_len cs
  omega
end Go.Proofs.YtgfkmppkeolckaaDoor
