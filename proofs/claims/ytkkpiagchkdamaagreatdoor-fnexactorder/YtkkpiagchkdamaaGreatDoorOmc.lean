/- The model's Order: what is right. The model's Order: are they right? The model's Order. -/
import Derived.Test.YtkkpiagchkdamaaGreatDoorOio
import Derived.Test.YtkkpiagchkdamaaGreatDoorSli
import Derived.Deep.RegionWith
import Derived.Test.YtkkpiagchkdamaaGreatDoorSle
import Derived.Deep.RegionHeldLaw
import Derived.Deep.RegionHeld3
set_option linter.unusedVariables false
namespace Go.Proofs.YtkkpiagchkdamaaGreatDoor
open Go.ChangeShapes Go.WideShapes Go.ChangeAt Go.RowKit
theorem hasS_iff {ts : List ByteArray} {s : ByteArray} : hasS ts s = true ↔ nmL s ∈ ts.map nmL := by
  unfold hasS
  rw [List.any_eq_true, List.mem_map]
  constructor
  · rintro ⟨t, ht, he⟩
    exact ⟨t, ht, by have := beq_iff_eq.1 he; rwa [Lib.toList_data, Lib.toList_data] at this⟩
  · rintro ⟨t, ht, he⟩
    exact ⟨t, ht, beq_iff_eq.2 (by rw [Lib.toList_data, Lib.toList_data]; exact he)⟩
theorem hasS_no {ts : List ByteArray} {s : ByteArray} : hasS ts s = false ↔ nmL s ∉ ts.map nmL := by
  rw [← hasS_iff, Bool.not_eq_true]
/-- The place of a source, or -1. -/
def AtP (l : List Srx) (x : ByteArray) (w : World) (e : Ending) (w' : World) : Prop := w' = w ∧ ((hasS (l.map (·.name)) x = true ∧ ∃ k : Nat, k ≤ l.length ∧ e = .returned (.int .i64 k)) ∨ (hasS (l.map (·.name)) x = false ∧ e = .returned (.int .i64 (-1))))
set_option maxRecDepth 100000 in
set_option maxHeartbeats 1000000 in
theorem l12At_any (a : Option Addr) (l : List Srx) (ca : Nat) (x : ByteArray) (w : World) (hl : l.length ≤ 1048576) (hr : rgX.Row w (fun b => b < w.heap.size) a l) :
    Calls Tryz.prog 29 #[.slice a l.length ca, .string x] w fun e w' => AtP l x w e w' := by
  have HR : Hid (rgX.Row w (fun b => b < w.heap.size) a l) := hr
  clear hr
  go_enter Tryz.func29, Tryz.ntmps29
  go_wp2
  go_loopw [5] (fun o wr => ∃ i : Nat, i ≤ l.length ∧ o = .int .i64 i ∧ hasS ((l.take i).map (·.name)) x = false ∧ wr = w) (fun o _ => l.length - (intOf o).toNat)
  case atStart => exact ⟨0, by omega, rfl, rfl, rfl⟩
  case round =>
    obtain ⟨i, hi, rfl, hno, rfl⟩ := hrel
    by_cases hlt : i < l.length
    · obtain ⟨d, hd⟩ : ∃ d, l[i]? = some d := ⟨_, List.getElem?_eq_getElem hlt⟩
      obtain ⟨b1, o1, cs, rfl, hbb, ⟨a1, a2, a3, a4, a5, c1, c2, c3, c4, c5, rfl, _⟩, hlies⟩ := HR.out i d hd
      have y0 : wr.cell? ⟨b1, o1 + i * 6, none⟩ = some (.string d.name) := hlies 0 _ rfl
      have HT : Hid (hasS ((l.take (i + 1)).map (·.name)) x = (d.name.toList == x.toList)) := by
        show _ = _
        rw [map_take _ hd]
        unfold hasS at hno ⊢
        rw [List.any_append, hno]
        simp
      have HIN : Hid (d.name.toList = x.toList → hasS (l.map (·.name)) x = true) := fun h => List.any_eq_true.2 ⟨d.name, List.mem_map.2 ⟨d, List.mem_of_getElem? hd, rfl⟩, beq_iff_eq.2 h⟩
      clear hd hlies
      by_cases he : d.name.toList = x.toList
      · have hq : (d.name.toList == x.toList) = true := beq_iff_eq.2 he
        go_wp2
        go_ret
        exact ⟨rfl, .inl ⟨HIN.out he, i, by omega, rfl⟩⟩
      · have hq : (d.name.toList == x.toList) = false := beq_eq_false_iff_ne.2 he
        go_wp2
        go_roundw
        case rel => exact ⟨i + 1, by omega, by go_num, by rw [HT.out]; exact hq, trivial⟩
        case measure => simp [intOf]; omega
    · obtain rfl : i = l.length := by omega
      rw [List.take_length] at hno
      have hlt' : decide ((l.length : Int) < (l.length : Int)) = false := by simp
      go_wp2
      go_ret
      exact ⟨rfl, .inr ⟨hno, rfl⟩⟩
set_option maxRecDepth 100000 in
set_option maxHeartbeats 1000000 in
theorem l12All_any (a b : Option Addr) (ts us : List ByteArray) (ca cb : Nat) (w : World) (hn : ts.length ≤ 1048576) (hm : us.length ≤ 1048576) (hr : RowS w w.heap.size a ts) (hq : RowS w w.heap.size b us) :
    Calls Tryz.prog 31 #[.slice a ts.length ca, .slice b us.length cb] w fun e w' => Ans w (.bool (ts.all (hasS us))) e w' := by
  have HR : Hid (RowS w w.heap.size a ts) := hr
  have HC : Hid (∀ W x, Below w.heap.size w W → Calls Tryz.prog 30 #[.slice b us.length cb, .string x] W fun e w' => Ans W (.bool (hasS us x)) e w') := fun W x h => l3In_any b us cb x W hm ((hq.below h).mono h.size)
  clear hr hq
  go_enter Tryz.func31, Tryz.ntmps31
  go_wp2
  go_loopw [5] (fun o wr => ∃ i : Nat, i ≤ ts.length ∧ o = .int .i64 i ∧ (ts.take i).all (hasS us) = true ∧ Below w.heap.size w wr) (fun o _ => ts.length - (intOf o).toNat)
  case atStart => exact ⟨0, by omega, rfl, rfl, Below.refl _ _⟩
  case round =>
    obtain ⟨i, hi, rfl, hno, hb⟩ := hrel
    by_cases hlt : i < ts.length
    · obtain ⟨d, hd⟩ : ∃ d, ts[i]? = some d := ⟨_, List.getElem?_eq_getElem hlt⟩
      obtain ⟨b1, o1, rfl, hbb, hc⟩ := (HR.out.below hb) i d hd
      have HT : Hid ((ts.take (i + 1)).all (hasS us) = hasS us d) := by
        show _ = _
        rw [List.take_add_one, hd, List.all_append, hno]
        simp
      have HF : Hid (hasS us d = false → ts.all (hasS us) = false) := fun h => List.all_eq_false.2 ⟨d, List.mem_of_getElem? hd, by rw [h]; simp⟩
      have hsz := hb.size
      clear hd
      cases hq : hasS us d
      · go_wp2_with (go_at_call 30; refine (HC.out _ d hb).mono ?_; rintro e w2 ⟨rfl, hb2⟩; rw [hq])
        go_ret
        exact ⟨by rw [HF.out hq]; rfl, hb.trans (hb2.mono hsz)⟩
      · go_wp2_with (go_at_call 30; refine (HC.out _ d hb).mono ?_; rintro e w2 ⟨rfl, hb2⟩; rw [hq])
        go_roundw
        case rel => exact ⟨i + 1, by omega, by go_num, by rw [HT.out]; exact hq, hb.trans (hb2.mono hsz)⟩
        case measure => simp [intOf]; omega
    · obtain rfl : i = ts.length := by omega
      rw [List.take_length] at hno
      have hlt' : decide ((ts.length : Int) < (ts.length : Int)) = false := by simp
      go_wp2
      go_ret
      exact ⟨by rw [hno]; rfl, hb⟩
/-- What the model asks of each. -/
def okI (l : List Srx) (j : Nat) (s : Srx) : Prop := s.ok = true ∧ hasS ((l.take j).map (·.name)) s.name = false ∧ ∀ x ∈ s.imps, hasS (l.map (·.name)) x = true
theorem names_nm (l : List Srx) : (l.map (·.name)).map nmL = (toPs l).map (·.1) := by simp [toPs]
theorem okI_all {l : List Srx} (h : ∀ (j : Nat) (s : Srx), l[j]? = some s → okI l j s) : (srcsB l && decide (closedP (toPs l))) = true := by
  unfold srcsB
  simp only [Bool.and_eq_true, decide_eq_true_eq, List.all_eq_true]
  refine ⟨⟨fun s hs => ?_, ?_⟩, fun s hs x hx => ?_⟩
  · obtain ⟨j, hj, rfl⟩ := List.getElem_of_mem hs
    exact (h j _ (List.getElem?_eq_getElem hj)).1
  · rw [List.Nodup, List.pairwise_iff_getElem]
    intro i j hi hj hij
    simp only [toPs, List.length_map] at hi hj
    have h1 := hasS_no.1 (h j _ (List.getElem?_eq_getElem hj)).2.1
    simp only [toPs, List.getElem_map]
    intro e
    refine h1 (List.mem_map.2 ⟨(l[i]).name, List.mem_map.2 ⟨l[i], ?_, rfl⟩, e⟩)
    exact List.mem_iff_getElem?.2 ⟨i, by rw [List.getElem?_take_of_lt hij]; exact List.getElem?_eq_getElem hi⟩
  · obtain ⟨z, hz, rfl⟩ := List.mem_map.1 hs
    obtain ⟨y, hy, rfl⟩ := List.mem_map.1 hx
    obtain ⟨j, hj, rfl⟩ := List.getElem_of_mem hz
    have := hasS_iff.1 ((h j _ (List.getElem?_eq_getElem hj)).2.2 y hy)
    rwa [names_nm] at this
theorem okI_no {l : List Srx} {j : Nat} {s : Srx} (hj : l[j]? = some s) (h : ¬ okI l j s) : (srcsB l && decide (closedP (toPs l))) = false := by
  apply Bool.eq_false_iff.2
  intro ht
  apply h
  unfold srcsB at ht
  simp only [Bool.and_eq_true, decide_eq_true_eq, List.all_eq_true] at ht
  obtain ⟨⟨h1, h2⟩, h3⟩ := ht
  have hm := List.mem_of_getElem? hj
  refine ⟨h1 s hm, hasS_no.2 fun hin => ?_, fun x hx => hasS_iff.2 ?_⟩
  · obtain ⟨n, hn, e⟩ := List.mem_map.1 hin
    obtain ⟨t, ht, rfl⟩ := List.mem_map.1 hn
    obtain ⟨i, hi⟩ := List.mem_iff_getElem?.1 ht
    have hij : i < j := by
      have := (List.getElem?_eq_some_iff.1 hi).1
      rw [List.length_take] at this
      omega
    rw [List.getElem?_take_of_lt hij] at hi
    obtain ⟨li, ei⟩ := List.getElem?_eq_some_iff.1 hi
    obtain ⟨lj, ej⟩ := List.getElem?_eq_some_iff.1 hj
    have := List.pairwise_iff_getElem.1 h2 i j (by simpa [toPs] using li) (by simpa [toPs] using lj) hij
    simp only [toPs, List.getElem_map] at this
    rw [ei, ej] at this
    exact this e
  · rw [names_nm]
    exact h3 (nmL s.name, s.imps.map nmL) (List.mem_map.2 ⟨s, hm, rfl⟩) (nmL x) (List.mem_map.2 ⟨x, hx, rfl⟩)
end Go.Proofs.YtkkpiagchkdamaaGreatDoor
set_option linter.unusedVariables false
namespace Go.Proofs.YtkkpiagchkdamaaGreatDoor
open Go.ChangeShapes Go.WideShapes Go.ChangeAt Go.RowKit
theorem slR {a : Act} {o : Oper} {t : TypeId} {x y : Operand} {s k v : Value} {w : World} (ho : o.op = .slice t x none (some y) none) (hx : a.eval x = s) (hy : a.eval y = k) (h : (Instr.sliceAt t s none (some k) none).run Tryz.prog w = .ok v w) : (execOp a.eval o).run Tryz.prog w = .ok (.value v) w := by
  simp [execOp, ho, hx, hy, h, Result.andThen]
theorem geR {a : Act} {o : Oper} {x y : Operand} {w : World} (k : Nat) (ho : o.op = .binOp .geq 3 x y 3) (hx : a.eval x = .int .i64 k) (hy : a.eval y = .int .i64 0) (hu : Tryz.prog.underlying 3 = some (.int .i64)) : (execOp a.eval o).run Tryz.prog w = .ok (.value (.bool true)) w := by
  have h : (binOp .geq 3 (.int .i64 (k : Int)) (.int .i64 0)).run Tryz.prog w = .ok (.bool true) w := by simp [go_sem]
  simp [execOp, ho, hx, hy, h, eqGuard_geq, Result.andThen]
def flatOk (s : Srx) : Prop := (∀ d ∈ s.defs, (flat d.prog.nodes).length ≤ 1048576) ∧ ∀ d ∈ s.convs, (flat d.prog.nodes).length ≤ 1048576
set_option maxRecDepth 100000 in
set_option maxHeartbeats 2000000 in
theorem l12Ok_any (a : Option Addr) (l : List Srx) (ca : Nat) (w : World) (hl : l.length ≤ 1048576) (hca : l.length ≤ ca) (hsm : ∀ s ∈ l, Srx.small s) (hfl : ∀ s ∈ l, flatOk s) (hr : rgX.Row w (fun b => b < w.heap.size) a l) :
    Calls Tryz.prog 14 #[.slice a l.length ca] w fun e w' => Ans w (.bool (srcsB l && decide (closedP (toPs l)))) e w' := by
  have HR : Hid (rgX.Row w (fun b => b < w.heap.size) a l) := hr
  have HSM : Hid (∀ s ∈ l, Srx.small s) := hsm
  have HFL : Hid (∀ s ∈ l, flatOk s) := hfl
  have HAT : Hid (∀ W x, Below w.heap.size w W → Calls Tryz.prog 29 #[.slice a l.length ca, .string x] W fun e w' => AtP l x W e w') := fun W x h => l12At_any a l ca x W hl (HR.out.now (B := 0) h)
  have HAK : Hid (∀ W x (i : Nat) (c : Nat), i ≤ l.length → Below w.heap.size w W → Calls Tryz.prog 29 #[.slice a i c, .string x] W fun e w' => AtP (l.take i) x W e w') := fun W x i c hi h => by
    have h1 := l12At_any a (l.take i) c x W (by rw [List.length_take]; omega) ((HR.out.now (B := 0) h).take i)
    rw [List.length_take, Nat.min_eq_left hi] at h1
    exact h1
  clear hr hsm hfl
  go_enter Tryz.func14, Tryz.ntmps14
  go_wp2
  go_loopw [3] (fun o wr => ∃ i : Nat, i ≤ l.length ∧ o = .int .i64 i ∧ (∀ (j : Nat) (s : Srx), j < i → l[j]? = some s → okI l j s) ∧ Below w.heap.size w wr) (fun o _ => l.length - (intOf o).toNat)
  case atStart => exact ⟨0, by omega, rfl, fun j s hj => by omega, Below.refl _ _⟩
  case round =>
    obtain ⟨i, hi, rfl, hok, hb⟩ := hrel
    have HOK : Hid (∀ (j : Nat) (s : Srx), j < i → l[j]? = some s → okI l j s) := hok
    have hsz := hb.size
    clear hok
    by_cases hlt : i < l.length
    · obtain ⟨d, hd⟩ : ∃ d, l[i]? = some d := ⟨_, List.getElem?_eq_getElem hlt⟩
      have hdm := List.mem_of_getElem? hd
      have HD : Hid (l[i]? = some d) := hd
      obtain ⟨b1, o1, cs, rfl, hbb, ⟨a1, a2, a3, a4, a5, c1, c2, c3, c4, c5, rfl, hrows⟩, hlies⟩ := (HR.out.below hb) i d hd
      have y0 : wr.cell? ⟨b1, o1 + i * 6, none⟩ = some (.string d.name) := hlies 0 _ rfl
      have y1 : wr.cell? ⟨b1, o1 + i * 6 + 1, none⟩ = some (.slice a1 d.imps.length c1) := hlies 1 _ rfl
      have y2 : wr.cell? ⟨b1, o1 + i * 6 + 2, none⟩ = some (.slice a2 d.exps.length c2) := hlies 2 _ rfl
      have y3 : wr.cell? ⟨b1, o1 + i * 6 + 3, none⟩ = some (.slice a3 d.types.length c3) := hlies 3 _ rfl
      have y4 : wr.cell? ⟨b1, o1 + i * 6 + 4, none⟩ = some (.slice a4 d.defs.length c4) := hlies 4 _ rfl
      have y5 : wr.cell? ⟨b1, o1 + i * 6 + 5, none⟩ = some (.slice a5 d.convs.length c5) := hlies 5 _ rfl
      have HSC : Hid (∀ W, Below w.heap.size w W → (∀ b, b < w.heap.size → W.heap[b]? = wr.heap[b]?) → Calls Tryz.prog 28 #[.agg #[.string d.name, .slice a1 d.imps.length c1, .slice a2 d.exps.length c2, .slice a3 d.types.length c3, .slice a4 d.defs.length c4, .slice a5 d.convs.length c5]] W fun e w' => Ans W (.bool d.ok) e w') := fun W hW hk =>
        specSrc_any d a1 a2 a3 a4 a5 c1 c2 c3 c4 c5 W (HSM.out d hdm) (hrows.keep fun b hb' => ⟨Nat.lt_of_lt_of_le hb' hW.size, hk b hb'⟩) (HFL.out d hdm).1 (HFL.out d hdm).2
      have HIM : Hid (RowS wr w.heap.size a1 d.imps) := rowS_iff.1 hrows.1.1
      have hil : d.imps.length ≤ 1048576 := (HSM.out d hdm).2.1.1
      have HB : Hid (Below w.heap.size w wr) := hb
      have hbl : b1 < w.heap.size := hbb
      clear hd hlies hrows hdm hbb
      have HKS : Hid (∀ W, Below w.heap.size w W → Below w.heap.size w W ∧ W.cell? ⟨b1, o1 + i * 6, none⟩ = some (.string d.name) ∧ W.cell? ⟨b1, o1 + i * 6 + 1, none⟩ = some (.slice a1 d.imps.length c1) ∧ W.cell? ⟨b1, o1 + i * 6 + 2, none⟩ = some (.slice a2 d.exps.length c2) ∧ W.cell? ⟨b1, o1 + i * 6 + 3, none⟩ = some (.slice a3 d.types.length c3) ∧ W.cell? ⟨b1, o1 + i * 6 + 4, none⟩ = some (.slice a4 d.defs.length c4) ∧ W.cell? ⟨b1, o1 + i * 6 + 5, none⟩ = some (.slice a5 d.convs.length c5)) := fun W hW => by
        have hk : ∀ j v, wr.cell? ⟨b1, j, none⟩ = some v → W.cell? ⟨b1, j, none⟩ = some v := fun j v h => ((World.cell?_of_block (a := ⟨b1, j, none⟩) (hW.block b1 hbl)).trans (World.cell?_of_block (a := ⟨b1, j, none⟩) (HB.out.block b1 hbl)).symm).trans h
        exact ⟨hW, hk _ _ y0, hk _ _ y1, hk _ _ y2, hk _ _ y3, hk _ _ y4, hk _ _ y5⟩
      have i1 : (0 : Int) ≤ (i : Int) := by omega
      have i2 : (i : Int) < (l.length : Int) := by omega
      have i3 : (i : Int) ≤ (l.length : Int) := by omega
      have i4 : (i : Int) ≤ (ca : Int) := by omega
      have HSL : Hid (∀ W, (Instr.sliceAt 27 (.slice (some ⟨b1, o1, none⟩) l.length ca) none (some (.int .i64 i)) none).run Tryz.prog W = .ok (.slice (some ⟨b1, o1, none⟩) i ca) W) := fun W => by
        simp [go_sem] <;> omega
      have HSL : Hid (∀ W, (Instr.sliceAt 27 (.slice (some ⟨b1, o1, none⟩) l.length ca) none (some (.int .i64 i)) none).run Tryz.prog W = .ok (.slice (some ⟨b1, o1, none⟩) i ca) W) := fun W => by
        simp [go_sem] <;> omega
      cases hdo : d.ok
      · have HNO : Hid ((srcsB l && decide (closedP (toPs l))) = false) := okI_no HD.out fun h => by
          rw [h.1] at hdo
          cases hdo
        go_wp2_with fail
        refine wp_region_held (S := (fun W => (Below w.heap.size w W) ∧ (W.cell? ⟨b1, o1 + i * 6, none⟩ = some (.string d.name)) ∧ (W.cell? ⟨b1, o1 + i * 6 + 1, none⟩ = some (.slice a1 d.imps.length c1)) ∧ (W.cell? ⟨b1, o1 + i * 6 + 2, none⟩ = some (.slice a2 d.exps.length c2)) ∧ (W.cell? ⟨b1, o1 + i * 6 + 3, none⟩ = some (.slice a3 d.types.length c3)) ∧ (W.cell? ⟨b1, o1 + i * 6 + 4, none⟩ = some (.slice a4 d.defs.length c4)) ∧ (W.cell? ⟨b1, o1 + i * 6 + 5, none⟩ = some (.slice a5 d.convs.length c5)))) (by kernel_rfl) ?_
        have hS := HKS.out wr.drew (bel_dr HB.out)
        refine wpAnyH_take (i := 0) (v := .slice (some ⟨b1, o1, none⟩) l.length ca) rfl (by kernel_rfl) (by kernel_rfl) (by kernel_rfl) (fun _ _ _ h => h) (.inl ⟨by kernel_rfl, fun w' hS' => by kernel_rfl⟩) hS ?_
        refine wpAnyH_take (i := 1) (v := .int .i64 ↑i) rfl (by kernel_rfl) (by kernel_rfl) (by kernel_rfl) (fun _ _ _ h => h) (.inl ⟨by kernel_rfl, fun w' hS' => by kernel_rfl⟩) hS ?_
        refine wpAnyH_take (i := 2) (v := .pointer (some ⟨b1, o1 + i * 6, none⟩)) rfl (by kernel_rfl) (by kernel_rfl) (by kernel_rfl) (fun _ _ _ h => h) (.inl ⟨by kernel_rfl, fun w' hS' => ixR (s := .slice (some ⟨b1, o1, none⟩) l.length ca) (k := .int .i64 ↑i) rfl (by kernel_rfl) (by kernel_rfl) (by simp [go_sem] <;> omega)⟩) hS ?_
        refine wpAnyH_take (i := 3) (v := .agg #[.string d.name, .slice a1 d.imps.length c1, .slice a2 d.exps.length c2, .slice a3 d.types.length c3, .slice a4 d.defs.length c4, .slice a5 d.convs.length c5]) rfl (by kernel_rfl) (by kernel_rfl) (by kernel_rfl) (fun _ _ _ h => h) (.inl ⟨by kernel_rfl, fun w' hS' => ldR (p := .pointer (some ⟨b1, o1 + i * 6, none⟩)) rfl (by kernel_rfl) (by obtain ⟨hbS, q0, q1, q2, q3, q4, q5⟩ := hS'; simp [go_sem, q0, q1, q2, q3, q4, q5])⟩) hS ?_
        refine wpAnyH_eq (l' := #[true, true, true, true, false, false, false, false, false, false, false, false, false, false, false, false, false, false]) (a' := ⟨#[.slice (some ⟨b1, o1, none⟩) l.length ca, undef, u2, .int .i64 ↑i, u4, .int .i64 ↑i, .slice (some ⟨b1, o1, none⟩) l.length ca, .int .i64 ↑l.length, .bool true, u9, u10, .slice (some ⟨b1, o1, none⟩) l.length ca, .int .i64 ↑i, .pointer (some ⟨b1, o1 + i * 6, none⟩), .agg #[.string d.name, .slice a1 d.imps.length c1, .slice a2 d.exps.length c2, .slice a3 d.types.length c3, .slice a4 d.defs.length c4, .slice a5 d.convs.length c5], u15, u16, u17, u18, u19, u20, u21, u22, u23, u24, u25, u26, u27, u28, u29, u30, u31, u32, u33, u34, u35, u36, u37, u38, u39, u40, u41, u42, u43, u44, u45, u46, u47, u48, u49], []⟩) (by kernel_rfl) (by kernel_rfl) ?_
        refine wpAnyH_all (rs := [4]) (by kernel_rfl) (by simp) fun j hj => ?_
        obtain rfl : j = 4 := by simpa using hj
        refine opw_call (f := 28) (args := #[.agg #[.string d.name, .slice a1 d.imps.length c1, .slice a2 d.exps.length c2, .slice a3 d.types.length c3, .slice a4 d.defs.length c4, .slice a5 d.convs.length c5]]) rfl (by kernel_rfl) (by kernel_rfl) ((HSC.out _ (bel_dr HB.out) (fun b _ => rfl)).mono ?_)
        rintro e w2 ⟨rfl, hb2⟩
        rw [hdo]
        have hb2' : Below w.heap.size w w2 := (bel_dr HB.out).trans (hb2.mono hsz)
        have hS := HKS.out w2 hb2'
        refine ⟨_, rfl, hS, ?_⟩
        refine wpAnyH_eq (l' := #[true, true, true, true, true, false, false, false, false, false, false, false, false, false, false, false, false, false]) (a' := ⟨#[.slice (some ⟨b1, o1, none⟩) l.length ca, undef, u2, .int .i64 ↑i, u4, .int .i64 ↑i, .slice (some ⟨b1, o1, none⟩) l.length ca, .int .i64 ↑l.length, .bool true, u9, u10, .slice (some ⟨b1, o1, none⟩) l.length ca, .int .i64 ↑i, .pointer (some ⟨b1, o1 + i * 6, none⟩), .agg #[.string d.name, .slice a1 d.imps.length c1, .slice a2 d.exps.length c2, .slice a3 d.types.length c3, .slice a4 d.defs.length c4, .slice a5 d.convs.length c5], .bool false, u16, u17, u18, u19, u20, u21, u22, u23, u24, u25, u26, u27, u28, u29, u30, u31, u32, u33, u34, u35, u36, u37, u38, u39, u40, u41, u42, u43, u44, u45, u46, u47, u48, u49], []⟩) (by kernel_rfl) (by kernel_rfl) ?_
        refine wpAnyH_take (i := 5) (v := .bool true) rfl (by kernel_rfl) (by kernel_rfl) (by kernel_rfl) (fun _ _ _ h => h) (.inl ⟨by kernel_rfl, fun w' hS' => by kernel_rfl⟩) hS ?_
        refine wpAnyH_take (i := 6) (v := .bool true) rfl (by kernel_rfl) (by kernel_rfl) (by kernel_rfl) (fun _ _ _ h => h) (.inl ⟨by kernel_rfl, fun w' hS' => by kernel_rfl⟩) hS ?_
        refine wpAnyH_take (i := 7) (v := undef) rfl (by kernel_rfl) (by kernel_rfl) (by kernel_rfl) (fun _ _ _ h => h) (.inr ⟨by kernel_rfl, rfl⟩) hS ?_
        refine wpAnyH_take (i := 8) (v := undef) rfl (by kernel_rfl) (by kernel_rfl) (by kernel_rfl) (fun _ _ _ h => h) (.inr ⟨by kernel_rfl, rfl⟩) hS ?_
        refine wpAnyH_take (i := 9) (v := undef) rfl (by kernel_rfl) (by kernel_rfl) (by kernel_rfl) (fun _ _ _ h => h) (.inr ⟨by kernel_rfl, rfl⟩) hS ?_
        refine wpAnyH_take (i := 10) (v := undef) rfl (by kernel_rfl) (by kernel_rfl) (by kernel_rfl) (fun _ _ _ h => h) (.inr ⟨by kernel_rfl, rfl⟩) hS ?_
        refine wpAnyH_take (i := 11) (v := undef) rfl (by kernel_rfl) (by kernel_rfl) (by kernel_rfl) (fun _ _ _ h => h) (.inr ⟨by kernel_rfl, rfl⟩) hS ?_
        refine wpAnyH_take (i := 12) (v := undef) rfl (by kernel_rfl) (by kernel_rfl) (by kernel_rfl) (fun _ _ _ h => h) (.inr ⟨by kernel_rfl, rfl⟩) hS ?_
        refine wpAnyH_take (i := 13) (v := undef) rfl (by kernel_rfl) (by kernel_rfl) (by kernel_rfl) (fun _ _ _ h => h) (.inr ⟨by kernel_rfl, rfl⟩) hS ?_
        refine wpAnyH_take (i := 14) (v := undef) rfl (by kernel_rfl) (by kernel_rfl) (by kernel_rfl) (fun _ _ _ h => h) (.inr ⟨by kernel_rfl, rfl⟩) hS ?_
        refine wpAnyH_take (i := 15) (v := undef) rfl (by kernel_rfl) (by kernel_rfl) (by kernel_rfl) (fun _ _ _ h => h) (.inr ⟨by kernel_rfl, rfl⟩) hS ?_
        refine wpAnyH_take (i := 16) (v := undef) rfl (by kernel_rfl) (by kernel_rfl) (by kernel_rfl) (fun _ _ _ h => h) (.inr ⟨by kernel_rfl, rfl⟩) hS ?_
        refine wpAnyH_take (i := 17) (v := .bool true) rfl (by kernel_rfl) (by kernel_rfl) (by kernel_rfl) (fun _ _ _ h => h) (.inl ⟨by kernel_rfl, fun w' hS' => by kernel_rfl⟩) hS ?_
        refine wpAnyH_eq (l' := #[true, true, true, true, true, true, true, true, true, true, true, true, true, true, true, true, true, true]) (a' := ⟨#[.slice (some ⟨b1, o1, none⟩) l.length ca, undef, u2, .int .i64 ↑i, u4, .int .i64 ↑i, .slice (some ⟨b1, o1, none⟩) l.length ca, .int .i64 ↑l.length, .bool true, u9, u10, .slice (some ⟨b1, o1, none⟩) l.length ca, .int .i64 ↑i, .pointer (some ⟨b1, o1 + i * 6, none⟩), .agg #[.string d.name, .slice a1 d.imps.length c1, .slice a2 d.exps.length c2, .slice a3 d.types.length c3, .slice a4 d.defs.length c4, .slice a5 d.convs.length c5], .bool false, .bool true, .bool true, undef, undef, undef, undef, undef, undef, undef, undef, undef, undef, .bool true, u29, u30, u31, u32, u33, u34, u35, u36, u37, u38, u39, u40, u41, u42, u43, u44, u45, u46, u47, u48, u49], []⟩) (by kernel_rfl) (by kernel_rfl) ?_
        refine wpAnyH_done (by kernel_rfl) ?_ _
        go_wp2
        go_ret
        exact ⟨by rw [HNO.out]; rfl, hb2'⟩
      · cases hat : hasS ((l.take i).map (·.name)) d.name
        · go_wp2_with fail
          refine wp_region_held (S := (fun W => (Below w.heap.size w W) ∧ (W.cell? ⟨b1, o1 + i * 6, none⟩ = some (.string d.name)) ∧ (W.cell? ⟨b1, o1 + i * 6 + 1, none⟩ = some (.slice a1 d.imps.length c1)) ∧ (W.cell? ⟨b1, o1 + i * 6 + 2, none⟩ = some (.slice a2 d.exps.length c2)) ∧ (W.cell? ⟨b1, o1 + i * 6 + 3, none⟩ = some (.slice a3 d.types.length c3)) ∧ (W.cell? ⟨b1, o1 + i * 6 + 4, none⟩ = some (.slice a4 d.defs.length c4)) ∧ (W.cell? ⟨b1, o1 + i * 6 + 5, none⟩ = some (.slice a5 d.convs.length c5)))) (by kernel_rfl) ?_
          have hS := HKS.out wr.drew (bel_dr HB.out)
          refine wpAnyH_take (i := 0) (v := .slice (some ⟨b1, o1, none⟩) l.length ca) rfl (by kernel_rfl) (by kernel_rfl) (by kernel_rfl) (fun _ _ _ h => h) (.inl ⟨by kernel_rfl, fun w' hS' => by kernel_rfl⟩) hS ?_
          refine wpAnyH_take (i := 1) (v := .int .i64 ↑i) rfl (by kernel_rfl) (by kernel_rfl) (by kernel_rfl) (fun _ _ _ h => h) (.inl ⟨by kernel_rfl, fun w' hS' => by kernel_rfl⟩) hS ?_
          refine wpAnyH_take (i := 2) (v := .pointer (some ⟨b1, o1 + i * 6, none⟩)) rfl (by kernel_rfl) (by kernel_rfl) (by kernel_rfl) (fun _ _ _ h => h) (.inl ⟨by kernel_rfl, fun w' hS' => ixR (s := .slice (some ⟨b1, o1, none⟩) l.length ca) (k := .int .i64 ↑i) rfl (by kernel_rfl) (by kernel_rfl) (by simp [go_sem] <;> omega)⟩) hS ?_
          refine wpAnyH_take (i := 3) (v := .agg #[.string d.name, .slice a1 d.imps.length c1, .slice a2 d.exps.length c2, .slice a3 d.types.length c3, .slice a4 d.defs.length c4, .slice a5 d.convs.length c5]) rfl (by kernel_rfl) (by kernel_rfl) (by kernel_rfl) (fun _ _ _ h => h) (.inl ⟨by kernel_rfl, fun w' hS' => ldR (p := .pointer (some ⟨b1, o1 + i * 6, none⟩)) rfl (by kernel_rfl) (by obtain ⟨hbS, q0, q1, q2, q3, q4, q5⟩ := hS'; simp [go_sem, q0, q1, q2, q3, q4, q5])⟩) hS ?_
          refine wpAnyH_eq (l' := #[true, true, true, true, false, false, false, false, false, false, false, false, false, false, false, false, false, false]) (a' := ⟨#[.slice (some ⟨b1, o1, none⟩) l.length ca, undef, u2, .int .i64 ↑i, u4, .int .i64 ↑i, .slice (some ⟨b1, o1, none⟩) l.length ca, .int .i64 ↑l.length, .bool true, u9, u10, .slice (some ⟨b1, o1, none⟩) l.length ca, .int .i64 ↑i, .pointer (some ⟨b1, o1 + i * 6, none⟩), .agg #[.string d.name, .slice a1 d.imps.length c1, .slice a2 d.exps.length c2, .slice a3 d.types.length c3, .slice a4 d.defs.length c4, .slice a5 d.convs.length c5], u15, u16, u17, u18, u19, u20, u21, u22, u23, u24, u25, u26, u27, u28, u29, u30, u31, u32, u33, u34, u35, u36, u37, u38, u39, u40, u41, u42, u43, u44, u45, u46, u47, u48, u49], []⟩) (by kernel_rfl) (by kernel_rfl) ?_
          refine wpAnyH_all (rs := [4]) (by kernel_rfl) (by simp) fun j hj => ?_
          obtain rfl : j = 4 := by simpa using hj
          refine opw_call (f := 28) (args := #[.agg #[.string d.name, .slice a1 d.imps.length c1, .slice a2 d.exps.length c2, .slice a3 d.types.length c3, .slice a4 d.defs.length c4, .slice a5 d.convs.length c5]]) rfl (by kernel_rfl) (by kernel_rfl) ((HSC.out _ (bel_dr HB.out) (fun b _ => rfl)).mono ?_)
          rintro e w2 ⟨rfl, hb2⟩
          rw [hdo]
          have hb2' : Below w.heap.size w w2 := (bel_dr HB.out).trans (hb2.mono hsz)
          have hS := HKS.out w2 hb2'
          refine ⟨_, rfl, hS, ?_⟩
          refine wpAnyH_eq (l' := #[true, true, true, true, true, false, false, false, false, false, false, false, false, false, false, false, false, false]) (a' := ⟨#[.slice (some ⟨b1, o1, none⟩) l.length ca, undef, u2, .int .i64 ↑i, u4, .int .i64 ↑i, .slice (some ⟨b1, o1, none⟩) l.length ca, .int .i64 ↑l.length, .bool true, u9, u10, .slice (some ⟨b1, o1, none⟩) l.length ca, .int .i64 ↑i, .pointer (some ⟨b1, o1 + i * 6, none⟩), .agg #[.string d.name, .slice a1 d.imps.length c1, .slice a2 d.exps.length c2, .slice a3 d.types.length c3, .slice a4 d.defs.length c4, .slice a5 d.convs.length c5], .bool true, u16, u17, u18, u19, u20, u21, u22, u23, u24, u25, u26, u27, u28, u29, u30, u31, u32, u33, u34, u35, u36, u37, u38, u39, u40, u41, u42, u43, u44, u45, u46, u47, u48, u49], []⟩) (by kernel_rfl) (by kernel_rfl) ?_
          refine wpAnyH_take (i := 5) (v := .bool false) rfl (by kernel_rfl) (by kernel_rfl) (by kernel_rfl) (fun _ _ _ h => h) (.inl ⟨by kernel_rfl, fun w' hS' => by kernel_rfl⟩) hS ?_
          refine wpAnyH_take (i := 6) (v := .bool false) rfl (by kernel_rfl) (by kernel_rfl) (by kernel_rfl) (fun _ _ _ h => h) (.inl ⟨by kernel_rfl, fun w' hS' => by kernel_rfl⟩) hS ?_
          refine wpAnyH_take (i := 7) (v := .slice (some ⟨b1, o1, none⟩) l.length ca) rfl (by kernel_rfl) (by kernel_rfl) (by kernel_rfl) (fun _ _ _ h => h) (.inl ⟨by kernel_rfl, fun w' hS' => by kernel_rfl⟩) hS ?_
          refine wpAnyH_take (i := 8) (v := .int .i64 ↑i) rfl (by kernel_rfl) (by kernel_rfl) (by kernel_rfl) (fun _ _ _ h => h) (.inl ⟨by kernel_rfl, fun w' hS' => by kernel_rfl⟩) hS ?_
          refine wpAnyH_eq (l' := #[true, true, true, true, true, true, true, true, true, false, false, false, false, false, false, false, false, false]) (a' := ⟨#[.slice (some ⟨b1, o1, none⟩) l.length ca, undef, u2, .int .i64 ↑i, u4, .int .i64 ↑i, .slice (some ⟨b1, o1, none⟩) l.length ca, .int .i64 ↑l.length, .bool true, u9, u10, .slice (some ⟨b1, o1, none⟩) l.length ca, .int .i64 ↑i, .pointer (some ⟨b1, o1 + i * 6, none⟩), .agg #[.string d.name, .slice a1 d.imps.length c1, .slice a2 d.exps.length c2, .slice a3 d.types.length c3, .slice a4 d.defs.length c4, .slice a5 d.convs.length c5], .bool true, .bool false, .bool false, .slice (some ⟨b1, o1, none⟩) l.length ca, .int .i64 ↑i, u20, u21, u22, u23, u24, u25, u26, u27, u28, u29, u30, u31, u32, u33, u34, u35, u36, u37, u38, u39, u40, u41, u42, u43, u44, u45, u46, u47, u48, u49], []⟩) (by kernel_rfl) (by kernel_rfl) ?_
          refine wpAnyH_take (i := 9) (v := .slice (some ⟨b1, o1, none⟩) i ca) rfl (by kernel_rfl) (by kernel_rfl) (by kernel_rfl) (fun _ _ _ h => h) (.inl ⟨by kernel_rfl, fun w' hS' => slR rfl (by kernel_rfl) (by kernel_rfl) (HSL.out w')⟩) hS ?_
          refine wpAnyH_take (i := 10) (v := .slice (some ⟨b1, o1, none⟩) l.length ca) rfl (by kernel_rfl) (by kernel_rfl) (by kernel_rfl) (fun _ _ _ h => h) (.inl ⟨by kernel_rfl, fun w' hS' => by kernel_rfl⟩) hS ?_
          refine wpAnyH_take (i := 11) (v := .int .i64 ↑i) rfl (by kernel_rfl) (by kernel_rfl) (by kernel_rfl) (fun _ _ _ h => h) (.inl ⟨by kernel_rfl, fun w' hS' => by kernel_rfl⟩) hS ?_
          refine wpAnyH_take (i := 12) (v := .pointer (some ⟨b1, o1 + i * 6, none⟩)) rfl (by kernel_rfl) (by kernel_rfl) (by kernel_rfl) (fun _ _ _ h => h) (.inl ⟨by kernel_rfl, fun w' hS' => ixR (s := .slice (some ⟨b1, o1, none⟩) l.length ca) (k := .int .i64 ↑i) rfl (by kernel_rfl) (by kernel_rfl) (by simp [go_sem] <;> omega)⟩) hS ?_
          refine wpAnyH_take (i := 13) (v := .pointer (some ⟨b1, o1 + i * 6, none⟩)) rfl (by kernel_rfl) (by kernel_rfl) (by kernel_rfl) (fun _ _ _ h => h) (.inl ⟨by kernel_rfl, fun w' hS' => by kernel_rfl⟩) hS ?_
          refine wpAnyH_take (i := 14) (v := .string d.name) rfl (by kernel_rfl) (by kernel_rfl) (by kernel_rfl) (fun _ _ _ h => h) (.inl ⟨by kernel_rfl, fun w' hS' => ldR (p := .pointer (some ⟨b1, o1 + i * 6, none⟩)) rfl (by kernel_rfl) (by obtain ⟨hbS, q0, q1, q2, q3, q4, q5⟩ := hS'; simp [go_sem, q0])⟩) hS ?_
          refine wpAnyH_eq (l' := #[true, true, true, true, true, true, true, true, true, true, true, true, true, true, true, false, false, false]) (a' := ⟨#[.slice (some ⟨b1, o1, none⟩) l.length ca, undef, u2, .int .i64 ↑i, u4, .int .i64 ↑i, .slice (some ⟨b1, o1, none⟩) l.length ca, .int .i64 ↑l.length, .bool true, u9, u10, .slice (some ⟨b1, o1, none⟩) l.length ca, .int .i64 ↑i, .pointer (some ⟨b1, o1 + i * 6, none⟩), .agg #[.string d.name, .slice a1 d.imps.length c1, .slice a2 d.exps.length c2, .slice a3 d.types.length c3, .slice a4 d.defs.length c4, .slice a5 d.convs.length c5], .bool true, .bool false, .bool false, .slice (some ⟨b1, o1, none⟩) l.length ca, .int .i64 ↑i, .slice (some ⟨b1, o1, none⟩) i ca, .slice (some ⟨b1, o1, none⟩) l.length ca, .int .i64 ↑i, .pointer (some ⟨b1, o1 + i * 6, none⟩), .pointer (some ⟨b1, o1 + i * 6, none⟩), .string d.name, u26, u27, u28, u29, u30, u31, u32, u33, u34, u35, u36, u37, u38, u39, u40, u41, u42, u43, u44, u45, u46, u47, u48, u49], []⟩) (by kernel_rfl) (by kernel_rfl) ?_
          refine wpAnyH_all (rs := [15]) (by kernel_rfl) (by simp) fun j hj => ?_
          obtain rfl : j = 15 := by simpa using hj
          refine opw_call (f := 29) (args := #[.slice (some ⟨b1, o1, none⟩) i ca, .string d.name]) rfl (by kernel_rfl) (by kernel_rfl) ((HAK.out w2 d.name i ca hi hb2').mono ?_)
          rintro e w3 ⟨rfl, hcs⟩
          obtain ⟨_, rfl⟩ : hasS ((l.take i).map (·.name)) d.name = false ∧ e = .returned (.int .i64 (-1)) := by
            rcases hcs with ⟨h1, _⟩ | h1
            · rw [hat] at h1
              cases h1
            · exact h1
          have hS := HKS.out w3 hb2'
          refine ⟨_, rfl, hS, ?_⟩
          refine wpAnyH_eq (l' := #[true, true, true, true, true, true, true, true, true, true, true, true, true, true, true, true, false, false]) (a' := ⟨#[.slice (some ⟨b1, o1, none⟩) l.length ca, undef, u2, .int .i64 ↑i, u4, .int .i64 ↑i, .slice (some ⟨b1, o1, none⟩) l.length ca, .int .i64 ↑l.length, .bool true, u9, u10, .slice (some ⟨b1, o1, none⟩) l.length ca, .int .i64 ↑i, .pointer (some ⟨b1, o1 + i * 6, none⟩), .agg #[.string d.name, .slice a1 d.imps.length c1, .slice a2 d.exps.length c2, .slice a3 d.types.length c3, .slice a4 d.defs.length c4, .slice a5 d.convs.length c5], .bool true, .bool false, .bool false, .slice (some ⟨b1, o1, none⟩) l.length ca, .int .i64 ↑i, .slice (some ⟨b1, o1, none⟩) i ca, .slice (some ⟨b1, o1, none⟩) l.length ca, .int .i64 ↑i, .pointer (some ⟨b1, o1 + i * 6, none⟩), .pointer (some ⟨b1, o1 + i * 6, none⟩), .string d.name, .int .i64 (-1), u27, u28, u29, u30, u31, u32, u33, u34, u35, u36, u37, u38, u39, u40, u41, u42, u43, u44, u45, u46, u47, u48, u49], []⟩) (by kernel_rfl) (by kernel_rfl) ?_
          refine wpAnyH_take (i := 16) (v := .bool false) rfl (by kernel_rfl) (by kernel_rfl) (by kernel_rfl) (fun _ _ _ h => h) (.inl ⟨by kernel_rfl, fun w' hS' => by kernel_rfl⟩) hS ?_
          refine wpAnyH_take (i := 17) (v := .bool false) rfl (by kernel_rfl) (by kernel_rfl) (by kernel_rfl) (fun _ _ _ h => h) (.inl ⟨by kernel_rfl, fun w' hS' => by kernel_rfl⟩) hS ?_
          refine wpAnyH_eq (l' := #[true, true, true, true, true, true, true, true, true, true, true, true, true, true, true, true, true, true]) (a' := ⟨#[.slice (some ⟨b1, o1, none⟩) l.length ca, undef, u2, .int .i64 ↑i, u4, .int .i64 ↑i, .slice (some ⟨b1, o1, none⟩) l.length ca, .int .i64 ↑l.length, .bool true, u9, u10, .slice (some ⟨b1, o1, none⟩) l.length ca, .int .i64 ↑i, .pointer (some ⟨b1, o1 + i * 6, none⟩), .agg #[.string d.name, .slice a1 d.imps.length c1, .slice a2 d.exps.length c2, .slice a3 d.types.length c3, .slice a4 d.defs.length c4, .slice a5 d.convs.length c5], .bool true, .bool false, .bool false, .slice (some ⟨b1, o1, none⟩) l.length ca, .int .i64 ↑i, .slice (some ⟨b1, o1, none⟩) i ca, .slice (some ⟨b1, o1, none⟩) l.length ca, .int .i64 ↑i, .pointer (some ⟨b1, o1 + i * 6, none⟩), .pointer (some ⟨b1, o1 + i * 6, none⟩), .string d.name, .int .i64 (-1), .bool false, .bool false, u29, u30, u31, u32, u33, u34, u35, u36, u37, u38, u39, u40, u41, u42, u43, u44, u45, u46, u47, u48, u49], []⟩) (by kernel_rfl) (by kernel_rfl) ?_
          refine wpAnyH_done (by kernel_rfl) ?_ _
          have HB2 : Hid (Below w.heap.size w w3) := hb2'
          have HI2 : Hid (RowS w3 w.heap.size a1 d.imps) := HIM.out.keep fun b hb' => (hb2'.block b hb').trans (HB.out.block b hb').symm
          obtain ⟨_, _, z1, _⟩ := HKS.out w3 hb2'
          have hs3 := hb2'.size
          have HOK2 : Hid ((∀ x ∈ d.imps, hasS (l.map (·.name)) x = true) → ∀ (j : Nat) (s : Srx), j < i + 1 → l[j]? = some s → okI l j s) := fun h j s hj hs => by
            by_cases hji : j = i
            · subst hji
              obtain rfl := Option.some.inj (HD.out.symm.trans hs)
              exact ⟨hdo, hat, h⟩
            · exact HOK.out j s (by omega) hs
          have HNO : Hid (∀ x ∈ d.imps, hasS (l.map (·.name)) x = false → (srcsB l && decide (closedP (toPs l))) = false) := fun x hx h => okI_no HD.out fun h' => by
            rw [h'.2.2 x hx] at h
            cases h
          have HZ1 : Hid (∀ W, Below w.heap.size w W → W.cell? ⟨b1, o1 + i * 6 + 1, none⟩ = some (.slice a1 d.imps.length c1)) := fun W hW => (HKS.out W hW).2.2.1
          have HIW : Hid (∀ W, Below w.heap.size w W → RowS W w.heap.size a1 d.imps) := fun W hW => HIM.out.keep fun b hb' => (hW.block b hb').trans (HB.out.block b hb').symm
          clear hcs hb2 hb2' hS y0 y1 y2 y3 y4 y5 HKS HSC HIM HB hb hat hdo z1
          go_wp2
          go_loopw [4] (fun o wq => ∃ k : Nat, k ≤ d.imps.length ∧ o = .int .i64 k ∧ (∀ x ∈ d.imps.take k, hasS (l.map (·.name)) x = true) ∧ Below w.heap.size w wq) (fun o _ => d.imps.length - (intOf o).toNat)
          case atStart => exact ⟨0, by omega, rfl, fun x hx => by simp at hx, HB2.out⟩
          case round =>
            obtain ⟨k, hk, rfl, hin, hb⟩ := hrel
            have z1 := HZ1.out wr hb
            have hsq := hb.size
            by_cases hkl : k < d.imps.length
            · obtain ⟨x, hx⟩ : ∃ x, d.imps[k]? = some x := ⟨_, List.getElem?_eq_getElem hkl⟩
              have HX : Hid (d.imps[k]? = some x) := hx
              obtain ⟨xb, xo, rfl, hxb, hxc⟩ := HIW.out wr hb k x hx
              have HBQ : Hid (Below w.heap.size w wr) := hb
              have HIN : Hid (∀ x ∈ d.imps.take k, hasS (l.map (·.name)) x = true) := hin
              clear hx hb hin
              cases hq : hasS (l.map (·.name)) x
              · go_wp2_with (go_at_call 29; go_loud (refine (HAT.out _ x HBQ.out).mono ?_; rintro e w4 ⟨rfl, ⟨h1, _⟩ | ⟨_, rfl⟩⟩; exact absurd (hq.symm.trans h1) (by decide)))
                go_ret
                exact ⟨by rw [HNO.out x (List.mem_of_getElem? HX.out) hq]; rfl, HBQ.out⟩
              · go_wp2_with (go_at_call 29; go_loud (refine (HAT.out _ x HBQ.out).mono ?_; rintro e w4 ⟨rfl, ⟨_, kk, _, rfl⟩ | ⟨h1, _⟩⟩; rotate_left; exact absurd (hq.symm.trans h1) (by decide)))
                go_roundw
                case rel =>
                  refine ⟨k + 1, by omega, by go_num, fun y hy => ?_, HBQ.out⟩
                  rw [List.take_add_one, HX.out] at hy
                  rcases List.mem_append.1 hy with hy | hy
                  · exact HIN.out y hy
                  · simp at hy
                    subst hy
                    exact hq
                case measure => simp [intOf]; omega
            · obtain rfl : k = d.imps.length := by omega
              rw [List.take_length] at hin
              have hkl' : decide ((d.imps.length : Int) < (d.imps.length : Int)) = false := by simp
              have HOK3 : Hid (∀ (j : Nat) (s : Srx), j < i + 1 → l[j]? = some s → okI l j s) := HOK2.out hin
              have HBQ : Hid (Below w.heap.size w wr) := hb
              clear hin hb
              go_wp2
              go_roundw
              case rel => exact ⟨i + 1, by omega, by go_num, HOK3.out, HBQ.out⟩
              case measure => simp [intOf]; omega
        · have HNO : Hid ((srcsB l && decide (closedP (toPs l))) = false) := okI_no HD.out fun h => by
            rw [h.2.1] at hat
            cases hat
          go_wp2_with fail
          refine wp_region_held (S := (fun W => (Below w.heap.size w W) ∧ (W.cell? ⟨b1, o1 + i * 6, none⟩ = some (.string d.name)) ∧ (W.cell? ⟨b1, o1 + i * 6 + 1, none⟩ = some (.slice a1 d.imps.length c1)) ∧ (W.cell? ⟨b1, o1 + i * 6 + 2, none⟩ = some (.slice a2 d.exps.length c2)) ∧ (W.cell? ⟨b1, o1 + i * 6 + 3, none⟩ = some (.slice a3 d.types.length c3)) ∧ (W.cell? ⟨b1, o1 + i * 6 + 4, none⟩ = some (.slice a4 d.defs.length c4)) ∧ (W.cell? ⟨b1, o1 + i * 6 + 5, none⟩ = some (.slice a5 d.convs.length c5)))) (by kernel_rfl) ?_
          have hS := HKS.out wr.drew (bel_dr HB.out)
          refine wpAnyH_take (i := 0) (v := .slice (some ⟨b1, o1, none⟩) l.length ca) rfl (by kernel_rfl) (by kernel_rfl) (by kernel_rfl) (fun _ _ _ h => h) (.inl ⟨by kernel_rfl, fun w' hS' => by kernel_rfl⟩) hS ?_
          refine wpAnyH_take (i := 1) (v := .int .i64 ↑i) rfl (by kernel_rfl) (by kernel_rfl) (by kernel_rfl) (fun _ _ _ h => h) (.inl ⟨by kernel_rfl, fun w' hS' => by kernel_rfl⟩) hS ?_
          refine wpAnyH_take (i := 2) (v := .pointer (some ⟨b1, o1 + i * 6, none⟩)) rfl (by kernel_rfl) (by kernel_rfl) (by kernel_rfl) (fun _ _ _ h => h) (.inl ⟨by kernel_rfl, fun w' hS' => ixR (s := .slice (some ⟨b1, o1, none⟩) l.length ca) (k := .int .i64 ↑i) rfl (by kernel_rfl) (by kernel_rfl) (by simp [go_sem] <;> omega)⟩) hS ?_
          refine wpAnyH_take (i := 3) (v := .agg #[.string d.name, .slice a1 d.imps.length c1, .slice a2 d.exps.length c2, .slice a3 d.types.length c3, .slice a4 d.defs.length c4, .slice a5 d.convs.length c5]) rfl (by kernel_rfl) (by kernel_rfl) (by kernel_rfl) (fun _ _ _ h => h) (.inl ⟨by kernel_rfl, fun w' hS' => ldR (p := .pointer (some ⟨b1, o1 + i * 6, none⟩)) rfl (by kernel_rfl) (by obtain ⟨hbS, q0, q1, q2, q3, q4, q5⟩ := hS'; simp [go_sem, q0, q1, q2, q3, q4, q5])⟩) hS ?_
          refine wpAnyH_eq (l' := #[true, true, true, true, false, false, false, false, false, false, false, false, false, false, false, false, false, false]) (a' := ⟨#[.slice (some ⟨b1, o1, none⟩) l.length ca, undef, u2, .int .i64 ↑i, u4, .int .i64 ↑i, .slice (some ⟨b1, o1, none⟩) l.length ca, .int .i64 ↑l.length, .bool true, u9, u10, .slice (some ⟨b1, o1, none⟩) l.length ca, .int .i64 ↑i, .pointer (some ⟨b1, o1 + i * 6, none⟩), .agg #[.string d.name, .slice a1 d.imps.length c1, .slice a2 d.exps.length c2, .slice a3 d.types.length c3, .slice a4 d.defs.length c4, .slice a5 d.convs.length c5], u15, u16, u17, u18, u19, u20, u21, u22, u23, u24, u25, u26, u27, u28, u29, u30, u31, u32, u33, u34, u35, u36, u37, u38, u39, u40, u41, u42, u43, u44, u45, u46, u47, u48, u49], []⟩) (by kernel_rfl) (by kernel_rfl) ?_
          refine wpAnyH_all (rs := [4]) (by kernel_rfl) (by simp) fun j hj => ?_
          obtain rfl : j = 4 := by simpa using hj
          refine opw_call (f := 28) (args := #[.agg #[.string d.name, .slice a1 d.imps.length c1, .slice a2 d.exps.length c2, .slice a3 d.types.length c3, .slice a4 d.defs.length c4, .slice a5 d.convs.length c5]]) rfl (by kernel_rfl) (by kernel_rfl) ((HSC.out _ (bel_dr HB.out) (fun b _ => rfl)).mono ?_)
          rintro e w2 ⟨rfl, hb2⟩
          rw [hdo]
          have hb2' : Below w.heap.size w w2 := (bel_dr HB.out).trans (hb2.mono hsz)
          have hS := HKS.out w2 hb2'
          refine ⟨_, rfl, hS, ?_⟩
          refine wpAnyH_eq (l' := #[true, true, true, true, true, false, false, false, false, false, false, false, false, false, false, false, false, false]) (a' := ⟨#[.slice (some ⟨b1, o1, none⟩) l.length ca, undef, u2, .int .i64 ↑i, u4, .int .i64 ↑i, .slice (some ⟨b1, o1, none⟩) l.length ca, .int .i64 ↑l.length, .bool true, u9, u10, .slice (some ⟨b1, o1, none⟩) l.length ca, .int .i64 ↑i, .pointer (some ⟨b1, o1 + i * 6, none⟩), .agg #[.string d.name, .slice a1 d.imps.length c1, .slice a2 d.exps.length c2, .slice a3 d.types.length c3, .slice a4 d.defs.length c4, .slice a5 d.convs.length c5], .bool true, u16, u17, u18, u19, u20, u21, u22, u23, u24, u25, u26, u27, u28, u29, u30, u31, u32, u33, u34, u35, u36, u37, u38, u39, u40, u41, u42, u43, u44, u45, u46, u47, u48, u49], []⟩) (by kernel_rfl) (by kernel_rfl) ?_
          refine wpAnyH_take (i := 5) (v := .bool false) rfl (by kernel_rfl) (by kernel_rfl) (by kernel_rfl) (fun _ _ _ h => h) (.inl ⟨by kernel_rfl, fun w' hS' => by kernel_rfl⟩) hS ?_
          refine wpAnyH_take (i := 6) (v := .bool false) rfl (by kernel_rfl) (by kernel_rfl) (by kernel_rfl) (fun _ _ _ h => h) (.inl ⟨by kernel_rfl, fun w' hS' => by kernel_rfl⟩) hS ?_
          refine wpAnyH_take (i := 7) (v := .slice (some ⟨b1, o1, none⟩) l.length ca) rfl (by kernel_rfl) (by kernel_rfl) (by kernel_rfl) (fun _ _ _ h => h) (.inl ⟨by kernel_rfl, fun w' hS' => by kernel_rfl⟩) hS ?_
          refine wpAnyH_take (i := 8) (v := .int .i64 ↑i) rfl (by kernel_rfl) (by kernel_rfl) (by kernel_rfl) (fun _ _ _ h => h) (.inl ⟨by kernel_rfl, fun w' hS' => by kernel_rfl⟩) hS ?_
          refine wpAnyH_eq (l' := #[true, true, true, true, true, true, true, true, true, false, false, false, false, false, false, false, false, false]) (a' := ⟨#[.slice (some ⟨b1, o1, none⟩) l.length ca, undef, u2, .int .i64 ↑i, u4, .int .i64 ↑i, .slice (some ⟨b1, o1, none⟩) l.length ca, .int .i64 ↑l.length, .bool true, u9, u10, .slice (some ⟨b1, o1, none⟩) l.length ca, .int .i64 ↑i, .pointer (some ⟨b1, o1 + i * 6, none⟩), .agg #[.string d.name, .slice a1 d.imps.length c1, .slice a2 d.exps.length c2, .slice a3 d.types.length c3, .slice a4 d.defs.length c4, .slice a5 d.convs.length c5], .bool true, .bool false, .bool false, .slice (some ⟨b1, o1, none⟩) l.length ca, .int .i64 ↑i, u20, u21, u22, u23, u24, u25, u26, u27, u28, u29, u30, u31, u32, u33, u34, u35, u36, u37, u38, u39, u40, u41, u42, u43, u44, u45, u46, u47, u48, u49], []⟩) (by kernel_rfl) (by kernel_rfl) ?_
          refine wpAnyH_take (i := 9) (v := .slice (some ⟨b1, o1, none⟩) i ca) rfl (by kernel_rfl) (by kernel_rfl) (by kernel_rfl) (fun _ _ _ h => h) (.inl ⟨by kernel_rfl, fun w' hS' => slR rfl (by kernel_rfl) (by kernel_rfl) (HSL.out w')⟩) hS ?_
          refine wpAnyH_take (i := 10) (v := .slice (some ⟨b1, o1, none⟩) l.length ca) rfl (by kernel_rfl) (by kernel_rfl) (by kernel_rfl) (fun _ _ _ h => h) (.inl ⟨by kernel_rfl, fun w' hS' => by kernel_rfl⟩) hS ?_
          refine wpAnyH_take (i := 11) (v := .int .i64 ↑i) rfl (by kernel_rfl) (by kernel_rfl) (by kernel_rfl) (fun _ _ _ h => h) (.inl ⟨by kernel_rfl, fun w' hS' => by kernel_rfl⟩) hS ?_
          refine wpAnyH_take (i := 12) (v := .pointer (some ⟨b1, o1 + i * 6, none⟩)) rfl (by kernel_rfl) (by kernel_rfl) (by kernel_rfl) (fun _ _ _ h => h) (.inl ⟨by kernel_rfl, fun w' hS' => ixR (s := .slice (some ⟨b1, o1, none⟩) l.length ca) (k := .int .i64 ↑i) rfl (by kernel_rfl) (by kernel_rfl) (by simp [go_sem] <;> omega)⟩) hS ?_
          refine wpAnyH_take (i := 13) (v := .pointer (some ⟨b1, o1 + i * 6, none⟩)) rfl (by kernel_rfl) (by kernel_rfl) (by kernel_rfl) (fun _ _ _ h => h) (.inl ⟨by kernel_rfl, fun w' hS' => by kernel_rfl⟩) hS ?_
          refine wpAnyH_take (i := 14) (v := .string d.name) rfl (by kernel_rfl) (by kernel_rfl) (by kernel_rfl) (fun _ _ _ h => h) (.inl ⟨by kernel_rfl, fun w' hS' => ldR (p := .pointer (some ⟨b1, o1 + i * 6, none⟩)) rfl (by kernel_rfl) (by obtain ⟨hbS, q0, q1, q2, q3, q4, q5⟩ := hS'; simp [go_sem, q0])⟩) hS ?_
          refine wpAnyH_eq (l' := #[true, true, true, true, true, true, true, true, true, true, true, true, true, true, true, false, false, false]) (a' := ⟨#[.slice (some ⟨b1, o1, none⟩) l.length ca, undef, u2, .int .i64 ↑i, u4, .int .i64 ↑i, .slice (some ⟨b1, o1, none⟩) l.length ca, .int .i64 ↑l.length, .bool true, u9, u10, .slice (some ⟨b1, o1, none⟩) l.length ca, .int .i64 ↑i, .pointer (some ⟨b1, o1 + i * 6, none⟩), .agg #[.string d.name, .slice a1 d.imps.length c1, .slice a2 d.exps.length c2, .slice a3 d.types.length c3, .slice a4 d.defs.length c4, .slice a5 d.convs.length c5], .bool true, .bool false, .bool false, .slice (some ⟨b1, o1, none⟩) l.length ca, .int .i64 ↑i, .slice (some ⟨b1, o1, none⟩) i ca, .slice (some ⟨b1, o1, none⟩) l.length ca, .int .i64 ↑i, .pointer (some ⟨b1, o1 + i * 6, none⟩), .pointer (some ⟨b1, o1 + i * 6, none⟩), .string d.name, u26, u27, u28, u29, u30, u31, u32, u33, u34, u35, u36, u37, u38, u39, u40, u41, u42, u43, u44, u45, u46, u47, u48, u49], []⟩) (by kernel_rfl) (by kernel_rfl) ?_
          refine wpAnyH_all (rs := [15]) (by kernel_rfl) (by simp) fun j hj => ?_
          obtain rfl : j = 15 := by simpa using hj
          refine opw_call (f := 29) (args := #[.slice (some ⟨b1, o1, none⟩) i ca, .string d.name]) rfl (by kernel_rfl) (by kernel_rfl) ((HAK.out w2 d.name i ca hi hb2').mono ?_)
          rintro e w3 ⟨rfl, hcs⟩
          obtain ⟨_, k, hkl, rfl⟩ : hasS ((l.take i).map (·.name)) d.name = true ∧ ∃ k : Nat, k ≤ (l.take i).length ∧ e = .returned (.int .i64 k) := by
            rcases hcs with h1 | ⟨h1, _⟩
            · exact h1
            · rw [hat] at h1
              cases h1
          have hS := HKS.out w3 hb2'
          refine ⟨_, rfl, hS, ?_⟩
          refine wpAnyH_eq (l' := #[true, true, true, true, true, true, true, true, true, true, true, true, true, true, true, true, false, false]) (a' := ⟨#[.slice (some ⟨b1, o1, none⟩) l.length ca, undef, u2, .int .i64 ↑i, u4, .int .i64 ↑i, .slice (some ⟨b1, o1, none⟩) l.length ca, .int .i64 ↑l.length, .bool true, u9, u10, .slice (some ⟨b1, o1, none⟩) l.length ca, .int .i64 ↑i, .pointer (some ⟨b1, o1 + i * 6, none⟩), .agg #[.string d.name, .slice a1 d.imps.length c1, .slice a2 d.exps.length c2, .slice a3 d.types.length c3, .slice a4 d.defs.length c4, .slice a5 d.convs.length c5], .bool true, .bool false, .bool false, .slice (some ⟨b1, o1, none⟩) l.length ca, .int .i64 ↑i, .slice (some ⟨b1, o1, none⟩) i ca, .slice (some ⟨b1, o1, none⟩) l.length ca, .int .i64 ↑i, .pointer (some ⟨b1, o1 + i * 6, none⟩), .pointer (some ⟨b1, o1 + i * 6, none⟩), .string d.name, .int .i64 ↑k, u27, u28, u29, u30, u31, u32, u33, u34, u35, u36, u37, u38, u39, u40, u41, u42, u43, u44, u45, u46, u47, u48, u49], []⟩) (by kernel_rfl) (by kernel_rfl) ?_
          refine wpAnyH_take (i := 16) (v := .bool true) rfl (by kernel_rfl) (by kernel_rfl) (by kernel_rfl) (fun _ _ _ h => h) (.inl ⟨by kernel_rfl, fun w' hS' => geR k rfl (by kernel_rfl) (by kernel_rfl) Tryz.underlying3⟩) hS ?_
          refine wpAnyH_take (i := 17) (v := .bool true) rfl (by kernel_rfl) (by kernel_rfl) (by kernel_rfl) (fun _ _ _ h => h) (.inl ⟨by kernel_rfl, fun w' hS' => by kernel_rfl⟩) hS ?_
          refine wpAnyH_eq (l' := #[true, true, true, true, true, true, true, true, true, true, true, true, true, true, true, true, true, true]) (a' := ⟨#[.slice (some ⟨b1, o1, none⟩) l.length ca, undef, u2, .int .i64 ↑i, u4, .int .i64 ↑i, .slice (some ⟨b1, o1, none⟩) l.length ca, .int .i64 ↑l.length, .bool true, u9, u10, .slice (some ⟨b1, o1, none⟩) l.length ca, .int .i64 ↑i, .pointer (some ⟨b1, o1 + i * 6, none⟩), .agg #[.string d.name, .slice a1 d.imps.length c1, .slice a2 d.exps.length c2, .slice a3 d.types.length c3, .slice a4 d.defs.length c4, .slice a5 d.convs.length c5], .bool true, .bool false, .bool false, .slice (some ⟨b1, o1, none⟩) l.length ca, .int .i64 ↑i, .slice (some ⟨b1, o1, none⟩) i ca, .slice (some ⟨b1, o1, none⟩) l.length ca, .int .i64 ↑i, .pointer (some ⟨b1, o1 + i * 6, none⟩), .pointer (some ⟨b1, o1 + i * 6, none⟩), .string d.name, .int .i64 ↑k, .bool true, .bool true, u29, u30, u31, u32, u33, u34, u35, u36, u37, u38, u39, u40, u41, u42, u43, u44, u45, u46, u47, u48, u49], []⟩) (by kernel_rfl) (by kernel_rfl) ?_
          refine wpAnyH_done (by kernel_rfl) ?_ _
          go_wp2
          go_ret
          exact ⟨by rw [HNO.out]; rfl, hb2'⟩
    · obtain rfl : i = l.length := by omega
      have HYES : Hid ((srcsB l && decide (closedP (toPs l))) = true) := okI_all fun j s hj => HOK.out j s (List.getElem?_eq_some_iff.1 hj).1 hj
      have hlt' : decide ((l.length : Int) < (l.length : Int)) = false := by simp
      go_wp2
      go_ret
      exact ⟨by rw [HYES.out]; rfl, hb⟩
end Go.Proofs.YtkkpiagchkdamaaGreatDoor
set_option linter.unusedVariables false
namespace Go.Proofs.YtkkpiagchkdamaaGreatDoor
open Go.ChangeShapes Go.WideShapes Go.ChangeAt Go.RowKit
theorem hasS_cont (out : List Nm) (s : ByteArray) : hasS (out.map ofNm) s = out.contains (nmL s) := by
  rw [Bool.eq_iff_iff, hasS_iff, List.contains_iff_mem]
  simp only [List.map_map]
  have : (nmL ∘ ofNm) = id := funext fun x => nmL_of x
  rw [this, List.map_id]
theorem allS_cont (out : List Nm) (ts : List ByteArray) : ts.all (hasS (out.map ofNm)) = (ts.map nmL).all fun x => out.contains x := by
  rw [List.all_map]
  congr 1
  funext x
  exact hasS_cont out x
theorem ofNm_list (x : Nm) : (ofNm x).toList = x := by rw [Lib.toList_data]; exact nmL_of x
theorem toPs_take (l : List Srx) (i : Nat) : toPs (l.take i) = (toPs l).take i := by simp [toPs, List.map_take]
theorem bestL {l : List Srx} {i : Nat} {d : Srx} (out : List Nm) (h : l[i]? = some d) : bestP (toPs (l.take (i + 1))) out = bestF out (bestP (toPs (l.take i)) out) (nmL d.name, d.imps.map nmL) := by
  rw [toPs_take, toPs_take]
  exact bestP_take (by simp [toPs, h])
def roB (l : List Srx) : Bool := decide ((runO (toPs l) l.length).length = l.length)
def roL (l : List Srx) : List ByteArray := if (runO (toPs l) l.length).length = l.length then (runO (toPs l) l.length).map ofNm else []
set_option maxRecDepth 100000 in
set_option maxHeartbeats 2000000 in
theorem l12Order_any (a : Option Addr) (l : List Srx) (ca : Nat) (w : World) (hl : l.length ≤ 1048576) (hsm : ∀ s ∈ l, Srx.small s) (hr : rgX.Row w (fun b => b < w.heap.size) a l) :
    Calls Tryz.prog 15 #[.slice a l.length ca] w fun e w' => ∃ v, e = .returned (.tuple #[v, .bool (roB l)]) ∧ OwnS w' w.heap.size v (roL l) ∧ Below w.heap.size w w' := by
  have HR : Hid (rgX.Row w (fun b => b < w.heap.size) a l) := hr
  have HSM : Hid (∀ s ∈ l, Srx.small s) := hsm
  obtain ⟨i9, hi9, hz90, hz91, hz92⟩ := info_parts Tryz.inf9
  have HE : Hid (OwnS (w.alloc (Obj.cells #[] 9)) w.heap.size (.slice (some ⟨w.heap.size, 0, none⟩) 0 0) []) := own_empty (blk_at _ _ _ rfl) (Nat.le_refl _)
  have HB0 : Hid (Below w.heap.size w (w.alloc (Obj.cells #[] 9))) := (Below.refl _ _).alloc (Nat.le_refl _) _
  clear hr hsm
  go_enter Tryz.func15, Tryz.ntmps15
  go_wp2
  go_loopw [4] (fun v wr => ∃ k : Nat, k ≤ l.length ∧ (runO (toPs l) k).length = k ∧ OwnS wr w.heap.size v ((runO (toPs l) k).map ofNm) ∧ Below w.heap.size w wr) (fun v _ => l.length - slLen v)
  case atStart => exact ⟨0, by omega, rfl, HE.out, HB0.out⟩
  case round =>
    clear HE HB0
    obtain ⟨k, hk, hlen, hown, hb⟩ := hrel
    obtain ⟨Wo, rfl⟩ : ∃ Wo, Wo = wr := ⟨_, rfl⟩
    obtain ⟨out, hout⟩ : ∃ out, runO (toPs l) k = out := ⟨_, rfl⟩
    have HOUT : Hid (runO (toPs l) k = out) := hout
    rw [hout] at hlen hown
    obtain ⟨ls, hls⟩ : ∃ ls, out.map ofNm = ls := ⟨_, rfl⟩
    have HLS : Hid (out.map ofNm = ls) := hls
    have hll : ls.length = k := by rw [← hls, List.length_map]; exact hlen
    rw [hls] at hown
    obtain ⟨oa, oc, rfl, hoc⟩ := hown.slice
    have HOW : Hid (OwnS Wo w.heap.size (.slice oa ls.length oc) ls) := hown
    have HB : Hid (Below w.heap.size w Wo) := hb
    have hsz := hb.size
    have HLL : Hid (ls.length = k) := hll
    have hlb : ls.length ≤ 1048576 := by omega
    clear hout hls hown hb
    by_cases hkl : ls.length < l.length
    · clear hll hlen
      go_wp2
      go_loopw [5, 6] (fun b o wq => ∃ i : Nat, i ≤ l.length ∧ o = .int .i64 i ∧ b = .string (ofNm (bestP (toPs (l.take i)) out)) ∧ Below Wo.heap.size Wo wq) (fun _ o _ => l.length - (intOf o).toNat)
      case atStart => exact ⟨0, by omega, rfl, rfl, Below.refl _ _⟩
      case round =>
        obtain ⟨i, hi, rfl, rfl, hb⟩ := hrel
        have hsq := hb.size
        obtain ⟨bst, hbst⟩ : ∃ bst, bestP (toPs (l.take i)) out = bst := ⟨_, rfl⟩
        have HBST : Hid (bestP (toPs (l.take i)) out = bst) := hbst
        rw [hbst]
        clear hbst
        by_cases hlt : i < l.length
        · obtain ⟨d, hd⟩ : ∃ d, l[i]? = some d := ⟨_, List.getElem?_eq_getElem hlt⟩
          have HNX : Hid (bestP (toPs (l.take (i + 1))) out = bestF out bst (nmL d.name, d.imps.map nmL)) := by
            show _ = _
            rw [bestL out hd, HBST.out]
          have hdm := List.mem_of_getElem? hd
          have hbw : Below w.heap.size w wr := HB.out.trans (hb.mono hsz)
          have hds := HSM.out d hdm
          obtain ⟨b1, o1, cs, rfl, hbb, ⟨a1, a2, a3, a4, a5, c1, c2, c3, c4, c5, rfl, hrows⟩, hlies⟩ := (HR.out.below hbw) i d hd
          have y0 : wr.cell? ⟨b1, o1 + i * 6, none⟩ = some (.string d.name) := hlies 0 _ rfl
          have hbl : b1 < w.heap.size := hbb
          have HY1 : Hid (∀ W, Below w.heap.size w W → W.cell? ⟨b1, o1 + i * 6 + 1, none⟩ = some (.slice a1 d.imps.length c1)) := fun W hW => ((World.cell?_of_block (a := ⟨b1, _, none⟩) (hW.block b1 hbl)).trans (World.cell?_of_block (a := ⟨b1, _, none⟩) (hbw.block b1 hbl)).symm).trans (hlies 1 _ rfl)
          have HIW : Hid (∀ W, Below w.heap.size w W → RowS W W.heap.size a1 d.imps) := fun W hW => ((rowS_iff.1 hrows.1.1).keep fun b hb' => (hW.block b hb').trans (hbw.block b hb').symm).mono hW.size
          have HOQ : Hid (∀ W, Below Wo.heap.size Wo W → RowS W W.heap.size oa ls) := fun W hW => (HOW.out.rowS.below hW).mono hW.size
          have HIN : Hid (∀ W, Below Wo.heap.size Wo W → Calls Tryz.prog 30 #[.slice oa ls.length oc, .string d.name] W fun e w' => Ans W (.bool (hasS ls d.name)) e w') := fun W hW => l3In_any oa ls oc d.name W hlb (HOQ.out W hW)
          have HAL : Hid (∀ W, Below Wo.heap.size Wo W → Calls Tryz.prog 31 #[.slice a1 d.imps.length c1, .slice oa ls.length oc] W fun e w' => Ans W (.bool (d.imps.all (hasS ls))) e w') := fun W hW => l12All_any a1 oa d.imps ls c1 oc W hds.2.1.1 hlb (HIW.out W (HB.out.trans (hW.mono hsz))) (HOQ.out W hW)
          have HCB : Hid (candB out (nmL d.name, d.imps.map nmL) = (!hasS ls d.name && d.imps.all (hasS ls))) := by
            show _ = _
            rw [← HLS.out, hasS_cont, allS_cont]
            rfl
          have HBq : Hid (Below Wo.heap.size Wo wr) := hb
          have hlt2 : Op.bytesLess d.name.toList (ofNm bst).toList = decide (nmL d.name < bst) := by
            rw [bytesLess_eq, ofNm_list, Lib.toList_data]
            rfl
          have hbe : (ofNm bst).toList = bst := ofNm_list bst
          clear hd hlies hrows hbb hdm hds hb hbw
          cases c1 : hasS ls d.name
          · cases c2 : d.imps.all (hasS ls)
            · have HQ : Hid (ofNm (bestP (toPs (l.take (i + 1))) out) = ofNm bst) := by
                show _ = _
                rw [HNX.out, bestF, HCB.out, c1, c2]
                rfl
              clear hbe hlt2
              go_wp2_with (first
                | (go_at_call 30; go_loud (refine (HIN.out _ HBq.out).mono ?_; rintro e w5 ⟨rfl, hb5⟩; rw [c1]; have hb5' : Below Wo.heap.size Wo w5 := HBq.out.trans (hb5.mono hsq); have z1 := HY1.out w5 (HB.out.trans (hb5'.mono hsz))))
                | (go_at_call 31; go_loud (refine (HAL.out _ hb5').mono ?_; rintro e w6 ⟨rfl, hb6⟩; rw [c2]; have hb6' : Below Wo.heap.size Wo w6 := hb5'.trans (hb6.mono (by have := hb5'.size; omega)))))
              go_roundw
              case rel => exact ⟨i + 1, by omega, by go_num, by rw [HQ.out], hb6'⟩
              case measure => simp [intOf]; omega
            · by_cases c3 : bst = []
              · have HQ : Hid (ofNm (bestP (toPs (l.take (i + 1))) out) = d.name) := by
                  show _ = _
                  rw [HNX.out, bestF, HCB.out, c1, c2, c3]
                  exact of_nmL _
                have hq3 : ((ofNm bst).toList == []) = true := by rw [hbe, c3]; rfl
                clear hbe hlt2 c3
                go_wp2_with (first
                | (go_at_call 30; go_loud (refine (HIN.out _ HBq.out).mono ?_; rintro e w5 ⟨rfl, hb5⟩; rw [c1]; have hb5' : Below Wo.heap.size Wo w5 := HBq.out.trans (hb5.mono hsq); have z1 := HY1.out w5 (HB.out.trans (hb5'.mono hsz))))
                | (go_at_call 31; go_loud (refine (HAL.out _ hb5').mono ?_; rintro e w6 ⟨rfl, hb6⟩; rw [c2]; have hb6' : Below Wo.heap.size Wo w6 := hb5'.trans (hb6.mono (by have := hb5'.size; omega)))))
                go_roundw
                case rel => exact ⟨i + 1, by omega, by go_num, by rw [HQ.out], hb6'⟩
                case measure => simp [intOf]; omega
              · have hq3 : ((ofNm bst).toList == []) = false := by rw [hbe]; simp [c3]
                by_cases c4 : nmL d.name < bst
                · have HQ : Hid (ofNm (bestP (toPs (l.take (i + 1))) out) = d.name) := by
                    show _ = _
                    rw [HNX.out, bestF, HCB.out, c1, c2]
                    simp only [Bool.not_false, Bool.true_and, c4, decide_true, Bool.or_true, if_true]
                    exact of_nmL _
                  have hq4 : Op.bytesLess d.name.toList (ofNm bst).toList = true := by rw [hlt2]; exact decide_eq_true c4
                  clear hbe hlt2 c3 c4
                  go_wp2_with (first
                | (go_at_call 30; go_loud (refine (HIN.out _ HBq.out).mono ?_; rintro e w5 ⟨rfl, hb5⟩; rw [c1]; have hb5' : Below Wo.heap.size Wo w5 := HBq.out.trans (hb5.mono hsq); have z1 := HY1.out w5 (HB.out.trans (hb5'.mono hsz))))
                | (go_at_call 31; go_loud (refine (HAL.out _ hb5').mono ?_; rintro e w6 ⟨rfl, hb6⟩; rw [c2]; have hb6' : Below Wo.heap.size Wo w6 := hb5'.trans (hb6.mono (by have := hb5'.size; omega)))))
                  go_roundw
                  case rel => exact ⟨i + 1, by omega, by go_num, by rw [HQ.out], hb6'⟩
                  case measure => simp [intOf]; omega
                · have HQ : Hid (ofNm (bestP (toPs (l.take (i + 1))) out) = ofNm bst) := by
                    show _ = _
                    rw [HNX.out, bestF, HCB.out, c1, c2]
                    have c5 : (bst == ([] : Nm)) = false := beq_eq_false_iff_ne.2 c3
                    simp only [Bool.not_false, Bool.true_and, c4, c5, decide_false, Bool.or_false, Bool.false_eq_true, if_false]
                  have hq4 : Op.bytesLess d.name.toList (ofNm bst).toList = false := by rw [hlt2]; exact decide_eq_false c4
                  clear hbe hlt2 c3 c4
                  go_wp2_with (first
                | (go_at_call 30; go_loud (refine (HIN.out _ HBq.out).mono ?_; rintro e w5 ⟨rfl, hb5⟩; rw [c1]; have hb5' : Below Wo.heap.size Wo w5 := HBq.out.trans (hb5.mono hsq); have z1 := HY1.out w5 (HB.out.trans (hb5'.mono hsz))))
                | (go_at_call 31; go_loud (refine (HAL.out _ hb5').mono ?_; rintro e w6 ⟨rfl, hb6⟩; rw [c2]; have hb6' : Below Wo.heap.size Wo w6 := hb5'.trans (hb6.mono (by have := hb5'.size; omega)))))
                  go_roundw
                  case rel => exact ⟨i + 1, by omega, by go_num, by rw [HQ.out], hb6'⟩
                  case measure => simp [intOf]; omega
          · have HQ : Hid (ofNm (bestP (toPs (l.take (i + 1))) out) = ofNm bst) := by
              show _ = _
              rw [HNX.out, bestF, HCB.out, c1]
              rfl
            clear hbe hlt2
            go_wp2_with (go_at_call 30; go_loud (refine (HIN.out _ HBq.out).mono ?_; rintro e w5 ⟨rfl, hb5⟩; rw [c1]; have hb5' : Below Wo.heap.size Wo w5 := HBq.out.trans (hb5.mono hsq)))
            go_roundw
            case rel => exact ⟨i + 1, by omega, by go_num, by rw [HQ.out], hb5'⟩
            case measure => simp [intOf]; omega
        · obtain rfl : i = l.length := by omega
          have hlt' : decide ((l.length : Int) < (l.length : Int)) = false := by simp
          have HBP : Hid (bestP (toPs l) (runO (toPs l) k) = bst) := by
            show _ = _
            rw [HOUT.out, ← HBST.out, List.take_length]
          have hbe : (ofNm bst).toList = bst := ofNm_list bst
          have hbq : Below w.heap.size w wr := HB.out.trans (hb.mono hsz)
          have HBQ : Hid (Below w.heap.size w wr) := hbq
          have hOq : OwnS wr w.heap.size (.slice oa ls.length oc) ls := HOW.out.keep fun b hb' => hb.block b (HOW.out.blk hb').2.1
          have HOQ : Hid (OwnS wr w.heap.size (.slice oa ls.length oc) ls) := hOq
          have hkk : k < l.length := by have := HLL.out; omega
          clear hb hbq hOq
          have hbqs := HBQ.out.size
          by_cases c3 : bst = []
          · have hq3 : ((ofNm bst).toList == []) = true := by rw [hbe, c3]; rfl
            have HLT : Hid ((runO (toPs l) l.length).length ≠ l.length) := by
              show _ ≠ _
              rw [runO_stop (by rw [HBP.out]; exact c3) l.length (by omega), HOUT.out]
              have h1 := HLL.out
              rw [← HLS.out, List.length_map] at h1
              omega
            clear hbe c3
            go_wp2
            go_ret2
            refine ⟨.slice (some ⟨wr.heap.size, 0, none⟩) 0 0, ?_, ?_, HBQ.out.alloc hbqs _⟩
            · rw [roB, decide_eq_false HLT.out]
              rfl
            · rw [roL, if_neg HLT.out]
              exact own_empty (blk_at _ _ _ rfl) hbqs
          · have hq3 : ((ofNm bst).toList == []) = false := by rw [hbe]; simp [c3]
            have HNX : Hid (runO (toPs l) (k + 1) = out ++ [bst]) := by
              show _ = _
              rw [runO_go (by rw [HBP.out]; exact c3), HBP.out, HOUT.out]
            have HO1 : Hid ((wr.alloc (Obj.cells #[.string (ofNm bst)] 9)).ownsRow w.heap.size 9 1 (.slice oa ls.length oc) ls.length (ls.map Value.string)) := World.ownsRow.alloc HOQ.out _
            have HB1 : Hid (Below w.heap.size w (wr.alloc (Obj.cells #[.string (ofNm bst)] 9))) := HBQ.out.alloc HBQ.out.size _
            have HNW : Hid (∀ j u, [Value.string (ofNm bst)][j]? = some u → (wr.alloc (Obj.cells #[.string (ofNm bst)] 9)).cell? ((⟨wr.heap.size, 0, none⟩ : Addr).add j) = some u) := oneS (blk_at _ _ _ rfl)
            have hsw := HBQ.out.size
            clear hbe c3
            go_wp2_with (at_builtin; go_loud (refine wpList_append_row rfl _ _ 24 rfl w.heap.size 9 i9 _ 1 16 Tryz.underlying24 hi9 hz90 hz91 hz92 rfl (by omega) (.slice oa ls.length oc) ls.length (ls.map Value.string) rfl HO1.out (some ⟨wr.heap.size, 0, none⟩) 1 1 [.string (ofNm bst)] rfl rfl (fun _ => ⟨_, rfl, HNW.out⟩) (by intro u hu; simp at hu; subst hu; rfl) (by unfold maxLen; omega) (by omega) (by simp; omega) ?_; intro v' w6 hown6 hgrow hat; refine stop ?_))
            have HO6 : Hid (OwnS w6 w.heap.size v' (ls ++ [ofNm bst])) := OwnS.snoc hown6
            have HB6 : Hid (Below w.heap.size w w6) := app_below HB1.out HB1.out.size HO1.out hgrow
            obtain ⟨ab, cb, rfl, hcb⟩ := own_slice hown6
            unfold Hid
            clear hown6 hgrow hat
            go_wp2
            go_roundw
            case rel =>
              have h1 := HLL.out
              rw [← HLS.out, List.length_map] at h1
              refine ⟨k + 1, by omega, by rw [HNX.out, List.length_append, List.length_singleton]; omega, ?_, HB6.out⟩
              rw [HNX.out, List.map_append, HLS.out]
              exact HO6.out
            case measure =>
              show l.length - (ls.length + 1) < l.length - ls.length
              omega
    · have hkk : k = l.length := by omega
      have hg : decide ((ls.length : Int) < (l.length : Int)) = false := by simp; omega
      have HRL : Hid ((runO (toPs l) l.length).length = l.length) := by
        show _ = _
        rw [← hkk, HOUT.out]
        exact hlen
      have HRO : Hid ((runO (toPs l) l.length).map ofNm = ls) := by
        show _ = _
        rw [← hkk, HOUT.out, HLS.out]
      go_wp2
      go_ret2
      exact ⟨.slice oa ls.length oc, by rw [roB, decide_eq_true HRL.out]; rfl, by rw [roL, if_pos HRL.out, HRO.out]; exact HOW.out, HB.out⟩
set_option maxRecDepth 100000 in
set_option maxHeartbeats 1000000 in
theorem specOrder_any (a : Option Addr) (l : List Srx) (ca : Nat) (w : World) (hl : l.length ≤ 1048576) (hca : l.length ≤ ca) (hsm : ∀ s ∈ l, Srx.small s) (hfl : ∀ s ∈ l, flatOk s) (hr : rgX.Row w (fun b => b < w.heap.size) a l) :
    Calls Tryz.prog 5 #[.slice a l.length ca] w fun e w' => OrdP l w e w' := by
  have HOK : Hid (Calls Tryz.prog 14 #[.slice a l.length ca] w fun e w' => Ans w (.bool (srcsB l && decide (closedP (toPs l)))) e w') := l12Ok_any a l ca w hl hca hsm hfl hr
  have HLO : Hid (∀ W, Below w.heap.size w W → Calls Tryz.prog 15 #[.slice a l.length ca] W fun e w' => ∃ v, e = .returned (.tuple #[v, .bool (roB l)]) ∧ OwnS w' W.heap.size v (roL l) ∧ Below W.heap.size W w') := fun W hW => l12Order_any a l ca W hl hsm (Rd.Row.now (B := 0) hr hW)
  clear hr hsm hfl
  cases hok : (srcsB l && decide (closedP (toPs l)))
  · have hob : ordB l = false := by rw [ordB, hok]; rfl
    go_enter Tryz.func5, Tryz.ntmps5
    go_wp2_with (go_at_call 14; go_loud (refine HOK.out.mono ?_; rintro e w1 ⟨rfl, hb1⟩; rw [hok]; refine stop ?_))
    unfold Hid
    have HB1 : Hid (Below w.heap.size w w1) := hb1
    clear hb1
    go_wp2
    go_ret2
    exact ⟨_, by rw [hob]; rfl, by rw [ordL_no hob]; exact own_empty (blk_at _ _ _ rfl) HB1.out.size, HB1.out.alloc HB1.out.size _⟩
  · have hob : ordB l = roB l := by rw [ordB, hok]; simp [roB]
    have hol : ordL l = roL l := by
      rw [ordL, hob, roB, roL]
      simp
    have HLO' : Hid (∀ W, Below w.heap.size w W → Calls Tryz.prog 15 #[.slice a l.length ca] W fun e w' => ∃ v, e = .returned (.tuple #[v, .bool (ordB l)]) ∧ OwnS w' W.heap.size v (ordL l) ∧ Below W.heap.size W w') := by rw [hob, hol]; exact HLO.out
    clear hob hol HLO
    go_enter Tryz.func5, Tryz.ntmps5
    go_wp2_with (first
      | (go_at_call 14; go_loud (refine HOK.out.mono ?_; rintro e w1 ⟨rfl, hb1⟩; rw [hok]))
      | (go_at_call 15; go_loud (refine (HLO'.out _ hb1).mono ?_; rintro e w2 ⟨v2, rfl, ho2, hb2⟩; refine stop ?_)))
    unfold Hid
    have HB2 : Hid (Below w.heap.size w w2) := hb1.trans (hb2.mono hb1.size)
    have HW2 : Hid (OwnS w2 w.heap.size v2 (ordL l)) := ho2.weak hb1.size
    clear hb1 hb2 ho2
    go_wp2
    go_ret2
    exact ⟨v2, rfl, HW2.out, HB2.out⟩
end Go.Proofs.YtkkpiagchkdamaaGreatDoor
