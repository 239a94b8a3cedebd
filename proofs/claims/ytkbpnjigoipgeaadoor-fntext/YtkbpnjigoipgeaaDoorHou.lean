/- Is a heap right? The program's way: rows of values and of names. -/
import Derived.Test.YtkbpnjigoipgeaaDoorVov
import Derived.Test.YtkbpnjigoipgeaaDoorHot
set_option linter.unusedVariables false
namespace Go.Proofs.YtkbpnjigoipgeaaDoor
open Go.ChangeShapes Go.WideShapes Go.ChangeAt Go.RowKit
set_option maxRecDepth 100000 in
set_option maxHeartbeats 1000000 in
theorem areNames_any (a : Option Addr) (ts : List ByteArray) (cap : Nat) (w : World) (hn : ts.length ≤ 1048576) (hs : ∀ x ∈ ts, x.size ≤ 1048576) (hr : RowS w w.heap.size a ts) :
    Calls Tryd.prog 44 #[.slice a ts.length cap] w fun e w' => Ans w (.bool (ts.all (fun x => naL x.data.toList))) e w' := by
  have HR : Hid (RowS w w.heap.size a ts) := hr
  have HN : Hid (∀ (s : ByteArray) (w1 : World), s ∈ ts → Calls Tryd.prog 54 #[.string s] w1 fun e w' => Ans w1 (.bool (naL s.data.toList)) e w') := fun s w1 hv => by have := implNa_any s w1 (hs s hv); rwa [ByteArray.toList_eq] at this
  clear hr hs
  go_enter Tryd.func44, Tryd.ntmps44
  go_wp2
  go_loopw [7] (fun o wr => ∃ i : Nat, i ≤ ts.length ∧ o = .int .i64 i ∧ (ts.take i).all (fun x => naL x.data.toList) = true ∧ Below w.heap.size w wr)
    (fun o _ => ts.length - (intOf o).toNat)
  case atStart => exact ⟨0, by omega, rfl, by simp, Below.refl _ _⟩
  case round =>
    obtain ⟨i, hi, rfl, hall, hb⟩ := hrel
    by_cases hlt : i < ts.length
    · obtain ⟨v, hv⟩ : ∃ v, ts[i]? = some v := ⟨_, List.getElem?_eq_getElem hlt⟩
      obtain ⟨b1, o1, rfl, hbb, y0⟩ := (HR.out.below hb) i v hv
      have HN2 : Hid (∀ w1, Calls Tryd.prog 54 #[.string v] w1 fun e w' => Ans w1 (.bool (naL v.data.toList)) e w') := fun w1 => HN.out v w1 (List.mem_of_getElem? hv)
      cases hna : naL v.data.toList
      · rw [hna] at HN2
        have HQ : Hid (ts.all (fun x => naL x.data.toList) = false) := all_of_bad _ hv hna
        clear hall HN hv hna
        go_wp2_with (go_at_call 54; refine (HN2.out _).mono ?_; rintro e w2 ⟨rfl, hb2⟩)
        go_ret
        exact ⟨by rw [HQ.out]; rfl, hb.trans (hb2.mono hb.size)⟩
      · rw [hna] at HN2
        have HQ : Hid ((ts.take (i + 1)).all (fun x => naL x.data.toList) = true) := by show _ = _; rw [all_take_succ _ hv, hall, hna]; rfl
        clear hall HN hv hna
        go_wp2_with (go_at_call 54; refine (HN2.out _).mono ?_; rintro e w2 ⟨rfl, hb2⟩)
        go_roundw
        case rel => exact ⟨i + 1, by omega, by go_num, HQ.out, hb.trans (hb2.mono hb.size)⟩
        case measure => simp [intOf]; omega
    · obtain rfl : i = ts.length := by omega
      rw [List.take_length] at hall
      have HQ : Hid (ts.all (fun x => naL x.data.toList) = true) := hall
      have hlt' : decide ((ts.length : Int) < (ts.length : Int)) = false := by simp
      clear hall HN
      go_wp2
      go_ret
      exact ⟨by rw [HQ.out]; rfl, hb⟩
set_option maxRecDepth 100000 in
set_option maxHeartbeats 1000000 in
theorem valuesOk_any (a : Option Addr) (h : List Cel) (ca : Nat) (av : Option Addr) (vs : List Val) (cv : Nat) (w : World) (hl : h.length ≤ 1048576) (hn : vs.length ≤ 1048576) (hs : ∀ x ∈ vs, x.small) (hr : RowC w w.heap.size a h) (hrv : RowV w w.heap.size av vs) :
    Calls Tryd.prog 43 #[.slice a h.length ca, .slice av vs.length cv] w fun e w' => Ans w (.bool (vs.all (·.ok h))) e w' := by
  have HR : Hid (RowV w w.heap.size av vs) := hrv
  have HV : Hid (∀ (v : Val) (w1 : World), v ∈ vs → Below w.heap.size w w1 → Calls Tryd.prog 18 #[.slice a h.length ca, .agg #[.int .i64 v.k, .int .i64 v.n, .string v.s]] w1 fun e w' => Ans w1 (.bool (v.ok h)) e w') := fun v w1 hv hb => implVal_any v a h ca w1 hl (hs v hv).2.2 ((hr.below hb).mono hb.size)
  clear hr hs hrv
  go_enter Tryd.func43, Tryd.ntmps43
  go_wp2
  go_loopw [9] (fun o wr => ∃ i : Nat, i ≤ vs.length ∧ o = .int .i64 i ∧ (vs.take i).all (·.ok h) = true ∧ Below w.heap.size w wr)
    (fun o _ => vs.length - (intOf o).toNat)
  case atStart => exact ⟨0, by omega, rfl, by simp, Below.refl _ _⟩
  case round =>
    obtain ⟨i, hi, rfl, hall, hb⟩ := hrel
    by_cases hlt : i < vs.length
    · obtain ⟨v, hv⟩ : ∃ v, vs[i]? = some v := ⟨_, List.getElem?_eq_getElem hlt⟩
      obtain ⟨b1, o1, rfl, hbb, y0, y1, y2⟩ := (HR.out.below hb) i v hv
      have hbA : Below w.heap.size w (wr.alloc (Obj.cells #[.int .i64 v.k, .int .i64 v.n, .string v.s] 26)) := hb.alloc hb.size _
      have HV2 : Hid (∀ w1, Below w.heap.size w w1 → Calls Tryd.prog 18 #[.slice a h.length ca, .agg #[.int .i64 v.k, .int .i64 v.n, .string v.s]] w1 fun e w' => Ans w1 (.bool (v.ok h)) e w') := fun w1 h1 => HV.out v w1 (List.mem_of_getElem? hv) h1
      cases hna : v.ok h
      · rw [hna] at HV2
        have HQ : Hid (vs.all (·.ok h) = false) := all_of_bad _ hv hna
        clear hall HV hv hna
        go_wp2_with (go_at_call 18; refine (HV2.out _ hbA).mono ?_; rintro e w2 ⟨rfl, hb2⟩)
        go_ret
        exact ⟨by rw [HQ.out]; rfl, hbA.trans (hb2.mono hbA.size)⟩
      · rw [hna] at HV2
        have HQ : Hid ((vs.take (i + 1)).all (·.ok h) = true) := by show _ = _; rw [all_take_succ _ hv, hall, hna]; rfl
        clear hall HV hv hna
        go_wp2_with (go_at_call 18; refine (HV2.out _ hbA).mono ?_; rintro e w2 ⟨rfl, hb2⟩)
        go_roundw
        case rel => exact ⟨i + 1, by omega, by go_num, HQ.out, hbA.trans (hb2.mono hbA.size)⟩
        case measure => simp [intOf]; omega
    · obtain rfl : i = vs.length := by omega
      rw [List.take_length] at hall
      have HQ : Hid (vs.all (·.ok h) = true) := hall
      have hlt' : decide ((vs.length : Int) < (vs.length : Int)) = false := by simp
      clear hall HV
      go_wp2
      go_ret
      exact ⟨by rw [HQ.out]; rfl, hb⟩
end Go.Proofs.YtkbpnjigoipgeaaDoor
