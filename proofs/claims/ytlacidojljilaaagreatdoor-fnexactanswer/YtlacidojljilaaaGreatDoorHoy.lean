/- Is a heap right? The program's way: rows of values and of names. A region that draws its order, gone through by hand with what holds all through it. -/
import Derived.Test.YtlacidojljilaaaGreatDoorVux
import Derived.Test.YtlacidojljilaaaGreatDoorHsx
import Derived.OrdersHeld
set_option linter.unusedVariables false
namespace Go.Proofs.YtlacidojljilaaaGreatDoor
open Go.ChangeShapes Go.WideShapes Go.ChangeAt Go.RowKit
set_option maxRecDepth 100000 in
set_option maxHeartbeats 1000000 in
theorem areNames_any (a : Option Addr) (ts : List ByteArray) (cap : Nat) (w : World) (hn : ts.length ≤ 1048576) (hs : ∀ x ∈ ts, x.size ≤ 1048576) (hr : RowS w w.heap.size a ts) :
  Calls Tryz.prog 134 #[.slice a ts.length cap] w fun e w' => Ans w (.bool (ts.all (fun x => naL x.data.toList))) e w' := by
 have HR : Hid (RowS w w.heap.size a ts) := hr
 have HN : Hid (∀ (s : ByteArray) (w1 : World), s ∈ ts → Calls Tryz.prog 86 #[.string s] w1 fun e w' => Ans w1 (.bool (naL s.data.toList)) e w') := fun s w1 hv => by have := implNa_any s w1 (hs s hv); rwa [ByteArray.toList_eq] at this
 clear hr hs
 go_enter Tryz.func134, Tryz.ntmps134
 go_wp2
 go_loopw [7] (fun o wr => ∃ i : Nat, i ≤ ts.length ∧ o = .int .i64 i ∧ (ts.take i).all (fun x => naL x.data.toList) = true ∧ Below w.heap.size w wr)
  (fun o _ => ts.length - (intOf o).toNat)
 case atStart => exact ⟨0, by omega, rfl, by simp, Below.refl _ _⟩
 case round =>
  obtain ⟨i, hi, rfl, hall, hb⟩ := hrel
  by_cases hlt : i < ts.length
  ·obtain ⟨v, hv⟩ : ∃ v, ts[i]? = some v := ⟨_, List.getElem?_eq_getElem hlt⟩
   obtain ⟨b1, o1, rfl, hbb, y0⟩ := (HR.out.below hb) i v hv
   have HN2 : Hid (∀ w1, Calls Tryz.prog 86 #[.string v] w1 fun e w' => Ans w1 (.bool (naL v.data.toList)) e w') := fun w1 => HN.out v w1 (List.mem_of_getElem? hv)
   cases hna : naL v.data.toList
   ·rw [hna] at HN2
    have HQ : Hid (ts.all (fun x => naL x.data.toList) = false) := all_of_bad _ hv hna
    clear hall HN hv hna
    go_wp2_with (go_at_call 86; refine (HN2.out _).mono ?_; rintro e w2 ⟨rfl, hb2⟩)
    go_ret
    exact ⟨by rw [HQ.out]; rfl, bT hb hb2⟩
   ·rw [hna] at HN2
    have HQ : Hid ((ts.take (i + 1)).all (fun x => naL x.data.toList) = true) := by show _ = _; rw [all_take_succ _ hv, hall, hna]; rfl
    clear hall HN hv hna
    go_wp2_with (go_at_call 86; refine (HN2.out _).mono ?_; rintro e w2 ⟨rfl, hb2⟩)
    go_roundw
    case rel => exact ⟨i + 1, by omega, by go_num, HQ.out, bT hb hb2⟩
    case measure => simp [intOf]; omega
  ·obtain rfl : i = ts.length := by omega
   rw [List.take_length] at hall
   have HQ : Hid (ts.all (fun x => naL x.data.toList) = true) := hall
   have hlt' : decide ((ts.length : Int) < (ts.length : Int)) = false := by simp
   clear hall HN
   go_wp2
   go_ret
   exact ⟨by rw [HQ.out]; rfl, hb⟩
set_option maxRecDepth 100000 in
set_option maxHeartbeats 1000000 in
theorem valuesOk_any (a : Option Addr) (h : List Cel) (ca : Nat) (av : Option Addr) (vs : List Val) (cv : Nat) (w : World) (hl : h.length ≤ 1048576) (hn : vs.length ≤ 1048576) (hs : ∀ x ∈ vs, x.small) (hr : RowC w w.heap.size a h) (hrv : RowV w w.heap.size av vs) :
  Calls Tryz.prog 88 #[.slice a h.length ca, .slice av vs.length cv] w fun e w' => Ans w (.bool (vs.all (·.ok h))) e w' := by
 have HR : Hid (RowV w w.heap.size av vs) := hrv
 have HV : Hid (∀ (v : Val) (w1 : World), v ∈ vs → Below w.heap.size w w1 → Calls Tryz.prog 85 #[.slice a h.length ca, .agg #[.int .i64 v.k, .int .i64 v.n, .string v.s]] w1 fun e w' => Ans w1 (.bool (v.ok h)) e w') := fun v w1 hv hb => implVal_any v a h ca w1 hl (hs v hv).2.2 ((hr.below hb).mono hb.size)
 clear hr hs hrv
 go_enter Tryz.func88, Tryz.ntmps88
 go_wp2
 go_loopw [9] (fun o wr => ∃ i : Nat, i ≤ vs.length ∧ o = .int .i64 i ∧ (vs.take i).all (·.ok h) = true ∧ Below w.heap.size w wr)
  (fun o _ => vs.length - (intOf o).toNat)
 case atStart => exact ⟨0, by omega, rfl, by simp, Below.refl _ _⟩
 case round =>
  obtain ⟨i, hi, rfl, hall, hb⟩ := hrel
  by_cases hlt : i < vs.length
  ·obtain ⟨v, hv⟩ : ∃ v, vs[i]? = some v := ⟨_, List.getElem?_eq_getElem hlt⟩
   obtain ⟨b1, o1, rfl, hbb, y0, y1, y2⟩ := (HR.out.below hb) i v hv
   have hbA : Below w.heap.size w (wr.alloc (Obj.cells #[.int .i64 v.k, .int .i64 v.n, .string v.s] 44)) := hb.alloc hb.size _
   have HV2 : Hid (∀ w1, Below w.heap.size w w1 → Calls Tryz.prog 85 #[.slice a h.length ca, .agg #[.int .i64 v.k, .int .i64 v.n, .string v.s]] w1 fun e w' => Ans w1 (.bool (v.ok h)) e w') := fun w1 h1 => HV.out v w1 (List.mem_of_getElem? hv) h1
   cases hna : v.ok h
   ·rw [hna] at HV2
    have HQ : Hid (vs.all (·.ok h) = false) := all_of_bad _ hv hna
    clear hall HV hv hna
    go_wp2_with (go_at_call 85; refine (HV2.out _ hbA).mono ?_; rintro e w2 ⟨rfl, hb2⟩)
    go_ret
    exact ⟨by rw [HQ.out]; rfl, bT hbA hb2⟩
   ·rw [hna] at HV2
    have HQ : Hid ((vs.take (i + 1)).all (·.ok h) = true) := by show _ = _; rw [all_take_succ _ hv, hall, hna]; rfl
    clear hall HV hv hna
    go_wp2_with (go_at_call 85; refine (HV2.out _ hbA).mono ?_; rintro e w2 ⟨rfl, hb2⟩)
    go_roundw
    case rel => exact ⟨i + 1, by omega, by go_num, HQ.out, bT hbA hb2⟩
    case measure => simp [intOf]; omega
  ·obtain rfl : i = vs.length := by omega
   rw [List.take_length] at hall
   have HQ : Hid (vs.all (·.ok h) = true) := hall
   have hlt' : decide ((vs.length : Int) < (vs.length : Int)) = false := by simp
   clear hall HV
   go_wp2
   go_ret
   exact ⟨by rw [HQ.out]; rfl, hb⟩
end Go.Proofs.YtlacidojljilaaaGreatDoor
set_option linter.unusedVariables false
namespace Go.Proofs.YtlacidojljilaaaGreatDoor
open Go.ChangeShapes Go.WideShapes Go.ChangeAt Go.RowKit
section
variable {Q : Exit → Act → World → Prop}
theorem run_v {s : Sem Value} {w w' : World} {x : Value} (h : s.run Tryz.prog w = .ok x w') : (do let y ← s; pure (Next.value y) : Sem Next).run Tryz.prog w = .ok (.value x) w' := by
 simp [h, Result.andThen]
theorem wpAnyH_eq {ops : Array Oper} {S : World → Prop} {fuel : Nat} {l l' : Array Bool} {a a' : Act} {w : World} (hl : l = l') (ha : a = a') (h : wpAnyH Tryz.prog .any ops Q S fuel l' a' w) : wpAnyH Tryz.prog .any ops Q S fuel l a w := by
 subst hl ha
 exact h
theorem eH {ops : Array Oper} {S : World → Prop} {fuel : Nat} {l : Array Bool} {a : Act} {w : World} (l' : Array Bool) (a' : Act) (hl : l = l') (ha : a = a') (h : wpAnyH Tryz.prog .any ops Q S fuel l' a' w) : wpAnyH Tryz.prog .any ops Q S fuel l a w := wpAnyH_eq hl ha h
def tC (ops : Array Oper) (l : Array Bool) (i : Nat) : Bool := Region.noSelect ops && Region.free .any ops l i && (Region.ready .any ops l).contains i
theorem tL {ops : Array Oper} {S : World → Prop} (i : Nat) {oi : Oper} (v : Value) {fuel : Nat} {l : Array Bool} {a : Act} {w : World} (hi : ops[i]? = some oi) (hc : (tC ops l i && Region.wanted oi (yielded ops a.tmps)) = true) (hQ : ∀ c a w, Q (.panic c) (a.put oi.dst v) w → Q (.panic c) a w) (hy : ∀ w', S w' → (execOp a.eval oi).run Tryz.prog w' = .ok (.value v) w') (hS : S w) (h : wpAnyH Tryz.prog .any ops Q S fuel (l.setIfInBounds i true) (a.put oi.dst v) w) : wpAnyH Tryz.prog .any ops Q S (fuel + 1) l a w := by
 simp only [tC, Bool.and_eq_true] at hc
 exact wpAnyH_take hi hc.1.1.1 hc.1.1.2 hc.1.2 hQ (.inl ⟨hc.2, hy⟩) hS h
theorem tK {ops : Array Oper} {S : World → Prop} (i : Nat) {oi : Oper} (v : Value) {fuel : Nat} {l : Array Bool} {a : Act} {w : World} (hi : ops[i]? = some oi) (hc : (tC ops l i && Region.wanted oi (yielded ops a.tmps)) = true) (hQ : ∀ c a w, Q (.panic c) (a.put oi.dst v) w → Q (.panic c) a w) (hy : ∀ w', (execOp a.eval oi).run Tryz.prog w' = .ok (.value v) w') (hS : S w) (h : wpAnyH Tryz.prog .any ops Q S fuel (l.setIfInBounds i true) (a.put oi.dst v) w) : wpAnyH Tryz.prog .any ops Q S (fuel + 1) l a w := tL i v hi hc hQ (fun w' _ => hy w') hS h
theorem tU {ops : Array Oper} {S : World → Prop} (i : Nat) {oi : Oper} {fuel : Nat} {l : Array Bool} {a : Act} {w : World} (hi : ops[i]? = some oi) (hc : (tC ops l i && !Region.wanted oi (yielded ops a.tmps)) = true) (hQ : ∀ c a w, Q (.panic c) (a.put oi.dst undef) w → Q (.panic c) a w) (hS : S w) (h : wpAnyH Tryz.prog .any ops Q S fuel (l.setIfInBounds i true) (a.put oi.dst undef) w) : wpAnyH Tryz.prog .any ops Q S (fuel + 1) l a w := by
 simp only [tC, Bool.and_eq_true, Bool.not_eq_true'] at hc
 exact wpAnyH_take hi hc.1.1.1 hc.1.1.2 hc.1.2 hQ (.inr ⟨hc.2, rfl⟩) hS h
theorem opw_call {ops : Array Oper} {i : Nat} {o : Oper} {a : Act} {w : World} {K : Act → World → Prop} {f : FuncId} {args : Array Value} (ho : ops[i]? = some o) (hw : Region.wanted o (yielded ops a.tmps) = true)
  (hr : (execOp a.eval o).run Tryz.prog w = .ok (.enter f args) w) (h : Calls Tryz.prog f args w fun e w' => ∃ v, e = .returned v ∧ K (a.put o.dst v) w') : wpOp Tryz.prog ops Q i K a w := by
 unfold wpOp
 simp only [ho, hw, if_true]
 refine .inl ?_
 unfold Oper.wp
 rw [hr]
 refine h.mono ?_
 rintro e w' ⟨v, rfl, hk⟩
 exact hk
end
theorem ld9 {w : World} {b o : Nat} {s : ByteArray} (h : w.cell? ⟨b, o, none⟩ = some (.string s)) : (Instr.loadAt 9 (.pointer (some ⟨b, o, none⟩))).run Tryz.prog w = .ok (.string s) w := by simp [go_sem, h]
theorem ld3 {w : World} {b o : Nat} {n : Int} (h : w.cell? ⟨b, o, none⟩ = some (.int .i64 n)) : (Instr.loadAt 3 (.pointer (some ⟨b, o, none⟩))).run Tryz.prog w = .ok (.int .i64 n) w := by simp [go_sem, h]
theorem ld35 {w : World} {b o : Nat} {a : Option Addr} {n c : Nat} (h : w.cell? ⟨b, o, none⟩ = some (.slice a n c)) : (Instr.loadAt 25 (.pointer (some ⟨b, o, none⟩))).run Tryz.prog w = .ok (.slice a n c) w := by simp [go_sem, h]
theorem ld41 {w : World} {b o : Nat} {a : Option Addr} {n c : Nat} (h : w.cell? ⟨b, o, none⟩ = some (.slice a n c)) : (Instr.loadAt 102 (.pointer (some ⟨b, o, none⟩))).run Tryz.prog w = .ok (.slice a n c) w := by simp [go_sem, h]
theorem eqs {s : ByteArray} (h : (s.toList == []) = true) (w : World) : (binOp .eql 9 (.string s) (.string ⟨#[]⟩)).run Tryz.prog w = .ok (.bool true) w := by simp [go_sem, h]
theorem ge0 {n : Int} (h : decide (0 ≤ n) = true) (w : World) : (binOp .geq 3 (.int .i64 n) (.int .i64 0)).run Tryz.prog w = .ok (.bool true) w := by simp at h; simp [go_sem, h]
theorem eqn {x y : Int} (h : (x == y) = false) (w : World) : (binOp .eql 3 (.int .i64 x) (.int .i64 y)).run Tryz.prog w = .ok (.bool false) w := by simp [go_sem, h]
end Go.Proofs.YtlacidojljilaaaGreatDoor
