/- Which machines are right, as a plain function. The model: is there such a node; are these right bindings. The model: is a frame right. The model: is a machine right. -/
import Derived.Test.YtlacidojljilaaaGreatDoorMcx
import Derived.Deep.WholeRow
import Derived.Test.YtlacidojljilaaaGreatDoorSsd
set_option linter.unusedVariables false
set_option maxRecDepth 100000
set_option maxHeartbeats 8000000
namespace Go.Proofs.YtlacidojljilaaaGreatDoor
open Go.ChangeShapes Go.WideShapes Go.ChangeAt Go.RowKit
def Bnd.ok (h : List Cel) (b : Bnd) : Bool := naL b.name.toList && b.val.ok h
def envB (h : List Cel) (e : List Bnd) : Bool := e.all (Bnd.ok h)
def fullF (d : Nod) : Nat := if d.k = 6 ∨ d.k = 10 then 1 else if d.k = 8 ∨ d.k = 9 ∨ d.k = 11 then d.args.length else 0
def Frm.okAt (h : List Cel) (d : Nod) (f : Frm) : Bool := decide (f.vals.length < fullF d) && f.vals.all (Val.ok h) && envB h f.env
def Frm.ok (h : List Cel) (us : List Unt) (f : Frm) : Bool := match nodeAt us f.unit f.node with
 | none => false
 | some d => f.okAt h d
def valB (h : List Cel) (m : Mac) : Bool := if m.mode = 1 then m.val.zero else if m.mode = 2 then m.val.ok h else if m.mode = 3 then m.val.okz h else false
noncomputable def Mac.ok (y : Sy) (m : Mac) : Bool :=
 (nodeAt y.units m.unit m.node).isSome && (decide (0 ≤ m.end_) && (decide (m.end_ ≤ 7) && (decide (m.stack.length ≤ 120) && (y.ok && (valB y.heap m && (envB y.heap m.env && m.stack.all (Frm.ok y.heap y.units)))))))
theorem ldR {a : Act} {o : Oper} {t : TypeId} {x : Operand} {p v : Value} {w : World} (ho : o.op = .load t x) (hx : a.eval x = p) (h : (Instr.loadAt t p).run Tryz.prog w = .ok v w) : (execOp a.eval o).run Tryz.prog w = .ok (.value v) w := by
 simp [execOp, ho, hx, h, Result.andThen]
theorem ixR {a : Act} {o : Oper} {t : TypeId} {x y : Operand} {s k v : Value} {w : World} (ho : o.op = .indexAddr t x y) (hx : a.eval x = s) (hy : a.eval y = k) (h : (Instr.indexAt t s k).run Tryz.prog w = .ok v w) : (execOp a.eval o).run Tryz.prog w = .ok (.value v) w := by
 simp [execOp, ho, hx, hy, h, Result.andThen]
theorem l9At_any (y : Sy) (y1 y2 y3 y4 : Option Addr) (d1 d2 d3 d4 : Nat) (x z : Int) (w : World) (hs : y.small) (hr : SyRows w (fun b => b < w.heap.size) y1 y2 y3 y4 d1 d2 d3 d4 y) :
  Calls Tryz.prog 45 #[.agg #[.slice y1 y.heap.length d1, .slice y2 y.insts.length d2, .slice y3 y.units.length d3, .slice y4 y.out.length d4], .int .i64 x, .int .i64 z] w fun e w' => Ans w (.bool (nodeAt y.units x z).isSome) e w' := by
 have hb0 : Below w.heap.size w (w.alloc (Obj.cells #[.slice y1 y.heap.length d1, .slice y2 y.insts.length d2, .slice y3 y.units.length d3, .slice y4 y.out.length d4] 41)) := bR _ _
 obtain ⟨_, _, ⟨s3, s3'⟩, _⟩ := hs
 obtain ⟨_, _, ⟨r3, t3⟩, _⟩ := hr
 by_cases h0 : x < 0
 ·have g0 : decide (0 ≤ x) = false := decide_eq_false (by omega)
  have HN : Hid (nodeAt y.units x z = none) := nodeAt_neg h0
  clear r3 s3' h0
  go_enter Tryz.func45, Tryz.ntmps45
  go_wp2
  go_ret
  exact ⟨by rw [HN.out]; rfl, hb0⟩
 have g0 : decide (0 ≤ x) = true := decide_eq_true (by omega)
 by_cases h1 : (y.units.length : Int) ≤ x
 ·have g1 : decide (x < (y.units.length : Int)) = false := decide_eq_false (by omega)
  have HN : Hid (nodeAt y.units x z = none) := nodeAt_out h1
  clear r3 s3' h0 h1
  go_enter Tryz.func45, Tryz.ntmps45
  go_wp2
  go_ret
  exact ⟨by rw [HN.out]; rfl, hb0⟩
 have g1 : decide (x < (y.units.length : Int)) = true := decide_eq_true (by omega)
 by_cases h2 : z < 0
 ·have g2 : decide (0 ≤ z) = false := decide_eq_false (by omega)
  have HN : Hid (nodeAt y.units x z = none) := nodeAt_neg2 h2
  clear r3 s3' h0 h1 h2
  go_enter Tryz.func45, Tryz.ntmps45
  go_wp2
  go_ret
  exact ⟨by rw [HN.out]; rfl, hb0⟩
 have g2 : decide (0 ≤ z) = true := decide_eq_true (by omega)
 obtain ⟨i, rfl⟩ : ∃ i : Nat, x = (i : Int) := ⟨x.toNat, by omega⟩
 have hi : i < y.units.length := by omega
 obtain ⟨u, hu⟩ : ∃ u, y.units[i]? = some u := ⟨_, List.getElem?_eq_getElem hi⟩
 obtain ⟨b1, o1, cs, rfl, hbb, ⟨an, cn, rfl, hrn, hcn⟩, hl⟩ := r3 i u hu
 have y1 : ∀ o, (w.alloc o).cell? ⟨b1, o1 + i * 3 + 1, none⟩ = some (.slice an u.prog.nodes.length cn) := fun o => (World.cell?_of_block (w := w) (a := ⟨b1, _, none⟩) (Below.heap_alloc _ _ _ hbb)).trans (hl 1 _ rfl)
 have hsn := (s3' u (List.mem_of_getElem? hu)).2.1.1
 have HNA : Hid (nodeAt y.units i z = u.prog.nodes[z.toNat]?) := nodeAt_in hu (by omega)
 by_cases h3 : (u.prog.nodes.length : Int) ≤ z
 ·have g3 : decide (z < (u.prog.nodes.length : Int)) = false := decide_eq_false (by omega)
  have HN : Hid (nodeAt y.units i z = none) := by show _ = _; rw [HNA.out]; exact List.getElem?_eq_none (by omega)
  clear s3' h2 hrn hl hu h3 h0 h1 r3
  go_enter Tryz.func45, Tryz.ntmps45
  go_wp2
  go_ret
  exact ⟨by rw [HN.out]; rfl, hb0⟩
 have g3 : decide (z < (u.prog.nodes.length : Int)) = true := decide_eq_true (by omega)
 obtain ⟨d, hd⟩ : ∃ d, u.prog.nodes[z.toNat]? = some d := ⟨_, List.getElem?_eq_getElem (by omega)⟩
 have HN : Hid (nodeAt y.units i z = some d) := by show _ = _; rw [HNA.out, hd]
 clear s3' h2 hrn hl hu h3 hd h0 h1 r3
 go_enter Tryz.func45, Tryz.ntmps45
 go_wp2
 go_ret
 exact ⟨by rw [HN.out]; rfl, hb0⟩
theorem l9Env_any (y : Sy) (y1 y2 y3 y4 : Option Addr) (d1 d2 d3 d4 : Nat) (a : Option Addr) (e : List Bnd) (ca : Nat) (w : World) (hs : y.small) (hr : SyRows w (fun b => b < w.heap.size) y1 y2 y3 y4 d1 d2 d3 d4 y) (hn : e.length ≤ 1048576) (hse : ∀ b ∈ e, Bnd.small b) (hre : rgB.Row w (fun b => b < w.heap.size) a e) :
  Calls Tryz.prog 46 #[.agg #[.slice y1 y.heap.length d1, .slice y2 y.insts.length d2, .slice y3 y.units.length d3, .slice y4 y.out.length d4], .slice a e.length ca] w fun r w' => Ans w (.bool (envB y.heap e)) r w' := by
 obtain ⟨⟨s1, s1'⟩, _⟩ := hs
 obtain ⟨⟨r1, t1⟩, _⟩ := hr
 have hb0 : Below w.heap.size w (w.alloc (Obj.cells #[.slice y1 y.heap.length d1, .slice y2 y.insts.length d2, .slice y3 y.units.length d3, .slice y4 y.out.length d4] 41)) := bR _ _
 have k0 : (w.alloc (Obj.cells #[.slice y1 y.heap.length d1, .slice y2 y.insts.length d2, .slice y3 y.units.length d3, .slice y4 y.out.length d4] 41)).heap[w.heap.size]? = some (Obj.cells #[.slice y1 y.heap.length d1, .slice y2 y.insts.length d2, .slice y3 y.units.length d3, .slice y4 y.out.length d4] 41) := blk_at _ _ _ rfl
 have z0 : (w.alloc (Obj.cells #[.slice y1 y.heap.length d1, .slice y2 y.insts.length d2, .slice y3 y.units.length d3, .slice y4 y.out.length d4] 41)).heap.size = w.heap.size + 1 := by simp
 have HR : Hid (rgB.Row w (fun b => b < w.heap.size) a e) := hre
 have HS : Hid (∀ b ∈ e, Bnd.small b) := hse
 have HC : Hid (rgC.Row w (fun b => b < w.heap.size) y1 y.heap) := r1
 have HQ0 : Hid (envB y.heap e = e.all (Bnd.ok y.heap)) := rfl
 rw [HQ0.out]
 clear hre hse r1 s1'
 go_enter Tryz.func46, Tryz.ntmps46
 go_wp2
 generalize w.alloc (Obj.cells #[.slice y1 y.heap.length d1, .slice y2 y.insts.length d2, .slice y3 y.units.length d3, .slice y4 y.out.length d4] 41) = W0 at *
 have HZ : Hid (W0.heap.size = w.heap.size + 1) := z0
 clear z0
 go_loopw [5] (fun o wr => ∃ i : Nat, i ≤ e.length ∧ o = .int .i64 i ∧ (e.take i).all (Bnd.ok y.heap) = true ∧ Below W0.heap.size W0 wr)
  (fun o _ => e.length - (intOf o).toNat)
 case atStart => exact ⟨0, by omega, rfl, by simp, Below.refl _ _⟩
 case round =>
  obtain ⟨i, hi, rfl, hall, hbW⟩ := hrel
  have hb : Below w.heap.size w wr := bT hb0 hbW
  have hk := blk_keep k0 hbW (by have := HZ.out; omega)
  have e0 := zB 0 hk rfl
  have K : Hid (wr.heap[w.heap.size]? = some (Obj.cells #[.slice y1 y.heap.length d1, .slice y2 y.insts.length d2, .slice y3 y.units.length d3, .slice y4 y.out.length d4] 41)) := hk
  have hkl : w.heap.size < wr.heap.size := (Array.getElem?_eq_some_iff.1 hk).1
  clear hk
  by_cases hlt : i < e.length
  ·obtain ⟨b, hbi⟩ : ∃ b, e[i]? = some b := ⟨_, List.getElem?_eq_getElem hlt⟩
   obtain ⟨b1, o1, cs, rfl, hbb, rfl, hl⟩ := HR.out i b hbi
   have hil : (i : Int) < (e.length : Int) := by omega
   have x0 : wr.cell? ⟨b1, o1 + i * 4, none⟩ = some (.string b.name) := cell_keep (hl 0 _ rfl) hb hbb
   have x1 : wr.cell? ⟨b1, o1 + i * 4 + 1, none⟩ = some (.int .i64 b.val.k) := cell_keep (hl 1 _ rfl) hb hbb
   have x2 : wr.cell? ⟨b1, o1 + i * 4 + 2, none⟩ = some (.int .i64 b.val.n) := cell_keep (hl 2 _ rfl) hb hbb
   have x3 : wr.cell? ⟨b1, o1 + i * 4 + 3, none⟩ = some (.string b.val.s) := cell_keep (hl 3 _ rfl) hb hbb
   have hbm := List.mem_of_getElem? hbi
   have HNM : Hid (∀ w1, Calls Tryz.prog 73 #[.string b.name] w1 fun e w' => Ans w1 (.bool (naL b.name.toList)) e w') := fun w1 => specNa_any b.name w1 (HS.out b hbm).1
   have HVL : Hid (∀ w1, Below w.heap.size w w1 → Calls Tryz.prog 48 #[.slice y1 y.heap.length d1, .agg #[.int .i64 b.val.k, .int .i64 b.val.n, .string b.val.s]] w1 fun e w' => Ans w1 (.bool (b.val.ok y.heap)) e w') := fun w1 h1 => specVal_any b.val y1 y.heap d1 w1 s1 (HS.out b hbm).2.2.2 (rowC_iff.1 (HC.out.keep fun c hc => ⟨Nat.lt_of_lt_of_le hc h1.size, h1.block c hc⟩))
   have good : Bnd.ok y.heap b = true → Hid ((e.take (i + 1)).all (Bnd.ok y.heap) = true) := fun q => by show _ = _; rw [all_take_succ _ hbi, hall, q]; rfl
   have bad : Bnd.ok y.heap b = false → Hid (e.all (Bnd.ok y.heap) = false) := fun q => all_of_bad _ hbi q
   have HE : Hid (Bnd.ok y.heap b = (naL b.name.toList && b.val.ok y.heap)) := rfl
   clear hl hbi hbm
   have KS : ∀ u v : World, wr.heap.size ≤ u.heap.size → (fun X : World => (X.cell? ⟨w.heap.size, 0, none⟩ = some (.slice y1 y.heap.length d1)) ∧ (X.cell? ⟨b1, o1 + i * 4, none⟩ = some (.string b.name)) ∧ (X.cell? ⟨b1, o1 + i * 4 + 1, none⟩ = some (.int .i64 b.val.k)) ∧ (X.cell? ⟨b1, o1 + i * 4 + 2, none⟩ = some (.int .i64 b.val.n)) ∧ (X.cell? ⟨b1, o1 + i * 4 + 3, none⟩ = some (.string b.val.s))) u → Below u.heap.size u v → (fun X : World => (X.cell? ⟨w.heap.size, 0, none⟩ = some (.slice y1 y.heap.length d1)) ∧ (X.cell? ⟨b1, o1 + i * 4, none⟩ = some (.string b.name)) ∧ (X.cell? ⟨b1, o1 + i * 4 + 1, none⟩ = some (.int .i64 b.val.k)) ∧ (X.cell? ⟨b1, o1 + i * 4 + 2, none⟩ = some (.int .i64 b.val.n)) ∧ (X.cell? ⟨b1, o1 + i * 4 + 3, none⟩ = some (.string b.val.s))) v := fun u v hu ⟨h0, h1, h2, h3, h4⟩ hb9 => by
    have q0 : w.heap.size < u.heap.size := by omega
    have q1 : b1 < u.heap.size := by have := hb.size; omega
    exact ⟨cell_keep h0 hb9 q0, cell_keep h1 hb9 q1, cell_keep h2 hb9 q1, cell_keep h3 hb9 q1, cell_keep h4 hb9 q1⟩
   have HL1 : Hid (wr.heap.size ≤ ({ wr with drawn := wr.drawn + 1 } : World).heap.size) := Nat.le_refl _
   have HBD : Hid (Below w.heap.size w { wr with drawn := wr.drawn + 1 }) := ⟨hb.os, hb.tape, hb.output, hb.size, hb.block⟩
   have HBD2 : Hid (Below W0.heap.size W0 { wr with drawn := wr.drawn + 1 }) := ⟨hbW.os, hbW.tape, hbW.output, hbW.size, hbW.block⟩
   cases h1 : naL b.name.toList
   ·rw [h1] at HNM
    have HQ := bad (by rw [HE.out, h1]; rfl)
    clear bad good hall HE h1 HVL
    go_wp2_with fail
    refine wp_region_held (S := (fun X : World => (X.cell? ⟨w.heap.size, 0, none⟩ = some (.slice y1 y.heap.length d1)) ∧ (X.cell? ⟨b1, o1 + i * 4, none⟩ = some (.string b.name)) ∧ (X.cell? ⟨b1, o1 + i * 4 + 1, none⟩ = some (.int .i64 b.val.k)) ∧ (X.cell? ⟨b1, o1 + i * 4 + 2, none⟩ = some (.int .i64 b.val.n)) ∧ (X.cell? ⟨b1, o1 + i * 4 + 3, none⟩ = some (.string b.val.s)))) (by kernel_rfl) ?_
    have hS : (fun X : World => (X.cell? ⟨w.heap.size, 0, none⟩ = some (.slice y1 y.heap.length d1)) ∧ (X.cell? ⟨b1, o1 + i * 4, none⟩ = some (.string b.name)) ∧ (X.cell? ⟨b1, o1 + i * 4 + 1, none⟩ = some (.int .i64 b.val.k)) ∧ (X.cell? ⟨b1, o1 + i * 4 + 2, none⟩ = some (.int .i64 b.val.n)) ∧ (X.cell? ⟨b1, o1 + i * 4 + 3, none⟩ = some (.string b.val.s))) { wr with drawn := wr.drawn + 1 } := ⟨e0, x0, x1, x2, x3⟩
    refine tK 0 (vS b1 o1 e.length ca) rfl (by kernel_rfl) (fun _ _ _ h => h) (fun _ => by kernel_rfl) hS ?_
    refine tK 1 (vI ↑i) rfl (by kernel_rfl) (fun _ _ _ h => h) (fun _ => by kernel_rfl) hS ?_
    refine tL 2 (.pointer (some ⟨b1, o1 + i * 4, none⟩)) rfl (by kernel_rfl) (fun _ _ _ h => h) (fun w' hS' => ixR (s := .slice (some ⟨b1, o1, none⟩) e.length ca) (k := .int .i64 ↑i) rfl (by kernel_rfl) (by kernel_rfl) (by simp [go_sem] <;> omega)) hS ?_
    refine tK 3 (vP b1 (o1 + i * 4)) rfl (by kernel_rfl) (fun _ _ _ h => h) (fun _ => by kernel_rfl) hS ?_
    refine tL 4 (.string b.name) rfl (by kernel_rfl) (fun _ _ _ h => h) (fun w' hS' => ldR (p := .pointer (some ⟨b1, o1 + i * 4, none⟩)) rfl (by kernel_rfl) (by obtain ⟨c0, x0, x1, x2, x3⟩ := hS'; simp [go_sem, x0])) hS ?_
    refine eH (bb 18 31) ⟨#[yA y y1 y2 y3 y4 d1 d2 d3 d4,vS b1 o1 e.length ca,vP w.heap.size 0,vU,u4,vI ↑i,vI ↑i,vS b1 o1 e.length ca,vI ↑e.length,vT,u10,u11,vS b1 o1 e.length ca,vI ↑i,vP b1 (o1 + i * 4),vP b1 (o1 + i * 4),.string b.name,u17,u18,u19,u20,u21,u22,u23,u24,u25,u26,u27,u28,u29], []⟩ (by kernel_rfl) (by kernel_rfl) ?_
    refine wpAnyH_all (rs := [5]) (by kernel_rfl) (by simp) fun jj hjj => ?_
    obtain rfl : jj = 5 := by simpa using hjj
    refine opw_call (f := 73) (args := #[.string b.name]) rfl (by kernel_rfl) (by kernel_rfl) ((HNM.out _).mono ?_)
    rintro e w2 ⟨rfl, hb2⟩
    have hS := KS { wr with drawn := wr.drawn + 1 } w2 HL1.out hS hb2
    have hbn : Below w.heap.size w w2 := bT HBD.out hb2
    refine ⟨_, rfl, hS, ?_⟩
    refine eH (bb 18 63) ⟨#[yA y y1 y2 y3 y4 d1 d2 d3 d4,vS b1 o1 e.length ca,vP w.heap.size 0,vU,u4,vI ↑i,vI ↑i,vS b1 o1 e.length ca,vI ↑e.length,vT,u10,u11,vS b1 o1 e.length ca,vI ↑i,vP b1 (o1 + i * 4),vP b1 (o1 + i * 4),.string b.name,vF,u18,u19,u20,u21,u22,u23,u24,u25,u26,u27,u28,u29], []⟩ (by kernel_rfl) (by kernel_rfl) ?_
    refine tK 6 (vT) rfl (by kernel_rfl) (fun _ _ _ h => h) (fun _ => by kernel_rfl) hS ?_
    refine tK 7 (vT) rfl (by kernel_rfl) (fun _ _ _ h => h) (fun _ => by kernel_rfl) hS ?_
    refine tU 8 rfl (by kernel_rfl) (fun _ _ _ h => h) hS ?_
    refine tU 9 rfl (by kernel_rfl) (fun _ _ _ h => h) hS ?_
    refine tU 10 rfl (by kernel_rfl) (fun _ _ _ h => h) hS ?_
    refine tU 11 rfl (by kernel_rfl) (fun _ _ _ h => h) hS ?_
    refine tU 12 rfl (by kernel_rfl) (fun _ _ _ h => h) hS ?_
    refine tU 13 rfl (by kernel_rfl) (fun _ _ _ h => h) hS ?_
    refine tU 14 rfl (by kernel_rfl) (fun _ _ _ h => h) hS ?_
    refine tU 15 rfl (by kernel_rfl) (fun _ _ _ h => h) hS ?_
    refine tU 16 rfl (by kernel_rfl) (fun _ _ _ h => h) hS ?_
    refine tK 17 (vT) rfl (by kernel_rfl) (fun _ _ _ h => h) (fun _ => by kernel_rfl) hS ?_
    refine eH (bb 18 262143) ⟨#[.agg #[.slice y1 y.heap.length d1, .slice y2 y.insts.length d2, .slice y3 y.units.length d3, .slice y4 y.out.length d4], .slice (some ⟨b1, o1, none⟩) e.length ca, .pointer (some ⟨w.heap.size, 0, none⟩), undef, u4, .int .i64 ↑i, .int .i64 ↑i, .slice (some ⟨b1, o1, none⟩) e.length ca, .int .i64 ↑e.length, .bool true, u10, u11, .slice (some ⟨b1, o1, none⟩) e.length ca, .int .i64 ↑i, .pointer (some ⟨b1, o1 + i * 4, none⟩), .pointer (some ⟨b1, o1 + i * 4, none⟩), .string b.name, .bool false, .bool true, .bool true, undef, undef, undef, undef, undef, undef, undef, undef, undef, .bool true], []⟩ (by kernel_rfl) (by kernel_rfl) ?_
    refine wpAnyH_done (by kernel_rfl) ?_ _
    go_wp2
    go_ret
    exact ⟨by rw [HQ.out]; rfl, hbn⟩
   ·rw [h1] at HNM
    cases h2 : b.val.ok y.heap
    ·rw [h2] at HVL
     have HQ := bad (by rw [HE.out, h1, h2]; rfl)
     clear bad good hall HE h1 h2
     go_wp2_with fail
     refine wp_region_held (S := (fun X : World => (X.cell? ⟨w.heap.size, 0, none⟩ = some (.slice y1 y.heap.length d1)) ∧ (X.cell? ⟨b1, o1 + i * 4, none⟩ = some (.string b.name)) ∧ (X.cell? ⟨b1, o1 + i * 4 + 1, none⟩ = some (.int .i64 b.val.k)) ∧ (X.cell? ⟨b1, o1 + i * 4 + 2, none⟩ = some (.int .i64 b.val.n)) ∧ (X.cell? ⟨b1, o1 + i * 4 + 3, none⟩ = some (.string b.val.s)))) (by kernel_rfl) ?_
     have hS : (fun X : World => (X.cell? ⟨w.heap.size, 0, none⟩ = some (.slice y1 y.heap.length d1)) ∧ (X.cell? ⟨b1, o1 + i * 4, none⟩ = some (.string b.name)) ∧ (X.cell? ⟨b1, o1 + i * 4 + 1, none⟩ = some (.int .i64 b.val.k)) ∧ (X.cell? ⟨b1, o1 + i * 4 + 2, none⟩ = some (.int .i64 b.val.n)) ∧ (X.cell? ⟨b1, o1 + i * 4 + 3, none⟩ = some (.string b.val.s))) { wr with drawn := wr.drawn + 1 } := ⟨e0, x0, x1, x2, x3⟩
     refine tK 0 (vS b1 o1 e.length ca) rfl (by kernel_rfl) (fun _ _ _ h => h) (fun _ => by kernel_rfl) hS ?_
     refine tK 1 (vI ↑i) rfl (by kernel_rfl) (fun _ _ _ h => h) (fun _ => by kernel_rfl) hS ?_
     refine tL 2 (.pointer (some ⟨b1, o1 + i * 4, none⟩)) rfl (by kernel_rfl) (fun _ _ _ h => h) (fun w' hS' => ixR (s := .slice (some ⟨b1, o1, none⟩) e.length ca) (k := .int .i64 ↑i) rfl (by kernel_rfl) (by kernel_rfl) (by simp [go_sem] <;> omega)) hS ?_
     refine tK 3 (vP b1 (o1 + i * 4)) rfl (by kernel_rfl) (fun _ _ _ h => h) (fun _ => by kernel_rfl) hS ?_
     refine tL 4 (.string b.name) rfl (by kernel_rfl) (fun _ _ _ h => h) (fun w' hS' => ldR (p := .pointer (some ⟨b1, o1 + i * 4, none⟩)) rfl (by kernel_rfl) (by obtain ⟨c0, x0, x1, x2, x3⟩ := hS'; simp [go_sem, x0])) hS ?_
     refine eH (bb 18 31) ⟨#[yA y y1 y2 y3 y4 d1 d2 d3 d4,vS b1 o1 e.length ca,vP w.heap.size 0,vU,u4,vI ↑i,vI ↑i,vS b1 o1 e.length ca,vI ↑e.length,vT,u10,u11,vS b1 o1 e.length ca,vI ↑i,vP b1 (o1 + i * 4),vP b1 (o1 + i * 4),.string b.name,u17,u18,u19,u20,u21,u22,u23,u24,u25,u26,u27,u28,u29], []⟩ (by kernel_rfl) (by kernel_rfl) ?_
     refine wpAnyH_all (rs := [5]) (by kernel_rfl) (by simp) fun jj hjj => ?_
     obtain rfl : jj = 5 := by simpa using hjj
     refine opw_call (f := 73) (args := #[.string b.name]) rfl (by kernel_rfl) (by kernel_rfl) ((HNM.out _).mono ?_)
     rintro e w2 ⟨rfl, hb2⟩
     have hS := KS { wr with drawn := wr.drawn + 1 } w2 HL1.out hS hb2
     have hbn : Below w.heap.size w w2 := bT HBD.out hb2
     refine ⟨_, rfl, hS, ?_⟩
     refine eH (bb 18 63) ⟨#[yA y y1 y2 y3 y4 d1 d2 d3 d4,vS b1 o1 e.length ca,vP w.heap.size 0,vU,u4,vI ↑i,vI ↑i,vS b1 o1 e.length ca,vI ↑e.length,vT,u10,u11,vS b1 o1 e.length ca,vI ↑i,vP b1 (o1 + i * 4),vP b1 (o1 + i * 4),.string b.name,vT,u18,u19,u20,u21,u22,u23,u24,u25,u26,u27,u28,u29], []⟩ (by kernel_rfl) (by kernel_rfl) ?_
     refine tK 6 (vF) rfl (by kernel_rfl) (fun _ _ _ h => h) (fun _ => by kernel_rfl) hS ?_
     refine tK 7 (vF) rfl (by kernel_rfl) (fun _ _ _ h => h) (fun _ => by kernel_rfl) hS ?_
     refine tK 8 (vP w.heap.size 0) rfl (by kernel_rfl) (fun _ _ _ h => h) (fun _ => by kernel_rfl) hS ?_
     refine tL 9 (.slice y1 y.heap.length d1) rfl (by kernel_rfl) (fun _ _ _ h => h) (fun w' hS' => ldR (p := .pointer (some ⟨w.heap.size, 0, none⟩)) rfl (by kernel_rfl) (by obtain ⟨c0, x0, x1, x2, x3⟩ := hS'; simp [go_sem, c0])) hS ?_
     refine tK 10 (vS b1 o1 e.length ca) rfl (by kernel_rfl) (fun _ _ _ h => h) (fun _ => by kernel_rfl) hS ?_
     refine tK 11 (vI ↑i) rfl (by kernel_rfl) (fun _ _ _ h => h) (fun _ => by kernel_rfl) hS ?_
     refine tL 12 (.pointer (some ⟨b1, o1 + i * 4, none⟩)) rfl (by kernel_rfl) (fun _ _ _ h => h) (fun w' hS' => ixR (s := .slice (some ⟨b1, o1, none⟩) e.length ca) (k := .int .i64 ↑i) rfl (by kernel_rfl) (by kernel_rfl) (by simp [go_sem] <;> omega)) hS ?_
     refine tK 13 (vP b1 (o1 + i * 4 + 1)) rfl (by kernel_rfl) (fun _ _ _ h => h) (fun _ => by kernel_rfl) hS ?_
     refine tL 14 (.agg #[.int .i64 b.val.k, .int .i64 b.val.n, .string b.val.s]) rfl (by kernel_rfl) (fun _ _ _ h => h) (fun w' hS' => ldR (p := .pointer (some ⟨b1, o1 + i * 4 + 1, none⟩)) rfl (by kernel_rfl) (by obtain ⟨c0, x0, x1, x2, x3⟩ := hS'; simp [go_sem, x1, x2, x3])) hS ?_
     refine eH (bb 18 32767) ⟨#[yA y y1 y2 y3 y4 d1 d2 d3 d4,vS b1 o1 e.length ca,vP w.heap.size 0,vU,u4,vI ↑i,vI ↑i,vS b1 o1 e.length ca,vI ↑e.length,vT,u10,u11,vS b1 o1 e.length ca,vI ↑i,vP b1 (o1 + i * 4),vP b1 (o1 + i * 4),.string b.name,vT,vF,vF,vP w.heap.size 0,.slice y1 y.heap.length d1,vS b1 o1 e.length ca,vI ↑i,vP b1 (o1 + i * 4),vP b1 (o1 + i * 4 + 1),.agg #[vI b.val.k,vI b.val.n,.string b.val.s],u27,u28,u29], []⟩ (by kernel_rfl) (by kernel_rfl) ?_
     refine wpAnyH_all (rs := [15]) (by kernel_rfl) (by simp) fun jj hjj => ?_
     obtain rfl : jj = 15 := by simpa using hjj
     refine opw_call (f := 48) (args := #[.slice y1 y.heap.length d1, .agg #[.int .i64 b.val.k, .int .i64 b.val.n, .string b.val.s]]) rfl (by kernel_rfl) (by kernel_rfl) ((HVL.out _ hbn).mono ?_)
     rintro e w3 ⟨rfl, hb3⟩
     have hS := KS w2 w3 (Nat.le_trans HL1.out hb2.size) hS hb3
     refine ⟨_, rfl, hS, ?_⟩
     refine eH (bb 18 65535) ⟨#[yA y y1 y2 y3 y4 d1 d2 d3 d4,vS b1 o1 e.length ca,vP w.heap.size 0,vU,u4,vI ↑i,vI ↑i,vS b1 o1 e.length ca,vI ↑e.length,vT,u10,u11,vS b1 o1 e.length ca,vI ↑i,vP b1 (o1 + i * 4),vP b1 (o1 + i * 4),.string b.name,vT,vF,vF,vP w.heap.size 0,.slice y1 y.heap.length d1,vS b1 o1 e.length ca,vI ↑i,vP b1 (o1 + i * 4),vP b1 (o1 + i * 4 + 1),.agg #[vI b.val.k,vI b.val.n,.string b.val.s],vF,u28,u29], []⟩ (by kernel_rfl) (by kernel_rfl) ?_
     refine tK 16 (vT) rfl (by kernel_rfl) (fun _ _ _ h => h) (fun _ => by kernel_rfl) hS ?_
     refine tK 17 (vT) rfl (by kernel_rfl) (fun _ _ _ h => h) (fun _ => by kernel_rfl) hS ?_
     refine eH (bb 18 262143) ⟨#[.agg #[.slice y1 y.heap.length d1, .slice y2 y.insts.length d2, .slice y3 y.units.length d3, .slice y4 y.out.length d4], .slice (some ⟨b1, o1, none⟩) e.length ca, .pointer (some ⟨w.heap.size, 0, none⟩), undef, u4, .int .i64 ↑i, .int .i64 ↑i, .slice (some ⟨b1, o1, none⟩) e.length ca, .int .i64 ↑e.length, .bool true, u10, u11, .slice (some ⟨b1, o1, none⟩) e.length ca, .int .i64 ↑i, .pointer (some ⟨b1, o1 + i * 4, none⟩), .pointer (some ⟨b1, o1 + i * 4, none⟩), .string b.name, .bool true, .bool false, .bool false, .pointer (some ⟨w.heap.size, 0, none⟩), .slice y1 y.heap.length d1, .slice (some ⟨b1, o1, none⟩) e.length ca, .int .i64 ↑i, .pointer (some ⟨b1, o1 + i * 4, none⟩), .pointer (some ⟨b1, o1 + i * 4 + 1, none⟩), .agg #[.int .i64 b.val.k, .int .i64 b.val.n, .string b.val.s], .bool false, .bool true, .bool true], []⟩ (by kernel_rfl) (by kernel_rfl) ?_
     refine wpAnyH_done (by kernel_rfl) ?_ _
     go_wp2
     go_ret
     exact ⟨by rw [HQ.out]; rfl, bT hbn hb3⟩
    ·rw [h2] at HVL
     have HQ := good (by rw [HE.out, h1, h2]; rfl)
     clear bad good hall HE h1 h2
     go_wp2_with fail
     refine wp_region_held (S := (fun X : World => (X.cell? ⟨w.heap.size, 0, none⟩ = some (.slice y1 y.heap.length d1)) ∧ (X.cell? ⟨b1, o1 + i * 4, none⟩ = some (.string b.name)) ∧ (X.cell? ⟨b1, o1 + i * 4 + 1, none⟩ = some (.int .i64 b.val.k)) ∧ (X.cell? ⟨b1, o1 + i * 4 + 2, none⟩ = some (.int .i64 b.val.n)) ∧ (X.cell? ⟨b1, o1 + i * 4 + 3, none⟩ = some (.string b.val.s)))) (by kernel_rfl) ?_
     have hS : (fun X : World => (X.cell? ⟨w.heap.size, 0, none⟩ = some (.slice y1 y.heap.length d1)) ∧ (X.cell? ⟨b1, o1 + i * 4, none⟩ = some (.string b.name)) ∧ (X.cell? ⟨b1, o1 + i * 4 + 1, none⟩ = some (.int .i64 b.val.k)) ∧ (X.cell? ⟨b1, o1 + i * 4 + 2, none⟩ = some (.int .i64 b.val.n)) ∧ (X.cell? ⟨b1, o1 + i * 4 + 3, none⟩ = some (.string b.val.s))) { wr with drawn := wr.drawn + 1 } := ⟨e0, x0, x1, x2, x3⟩
     refine tK 0 (vS b1 o1 e.length ca) rfl (by kernel_rfl) (fun _ _ _ h => h) (fun _ => by kernel_rfl) hS ?_
     refine tK 1 (vI ↑i) rfl (by kernel_rfl) (fun _ _ _ h => h) (fun _ => by kernel_rfl) hS ?_
     refine tL 2 (.pointer (some ⟨b1, o1 + i * 4, none⟩)) rfl (by kernel_rfl) (fun _ _ _ h => h) (fun w' hS' => ixR (s := .slice (some ⟨b1, o1, none⟩) e.length ca) (k := .int .i64 ↑i) rfl (by kernel_rfl) (by kernel_rfl) (by simp [go_sem] <;> omega)) hS ?_
     refine tK 3 (vP b1 (o1 + i * 4)) rfl (by kernel_rfl) (fun _ _ _ h => h) (fun _ => by kernel_rfl) hS ?_
     refine tL 4 (.string b.name) rfl (by kernel_rfl) (fun _ _ _ h => h) (fun w' hS' => ldR (p := .pointer (some ⟨b1, o1 + i * 4, none⟩)) rfl (by kernel_rfl) (by obtain ⟨c0, x0, x1, x2, x3⟩ := hS'; simp [go_sem, x0])) hS ?_
     refine eH (bb 18 31) ⟨#[yA y y1 y2 y3 y4 d1 d2 d3 d4,vS b1 o1 e.length ca,vP w.heap.size 0,vU,u4,vI ↑i,vI ↑i,vS b1 o1 e.length ca,vI ↑e.length,vT,u10,u11,vS b1 o1 e.length ca,vI ↑i,vP b1 (o1 + i * 4),vP b1 (o1 + i * 4),.string b.name,u17,u18,u19,u20,u21,u22,u23,u24,u25,u26,u27,u28,u29], []⟩ (by kernel_rfl) (by kernel_rfl) ?_
     refine wpAnyH_all (rs := [5]) (by kernel_rfl) (by simp) fun jj hjj => ?_
     obtain rfl : jj = 5 := by simpa using hjj
     refine opw_call (f := 73) (args := #[.string b.name]) rfl (by kernel_rfl) (by kernel_rfl) ((HNM.out _).mono ?_)
     rintro e w2 ⟨rfl, hb2⟩
     have hS := KS { wr with drawn := wr.drawn + 1 } w2 HL1.out hS hb2
     have hbn : Below w.heap.size w w2 := bT HBD.out hb2
     refine ⟨_, rfl, hS, ?_⟩
     refine eH (bb 18 63) ⟨#[yA y y1 y2 y3 y4 d1 d2 d3 d4,vS b1 o1 e.length ca,vP w.heap.size 0,vU,u4,vI ↑i,vI ↑i,vS b1 o1 e.length ca,vI ↑e.length,vT,u10,u11,vS b1 o1 e.length ca,vI ↑i,vP b1 (o1 + i * 4),vP b1 (o1 + i * 4),.string b.name,vT,u18,u19,u20,u21,u22,u23,u24,u25,u26,u27,u28,u29], []⟩ (by kernel_rfl) (by kernel_rfl) ?_
     refine tK 6 (vF) rfl (by kernel_rfl) (fun _ _ _ h => h) (fun _ => by kernel_rfl) hS ?_
     refine tK 7 (vF) rfl (by kernel_rfl) (fun _ _ _ h => h) (fun _ => by kernel_rfl) hS ?_
     refine tK 8 (vP w.heap.size 0) rfl (by kernel_rfl) (fun _ _ _ h => h) (fun _ => by kernel_rfl) hS ?_
     refine tL 9 (.slice y1 y.heap.length d1) rfl (by kernel_rfl) (fun _ _ _ h => h) (fun w' hS' => ldR (p := .pointer (some ⟨w.heap.size, 0, none⟩)) rfl (by kernel_rfl) (by obtain ⟨c0, x0, x1, x2, x3⟩ := hS'; simp [go_sem, c0])) hS ?_
     refine tK 10 (vS b1 o1 e.length ca) rfl (by kernel_rfl) (fun _ _ _ h => h) (fun _ => by kernel_rfl) hS ?_
     refine tK 11 (vI ↑i) rfl (by kernel_rfl) (fun _ _ _ h => h) (fun _ => by kernel_rfl) hS ?_
     refine tL 12 (.pointer (some ⟨b1, o1 + i * 4, none⟩)) rfl (by kernel_rfl) (fun _ _ _ h => h) (fun w' hS' => ixR (s := .slice (some ⟨b1, o1, none⟩) e.length ca) (k := .int .i64 ↑i) rfl (by kernel_rfl) (by kernel_rfl) (by simp [go_sem] <;> omega)) hS ?_
     refine tK 13 (vP b1 (o1 + i * 4 + 1)) rfl (by kernel_rfl) (fun _ _ _ h => h) (fun _ => by kernel_rfl) hS ?_
     refine tL 14 (.agg #[.int .i64 b.val.k, .int .i64 b.val.n, .string b.val.s]) rfl (by kernel_rfl) (fun _ _ _ h => h) (fun w' hS' => ldR (p := .pointer (some ⟨b1, o1 + i * 4 + 1, none⟩)) rfl (by kernel_rfl) (by obtain ⟨c0, x0, x1, x2, x3⟩ := hS'; simp [go_sem, x1, x2, x3])) hS ?_
     refine eH (bb 18 32767) ⟨#[yA y y1 y2 y3 y4 d1 d2 d3 d4,vS b1 o1 e.length ca,vP w.heap.size 0,vU,u4,vI ↑i,vI ↑i,vS b1 o1 e.length ca,vI ↑e.length,vT,u10,u11,vS b1 o1 e.length ca,vI ↑i,vP b1 (o1 + i * 4),vP b1 (o1 + i * 4),.string b.name,vT,vF,vF,vP w.heap.size 0,.slice y1 y.heap.length d1,vS b1 o1 e.length ca,vI ↑i,vP b1 (o1 + i * 4),vP b1 (o1 + i * 4 + 1),.agg #[vI b.val.k,vI b.val.n,.string b.val.s],u27,u28,u29], []⟩ (by kernel_rfl) (by kernel_rfl) ?_
     refine wpAnyH_all (rs := [15]) (by kernel_rfl) (by simp) fun jj hjj => ?_
     obtain rfl : jj = 15 := by simpa using hjj
     refine opw_call (f := 48) (args := #[.slice y1 y.heap.length d1, .agg #[.int .i64 b.val.k, .int .i64 b.val.n, .string b.val.s]]) rfl (by kernel_rfl) (by kernel_rfl) ((HVL.out _ hbn).mono ?_)
     rintro e w3 ⟨rfl, hb3⟩
     have hS := KS w2 w3 (Nat.le_trans HL1.out hb2.size) hS hb3
     refine ⟨_, rfl, hS, ?_⟩
     refine eH (bb 18 65535) ⟨#[yA y y1 y2 y3 y4 d1 d2 d3 d4,vS b1 o1 e.length ca,vP w.heap.size 0,vU,u4,vI ↑i,vI ↑i,vS b1 o1 e.length ca,vI ↑e.length,vT,u10,u11,vS b1 o1 e.length ca,vI ↑i,vP b1 (o1 + i * 4),vP b1 (o1 + i * 4),.string b.name,vT,vF,vF,vP w.heap.size 0,.slice y1 y.heap.length d1,vS b1 o1 e.length ca,vI ↑i,vP b1 (o1 + i * 4),vP b1 (o1 + i * 4 + 1),.agg #[vI b.val.k,vI b.val.n,.string b.val.s],vT,u28,u29], []⟩ (by kernel_rfl) (by kernel_rfl) ?_
     refine tK 16 (vF) rfl (by kernel_rfl) (fun _ _ _ h => h) (fun _ => by kernel_rfl) hS ?_
     refine tK 17 (vF) rfl (by kernel_rfl) (fun _ _ _ h => h) (fun _ => by kernel_rfl) hS ?_
     refine eH (bb 18 262143) ⟨#[.agg #[.slice y1 y.heap.length d1, .slice y2 y.insts.length d2, .slice y3 y.units.length d3, .slice y4 y.out.length d4], .slice (some ⟨b1, o1, none⟩) e.length ca, .pointer (some ⟨w.heap.size, 0, none⟩), undef, u4, .int .i64 ↑i, .int .i64 ↑i, .slice (some ⟨b1, o1, none⟩) e.length ca, .int .i64 ↑e.length, .bool true, u10, u11, .slice (some ⟨b1, o1, none⟩) e.length ca, .int .i64 ↑i, .pointer (some ⟨b1, o1 + i * 4, none⟩), .pointer (some ⟨b1, o1 + i * 4, none⟩), .string b.name, .bool true, .bool false, .bool false, .pointer (some ⟨w.heap.size, 0, none⟩), .slice y1 y.heap.length d1, .slice (some ⟨b1, o1, none⟩) e.length ca, .int .i64 ↑i, .pointer (some ⟨b1, o1 + i * 4, none⟩), .pointer (some ⟨b1, o1 + i * 4 + 1, none⟩), .agg #[.int .i64 b.val.k, .int .i64 b.val.n, .string b.val.s], .bool true, .bool false, .bool false], []⟩ (by kernel_rfl) (by kernel_rfl) ?_
     refine wpAnyH_done (by kernel_rfl) ?_ _
     go_wp2
     go_roundw
     case rel => exact ⟨i + 1, by omega, by go_num, HQ.out, HBD2.out.trans ((hb2.mono HBD2.out.size).trans (hb3.mono (Nat.le_trans HBD2.out.size hb2.size)))⟩
     case measure => simp [intOf]; omega
  ·obtain rfl : i = e.length := by omega
   rw [List.take_length] at hall
   have HQ : Hid (e.all (Bnd.ok y.heap) = true) := hall
   have hlt' : decide ((e.length : Int) < (e.length : Int)) = false := by simp
   clear hall
   go_wp2
   go_ret
   exact ⟨by rw [HQ.out]; rfl, hb⟩
theorem nodeAt_inv {us : List Unt} {x z : Int} {d : Nod} (h : nodeAt us x z = some d) : ∃ (i j : Nat) (u : Unt), x = (i : Int) ∧ z = (j : Int) ∧ us[i]? = some u ∧ u.prog.nodes[j]? = some d := by
 unfold nodeAt at h
 split at h
 ·rename_i hh
  cases hu : us[x.toNat]? with
  | none => rw [hu] at h; cases h
  | some u =>
   rw [hu] at h
   exact ⟨x.toNat, z.toNat, u, by omega, by omega, hu, h⟩
 ·cases h
theorem run_uX {s : Sem Unit} {w w' : World} (h : s.run Tryz.prog w = .ok () w') : (do s; pure Next.skip : Sem Next).run Tryz.prog w = .ok .skip w' := by
 simp [h, Result.andThen]
theorem opw_skipX {Q : Exit → Act → World → Prop} {ops : Array Oper} {i : Nat} {o : Oper} {a : Act} {w w' : World} {K : Act → World → Prop} (ho : ops[i]? = some o) (hw : Region.wanted o (yielded ops a.tmps) = true)
  (hr : (execOp a.eval o).run Tryz.prog w = .ok .skip w') (h : K (a.put o.dst undef) w') : wpOp Tryz.prog ops Q i K a w := by
 unfold wpOp
 simp only [ho, hw, if_true]
 refine .inl ?_
 unfold Oper.wp
 rw [hr]
 exact h
theorem store_node (w : World) (k n : Int) (s : ByteArray) (an aa : Option Addr) (ln cn la ca : Nat) : (Instr.storeAt 126 (.pointer (some ⟨w.heap.size, 0, none⟩)) (.agg #[.int .i64 k, .int .i64 n, .string s, .slice an ln cn, .slice aa la ca])).run Tryz.prog (w.alloc (Obj.cells #[.int .i64 0, .int .i64 0, .string ⟨#[]⟩, .slice none 0 0, .slice none 0 0] 126)) = .ok () (w.alloc (Obj.cells #[.int .i64 k, .int .i64 n, .string s, .slice an ln cn, .slice aa la ca] 126)) :=
 run_storeAt_new w 126 _ _ (by kernel_rfl) rfl (by simp [Value.oneCell'])
theorem l9Frame_any (y : Sy) (y1 y2 y3 y4 : Option Addr) (d1 d2 d3 d4 : Nat) (f : Frm) (fa1 fa2 : Option Addr) (fc1 fc2 : Nat) (w : World) (hs : y.small) (hr : SyRows w (fun b => b < w.heap.size) y1 y2 y3 y4 d1 d2 d3 d4 y) (hsf : f.small) (hrf : FrmRows w (fun b => b < w.heap.size) fa1 fa2 fc1 fc2 f) :
  Calls Tryz.prog 47 #[.agg #[.slice y1 y.heap.length d1, .slice y2 y.insts.length d2, .slice y3 y.units.length d3, .slice y4 y.out.length d4], .agg #[.int .i64 f.unit, .int .i64 f.node, .slice fa1 f.vals.length fc1, .slice fa2 f.env.length fc2]] w fun r w' => Ans w (.bool (f.ok y.heap y.units)) r w' := by
 obtain ⟨_, _, ⟨v1, v2⟩, ⟨n1, n2⟩⟩ := hsf
 obtain ⟨⟨rv, tv⟩, ⟨re, te⟩⟩ := hrf
 have hb0 : Below w.heap.size w ((w.alloc (Obj.cells #[.slice y1 y.heap.length d1, .slice y2 y.insts.length d2, .slice y3 y.units.length d3, .slice y4 y.out.length d4] 41)).alloc (Obj.cells #[.int .i64 f.unit, .int .i64 f.node, .slice fa1 f.vals.length fc1, .slice fa2 f.env.length fc2] 104)) := (bR _ _).alloc (by simp) _
 have k0 : ((w.alloc (Obj.cells #[.slice y1 y.heap.length d1, .slice y2 y.insts.length d2, .slice y3 y.units.length d3, .slice y4 y.out.length d4] 41)).alloc (Obj.cells #[.int .i64 f.unit, .int .i64 f.node, .slice fa1 f.vals.length fc1, .slice fa2 f.env.length fc2] 104)).heap[w.heap.size]? = some (Obj.cells #[.slice y1 y.heap.length d1, .slice y2 y.insts.length d2, .slice y3 y.units.length d3, .slice y4 y.out.length d4] 41) := blk_past (blk_at _ _ _ rfl)
 have k1 : ((w.alloc (Obj.cells #[.slice y1 y.heap.length d1, .slice y2 y.insts.length d2, .slice y3 y.units.length d3, .slice y4 y.out.length d4] 41)).alloc (Obj.cells #[.int .i64 f.unit, .int .i64 f.node, .slice fa1 f.vals.length fc1, .slice fa2 f.env.length fc2] 104)).heap[w.heap.size + 1]? = some (Obj.cells #[.int .i64 f.unit, .int .i64 f.node, .slice fa1 f.vals.length fc1, .slice fa2 f.env.length fc2] 104) := blk_at _ _ _ (by simp)
 have HAT : Hid (∀ w1, Below w.heap.size w w1 → Calls Tryz.prog 45 #[.agg #[.slice y1 y.heap.length d1, .slice y2 y.insts.length d2, .slice y3 y.units.length d3, .slice y4 y.out.length d4], .int .i64 f.unit, .int .i64 f.node] w1 fun e w' => Ans w1 (.bool (nodeAt y.units f.unit f.node).isSome) e w') := fun w1 h1 => l9At_any y y1 y2 y3 y4 d1 d2 d3 d4 f.unit f.node w1 hs (hr.keep fun b hb => ⟨Nat.lt_of_lt_of_le hb h1.size, h1.block b hb⟩)
 have HEN : Hid (∀ w1, Below w.heap.size w w1 → Calls Tryz.prog 46 #[.agg #[.slice y1 y.heap.length d1, .slice y2 y.insts.length d2, .slice y3 y.units.length d3, .slice y4 y.out.length d4], .slice fa2 f.env.length fc2] w1 fun e w' => Ans w1 (.bool (envB y.heap f.env)) e w') := fun w1 h1 => l9Env_any y y1 y2 y3 y4 d1 d2 d3 d4 fa2 f.env fc2 w1 hs (hr.keep fun b hb => ⟨Nat.lt_of_lt_of_le hb h1.size, h1.block b hb⟩) n1 n2 (re.keep fun b hb => ⟨Nat.lt_of_lt_of_le hb h1.size, h1.block b hb⟩)
 have HVO : Hid (∀ (v : Val) w1, v ∈ f.vals → Below w.heap.size w w1 → Calls Tryz.prog 48 #[.slice y1 y.heap.length d1, .agg #[.int .i64 v.k, .int .i64 v.n, .string v.s]] w1 fun e w' => Ans w1 (.bool (v.ok y.heap)) e w') := fun v w1 hv h1 => specVal_any v y1 y.heap d1 w1 hs.1.1 (v2 v hv).2.2 (rowC_iff.1 (hr.1.1.keep fun c hc => ⟨Nat.lt_of_lt_of_le hc h1.size, h1.block c hc⟩))
 have HRV : Hid (rgV.Row w (fun b => b < w.heap.size) fa1 f.vals) := rv
 cases hna : nodeAt y.units f.unit f.node with
 | none =>
  rw [hna] at HAT
  have HQ : Hid (f.ok y.heap y.units = false) := by show _ = _; unfold Frm.ok; rw [hna]
  clear hna hr hs HEN HVO HRV rv re n2 v2
  go_enter Tryz.func47, Tryz.ntmps47
  go_wp2_with fail
  refine (HAT.out _ hb0).mono ?_
  rintro e w2 ⟨rfl, hb2⟩
  go_wp2
  go_ret
  exact ⟨by rw [HQ.out]; rfl, bT hb0 hb2⟩
 | some d =>
  rw [hna] at HAT
  have HFO : Hid (f.ok y.heap y.units = (decide (f.vals.length < fullF d) && f.vals.all (Val.ok y.heap) && envB y.heap f.env)) := by show _ = _; unfold Frm.ok; rw [hna]; rfl
  cases hen : envB y.heap f.env with
  | false =>
   rw [hen] at HEN
   have HQ : Hid (f.ok y.heap y.units = false) := by show _ = _; rw [HFO.out, hen, Bool.and_false]
   clear hna hr hs HVO HRV rv re n2 v2 HFO hen
   go_enter Tryz.func47, Tryz.ntmps47
   go_wp2_with fail
   refine (HAT.out _ hb0).mono ?_
   rintro e w2 ⟨rfl, hb2⟩
   have hb3 := bT hb0 hb2
   have k2 := bK k0 hb2
   have k3 := bK k1 hb2
   obtain ⟨e0, e1, e2, e3⟩ := zn4 k2 rfl rfl rfl rfl
   have e4 := zB 3 k3 rfl
   go_wp2_with fail
   refine (HEN.out _ hb3).mono ?_
   rintro e w3 ⟨rfl, hb4⟩
   go_wp2
   go_ret
   exact ⟨by rw [HQ.out]; rfl, bT hb3 hb4⟩
  | true =>
   rw [hen] at HEN
   have HFP : Hid (f.ok y.heap y.units = (decide (f.vals.length < fullF d) && f.vals.all (Val.ok y.heap))) := by show _ = _; rw [HFO.out, hen, Bool.and_true]
   obtain ⟨i, j, u, hfu, hfn, hu, hd⟩ := nodeAt_inv hna
   have HFU : Hid (f.unit = (i : Int)) := hfu
   have HFN : Hid (f.node = (j : Int)) := hfn
   clear hfu hfn
   obtain ⟨_, _, ⟨s3, s3'⟩, _⟩ := hs
   obtain ⟨_, _, ⟨r3, t3⟩, _⟩ := hr
   obtain ⟨b1, o1, cs, rfl, hbb, ⟨an', cn, rfl, hrn, hcn⟩, hl⟩ := r3 i u hu
   have hsn := (s3' u (List.mem_of_getElem? hu)).2.1.1
   have hds := (s3' u (List.mem_of_getElem? hu)).2.1.2 d (List.mem_of_getElem? hd)
   obtain ⟨b2, o2, cs2, rfl, hbb2, ⟨an, cn2, aa, ca2, rfl, hrows⟩, hl2⟩ := hrn j d hd
   have q3 : w.cell? ⟨b1, o1 + i * 3 + 1, none⟩ = some (.slice (some ⟨b2, o2, none⟩) u.prog.nodes.length cn) := hl 1 _ rfl
   have p0 : w.cell? ⟨b2, o2 + j * 5, none⟩ = some (.int .i64 d.k) := hl2 0 _ rfl
   have p1 : w.cell? ⟨b2, o2 + j * 5 + 1, none⟩ = some (.int .i64 d.n) := hl2 1 _ rfl
   have p2 : w.cell? ⟨b2, o2 + j * 5 + 2, none⟩ = some (.string d.s) := hl2 2 _ rfl
   have p3 : w.cell? ⟨b2, o2 + j * 5 + 3, none⟩ = some (.slice an d.names.length cn2) := hl2 3 _ rfl
   have p4 : w.cell? ⟨b2, o2 + j * 5 + 4, none⟩ = some (.slice aa d.args.length ca2) := hl2 4 _ rfl
   have HP : Hid (w.cell? ⟨b1, o1 + i * 3 + 1, none⟩ = some (.slice (some ⟨b2, o2, none⟩) u.prog.nodes.length cn) ∧ w.cell? ⟨b2, o2 + j * 5, none⟩ = some (.int .i64 d.k) ∧ w.cell? ⟨b2, o2 + j * 5 + 1, none⟩ = some (.int .i64 d.n) ∧ w.cell? ⟨b2, o2 + j * 5 + 2, none⟩ = some (.string d.s) ∧ w.cell? ⟨b2, o2 + j * 5 + 3, none⟩ = some (.slice an d.names.length cn2) ∧ w.cell? ⟨b2, o2 + j * 5 + 4, none⟩ = some (.slice aa d.args.length ca2)) := ⟨q3, p0, p1, p2, p3, p4⟩
   have hdl := hds.2.2.2.2.1
   have hil : (i : Int) < (y.units.length : Int) := by have := (List.getElem?_eq_some_iff.1 hu).1; omega
   have hjl : (j : Int) < (u.prog.nodes.length : Int) := by have := (List.getElem?_eq_some_iff.1 hd).1; omega
   clear hl hl2 hrn hu hd hds hna hen HFO q3 p0 p1 p2 p3 p4 s3' hrows rv re n2 v2
   generalize HFS : f.ok y.heap y.units = R at HFP ⊢
   clear HFS
   go_enter Tryz.func47, Tryz.ntmps47
   go_wp2_with fail
   refine (HAT.out _ hb0).mono ?_
   rintro e w2 ⟨rfl, hb2⟩
   have hb3 := bT hb0 hb2
   have k2 := bK k0 hb2
   have k3 := bK k1 hb2
   obtain ⟨e0, e1, e2, e3⟩ := zn4 k2 rfl rfl rfl rfl
   have e4 := zB 3 k3 rfl
   clear hb0 k0 k1 hb2
   go_wp2_with fail
   refine (HEN.out _ hb3).mono ?_
   rintro e w3 ⟨rfl, hb4⟩
   have hb5 := bT hb3 hb4
   have k4 := bK k2 hb4
   have k5 := bK k3 hb4
   have K4 : Hid (w3.heap[w.heap.size]? = some (Obj.cells #[.slice y1 y.heap.length d1, .slice y2 y.insts.length d2, .slice (some ⟨b1, o1, none⟩) y.units.length d3, .slice y4 y.out.length d4] 41)) := k4
   have K5 : Hid (w3.heap[w.heap.size + 1]? = some (Obj.cells #[.int .i64 f.unit, .int .i64 f.node, .slice fa1 f.vals.length fc1, .slice fa2 f.env.length fc2] 104)) := k5
   clear e0 e1 e2 e3 e4 k2 k3 hb4 hb3 k4 k5 HEN HAT
   go_wp2
   go_loopw [5] (fun o wr => ∃ k : Nat, k ≤ f.vals.length ∧ o = .int .i64 k ∧ (f.vals.take k).all (Val.ok y.heap) = true ∧ Below w3.heap.size w3 wr)
    (fun o _ => f.vals.length - (intOf o).toNat)
   case atStart => exact ⟨0, by omega, rfl, by simp, Below.refl _ _⟩
   case round =>
    obtain ⟨k, hk, rfl, hall, hbW⟩ := hrel
    have hb : Below w.heap.size w wr := bT hb5 hbW
    have k4 := bK K4.out hbW
    have k5 := bK K5.out hbW
    have e0 := zB 0 k4 rfl
    have e5 := zB 2 k5 rfl
    by_cases hlt : k < f.vals.length
    ·obtain ⟨v, hv⟩ : ∃ v, f.vals[k]? = some v := ⟨_, List.getElem?_eq_getElem hlt⟩
     obtain ⟨b6, o6, cs6, rfl, hb6, rfl, hl6⟩ := (HRV.out.below hb) k v hv
     have x0 : wr.cell? ⟨b6, o6 + k * 3, none⟩ = some (.int .i64 v.k) := hl6 0 _ rfl
     have x1 : wr.cell? ⟨b6, o6 + k * 3 + 1, none⟩ = some (.int .i64 v.n) := hl6 1 _ rfl
     have x2 : wr.cell? ⟨b6, o6 + k * 3 + 2, none⟩ = some (.string v.s) := hl6 2 _ rfl
     have HV2 : Hid (∀ w1, Below w.heap.size w w1 → Calls Tryz.prog 48 #[.slice y1 y.heap.length d1, .agg #[.int .i64 v.k, .int .i64 v.n, .string v.s]] w1 fun e w' => Ans w1 (.bool (v.ok y.heap)) e w') := fun w1 h1 => HVO.out v w1 (List.mem_of_getElem? hv) h1
     have good : v.ok y.heap = true → Hid ((f.vals.take (k + 1)).all (Val.ok y.heap) = true) := fun q => by show _ = _; rw [all_take_succ _ hv, hall, q]; rfl
     have bad : v.ok y.heap = false → Hid (R = false) := fun q => by show _ = _; rw [HFP.out, all_of_bad _ hv q, Bool.and_false]
     have hkl : (k : Int) < (f.vals.length : Int) := by omega
     clear hl6 hv HVO k4 k5
     cases hok : v.ok y.heap
     ·rw [hok] at HV2
      have HQ := bad hok
      clear good bad hok hall
      go_wp2_with fail
      go_region_with (go_at_call 48; refine (HV2.out _ (below_drewN hb _)).mono ?_; rintro e w4 ⟨rfl, hb7⟩)
      all_goals
       go_wp2
       go_ret
       exact ⟨by rw [HQ.out]; rfl, (below_drewN hb _).trans (hb7.mono hb.size)⟩
     ·rw [hok] at HV2
      have HQ := good hok
      clear good bad hok hall
      go_wp2_with fail
      go_region_with (go_at_call 48; refine (HV2.out _ (below_drewN hb _)).mono ?_; rintro e w4 ⟨rfl, hb7⟩)
      all_goals
       go_wp2
       go_roundw
       case rel => exact ⟨k + 1, by omega, by go_num, HQ.out, (below_drewN hbW _).trans (hb7.mono hbW.size)⟩
       case measure => simp [intOf]; omega
    ·obtain rfl : k = f.vals.length := by omega
     rw [List.take_length] at hall
     have HQ : Hid (R = decide (f.vals.length < fullF d)) := by show _ = _; rw [HFP.out, hall, Bool.and_true]
     have hlt' : decide ((f.vals.length : Int) < (f.vals.length : Int)) = false := by simp
     have s0 := zB 2 k4 rfl
     have hfu' : (#[.int .i64 f.unit, .int .i64 f.node, .slice fa1 f.vals.length fc1, .slice fa2 f.env.length fc2] : Array Value)[0]? = some (.int .i64 (i : Int)) := by rw [HFU.out]; rfl
     have s1 : wr.cell? ⟨w.heap.size + 1, 0, none⟩ = some (.int .i64 (i : Int)) := cell_blk (j := 0) k5 hfu'
     have hfn' : (#[.int .i64 f.unit, .int .i64 f.node, .slice fa1 f.vals.length fc1, .slice fa2 f.env.length fc2] : Array Value)[1]? = some (.int .i64 (j : Int)) := by rw [HFN.out]; rfl
     have s2 : wr.cell? ⟨w.heap.size + 1, 1, none⟩ = some (.int .i64 (j : Int)) := cell_blk (j := 1) k5 hfn'
     obtain ⟨q3, p0, p1, p2, p3, p4⟩ := HP.out
     have s3 := cell_keep q3 hb hbb
     have m0 := cell_keep p0 hb hbb2
     have m1 := cell_keep p1 hb hbb2
     have m2 := cell_keep p2 hb hbb2
     have m3 := cell_keep p3 hb hbb2
     have m4 := cell_keep p4 hb hbb2
     have hbw := hb.size
     have hw1 : w.heap.size + 1 < wr.heap.size := (Array.getElem?_eq_some_iff.1 k5).1
     have ca : ∀ (ob : Obj) (a : Addr) (v : Value), a.block < wr.heap.size → wr.cell? a = some v → (wr.alloc ob).cell? a = some v := fun ob a v hlt h => (World.cell?_of_block (w := wr) (a := a) (Below.heap_alloc _ _ _ hlt)).trans h
     have HS1 : Hid ((fun X : World => (X.cell? ⟨w.heap.size, 2, none⟩ = some (.slice (some ⟨b1, o1, none⟩) y.units.length d3)) ∧ (X.cell? ⟨w.heap.size + 1, 0, none⟩ = some (.int .i64 (i : Int))) ∧ (X.cell? ⟨w.heap.size + 1, 1, none⟩ = some (.int .i64 (j : Int))) ∧ (X.cell? ⟨b1, o1 + i * 3 + 1, none⟩ = some (.slice (some ⟨b2, o2, none⟩) u.prog.nodes.length cn)) ∧ (X.cell? ⟨b2, o2 + j * 5, none⟩ = some (.int .i64 d.k)) ∧ (X.cell? ⟨b2, o2 + j * 5 + 1, none⟩ = some (.int .i64 d.n)) ∧ (X.cell? ⟨b2, o2 + j * 5 + 2, none⟩ = some (.string d.s)) ∧ (X.cell? ⟨b2, o2 + j * 5 + 3, none⟩ = some (.slice an d.names.length cn2)) ∧ (X.cell? ⟨b2, o2 + j * 5 + 4, none⟩ = some (.slice aa d.args.length ca2))) (wr.alloc (Obj.cells #[.int .i64 0, .int .i64 0, .string ⟨#[]⟩, .slice none 0 0, .slice none 0 0] 126)).drew) := ⟨ca _ _ _ (by show w.heap.size < _; omega) s0, ca _ _ _ hw1 s1, ca _ _ _ hw1 s2, ca _ _ _ (by show b1 < _; omega) s3, ca _ _ _ (by show b2 < _; omega) m0, ca _ _ _ (by show b2 < _; omega) m1, ca _ _ _ (by show b2 < _; omega) m2, ca _ _ _ (by show b2 < _; omega) m3, ca _ _ _ (by show b2 < _; omega) m4⟩
     have HS2 : Hid ((fun X : World => (X.cell? ⟨w.heap.size, 2, none⟩ = some (.slice (some ⟨b1, o1, none⟩) y.units.length d3)) ∧ (X.cell? ⟨w.heap.size + 1, 0, none⟩ = some (.int .i64 (i : Int))) ∧ (X.cell? ⟨w.heap.size + 1, 1, none⟩ = some (.int .i64 (j : Int))) ∧ (X.cell? ⟨b1, o1 + i * 3 + 1, none⟩ = some (.slice (some ⟨b2, o2, none⟩) u.prog.nodes.length cn)) ∧ (X.cell? ⟨b2, o2 + j * 5, none⟩ = some (.int .i64 d.k)) ∧ (X.cell? ⟨b2, o2 + j * 5 + 1, none⟩ = some (.int .i64 d.n)) ∧ (X.cell? ⟨b2, o2 + j * 5 + 2, none⟩ = some (.string d.s)) ∧ (X.cell? ⟨b2, o2 + j * 5 + 3, none⟩ = some (.slice an d.names.length cn2)) ∧ (X.cell? ⟨b2, o2 + j * 5 + 4, none⟩ = some (.slice aa d.args.length ca2))) (wr.alloc (Obj.cells #[.int .i64 d.k, .int .i64 d.n, .string d.s, .slice an d.names.length cn2, .slice aa d.args.length ca2] 126)).drew) := ⟨ca _ _ _ (by show w.heap.size < _; omega) s0, ca _ _ _ hw1 s1, ca _ _ _ hw1 s2, ca _ _ _ (by show b1 < _; omega) s3, ca _ _ _ (by show b2 < _; omega) m0, ca _ _ _ (by show b2 < _; omega) m1, ca _ _ _ (by show b2 < _; omega) m2, ca _ _ _ (by show b2 < _; omega) m3, ca _ _ _ (by show b2 < _; omega) m4⟩
     have k6 := zB 2 k5 rfl
     have k7 : ∀ ob, (wr.alloc ob).drew.cell? ⟨w.heap.size + 1, 2, none⟩ = some (.slice fa1 f.vals.length fc1) := fun ob => ca ob _ _ hw1 k6
     have hbE : Below w.heap.size w (wr.alloc (Obj.cells #[.int .i64 d.k, .int .i64 d.n, .string d.s, .slice an d.names.length cn2, .slice aa d.args.length ca2] 126)).drew := below_drewN (hb.alloc hb.size _) 1
     clear hall HVO HRV HFP hfu' hfn' HFU HFN ca HP q3 p0 p1 p2 p3 p4 k4 k5 K4 K5 e0 e5
     go_wp2
     refine wp_region_held (S := (fun X : World => (X.cell? ⟨w.heap.size, 2, none⟩ = some (.slice (some ⟨b1, o1, none⟩) y.units.length d3)) ∧ (X.cell? ⟨w.heap.size + 1, 0, none⟩ = some (.int .i64 (i : Int))) ∧ (X.cell? ⟨w.heap.size + 1, 1, none⟩ = some (.int .i64 (j : Int))) ∧ (X.cell? ⟨b1, o1 + i * 3 + 1, none⟩ = some (.slice (some ⟨b2, o2, none⟩) u.prog.nodes.length cn)) ∧ (X.cell? ⟨b2, o2 + j * 5, none⟩ = some (.int .i64 d.k)) ∧ (X.cell? ⟨b2, o2 + j * 5 + 1, none⟩ = some (.int .i64 d.n)) ∧ (X.cell? ⟨b2, o2 + j * 5 + 2, none⟩ = some (.string d.s)) ∧ (X.cell? ⟨b2, o2 + j * 5 + 3, none⟩ = some (.slice an d.names.length cn2)) ∧ (X.cell? ⟨b2, o2 + j * 5 + 4, none⟩ = some (.slice aa d.args.length ca2)))) (by kernel_rfl) ?_
     have hS : (fun X : World => (X.cell? ⟨w.heap.size, 2, none⟩ = some (.slice (some ⟨b1, o1, none⟩) y.units.length d3)) ∧ (X.cell? ⟨w.heap.size + 1, 0, none⟩ = some (.int .i64 (i : Int))) ∧ (X.cell? ⟨w.heap.size + 1, 1, none⟩ = some (.int .i64 (j : Int))) ∧ (X.cell? ⟨b1, o1 + i * 3 + 1, none⟩ = some (.slice (some ⟨b2, o2, none⟩) u.prog.nodes.length cn)) ∧ (X.cell? ⟨b2, o2 + j * 5, none⟩ = some (.int .i64 d.k)) ∧ (X.cell? ⟨b2, o2 + j * 5 + 1, none⟩ = some (.int .i64 d.n)) ∧ (X.cell? ⟨b2, o2 + j * 5 + 2, none⟩ = some (.string d.s)) ∧ (X.cell? ⟨b2, o2 + j * 5 + 3, none⟩ = some (.slice an d.names.length cn2)) ∧ (X.cell? ⟨b2, o2 + j * 5 + 4, none⟩ = some (.slice aa d.args.length ca2))) { wr with drawn := wr.drawn + 1 } := ⟨s0, s1, s2, s3, m0, m1, m2, m3, m4⟩
     refine tK 0 (vP w.heap.size 2) rfl (by kernel_rfl) (fun _ _ _ h => h) (fun _ => by kernel_rfl) hS ?_
     refine tL 1 (.slice (some ⟨b1, o1, none⟩) y.units.length d3) rfl (by kernel_rfl) (fun _ _ _ h => h) (fun w' hS' => ldR (p := .pointer (some ⟨w.heap.size, 2, none⟩)) rfl (by kernel_rfl) (by obtain ⟨c0, c1, c2, c3, n0, n1, n2, n3, n4⟩ := hS'; simp [go_sem, c0])) hS ?_
     refine tK 2 (vP (w.heap.size + 1) 0) rfl (by kernel_rfl) (fun _ _ _ h => h) (fun _ => by kernel_rfl) hS ?_
     refine tL 3 (.int .i64 ↑i) rfl (by kernel_rfl) (fun _ _ _ h => h) (fun w' hS' => ldR (p := .pointer (some ⟨w.heap.size + 1, 0, none⟩)) rfl (by kernel_rfl) (by obtain ⟨c0, c1, c2, c3, n0, n1, n2, n3, n4⟩ := hS'; simp [go_sem, c1])) hS ?_
     refine tL 4 (.pointer (some ⟨b1, o1 + i * 3, none⟩)) rfl (by kernel_rfl) (fun _ _ _ h => h) (fun w' hS' => ixR (s := .slice (some ⟨b1, o1, none⟩) y.units.length d3) (k := .int .i64 ↑i) rfl (by kernel_rfl) (by kernel_rfl) (by simp [go_sem] <;> omega)) hS ?_
     refine tK 5 (vP b1 (o1 + i * 3 + 1)) rfl (by kernel_rfl) (fun _ _ _ h => h) (fun _ => by kernel_rfl) hS ?_
     refine tK 6 (vP b1 (o1 + i * 3 + 1)) rfl (by kernel_rfl) (fun _ _ _ h => h) (fun _ => by kernel_rfl) hS ?_
     refine tL 7 (.slice (some ⟨b2, o2, none⟩) u.prog.nodes.length cn) rfl (by kernel_rfl) (fun _ _ _ h => h) (fun w' hS' => ldR (p := .pointer (some ⟨b1, o1 + i * 3 + 1, none⟩)) rfl (by kernel_rfl) (by obtain ⟨c0, c1, c2, c3, n0, n1, n2, n3, n4⟩ := hS'; simp [go_sem, c3])) hS ?_
     refine tK 8 (vP (w.heap.size + 1) 1) rfl (by kernel_rfl) (fun _ _ _ h => h) (fun _ => by kernel_rfl) hS ?_
     refine tL 9 (.int .i64 ↑j) rfl (by kernel_rfl) (fun _ _ _ h => h) (fun w' hS' => ldR (p := .pointer (some ⟨w.heap.size + 1, 1, none⟩)) rfl (by kernel_rfl) (by obtain ⟨c0, c1, c2, c3, n0, n1, n2, n3, n4⟩ := hS'; simp [go_sem, c2])) hS ?_
     refine tL 10 (.pointer (some ⟨b2, o2 + j * 5, none⟩)) rfl (by kernel_rfl) (fun _ _ _ h => h) (fun w' hS' => ixR (s := .slice (some ⟨b2, o2, none⟩) u.prog.nodes.length cn) (k := .int .i64 ↑j) rfl (by kernel_rfl) (by kernel_rfl) (by simp [go_sem] <;> omega)) hS ?_
     refine tL 11 (.agg #[.int .i64 d.k, .int .i64 d.n, .string d.s, .slice an d.names.length cn2, .slice aa d.args.length ca2]) rfl (by kernel_rfl) (fun _ _ _ h => h) (fun w' hS' => ldR (p := .pointer (some ⟨b2, o2 + j * 5, none⟩)) rfl (by kernel_rfl) (by obtain ⟨c0, c1, c2, c3, n0, n1, n2, n3, n4⟩ := hS'; simp [go_sem, n0, n1, n2, n3, n4])) hS ?_
     refine eH (bb 14 4095) ⟨#[.agg #[.slice y1 y.heap.length d1,.slice y2 y.insts.length d2,vS b1 o1 y.units.length d3,.slice y4 y.out.length d4],fA f fa1 fa2 fc1 fc2,vP w.heap.size 0,vP (w.heap.size + 1) 0,u4,vI ↑f.vals.length,vU,.agg #[.slice y1 y.heap.length d1,.slice y2 y.insts.length d2,vS b1 o1 y.units.length d3,.slice y4 y.out.length d4],vP (w.heap.size + 1) 0,vI f.unit,vP (w.heap.size + 1) 1,vI f.node,vT,vF,vF,.agg #[.slice y1 y.heap.length d1,.slice y2 y.insts.length d2,vS b1 o1 y.units.length d3,.slice y4 y.out.length d4],vP (w.heap.size + 1) 3,.slice fa2 f.env.length fc2,vT,vF,vF,vI ↑f.vals.length,vP (w.heap.size + 1) 2,.slice fa1 f.vals.length fc1,vI ↑f.vals.length,vF,u26,u27,u28,u29,u30,u31,u32,u33,u34,u35,u36,vP w.heap.size 2,vS b1 o1 y.units.length d3,vP (w.heap.size + 1) 0,vI ↑i,vP b1 (o1 + i * 3),vP b1 (o1 + i * 3 + 1),vP b1 (o1 + i * 3 + 1),vS b2 o2 u.prog.nodes.length cn,vP (w.heap.size + 1) 1,vI ↑j,vP b2 (o2 + j * 5),nA d an aa cn2 ca2,vU,vU,vU,vU,vU,vU,vU,vU,vU,vU,vU,vU,vU,vU,vU,vU,vU,vU,vU,vU], []⟩ (by kernel_rfl) (by kernel_rfl) ?_
     refine wpAnyH_all (rs := [12]) (by kernel_rfl) (by simp) fun jj hjj => ?_
     obtain rfl : jj = 12 := by simpa using hjj
     refine opw_value (v := Value.pointer (some { block := wr.heap.size, off := 0 })) (w' := (wr.alloc (Obj.cells #[.int .i64 0, .int .i64 0, .string ⟨#[]⟩, .slice none 0 0, .slice none 0 0] 126)).drew) rfl (by kernel_rfl) (run_vN rfl) ?_
     refine ⟨HS1.out, ?_⟩
     refine eH (bb 14 8191) ⟨#[.agg #[.slice y1 y.heap.length d1,.slice y2 y.insts.length d2,vS b1 o1 y.units.length d3,.slice y4 y.out.length d4],fA f fa1 fa2 fc1 fc2,vP w.heap.size 0,vP (w.heap.size + 1) 0,u4,vI ↑f.vals.length,vP wr.heap.size 0,.agg #[.slice y1 y.heap.length d1,.slice y2 y.insts.length d2,vS b1 o1 y.units.length d3,.slice y4 y.out.length d4],vP (w.heap.size + 1) 0,vI f.unit,vP (w.heap.size + 1) 1,vI f.node,vT,vF,vF,.agg #[.slice y1 y.heap.length d1,.slice y2 y.insts.length d2,vS b1 o1 y.units.length d3,.slice y4 y.out.length d4],vP (w.heap.size + 1) 3,.slice fa2 f.env.length fc2,vT,vF,vF,vI ↑f.vals.length,vP (w.heap.size + 1) 2,.slice fa1 f.vals.length fc1,vI ↑f.vals.length,vF,u26,u27,u28,u29,u30,u31,u32,u33,u34,u35,u36,vP w.heap.size 2,vS b1 o1 y.units.length d3,vP (w.heap.size + 1) 0,vI ↑i,vP b1 (o1 + i * 3),vP b1 (o1 + i * 3 + 1),vP b1 (o1 + i * 3 + 1),vS b2 o2 u.prog.nodes.length cn,vP (w.heap.size + 1) 1,vI ↑j,vP b2 (o2 + j * 5),nA d an aa cn2 ca2,vU,vU,vU,vU,vU,vU,vU,vU,vU,vU,vU,vU,vU,vU,vU,vU,vU,vU,vU,vU], []⟩ (by kernel_rfl) (by kernel_rfl) ?_
     refine wpAnyH_all (rs := [13]) (by kernel_rfl) (by simp) fun jj hjj => ?_
     obtain rfl : jj = 13 := by simpa using hjj
     refine opw_skipX (w' := (wr.alloc (Obj.cells #[.int .i64 d.k, .int .i64 d.n, .string d.s, .slice an d.names.length cn2, .slice aa d.args.length ca2] 126)).drew) rfl (by kernel_rfl) (run_uX (store_node wr.drew _ _ _ _ _ _ _ _ _)) ?_
     refine ⟨HS2.out, ?_⟩
     refine eH (bb 14 16383) ⟨#[.agg #[.slice y1 y.heap.length d1, .slice y2 y.insts.length d2, .slice (some ⟨b1, o1, none⟩) y.units.length d3, .slice y4 y.out.length d4], .agg #[.int .i64 f.unit, .int .i64 f.node, .slice fa1 f.vals.length fc1, .slice fa2 f.env.length fc2], .pointer (some ⟨w.heap.size, 0, none⟩), .pointer (some ⟨w.heap.size + 1, 0, none⟩), u4, .int .i64 ↑f.vals.length, .pointer (some ⟨wr.heap.size, 0, none⟩), .agg #[.slice y1 y.heap.length d1, .slice y2 y.insts.length d2, .slice (some ⟨b1, o1, none⟩) y.units.length d3, .slice y4 y.out.length d4], .pointer (some ⟨w.heap.size + 1, 0, none⟩), .int .i64 f.unit, .pointer (some ⟨w.heap.size + 1, 1, none⟩), .int .i64 f.node, .bool true, .bool false, .bool false, .agg #[.slice y1 y.heap.length d1, .slice y2 y.insts.length d2, .slice (some ⟨b1, o1, none⟩) y.units.length d3, .slice y4 y.out.length d4], .pointer (some ⟨w.heap.size + 1, 3, none⟩), .slice fa2 f.env.length fc2, .bool true, .bool false, .bool false, .int .i64 ↑f.vals.length, .pointer (some ⟨w.heap.size + 1, 2, none⟩), .slice fa1 f.vals.length fc1, .int .i64 ↑f.vals.length, .bool false, u26, u27, u28, u29, u30, u31, u32, u33, u34, u35, u36, .pointer (some ⟨w.heap.size, 2, none⟩), .slice (some ⟨b1, o1, none⟩) y.units.length d3, .pointer (some ⟨w.heap.size + 1, 0, none⟩), .int .i64 ↑i, .pointer (some ⟨b1, o1 + i * 3, none⟩), .pointer (some ⟨b1, o1 + i * 3 + 1, none⟩), .pointer (some ⟨b1, o1 + i * 3 + 1, none⟩), .slice (some ⟨b2, o2, none⟩) u.prog.nodes.length cn, .pointer (some ⟨w.heap.size + 1, 1, none⟩), .int .i64 ↑j, .pointer (some ⟨b2, o2 + j * 5, none⟩), .agg #[.int .i64 d.k, .int .i64 d.n, .string d.s, .slice an d.names.length cn2, .slice aa d.args.length ca2], undef, undef, undef, undef, undef, undef, undef, undef, undef, undef, undef, undef, undef, undef, undef, undef, undef, undef, undef, undef], []⟩ (by kernel_rfl) (by kernel_rfl) ?_
     refine wpAnyH_done (by kernel_rfl) ?_ _
     clear hS HS1 HS2 s0 s1 s2 s3 m0 m1 m2 m3 m4
     dsimp only []
     by_cases e6 : d.k = 6 ∨ d.k = 10
     ·have hfull : fullF d = 1 := if_pos e6
      have HR : Hid (R = ((f.vals.length : Int) == 0)) := by
       show _ = _
       rw [HQ.out, hfull, Bool.eq_iff_iff]
       simp
      clear HQ hfull
      rcases e6 with e6 | e6
      ·have g1 : (d.k == 6) = true := beq_iff_eq.2 e6
       clear e6
       go_wp2
       go_ret
       exact ⟨by rw [HR.out]; rfl, hbE⟩
      ·have g1 : (d.k == 6) = false := beq_eq_false_iff_ne.2 (by omega)
       have g2 : (d.k == 10) = true := beq_iff_eq.2 e6
       clear e6
       go_wp2
       go_ret
       exact ⟨by rw [HR.out]; rfl, hbE⟩
     ·have g1 : (d.k == 6) = false := beq_eq_false_iff_ne.2 (by omega)
      have g2 : (d.k == 10) = false := beq_eq_false_iff_ne.2 (by omega)
      by_cases e8 : d.k = 8 ∨ d.k = 9 ∨ d.k = 11
      ·have hfull : fullF d = d.args.length := by unfold fullF; rw [if_neg e6, if_pos e8]
       have HR : Hid (R = decide (f.vals.length < d.args.length)) := by
        show _ = _
        rw [HQ.out, hfull]
       clear HQ hfull e6
       rcases e8 with e8 | e8 | e8
       ·have g3 : (d.k == 8) = true := beq_iff_eq.2 e8
        clear e8
        go_wp2
        go_ret
        exact ⟨by rw [HR.out]; rfl, hbE⟩
       ·have g3 : (d.k == 8) = false := beq_eq_false_iff_ne.2 (by omega)
        have g4 : (d.k == 9) = true := beq_iff_eq.2 e8
        clear e8
        go_wp2
        go_ret
        exact ⟨by rw [HR.out]; rfl, hbE⟩
       ·have g3 : (d.k == 8) = false := beq_eq_false_iff_ne.2 (by omega)
        have g4 : (d.k == 9) = false := beq_eq_false_iff_ne.2 (by omega)
        have g5 : (d.k == 11) = true := beq_iff_eq.2 e8
        clear e8
        go_wp2
        go_ret
        exact ⟨by rw [HR.out]; rfl, hbE⟩
      ·have hfull : fullF d = 0 := by unfold fullF; rw [if_neg e6, if_neg e8]
       have HR : Hid (R = false) := by
        show _ = _
        rw [HQ.out, hfull]
        simp
       have g3 : (d.k == 8) = false := beq_eq_false_iff_ne.2 (by omega)
       have g4 : (d.k == 9) = false := beq_eq_false_iff_ne.2 (by omega)
       have g5 : (d.k == 11) = false := beq_eq_false_iff_ne.2 (by omega)
       clear HQ hfull e6 e8
       go_wp2
       go_ret
       exact ⟨by rw [HR.out]; rfl, hbE⟩
theorem eqv39 (v : Val) : ∀ w : World, (binOp .eql 44 (.agg #[.int .i64 v.k, .int .i64 v.n, .string v.s]) (.agg #[.int .i64 0, .int .i64 0, .string ⟨#[]⟩])).run Tryz.prog w = .ok (.bool v.zero) w := by
 intro w
 cases h : v.zero
 ·unfold Val.zero at h
  simp only [Bool.and_eq_false_iff, decide_eq_false_iff_not] at h
  simp [go_sem]
  intro h1 h2 h3
  simp [h1, h2, h3] at h
 ·unfold Val.zero at h
  simp at h
  obtain ⟨⟨h1, h2⟩, h3⟩ := h
  simp [go_sem, h1, h2, h3]
theorem specMac_any (y : Sy) (y1 y2 y3 y4 : Option Addr) (d1 d2 d3 d4 : Nat) (m : Mac) (m1 m2 : Option Addr) (e1 e2 : Nat) (w : World) (hs : y.small) (hr : SyRows w (fun b => b < w.heap.size) y1 y2 y3 y4 d1 d2 d3 d4 y) (hfl : ∀ u ∈ y.units, (flat u.prog.nodes).length ≤ 1048576) (hsm : m.small) (hrm : MacRows w (fun b => b < w.heap.size) m1 m2 e1 e2 m) :
  Calls Tryz.prog 19 #[.agg #[.slice y1 y.heap.length d1, .slice y2 y.insts.length d2, .slice y3 y.units.length d3, .slice y4 y.out.length d4], .agg #[.int .i64 m.mode, .int .i64 m.unit, .int .i64 m.node, .slice m1 m.env.length e1, .int .i64 m.val.k, .int .i64 m.val.n, .string m.val.s, .slice m2 m.stack.length e2, .int .i64 m.end_]] w fun r w' => Ans w (.bool (m.ok y)) r w' := by
 obtain ⟨_, _, _, ⟨n1, n2⟩, sv, ⟨t1, t2⟩, _⟩ := hsm
 obtain ⟨⟨re, te⟩, ⟨rs, ts⟩⟩ := hrm
 have hb0 : Below w.heap.size w ((w.alloc (Obj.cells #[.slice y1 y.heap.length d1, .slice y2 y.insts.length d2, .slice y3 y.units.length d3, .slice y4 y.out.length d4] 41)).alloc (Obj.cells #[.int .i64 m.mode, .int .i64 m.unit, .int .i64 m.node, .slice m1 m.env.length e1, .int .i64 m.val.k, .int .i64 m.val.n, .string m.val.s, .slice m2 m.stack.length e2, .int .i64 m.end_] 47)) := (bR _ _).alloc (by simp) _
 have k0 : ((w.alloc (Obj.cells #[.slice y1 y.heap.length d1, .slice y2 y.insts.length d2, .slice y3 y.units.length d3, .slice y4 y.out.length d4] 41)).alloc (Obj.cells #[.int .i64 m.mode, .int .i64 m.unit, .int .i64 m.node, .slice m1 m.env.length e1, .int .i64 m.val.k, .int .i64 m.val.n, .string m.val.s, .slice m2 m.stack.length e2, .int .i64 m.end_] 47)).heap[w.heap.size]? = some (Obj.cells #[.slice y1 y.heap.length d1, .slice y2 y.insts.length d2, .slice y3 y.units.length d3, .slice y4 y.out.length d4] 41) := blk_past (blk_at _ _ _ rfl)
 have k1 : ((w.alloc (Obj.cells #[.slice y1 y.heap.length d1, .slice y2 y.insts.length d2, .slice y3 y.units.length d3, .slice y4 y.out.length d4] 41)).alloc (Obj.cells #[.int .i64 m.mode, .int .i64 m.unit, .int .i64 m.node, .slice m1 m.env.length e1, .int .i64 m.val.k, .int .i64 m.val.n, .string m.val.s, .slice m2 m.stack.length e2, .int .i64 m.end_] 47)).heap[w.heap.size + 1]? = some (Obj.cells #[.int .i64 m.mode, .int .i64 m.unit, .int .i64 m.node, .slice m1 m.env.length e1, .int .i64 m.val.k, .int .i64 m.val.n, .string m.val.s, .slice m2 m.stack.length e2, .int .i64 m.end_] 47) := blk_at _ _ _ (by simp)
 have HSY : Hid (∀ w1, Below w.heap.size w w1 → Calls Tryz.prog 43 #[.agg #[.slice y1 y.heap.length d1, .slice y2 y.insts.length d2, .slice y3 y.units.length d3, .slice y4 y.out.length d4]] w1 fun e w' => Ans w1 (.bool y.ok) e w') := fun w1 h1 => specSys_any y y1 y2 y3 y4 d1 d2 d3 d4 w1 hs (hr.keep fun b hb => ⟨Nat.lt_of_lt_of_le hb h1.size, h1.block b hb⟩) hfl
 have HIN : Hid (∀ w1, Calls Tryz.prog 44 #[.int .i64 m.end_, .int .i64 0, .int .i64 7] w1 fun e w' => e = .returned (.bool (decide (0 ≤ m.end_) && decide (m.end_ ≤ 7))) ∧ w' = w1) := fun w1 => l1In_any m.end_ 0 7 w1
 have HAT : Hid (∀ w1, Below w.heap.size w w1 → Calls Tryz.prog 45 #[.agg #[.slice y1 y.heap.length d1, .slice y2 y.insts.length d2, .slice y3 y.units.length d3, .slice y4 y.out.length d4], .int .i64 m.unit, .int .i64 m.node] w1 fun e w' => Ans w1 (.bool (nodeAt y.units m.unit m.node).isSome) e w') := fun w1 h1 => l9At_any y y1 y2 y3 y4 d1 d2 d3 d4 m.unit m.node w1 hs (hr.keep fun b hb => ⟨Nat.lt_of_lt_of_le hb h1.size, h1.block b hb⟩)
 have HEN : Hid (∀ w1, Below w.heap.size w w1 → Calls Tryz.prog 46 #[.agg #[.slice y1 y.heap.length d1, .slice y2 y.insts.length d2, .slice y3 y.units.length d3, .slice y4 y.out.length d4], .slice m1 m.env.length e1] w1 fun e w' => Ans w1 (.bool (envB y.heap m.env)) e w') := fun w1 h1 => l9Env_any y y1 y2 y3 y4 d1 d2 d3 d4 m1 m.env e1 w1 hs (hr.keep fun b hb => ⟨Nat.lt_of_lt_of_le hb h1.size, h1.block b hb⟩) n1 n2 (re.keep fun b hb => ⟨Nat.lt_of_lt_of_le hb h1.size, h1.block b hb⟩)
 have HVO : Hid (∀ w1, Below w.heap.size w w1 → Calls Tryz.prog 48 #[.slice y1 y.heap.length d1, .agg #[.int .i64 m.val.k, .int .i64 m.val.n, .string m.val.s]] w1 fun e w' => Ans w1 (.bool (m.val.ok y.heap)) e w') := fun w1 h1 => specVal_any m.val y1 y.heap d1 w1 hs.1.1 sv.2.2 (rowC_iff.1 (hr.1.1.keep fun b hb => ⟨Nat.lt_of_lt_of_le hb h1.size, h1.block b hb⟩))
 have HFR : Hid (∀ (f : Frm) (fa1 fa2 : Option Addr) (fc1 fc2 : Nat) (w1 : World), f ∈ m.stack → Below w.heap.size w w1 → FrmRows w1 (fun b => b < w1.heap.size) fa1 fa2 fc1 fc2 f → Calls Tryz.prog 47 #[.agg #[.slice y1 y.heap.length d1, .slice y2 y.insts.length d2, .slice y3 y.units.length d3, .slice y4 y.out.length d4], .agg #[.int .i64 f.unit, .int .i64 f.node, .slice fa1 f.vals.length fc1, .slice fa2 f.env.length fc2]] w1 fun r w' => Ans w1 (.bool (f.ok y.heap y.units)) r w') := fun f fa1 fa2 fc1 fc2 w1 hf h1 hrf => l9Frame_any y y1 y2 y3 y4 d1 d2 d3 d4 f fa1 fa2 fc1 fc2 w1 hs (hr.keep fun b hb => ⟨Nat.lt_of_lt_of_le hb h1.size, h1.block b hb⟩) (t2 f hf) hrf
 have HST : Hid (rgF.Row w (fun b => b < w.heap.size) m2 m.stack) := rs
 clear re rs n2 t2 sv
 cases hy : y.ok with
 | false =>
  rw [hy] at HSY
  have HQ : Hid (m.ok y = false) := by show _ = _; unfold Mac.ok; rw [hy]; simp
  clear hs hr HVO HFR HST
  go_enter Tryz.func19, Tryz.ntmps19
  go_wp2_with fail
  refine (HSY.out _ hb0).mono ?_
  rintro e u1 ⟨rfl, hv1⟩
  have hc1 := bT hb0 hv1
  have k0 := bK k0 hv1
  have k1 := bK k1 hv1
  clear hv1
  obtain ⟨ya0, ya1, ya2, ya3⟩ := zn4 k0 rfl rfl rfl rfl
  obtain ⟨ma0, ma1, ma2, ma3, ma4, ma5, ma6, ma7, ma8⟩ := zn9 k1 rfl rfl rfl rfl rfl rfl rfl rfl rfl
  go_wp2
  go_ret
  exact ⟨by rw [HQ.out]; rfl, hc1⟩
 | true =>
  rw [hy] at HSY
  cases hin : (decide (0 ≤ m.end_) && decide (m.end_ ≤ 7)) with
  | false =>
   rw [hin] at HIN
   have HQ : Hid (m.ok y = false) := by show _ = _; unfold Mac.ok; simp at hin; simp; intro _ h1 h2; omega
   clear hs hr HVO HFR HST
   go_enter Tryz.func19, Tryz.ntmps19
   go_wp2_with fail
   refine (HSY.out _ hb0).mono ?_
   rintro e u1 ⟨rfl, hv1⟩
   have hc1 := bT hb0 hv1
   have k0 := bK k0 hv1
   have k1 := bK k1 hv1
   clear hv1
   obtain ⟨ya0, ya1, ya2, ya3⟩ := zn4 k0 rfl rfl rfl rfl
   obtain ⟨ma0, ma1, ma2, ma3, ma4, ma5, ma6, ma7, ma8⟩ := zn9 k1 rfl rfl rfl rfl rfl rfl rfl rfl rfl
   go_wp2_with fail
   refine (HIN.out _).mono ?_
   rintro e _ ⟨rfl, rfl⟩
   go_wp2
   go_ret
   exact ⟨by rw [HQ.out]; rfl, hc1⟩
  | true =>
   rw [hin] at HIN
   cases hat : (nodeAt y.units m.unit m.node).isSome with
   | false =>
    rw [hat] at HAT
    have HQ : Hid (m.ok y = false) := by show _ = _; unfold Mac.ok; rw [hat]; simp
    clear hs hr HVO HFR HST
    go_enter Tryz.func19, Tryz.ntmps19
    go_wp2_with fail
    refine (HSY.out _ hb0).mono ?_
    rintro e u1 ⟨rfl, hv1⟩
    have hc1 := bT hb0 hv1
    have k0 := bK k0 hv1
    have k1 := bK k1 hv1
    clear hv1
    obtain ⟨ya0, ya1, ya2, ya3⟩ := zn4 k0 rfl rfl rfl rfl
    obtain ⟨ma0, ma1, ma2, ma3, ma4, ma5, ma6, ma7, ma8⟩ := zn9 k1 rfl rfl rfl rfl rfl rfl rfl rfl rfl
    go_wp2_with fail
    refine (HIN.out _).mono ?_
    rintro e _ ⟨rfl, rfl⟩
    go_wp2_with fail
    refine (HAT.out _ hc1).mono ?_
    rintro e u2 ⟨rfl, hv2⟩
    have hc2 := bT hc1 hv2
    have k0 := bK k0 hv2
    have k1 := bK k1 hv2
    clear hv2
    obtain ⟨yc0, yc1, yc2, yc3⟩ := zn4 k0 rfl rfl rfl rfl
    obtain ⟨mc0, mc1, mc2, mc3, mc4, mc5, mc6, mc7, mc8⟩ := zn9 k1 rfl rfl rfl rfl rfl rfl rfl rfl rfl
    go_wp2
    go_ret
    exact ⟨by rw [HQ.out]; rfl, hc2⟩
   | true =>
    rw [hat] at HAT
    by_cases hst : m.stack.length ≤ 120
    ·have g0 : decide ((120 : Int) < (m.stack.length : Int)) = false := by simp; omega
     cases hen : envB y.heap m.env with
     | false =>
      rw [hen] at HEN
      have HQ : Hid (m.ok y = false) := by show _ = _; unfold Mac.ok; rw [hen]; simp
      clear hs hr HVO HFR HST
      go_enter Tryz.func19, Tryz.ntmps19
      go_wp2_with fail
      refine (HSY.out _ hb0).mono ?_
      rintro e u1 ⟨rfl, hv1⟩
      have hc1 := bT hb0 hv1
      have k0 := bK k0 hv1
      have k1 := bK k1 hv1
      clear hv1
      obtain ⟨ya0, ya1, ya2, ya3⟩ := zn4 k0 rfl rfl rfl rfl
      obtain ⟨ma0, ma1, ma2, ma3, ma4, ma5, ma6, ma7, ma8⟩ := zn9 k1 rfl rfl rfl rfl rfl rfl rfl rfl rfl
      go_wp2_with fail
      refine (HIN.out _).mono ?_
      rintro e _ ⟨rfl, rfl⟩
      go_wp2_with fail
      refine (HAT.out _ hc1).mono ?_
      rintro e u2 ⟨rfl, hv2⟩
      have hc2 := bT hc1 hv2
      have k0 := bK k0 hv2
      have k1 := bK k1 hv2
      clear hv2
      obtain ⟨yc0, yc1, yc2, yc3⟩ := zn4 k0 rfl rfl rfl rfl
      obtain ⟨mc0, mc1, mc2, mc3, mc4, mc5, mc6, mc7, mc8⟩ := zn9 k1 rfl rfl rfl rfl rfl rfl rfl rfl rfl
      go_wp2_with fail
      refine (HEN.out _ hc2).mono ?_
      rintro e u3 ⟨rfl, hv3⟩
      have hc3 := bT hc2 hv3
      have k0 := bK k0 hv3
      have k1 := bK k1 hv3
      clear hv3
      obtain ⟨yd0, yd1, yd2, yd3⟩ := zn4 k0 rfl rfl rfl rfl
      obtain ⟨md0, md1, md2, md3, md4, md5, md6, md7, md8⟩ := zn9 k1 rfl rfl rfl rfl rfl rfl rfl rfl rfl
      go_wp2
      go_ret
      exact ⟨by rw [HQ.out]; rfl, hc3⟩
     | true =>
      rw [hen] at HEN
      have HMO : Hid (m.ok y = (valB y.heap m && m.stack.all (Frm.ok y.heap y.units))) := by
       show _ = _
       unfold Mac.ok
       simp only [Bool.and_eq_true, decide_eq_true_eq] at hin
       rw [hat, hy, hen, decide_eq_true hin.1, decide_eq_true hin.2, decide_eq_true hst]
       simp
      generalize HFS : m.ok y = R at HMO ⊢
      clear HFS hs hr hin hat hen hy
      go_enter Tryz.func19, Tryz.ntmps19
      go_wp2_with fail
      refine (HSY.out _ hb0).mono ?_
      rintro e u1 ⟨rfl, hv1⟩
      have hc1 := bT hb0 hv1
      have k0 := bK k0 hv1
      have k1 := bK k1 hv1
      clear hv1
      obtain ⟨ya0, ya1, ya2, ya3⟩ := zn4 k0 rfl rfl rfl rfl
      obtain ⟨ma0, ma1, ma2, ma3, ma4, ma5, ma6, ma7, ma8⟩ := zn9 k1 rfl rfl rfl rfl rfl rfl rfl rfl rfl
      go_wp2_with fail
      refine (HIN.out _).mono ?_
      rintro e _ ⟨rfl, rfl⟩
      go_wp2_with fail
      refine (HAT.out _ hc1).mono ?_
      rintro e u2 ⟨rfl, hv2⟩
      have hc2 := bT hc1 hv2
      have k0 := bK k0 hv2
      have k1 := bK k1 hv2
      clear hv2
      obtain ⟨yc0, yc1, yc2, yc3⟩ := zn4 k0 rfl rfl rfl rfl
      obtain ⟨mc0, mc1, mc2, mc3, mc4, mc5, mc6, mc7, mc8⟩ := zn9 k1 rfl rfl rfl rfl rfl rfl rfl rfl rfl
      go_wp2_with fail
      refine (HEN.out _ hc2).mono ?_
      rintro e u3 ⟨rfl, hv3⟩
      have hc3 := bT hc2 hv3
      have k0 := bK k0 hv3
      have k1 := bK k1 hv3
      clear hv3
      obtain ⟨yd0, yd1, yd2, yd3⟩ := zn4 k0 rfl rfl rfl rfl
      obtain ⟨md0, md1, md2, md3, md4, md5, md6, md7, md8⟩ := zn9 k1 rfl rfl rfl rfl rfl rfl rfl rfl rfl
      have K0 : Hid (u3.heap[w.heap.size]? = some (Obj.cells #[.slice y1 y.heap.length d1, .slice y2 y.insts.length d2, .slice y3 y.units.length d3, .slice y4 y.out.length d4] 41)) := k0
      have K1 : Hid (u3.heap[w.heap.size + 1]? = some (Obj.cells #[.int .i64 m.mode, .int .i64 m.unit, .int .i64 m.node, .slice m1 m.env.length e1, .int .i64 m.val.k, .int .i64 m.val.n, .string m.val.s, .slice m2 m.stack.length e2, .int .i64 m.end_] 47)) := k1
      clear k0 k1 ya0 ya1 ya2 ya3 yc0 yc1 yc2 yc3 ma0 ma1 ma2 ma3 ma4 ma5 ma6 ma7 ma8 mc0 mc1 mc2 mc3 mc4 mc5 mc6 mc7 mc8 yd0 yd1 yd2 yd3 md0 md1 md2 md3 md4 md5 md6 md7 md8 hb0 hc1 hc2 HSY HIN HAT HEN
      go_wp2
      go_loopw [5] (fun o wr => ∃ k : Nat, k ≤ m.stack.length ∧ o = .int .i64 k ∧ (m.stack.take k).all (Frm.ok y.heap y.units) = true ∧ Below u3.heap.size u3 wr)
       (fun o _ => m.stack.length - (intOf o).toNat)
      case atStart => exact ⟨0, by omega, rfl, by simp, Below.refl _ _⟩
      case round =>
       obtain ⟨k, hk, rfl, hall, hbW⟩ := hrel
       have hb : Below w.heap.size w wr := bT hc3 hbW
       have k0 := bK K0.out hbW
       have k1 := bK K1.out hbW
       obtain ⟨a0, a1, a2, a3⟩ := zn4 k0 rfl rfl rfl rfl
       obtain ⟨b0, b4, b5, b6, b7⟩ := zj5 0 4 5 6 7 k1 rfl rfl rfl rfl rfl
       clear k0 k1
       by_cases hlt : k < m.stack.length
       ·obtain ⟨f, hf⟩ : ∃ f, m.stack[k]? = some f := ⟨_, List.getElem?_eq_getElem hlt⟩
        obtain ⟨b8, o8, cs8, rfl, hb8, ⟨fa1, fa2, fc1, fc2, rfl, hfr⟩, hl8⟩ := (HST.out.below hb) k f hf
        have x0 : wr.cell? ⟨b8, o8 + k * 4, none⟩ = some (.int .i64 f.unit) := hl8 0 _ rfl
        have x1 : wr.cell? ⟨b8, o8 + k * 4 + 1, none⟩ = some (.int .i64 f.node) := hl8 1 _ rfl
        have x2 : wr.cell? ⟨b8, o8 + k * 4 + 2, none⟩ = some (.slice fa1 f.vals.length fc1) := hl8 2 _ rfl
        have x3 : wr.cell? ⟨b8, o8 + k * 4 + 3, none⟩ = some (.slice fa2 f.env.length fc2) := hl8 3 _ rfl
        have HF2 : Hid (∀ w1, Below w.heap.size wr w1 → Calls Tryz.prog 47 #[.agg #[.slice y1 y.heap.length d1, .slice y2 y.insts.length d2, .slice y3 y.units.length d3, .slice y4 y.out.length d4], .agg #[.int .i64 f.unit, .int .i64 f.node, .slice fa1 f.vals.length fc1, .slice fa2 f.env.length fc2]] w1 fun e w' => Ans w1 (.bool (f.ok y.heap y.units)) e w') := fun w1 h1 => HFR.out f fa1 fa2 fc1 fc2 w1 (List.mem_of_getElem? hf) (hb.trans h1) (hfr.keep fun b hb' => ⟨by have := h1.size; have := hb.size; omega, h1.block b hb'⟩)
        have good : f.ok y.heap y.units = true → Hid ((m.stack.take (k + 1)).all (Frm.ok y.heap y.units) = true) := fun q => by show _ = _; rw [all_take_succ _ hf, hall, q]; rfl
        have bad : f.ok y.heap y.units = false → Hid (R = false) := fun q => by show _ = _; rw [HMO.out, all_of_bad _ hf q, Bool.and_false]
        have hkl : (k : Int) < (m.stack.length : Int) := by omega
        clear hl8 hf HFR hfr HVO
        cases hok : f.ok y.heap y.units
        ·rw [hok] at HF2
         have HQ := bad hok
         clear good bad hok hall
         go_wp2_with fail
         go_region_with (go_at_call 47; refine (HF2.out _ (below_drewN (Below.refl _ _) _)).mono ?_; rintro e w4 ⟨rfl, hb9⟩)
         all_goals
          go_wp2
          go_ret
          exact ⟨by rw [HQ.out]; rfl, (below_drewN hb _).trans (hb9.mono hb.size)⟩
        ·rw [hok] at HF2
         have HQ := good hok
         clear good bad hok hall
         go_wp2_with fail
         go_region_with (go_at_call 47; refine (HF2.out _ (below_drewN (Below.refl _ _) _)).mono ?_; rintro e w4 ⟨rfl, hb9⟩)
         all_goals
          go_wp2
          go_roundw
          case rel => exact ⟨k + 1, by omega, by go_num, HQ.out, (below_drewN hbW _).trans (hb9.mono hbW.size)⟩
          case measure => simp [intOf]; omega
       ·obtain rfl : k = m.stack.length := by omega
        rw [List.take_length] at hall
        have HQ : Hid (R = valB y.heap m) := by show _ = _; rw [HMO.out, hall, Bool.and_true]
        have hlt' : decide ((m.stack.length : Int) < (m.stack.length : Int)) = false := by simp
        have hcmp := eqv39 m.val
        clear hall HFR HST HMO
        by_cases q1 : m.mode = 1
        ·have HR : Hid (R = m.val.zero) := by show _ = _; rw [HQ.out]; unfold valB; rw [if_pos q1]
         have g1 : (m.mode == 1) = true := beq_iff_eq.2 q1
         clear HQ q1 HVO
         go_wp2
         go_ret
         exact ⟨by rw [HR.out]; rfl, hb⟩
        ·have g1 : (m.mode == 1) = false := beq_eq_false_iff_ne.2 q1
         by_cases q2 : m.mode = 2
         ·have HR : Hid (R = m.val.ok y.heap) := by show _ = _; rw [HQ.out]; unfold valB; rw [if_neg q1, if_pos q2]
          have g2 : (m.mode == 2) = true := beq_iff_eq.2 q2
          clear HQ q1 q2 hcmp
          go_wp2_with (go_at_call 48; refine (HVO.out _ hb).mono ?_; rintro e w4 ⟨rfl, hb9⟩)
          go_ret
          exact ⟨by rw [HR.out]; rfl, bT hb hb9⟩
         ·have g2 : (m.mode == 2) = false := beq_eq_false_iff_ne.2 q2
          by_cases q3 : m.mode = 3
          ·have HR : Hid (R = (m.val.zero || m.val.ok y.heap)) := by show _ = _; rw [HQ.out]; unfold valB; rw [if_neg q1, if_neg q2, if_pos q3]; rfl
           have g3 : (m.mode == 3) = true := beq_iff_eq.2 q3
           clear HQ q1 q2 q3
           cases hz : m.val.zero
           ·rw [hz] at HR hcmp
            clear hz
            go_wp2_with (go_at_call 48; refine (HVO.out _ hb).mono ?_; rintro e w4 ⟨rfl, hb9⟩)
            go_ret
            exact ⟨by rw [HR.out]; rfl, bT hb hb9⟩
           ·rw [hz] at HR hcmp
            clear hz
            go_wp2
            go_ret
            exact ⟨by rw [HR.out]; rfl, hb⟩
          ·have HR : Hid (R = false) := by show _ = _; rw [HQ.out]; unfold valB; rw [if_neg q1, if_neg q2, if_neg q3]
           have g3 : (m.mode == 3) = false := beq_eq_false_iff_ne.2 q3
           clear HQ q1 q2 q3 hcmp HVO
           go_wp2
           go_ret
           exact ⟨by rw [HR.out]; rfl, hb⟩
    ·have g0 : decide ((120 : Int) < (m.stack.length : Int)) = true := by simp; omega
     have HQ : Hid (m.ok y = false) := by show _ = _; unfold Mac.ok; rw [decide_eq_false hst]; simp
     clear hs hr HVO HFR HST
     go_enter Tryz.func19, Tryz.ntmps19
     go_wp2_with fail
     refine (HSY.out _ hb0).mono ?_
     rintro e u1 ⟨rfl, hv1⟩
     have hc1 := bT hb0 hv1
     have k0 := bK k0 hv1
     have k1 := bK k1 hv1
     clear hv1
     obtain ⟨ya0, ya1, ya2, ya3⟩ := zn4 k0 rfl rfl rfl rfl
     obtain ⟨ma0, ma1, ma2, ma3, ma4, ma5, ma6, ma7, ma8⟩ := zn9 k1 rfl rfl rfl rfl rfl rfl rfl rfl rfl
     go_wp2_with fail
     refine (HIN.out _).mono ?_
     rintro e _ ⟨rfl, rfl⟩
     go_wp2_with fail
     refine (HAT.out _ hc1).mono ?_
     rintro e u2 ⟨rfl, hv2⟩
     have hc2 := bT hc1 hv2
     have k0 := bK k0 hv2
     have k1 := bK k1 hv2
     clear hv2
     obtain ⟨yc0, yc1, yc2, yc3⟩ := zn4 k0 rfl rfl rfl rfl
     obtain ⟨mc0, mc1, mc2, mc3, mc4, mc5, mc6, mc7, mc8⟩ := zn9 k1 rfl rfl rfl rfl rfl rfl rfl rfl rfl
     go_wp2
     go_ret
     exact ⟨by rw [HQ.out]; rfl, hc2⟩
end Go.Proofs.YtlacidojljilaaaGreatDoor
