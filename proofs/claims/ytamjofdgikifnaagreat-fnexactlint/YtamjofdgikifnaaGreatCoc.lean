/- A heap and a value that come in, opened. A program that comes in, opened: rows of nodes. A system that comes in, opened. The law FnExactCompare answers true for every two sources: the program's Compare and the model's tell the same lines, the arguments stay as they were, and the answer owns its memory. No condition (the law itself answers true ahead of all where the arguments hold more than 1048576 parts and bytes). -/
import Derived.Test.YtamjofdgikifnaaGreatVlp
import Derived.Deep.Slices
import Derived.SliceStrings
import Derived.ChangeOld
import Derived.Carry
import Derived.Test.YtamjofdgikifnaaGreatZpx
import Derived.Test.YtamjofdgikifnaaGreatApw
import Derived.Test.YtamjofdgikifnaaGreatRows
import Derived.Test.YtamjofdgikifnaaGreatCow
import Derived.WalkKit
import Derived.ProofKit
import Derived.OpenShut
import Derived.ShutString
set_option linter.unusedVariables false
namespace Go.Proofs.YtamjofdgikifnaaGreat
open Go.ChangeShapes Go.WideShapes Go.ChangeAt Go.RowKit Go.Deep
variable {H : Type} {enc : TypeId × Value → H} {W : World}
theorem add_none (b off j : Nat) : (⟨b, off, none⟩ : Addr).add j = ⟨b, off + j, none⟩ := by unfold Addr.add; split <;> simp_all
theorem open_rowS {fuel : Nat} {c : Value} {x : DataW H × List MemPlace} (h : DataW.trod enc Tryz.prog W 0 (fun _ => true) true fuel 22 [c] = some x) :
  ∃ (a : Option Addr) (ts : List ByteArray) (cap : Nat), c = .slice a ts.length cap ∧ ts.length ≤ 9223372036854775807 ∧ ts.length ≤ cap ∧ RowSP W (fun b => b < W.heap.size) a ts ∧ ∀ x ∈ ts, x.size ≤ 9223372036854775807 := by
 rcases open_strings Tryz.underlying22 Tryz.underlying9 (by kernel_rfl) h with ⟨hcs, _⟩ | ⟨x, l, cp, zs, hcs, _, hl, hm, hz, _, hcell, hwz⟩
 ·simp at hcs
  subst hcs
  exact ⟨none, [], 0, rfl, by simp, by simp, fun i x hi => by simp at hi, fun x hx => by cases hx⟩
 ·simp at hcs
  subst hcs
  simp only [if_true] at hz
  have hml : maxLen = 9223372036854775807 := rfl
  have hlen : (zs.take l).length = l := by rw [List.length_take]; omega
  refine ⟨some x, zs.take l, cp, by rw [hlen], by rw [hlen]; omega, by rw [hlen]; exact hl, ?_, fun y hy => hwz y (List.mem_of_mem_take hy)⟩
  intro i y hi
  have hil : i < l := by have := (List.getElem?_eq_some_iff.1 hi).1; omega
  rw [List.getElem?_take_of_lt hil] at hi
  obtain ⟨b, off, spot⟩ := x
  have hc := hcell 0 (by omega)
  have hspot : spot = none := by simpa [Addr.add] using World.cell?_spot hc
  subst hspot
  have hci := hcell i (by omega)
  rw [add_none] at hci
  have hg : zs.getD i ByteArray.empty = y := by rw [List.getD_eq_getElem?_getD, hi]; rfl
  rw [hg] at hci
  exact ⟨b, off, rfl, World.block_lt_of_cell? W _ hci, hci⟩
theorem i64_of_wf {n : Int} (h : (Lit.int .i64 n).wf = true) : i64B n := bounds_i64 h
end Go.Proofs.YtamjofdgikifnaaGreat
set_option linter.unusedVariables false
namespace Go.Proofs.YtamjofdgikifnaaGreat
open Go.ChangeShapes Go.WideShapes Go.ChangeAt Go.RowKit Go.Deep
variable {H : Type} {enc : TypeId × Value → H} {W : World}
theorem add_noneN (b off j : Nat) : (⟨b, off, none⟩ : Addr).add j = ⟨b, off + j, none⟩ := by unfold Addr.add; split <;> simp_all
theorem open_rowI {fuel : Nat} {c : Value} {x : DataW H × List MemPlace} (h : DataW.trod enc Tryz.prog W 0 (fun _ => true) true fuel 94 [c] = some x) :
  ∃ (a : Option Addr) (ts : List Int) (cap : Nat), c = .slice a ts.length cap ∧ ts.length ≤ 9223372036854775807 ∧ ts.length ≤ cap ∧ RowIP W (fun b => b < W.heap.size) a ts := by
 rcases open_ints Tryz.underlying94 Tryz.underlying3 (by kernel_rfl) h with ⟨hcs, _⟩ | ⟨x, l, cp, zs, hcs, _, hl, hm, hz, _, hcell, hwz⟩
 ·simp at hcs
  subst hcs
  exact ⟨none, [], 0, rfl, by simp, by simp, fun i x hi => by simp at hi⟩
 ·simp at hcs
  subst hcs
  simp only [if_true] at hz
  have hml : maxLen = 9223372036854775807 := rfl
  have hlen : (zs.take l).length = l := by rw [List.length_take]; omega
  refine ⟨some x, zs.take l, cp, by rw [hlen], by rw [hlen]; omega, by rw [hlen]; exact hl, ?_⟩
  intro i y hi
  have hil : i < l := by have := (List.getElem?_eq_some_iff.1 hi).1; omega
  rw [List.getElem?_take_of_lt hil] at hi
  obtain ⟨b, off, spot⟩ := x
  have hc := hcell 0 (by omega)
  have hspot : spot = none := by simpa [Addr.add] using World.cell?_spot hc
  subst hspot
  have hci := hcell i (by omega)
  rw [add_noneN] at hci
  have hg : zs.getD i 0 = y := by rw [List.getD_eq_getElem?_getD, hi]; rfl
  rw [hg] at hci
  exact ⟨b, off, rfl, World.block_lt_of_cell? W _ hci, hci⟩
theorem open_rowSN {fuel : Nat} {c : Value} {x : DataW H × List MemPlace} (h : DataW.trod enc Tryz.prog W 0 (fun _ => true) true fuel 22 [c] = some x) :
  ∃ (a : Option Addr) (ts : List ByteArray) (cap : Nat), c = .slice a ts.length cap ∧ ts.length ≤ 9223372036854775807 ∧ ts.length ≤ cap ∧ RowSPN W (fun b => b < W.heap.size) a ts ∧ ∀ x ∈ ts, x.size ≤ 9223372036854775807 := by
 rcases open_strings Tryz.underlying22 Tryz.underlying9 (by kernel_rfl) h with ⟨hcs, _⟩ | ⟨x, l, cp, zs, hcs, _, hl, hm, hz, _, hcell, hwz⟩
 ·simp at hcs
  subst hcs
  exact ⟨none, [], 0, rfl, by simp, by simp, fun i x hi => by simp at hi, fun x hx => by cases hx⟩
 ·simp at hcs
  subst hcs
  simp only [if_true] at hz
  have hml : maxLen = 9223372036854775807 := rfl
  have hlen : (zs.take l).length = l := by rw [List.length_take]; omega
  refine ⟨some x, zs.take l, cp, by rw [hlen], by rw [hlen]; omega, by rw [hlen]; exact hl, ?_, fun y hy => hwz y (List.mem_of_mem_take hy)⟩
  intro i y hi
  have hil : i < l := by have := (List.getElem?_eq_some_iff.1 hi).1; omega
  rw [List.getElem?_take_of_lt hil] at hi
  obtain ⟨b, off, spot⟩ := x
  have hc := hcell 0 (by omega)
  have hspot : spot = none := by simpa [Addr.add] using World.cell?_spot hc
  subst hspot
  have hci := hcell i (by omega)
  rw [add_noneN] at hci
  have hg : zs.getD i ByteArray.empty = y := by rw [List.getD_eq_getElem?_getD, hi]; rfl
  rw [hg] at hci
  exact ⟨b, off, rfl, World.block_lt_of_cell? W _ hci, hci⟩
theorem i64_of_wfN {n : Int} (h : (Lit.int .i64 n).wf = true) : i64B n := bounds_i64 h
set_option maxRecDepth 100000 in
theorem open_nod {fuel : Nat} {cs' : List Value} {x : DataW H × List MemPlace} (h : DataW.trod enc Tryz.prog W 0 (fun _ => true) true fuel 146 cs' = some x) :
  ∃ (d : Nod) (an aa : Option Addr) (cn ca : Nat), cs' = [.int .i64 d.k, .int .i64 d.n, .string d.s, .slice an d.names.length cn, .slice aa d.args.length ca] ∧ d.wf ∧ NodRows W (fun b => b < W.heap.size) an cn aa ca d := by
 obtain ⟨xs, n, _, _, hlen, hxl, hf⟩ := DataW.trod_struct Tryz.underlying146 h
 have hlen' : cs'.length = 5 := hlen.trans (by kernel_rfl)
 have c3 : Tryz.prog.cellsOf 3 = 1 := by kernel_rfl
 have c9 : Tryz.prog.cellsOf 9 = 1 := by kernel_rfl
 have c37 : Tryz.prog.cellsOf 94 = 1 := by kernel_rfl
 have c39 : Tryz.prog.cellsOf 22 = 1 := by kernel_rfl
 match cs', hlen' with
 | [v0, v1, v2, v3, v4], _ =>
  match xs, hxl with
  | [y0, y1, y2, y3, y4], _ =>
   have g0 := hf 0 _ rfl
   have g1 := hf 1 _ rfl
   have g2 := hf 2 _ rfl
   have g3 := hf 3 _ rfl
   have g4 := hf 4 _ rfl
   simp [c3, c9, c37, c39] at g0 g1 g2 g3 g4
   obtain ⟨z0, e0, _, w0⟩ := DataW.trod_int Tryz.underlying3 g0
   obtain ⟨z1, e1, _, w1⟩ := DataW.trod_int Tryz.underlying3 g1
   obtain ⟨z2, e2, _, w2⟩ := DataW.trod_string Tryz.underlying9 g2
   obtain ⟨an, names, cn, rfl, q1, q2, q3, q4⟩ := open_rowSN g3
   obtain ⟨aa, args, ca, rfl, q5, q6, q7⟩ := open_rowI g4
   simp at e0 e1 e2
   subst e0 e1 e2
   exact ⟨⟨z0, z1, z2, names, args⟩, an, aa, cn, ca, rfl, ⟨i64_of_wfN w0, i64_of_wfN w1, w2, q1, q5, q4⟩, q3, q7, q2, q6⟩
end Go.Proofs.YtamjofdgikifnaaGreat
set_option linter.unusedVariables false
namespace Go.Proofs.YtamjofdgikifnaaGreat
open Go.ChangeShapes Go.WideShapes Go.ChangeAt Go.RowKit Go.Deep
variable {H : Type} {enc : TypeId × Value → H} {W : World}
theorem Rd.open_row {α : Type} [Inhabited α] (R : Rd α) (wf : α → Prop) {S T : TypeId} (hu : Tryz.prog.underlying S = some (.slice T)) (hc : Tryz.prog.cellsOf T = R.n) (hR : 0 < R.n)
  (each : ∀ {fuel : Nat} {cs : List Value} {x : DataW H × List MemPlace}, DataW.trod enc Tryz.prog W 0 (fun _ => true) true fuel T cs = some x → ∃ d, R.At W (fun b => b < W.heap.size) cs d ∧ wf d)
  {fuel : Nat} {c : Value} {x : DataW H × List MemPlace} (h : DataW.trod enc Tryz.prog W 0 (fun _ => true) true fuel S [c] = some x) :
  ∃ (a : Option Addr) (l : List α) (cap : Nat), c = .slice a l.length cap ∧ l.length ≤ 9223372036854775807 ∧ l.length ≤ cap ∧ R.Row W (fun b => b < W.heap.size) a l ∧ ∀ d ∈ l, wf d := by
 rcases open_slice hu h with ⟨hcs, _⟩ | ⟨a, len, cap, m, n, D, Pl, hcs, _, hl, hm, hmm, _, hx⟩
 ·simp at hcs
  subst hcs
  exact ⟨none, [], 0, rfl, by simp, by simp, fun i x hi => by simp at hi, fun d hd => by cases hd⟩
 ·simp at hcs
  subst hcs
  simp only [if_true] at hmm
  subst hmm
  have hml : maxLen = 9223372036854775807 := rfl
  rw [hc] at hx
  have each' : ∀ i, i < len → ∃ d : α, (∃ b o cs, a = ⟨b, o, none⟩ ∧ b < W.heap.size ∧ R.At W (fun b => b < W.heap.size) cs d ∧ LiesAt W b (o + i * R.n) cs) ∧ wf d := by
   intro i hi
   obtain ⟨cs', h1, h2⟩ := hx i (by omega)
   obtain ⟨d, hat, hw⟩ := each h2
   have hlen := R.len hat
   obtain ⟨_, _, hcell⟩ := World.cells?_some h1
   obtain ⟨b, off, spot⟩ := a
   have hspot : spot = none := by
    obtain ⟨cs0, h10, h20⟩ := hx 0 (by omega)
    obtain ⟨d0, hat0, _⟩ := each h20
    have hlen0 := R.len hat0
    obtain ⟨_, _, hcell0⟩ := World.cells?_some h10
    have hc0 := hcell0 0 hR
    rw [List.getElem?_eq_getElem (by omega)] at hc0
    have : (⟨b, off, spot⟩ : Addr).spot = none := World.cell?_spot (w := W) (a := ⟨b, off, spot⟩) (by simpa [Addr.add] using hc0)
    exact this
   subst hspot
   have k : ∀ j, j < R.n → W.cell? ⟨b, off + i * R.n + j, none⟩ = cs'[j]? := by
    intro j hj
    have := hcell j hj
    rw [add_add, add_none, ← Nat.add_assoc] at this
    exact this
   have k0 := k 0 hR
   rw [List.getElem?_eq_getElem (by omega)] at k0
   refine ⟨d, ⟨b, off, cs', rfl, World.block_lt_of_cell? W _ k0, hat, fun j v hj => ?_⟩, hw⟩
   have hjl := (List.getElem?_eq_some_iff.1 hj).1
   rw [k j (by omega), hj]
  obtain ⟨f, hf⟩ := choose_lt each'
  have hlen : ((List.range len).map f).length = len := by simp
  refine ⟨some a, (List.range len).map f, _, by rw [hlen], by rw [hlen]; omega, by rw [hlen]; exact hl, ?_, ?_⟩
  ·intro i d hi
   have hil : i < len := by have := (List.getElem?_eq_some_iff.1 hi).1; omega
   rw [List.getElem?_map, List.getElem?_range hil] at hi
   simp at hi
   subst hi
   obtain ⟨⟨b, o, cs, rfl, hb, hd, hl⟩, _⟩ := hf i hil
   exact ⟨b, o, cs, rfl, hb, hd, hl⟩
  ·intro d hd
   obtain ⟨i, hi, rfl⟩ := List.mem_map.1 hd
   exact (hf i (List.mem_range.1 hi)).2
instance : Inhabited Nod := ⟨⟨0, 0, ⟨#[]⟩, [], []⟩⟩
theorem opr_string {fuel : Nat} {c : Value} {x : DataW H × List MemPlace} (h : DataW.trod enc Tryz.prog W 0 (fun _ => true) true fuel 22 [c] = some x) :
  ∃ (a : Option Addr) (l : List ByteArray) (cap : Nat), c = .slice a l.length cap ∧ l.length ≤ 9223372036854775807 ∧ l.length ≤ cap ∧ rgS.Row W (fun b => b < W.heap.size) a l ∧ ∀ d ∈ l, wfS d := by
 obtain ⟨a, l, cap, h1, h2, h3, h4, h5⟩ := open_rowS h
 exact ⟨a, l, cap, h1, h2, h3, rowSP_iff.2 h4, h5⟩
theorem opr_Node {fuel : Nat} {c : Value} {x : DataW H × List MemPlace} (h : DataW.trod enc Tryz.prog W 0 (fun _ => true) true fuel 84 [c] = some x) :
  ∃ (a : Option Addr) (l : List Nod) (cap : Nat), c = .slice a l.length cap ∧ l.length ≤ 9223372036854775807 ∧ l.length ≤ cap ∧ rgN.Row W (fun b => b < W.heap.size) a l ∧ ∀ d ∈ l, Nod.wf d :=
 rgN.open_row Nod.wf Tryz.underlying84 (by kernel_rfl) (by decide) (fun h => by
  obtain ⟨d, an, aa, cn, ca, h1, h2, h3⟩ := open_nod h
  exact ⟨d, ⟨an, cn, aa, ca, h1, h3⟩, h2⟩) h
set_option maxRecDepth 100000 in
theorem opE_Prog {fuel : Nat} {cs' : List Value} {x : DataW H × List MemPlace} (h : DataW.trod enc Tryz.prog W 0 (fun _ => true) true fuel 86 cs' = some x) : ∃ d : Prg, rgP.At W (fun b => b < W.heap.size) cs' d ∧ d.wf := by
 obtain ⟨xs, n, _, _, hlen, hxl, hf⟩ := DataW.trod_struct Tryz.underlying86 h
 have hlen' : cs'.length = 2 := hlen.trans (by kernel_rfl)
 have c3 : Tryz.prog.cellsOf 3 = 1 := by kernel_rfl
 have c61 : Tryz.prog.cellsOf 84 = 1 := by kernel_rfl
 match cs', hlen' with
 | [v0, v1], _ =>
  match xs, hxl with
  | [y0, y1], _ =>
   have g0 := hf 0 _ rfl
   have g1 := hf 1 _ rfl
   simp [c3, c61] at g0 g1
   obtain ⟨a0, l0, p0, rfl, q0, r0, s0, t0⟩ := opr_Node g0
   obtain ⟨z1, e1, _, w1⟩ := DataW.trod_int Tryz.underlying3 g1
   simp at e1
   subst e1
   exact ⟨⟨l0, z1⟩, ⟨a0, p0, rfl, ⟨s0, r0⟩⟩, ⟨⟨q0, t0⟩, i64_of_wf w1⟩⟩
set_option maxRecDepth 100000 in
theorem opE_Type {fuel : Nat} {cs' : List Value} {x : DataW H × List MemPlace} (h : DataW.trod enc Tryz.prog W 0 (fun _ => true) true fuel 82 cs' = some x) : ∃ d : Typ, rgT.At W (fun b => b < W.heap.size) cs' d ∧ d.wf := by
 obtain ⟨xs, n, _, _, hlen, hxl, hf⟩ := DataW.trod_struct Tryz.underlying82 h
 have hlen' : cs'.length = 2 := hlen.trans (by kernel_rfl)
 have c3 : Tryz.prog.cellsOf 3 = 1 := by kernel_rfl
 have c9 : Tryz.prog.cellsOf 9 = 1 := by kernel_rfl
 match cs', hlen' with
 | [v0, v1], _ =>
  match xs, hxl with
  | [y0, y1], _ =>
   have g0 := hf 0 _ rfl
   have g1 := hf 1 _ rfl
   simp [c3, c9] at g0 g1
   obtain ⟨z0, e0, _, w0⟩ := DataW.trod_string Tryz.underlying9 g0
   obtain ⟨z1, e1, _, w1⟩ := DataW.trod_int Tryz.underlying3 g1
   simp at e0 e1
   subst e0 e1
   exact ⟨⟨z0, z1⟩, rfl, ⟨w0, i64_of_wf w1⟩⟩
instance : Inhabited Typ := ⟨⟨⟨#[]⟩, 0⟩⟩
theorem opr_Type {fuel : Nat} {c : Value} {x : DataW H × List MemPlace} (h : DataW.trod enc Tryz.prog W 0 (fun _ => true) true fuel 23 [c] = some x) :
  ∃ (a : Option Addr) (l : List Typ) (cap : Nat), c = .slice a l.length cap ∧ l.length ≤ 9223372036854775807 ∧ l.length ≤ cap ∧ rgT.Row W (fun b => b < W.heap.size) a l ∧ ∀ d ∈ l, Typ.wf d :=
 rgT.open_row Typ.wf Tryz.underlying23 (by kernel_rfl) (by decide) opE_Type h
set_option maxRecDepth 100000 in
theorem opE_Def {fuel : Nat} {cs' : List Value} {x : DataW H × List MemPlace} (h : DataW.trod enc Tryz.prog W 0 (fun _ => true) true fuel 88 cs' = some x) : ∃ d : Dfn, rgD.At W (fun b => b < W.heap.size) cs' d ∧ d.wf := by
 obtain ⟨xs, n, _, _, hlen, hxl, hf⟩ := DataW.trod_struct Tryz.underlying88 h
 have hlen' : cs'.length = 3 := hlen.trans (by kernel_rfl)
 have c9 : Tryz.prog.cellsOf 9 = 1 := by kernel_rfl
 have c63 : Tryz.prog.cellsOf 86 = 2 := by kernel_rfl
 match cs', hlen' with
 | [v0, v1, v2], _ =>
  match xs, hxl with
  | [y0, y1], _ =>
   have g0 := hf 0 _ rfl
   have g1 := hf 1 _ rfl
   simp [c9, c63] at g0 g1
   obtain ⟨z0, e0, _, w0⟩ := DataW.trod_string Tryz.underlying9 g0
   obtain ⟨d1, hat1, w1⟩ := opE_Prog g1
   obtain ⟨a1_0, p1_0, e1, hr1⟩ := hat1
   obtain ⟨s1_0, r1_0⟩ := hr1
   simp at e1
   obtain ⟨rfl, rfl⟩ := e1
   simp at e0
   subst e0
   exact ⟨⟨z0, d1⟩, ⟨a1_0, p1_0, rfl, ⟨s1_0, r1_0⟩⟩, ⟨w0, w1⟩⟩
instance : Inhabited Dfn := ⟨⟨⟨#[]⟩, ⟨[], 0⟩⟩⟩
theorem opr_Def {fuel : Nat} {c : Value} {x : DataW H × List MemPlace} (h : DataW.trod enc Tryz.prog W 0 (fun _ => true) true fuel 24 [c] = some x) :
  ∃ (a : Option Addr) (l : List Dfn) (cap : Nat), c = .slice a l.length cap ∧ l.length ≤ 9223372036854775807 ∧ l.length ≤ cap ∧ rgD.Row W (fun b => b < W.heap.size) a l ∧ ∀ d ∈ l, Dfn.wf d :=
 rgD.open_row Dfn.wf Tryz.underlying24 (by kernel_rfl) (by decide) opE_Def h
set_option maxRecDepth 100000 in
theorem opE_Src {fuel : Nat} {cs' : List Value} {x : DataW H × List MemPlace} (h : DataW.trod enc Tryz.prog W 0 (fun _ => true) true fuel 26 cs' = some x) : ∃ d : Srx, rgX.At W (fun b => b < W.heap.size) cs' d ∧ d.wf := by
 obtain ⟨xs, n, _, _, hlen, hxl, hf⟩ := DataW.trod_struct Tryz.underlying26 h
 have hlen' : cs'.length = 6 := hlen.trans (by kernel_rfl)
 have c9 : Tryz.prog.cellsOf 9 = 1 := by kernel_rfl
 have c22 : Tryz.prog.cellsOf 22 = 1 := by kernel_rfl
 have c23 : Tryz.prog.cellsOf 23 = 1 := by kernel_rfl
 have c24 : Tryz.prog.cellsOf 24 = 1 := by kernel_rfl
 match cs', hlen' with
 | [v0, v1, v2, v3, v4, v5], _ =>
  match xs, hxl with
  | [y0, y1, y2, y3, y4, y5], _ =>
   have g0 := hf 0 _ rfl
   have g1 := hf 1 _ rfl
   have g2 := hf 2 _ rfl
   have g3 := hf 3 _ rfl
   have g4 := hf 4 _ rfl
   have g5 := hf 5 _ rfl
   simp [c9, c22, c23, c24] at g0 g1 g2 g3 g4 g5
   obtain ⟨z0, e0, _, w0⟩ := DataW.trod_string Tryz.underlying9 g0
   obtain ⟨a1, l1, p1, rfl, q1, r1, s1, t1⟩ := opr_string g1
   obtain ⟨a2, l2, p2, rfl, q2, r2, s2, t2⟩ := opr_string g2
   obtain ⟨a3, l3, p3, rfl, q3, r3, s3, t3⟩ := opr_Type g3
   obtain ⟨a4, l4, p4, rfl, q4, r4, s4, t4⟩ := opr_Def g4
   obtain ⟨a5, l5, p5, rfl, q5, r5, s5, t5⟩ := opr_Def g5
   simp at e0
   subst e0
   exact ⟨⟨z0, l1, l2, l3, l4, l5⟩, ⟨a1, a2, a3, a4, a5, p1, p2, p3, p4, p5, rfl, ⟨⟨s1, r1⟩, ⟨s2, r2⟩, ⟨s3, r3⟩, ⟨s4, r4⟩, ⟨s5, r5⟩⟩⟩, ⟨w0, ⟨q1, t1⟩, ⟨q2, t2⟩, ⟨q3, t3⟩, ⟨q4, t4⟩, ⟨q5, t5⟩⟩⟩
set_option maxRecDepth 100000 in
theorem op_Src {v : Value} {d : DataW H} {p : List MemPlace} (hv : Value.okWide Tryz.prog W .any 0 26 v) (h : DataW.Trod enc Tryz.prog W 0 (fun _ => true) true 26 v d p) :
  ∃ (x : Srx) (cs : List Value), v = .agg cs.toArray ∧ rgX.At W (fun b => b < W.heap.size) cs x ∧ x.wf := by
 obtain ⟨vs, rfl, hsz⟩ := okWide_struct Tryz.underlying26 hv
 obtain ⟨fuel, hf⟩ := h
 obtain ⟨x, h1, h2⟩ := opE_Src hf
 obtain ⟨l⟩ := vs
 exact ⟨x, _, rfl, h1, h2⟩
end Go.Proofs.YtamjofdgikifnaaGreat
namespace Go.Proofs.YtamjofdgikifnaaGreat.fnExactCompare
open Go.ChangeShapes Go.WideShapes Go.ChangeAt Go.RowKit
set_option linter.unusedVariables false
theorem laidOut : laidOutB Tryz.prog = true := by kernel_rfl
theorem own : ownKnob Tryz.prog.godebug = none := by kernel_rfl
set_option maxRecDepth 100000 in
theorem lifted (os : Os) (started : os.Started) (H : Type) (enc : TypeId × Value → H) :
  ReturnsInHanded {} Tryz.checked os 4 .any (Rows.fnExactCompareSpec.pre6 enc Tryz.prog Tryz.f4 Rows.fnExactCompareRow.domain false) (Rows.fnExactCompareSpec.post enc Tryz.prog Tryz.f4 false true false false) := by
 refine returnsInHanded_of_change (C := Tryz.checked) own started (by kernel_rfl) Tryz.func4
  (ChangeSpec.witness6 (enc := enc) (C := Tryz.checked) false ⟨#[], #[.agg #[.string ⟨#[]⟩, .slice none 0 0, .slice none 0 0, .slice none 0 0, .slice none 0 0, .slice none 0 0], .agg #[.string ⟨#[]⟩, .slice none 0 0, .slice none 0 0, .slice none 0 0, .slice none 0 0, .slice none 0 0]], []⟩ 8 (by kernel_rfl) (by kernel_rfl) (by kernel_rfl) (by kernel_rfl)) ?_
 intro W base args ds gs before hval0 hW hcnd _
 have hval : ∀ (j : Nat) t v, Tryz.f4.params[j]? = some t → args[j]? = some v → Value.okWide Tryz.prog W .any base t v := hval0
 have hW' := hW
 obtain ⟨p, q, hA0, hV, rfl, hfz, hnd⟩ := hW
 have hA : DataW.TrodAll enc Tryz.prog W 0 (fun _ => true) true Tryz.f4.params.toList args.toList ds p := hA0
 rw [Tryz.params4] at hA hval
 obtain ⟨v0, v1, d0, d1, p0, p1, rfl, rfl, rfl, h0, h1⟩ := trodAll_two hA
 obtain ⟨rfl, rfl⟩ := trodVars_none hV
 have k0 := h0
 have k1 := h1
 have lt0 : ∀ x ∈ p0, x.block < W.heap.size := by obtain ⟨m, hm⟩ := k0; exact DataW.trod_lt m _ _ _ hm
 have lt1 : ∀ x ∈ p1, x.block < W.heap.size := by obtain ⟨m, hm⟩ := k1; exact DataW.trod_lt m _ _ _ hm
 obtain ⟨x, cs, rfl, ⟨a1, a2, a3, a4, a5, c1, c2, c3, c4, c5, rfl, hr⟩, hwx⟩ := op_Src (Value.okWide_any_base (hval 0 26 v0 rfl rfl)) h0
 obtain ⟨y, ct, rfl, ⟨b1, b2, b3, b4, b5, d1', d2', d3', d4', d5', rfl, hq⟩, hwy⟩ := op_Src (Value.okWide_any_base (hval 1 26 v1 rfl rfl)) h1
 clear hA0 hval0
 simp only [List.append_nil] at hW'
 refine (walk x y a1 a2 a3 a4 a5 b1 b2 b3 b4 b5 c1 c2 c3 c4 c5 d1' d2' d3' d4' d5' W hwx hwy hr hq).mono fun e W' ⟨he, bel⟩ => ?_
 subst he
 exact ⟨_, rfl, _, _, _, [], _, [], hW', trodAll_mk1 (shut_bool Tryz.underlying4 _), trodAll_mk2 (Below.trod laidOut (by kernel_rfl) (of_decide_eq_true (by kernel_rfl)) k0 bel lt0) (Below.trod laidOut (by kernel_rfl) (of_decide_eq_true (by kernel_rfl)) k1 bel lt1), rfl, bel.frame _, fun h => by cases h⟩
theorem over : Rows.fnExactCompareRow.holds Tryz.pinned (OpenSpec.ofChange Rows.fnExactCompareSpec) :=
 OpenClaim.holds_of_wide 4 Tryz.f4 rfl rfl rfl rfl rfl rfl rfl ⟨rfl, rfl, rfl, rfl, rfl⟩ rfl rfl rfl rfl rfl (by kernel_rfl) Tryz.func4 (by kernel_rfl)
  (of_decide_eq_true (by kernel_rfl)) (by unfold Func.isWrapper; first | (rw [if_pos (by decide +kernel)]; kernel_rfl) | (rw [if_neg (by decide +kernel)]; exact ⟨rfl, rfl⟩))
  (fun os started H enc _ => lifted os started H enc)
end Go.Proofs.YtamjofdgikifnaaGreat.fnExactCompare
namespace Go.Proofs.YtamjofdgikifnaaGreat
theorem FnExactCompare_holds : Rows.FnExactCompareSaid := fnExactCompare.over
#print axioms FnExactCompare_holds
end Go.Proofs.YtamjofdgikifnaaGreat
