/- A heap and a value that come in, opened. A program that comes in, opened: rows of nodes. A system that comes in, opened. -/
import Derived.Test.YtkkpiagchkdamaaGreatDoorVlp
import Derived.Deep.Slices
import Derived.SliceStrings
import Derived.ChangeOld
import Derived.Carry
import Derived.Test.YtkkpiagchkdamaaGreatDoorZpx
import Derived.Test.YtkkpiagchkdamaaGreatDoorSyp
set_option linter.unusedVariables false
namespace Go.Proofs.YtkkpiagchkdamaaGreatDoor
open Go.ChangeShapes Go.WideShapes Go.ChangeAt Go.RowKit Go.Deep
variable {H : Type} {enc : TypeId × Value → H} {W : World}
theorem add_none (b off j : Nat) : (⟨b, off, none⟩ : Addr).add j = ⟨b, off + j, none⟩ := by unfold Addr.add; split <;> simp_all
theorem open_rowS {fuel : Nat} {c : Value} {x : DataW H × List MemPlace} (h : DataW.trod enc Tryz.prog W 0 (fun _ => true) true fuel 24 [c] = some x) :
    ∃ (a : Option Addr) (ts : List ByteArray) (cap : Nat), c = .slice a ts.length cap ∧ ts.length ≤ 9223372036854775807 ∧ ts.length ≤ cap ∧ RowSP W (fun b => b < W.heap.size) a ts ∧ ∀ x ∈ ts, x.size ≤ 9223372036854775807 := by
  rcases open_strings Tryz.underlying24 Tryz.underlying9 (by kernel_rfl) h with ⟨hcs, _⟩ | ⟨x, l, cp, zs, hcs, _, hl, hm, hz, _, hcell, hwz⟩
  · simp at hcs
    subst hcs
    exact ⟨none, [], 0, rfl, by simp, by simp, fun i x hi => by simp at hi, fun x hx => by cases hx⟩
  · simp at hcs
    subst hcs
    simp only [if_true] at hz
    have hml : maxLen = 9223372036854775807 := rfl
    have hlen : (zs.take l).length = l := by rw [List.length_take]; omega
    refine ⟨some x, zs.take l, cp, by rw [hlen], by rw [hlen]; omega, by rw [hlen]; exact hl, ?_, fun y hy => hwz y (List.mem_of_mem_take hy)⟩
    intro i y hi
    have hil : i < l := by have := (List.getElem?_eq_some_iff.1 hi).1; omega
    rw [List.getElem?_take_of_lt hil] at hi
    obtain ⟨b, off, spot⟩ := x
    have hc := hcell 0 (by omega)
    have hspot : spot = none := by simpa [Addr.add] using World.cell?_spot hc
    subst hspot
    have hci := hcell i (by omega)
    rw [add_none] at hci
    have hg : zs.getD i ByteArray.empty = y := by rw [List.getD_eq_getElem?_getD, hi]; rfl
    rw [hg] at hci
    exact ⟨b, off, rfl, World.block_lt_of_cell? W _ hci, hci⟩
theorem i64_of_wf {n : Int} (h : (Lit.int .i64 n).wf = true) : i64B n := bounds_i64 h
end Go.Proofs.YtkkpiagchkdamaaGreatDoor
set_option linter.unusedVariables false
namespace Go.Proofs.YtkkpiagchkdamaaGreatDoor
open Go.ChangeShapes Go.WideShapes Go.ChangeAt Go.RowKit Go.Deep
variable {H : Type} {enc : TypeId × Value → H} {W : World}
theorem add_noneN (b off j : Nat) : (⟨b, off, none⟩ : Addr).add j = ⟨b, off + j, none⟩ := by unfold Addr.add; split <;> simp_all
theorem open_rowI {fuel : Nat} {c : Value} {x : DataW H × List MemPlace} (h : DataW.trod enc Tryz.prog W 0 (fun _ => true) true fuel 63 [c] = some x) :
    ∃ (a : Option Addr) (ts : List Int) (cap : Nat), c = .slice a ts.length cap ∧ ts.length ≤ 9223372036854775807 ∧ ts.length ≤ cap ∧ RowIP W (fun b => b < W.heap.size) a ts := by
  rcases open_ints Tryz.underlying63 Tryz.underlying3 (by kernel_rfl) h with ⟨hcs, _⟩ | ⟨x, l, cp, zs, hcs, _, hl, hm, hz, _, hcell, hwz⟩
  · simp at hcs
    subst hcs
    exact ⟨none, [], 0, rfl, by simp, by simp, fun i x hi => by simp at hi⟩
  · simp at hcs
    subst hcs
    simp only [if_true] at hz
    have hml : maxLen = 9223372036854775807 := rfl
    have hlen : (zs.take l).length = l := by rw [List.length_take]; omega
    refine ⟨some x, zs.take l, cp, by rw [hlen], by rw [hlen]; omega, by rw [hlen]; exact hl, ?_⟩
    intro i y hi
    have hil : i < l := by have := (List.getElem?_eq_some_iff.1 hi).1; omega
    rw [List.getElem?_take_of_lt hil] at hi
    obtain ⟨b, off, spot⟩ := x
    have hc := hcell 0 (by omega)
    have hspot : spot = none := by simpa [Addr.add] using World.cell?_spot hc
    subst hspot
    have hci := hcell i (by omega)
    rw [add_noneN] at hci
    have hg : zs.getD i 0 = y := by rw [List.getD_eq_getElem?_getD, hi]; rfl
    rw [hg] at hci
    exact ⟨b, off, rfl, World.block_lt_of_cell? W _ hci, hci⟩
theorem open_rowSN {fuel : Nat} {c : Value} {x : DataW H × List MemPlace} (h : DataW.trod enc Tryz.prog W 0 (fun _ => true) true fuel 24 [c] = some x) :
    ∃ (a : Option Addr) (ts : List ByteArray) (cap : Nat), c = .slice a ts.length cap ∧ ts.length ≤ 9223372036854775807 ∧ ts.length ≤ cap ∧ RowSPN W (fun b => b < W.heap.size) a ts ∧ ∀ x ∈ ts, x.size ≤ 9223372036854775807 := by
  rcases open_strings Tryz.underlying24 Tryz.underlying9 (by kernel_rfl) h with ⟨hcs, _⟩ | ⟨x, l, cp, zs, hcs, _, hl, hm, hz, _, hcell, hwz⟩
  · simp at hcs
    subst hcs
    exact ⟨none, [], 0, rfl, by simp, by simp, fun i x hi => by simp at hi, fun x hx => by cases hx⟩
  · simp at hcs
    subst hcs
    simp only [if_true] at hz
    have hml : maxLen = 9223372036854775807 := rfl
    have hlen : (zs.take l).length = l := by rw [List.length_take]; omega
    refine ⟨some x, zs.take l, cp, by rw [hlen], by rw [hlen]; omega, by rw [hlen]; exact hl, ?_, fun y hy => hwz y (List.mem_of_mem_take hy)⟩
    intro i y hi
    have hil : i < l := by have := (List.getElem?_eq_some_iff.1 hi).1; omega
    rw [List.getElem?_take_of_lt hil] at hi
    obtain ⟨b, off, spot⟩ := x
    have hc := hcell 0 (by omega)
    have hspot : spot = none := by simpa [Addr.add] using World.cell?_spot hc
    subst hspot
    have hci := hcell i (by omega)
    rw [add_noneN] at hci
    have hg : zs.getD i ByteArray.empty = y := by rw [List.getD_eq_getElem?_getD, hi]; rfl
    rw [hg] at hci
    exact ⟨b, off, rfl, World.block_lt_of_cell? W _ hci, hci⟩
theorem i64_of_wfN {n : Int} (h : (Lit.int .i64 n).wf = true) : i64B n := bounds_i64 h
set_option maxRecDepth 100000 in
theorem open_nod {fuel : Nat} {cs' : List Value} {x : DataW H × List MemPlace} (h : DataW.trod enc Tryz.prog W 0 (fun _ => true) true fuel 150 cs' = some x) :
    ∃ (d : Nod) (an aa : Option Addr) (cn ca : Nat), cs' = [.int .i64 d.k, .int .i64 d.n, .string d.s, .slice an d.names.length cn, .slice aa d.args.length ca] ∧ d.wf ∧ NodRows W (fun b => b < W.heap.size) an cn aa ca d := by
  obtain ⟨xs, n, _, _, hlen, hxl, hf⟩ := DataW.trod_struct Tryz.underlying150 h
  have hlen' : cs'.length = 5 := hlen.trans (by kernel_rfl)
  have c3 : Tryz.prog.cellsOf 3 = 1 := by kernel_rfl
  have c9 : Tryz.prog.cellsOf 9 = 1 := by kernel_rfl
  have c37 : Tryz.prog.cellsOf 63 = 1 := by kernel_rfl
  have c39 : Tryz.prog.cellsOf 24 = 1 := by kernel_rfl
  match cs', hlen' with
  | [v0, v1, v2, v3, v4], _ =>
    match xs, hxl with
    | [y0, y1, y2, y3, y4], _ =>
      have g0 := hf 0 _ rfl
      have g1 := hf 1 _ rfl
      have g2 := hf 2 _ rfl
      have g3 := hf 3 _ rfl
      have g4 := hf 4 _ rfl
      simp [c3, c9, c37, c39] at g0 g1 g2 g3 g4
      obtain ⟨z0, e0, _, w0⟩ := DataW.trod_int Tryz.underlying3 g0
      obtain ⟨z1, e1, _, w1⟩ := DataW.trod_int Tryz.underlying3 g1
      obtain ⟨z2, e2, _, w2⟩ := DataW.trod_string Tryz.underlying9 g2
      obtain ⟨an, names, cn, rfl, q1, q2, q3, q4⟩ := open_rowSN g3
      obtain ⟨aa, args, ca, rfl, q5, q6, q7⟩ := open_rowI g4
      simp at e0 e1 e2
      subst e0 e1 e2
      exact ⟨⟨z0, z1, z2, names, args⟩, an, aa, cn, ca, rfl, ⟨i64_of_wfN w0, i64_of_wfN w1, w2, q1, q5, q4⟩, q3, q7, q2, q6⟩
set_option maxRecDepth 100000 in
theorem open_rowN {fuel : Nat} {c : Value} {x : DataW H × List MemPlace} (h : DataW.trod enc Tryz.prog W 0 (fun _ => true) true fuel 86 [c] = some x) :
    ∃ (a : Option Addr) (cs : List Nod) (cap : Nat), c = .slice a cs.length cap ∧ cs.length ≤ 9223372036854775807 ∧ RowN W W.heap.size a cs ∧ ∀ d ∈ cs, d.wf := by
  rcases open_slice Tryz.underlying86 h with ⟨hcs, _⟩ | ⟨a, len, cap, m, n, D, Pl, hcs, _, hl, hm, hmm, _, hx⟩
  · simp at hcs
    subst hcs
    exact ⟨none, [], 0, rfl, by simp, fun i x hi => by simp at hi, fun d hd => by cases hd⟩
  · simp at hcs
    subst hcs
    simp only [if_true] at hmm
    subst hmm
    have hml : maxLen = 9223372036854775807 := rfl
    have c49 : Tryz.prog.cellsOf 150 = 5 := by kernel_rfl
    rw [c49] at hx
    have each : ∀ i, i < len → ∃ d : Nod, (∃ b o, a = ⟨b, o, none⟩ ∧ b < W.heap.size ∧ NodAt W (fun b => b < W.heap.size) b (o + i * 5) d) ∧ d.wf := by
      intro i hi
      obtain ⟨cs', h1, h2⟩ := hx i (by omega)
      obtain ⟨d, an, aa, cn, ca, rfl, hw, hrows⟩ := open_nod h2
      obtain ⟨_, _, hcell⟩ := World.cells?_some h1
      obtain ⟨b, off, spot⟩ := a
      have hspot : spot = none := by
        obtain ⟨cs0, h10, h20⟩ := hx 0 (by omega)
        obtain ⟨d0, _, _, _, _, rfl, _, _⟩ := open_nod h20
        obtain ⟨_, _, hcell0⟩ := World.cells?_some h10
        have hc0 := hcell0 0 (by omega)
        have : (⟨b, off, spot⟩ : Addr).spot = none := World.cell?_spot (w := W) (a := ⟨b, off, spot⟩) (by simpa [Addr.add] using hc0)
        exact this
      subst hspot
      have k : ∀ j, j < 5 → W.cell? ⟨b, off + i * 5 + j, none⟩ = [Value.int .i64 d.k, .int .i64 d.n, .string d.s, .slice an d.names.length cn, .slice aa d.args.length ca][j]? := by
        intro j hj
        have := hcell j hj
        rw [add_add, add_noneN, ← Nat.add_assoc] at this
        exact this
      have k0 := k 0 (by omega)
      exact ⟨d, ⟨b, off, rfl, World.block_lt_of_cell? W _ k0, an, cn, aa, ca, k0, k 1 (by omega), k 2 (by omega), k 3 (by omega), k 4 (by omega), hrows⟩, hw⟩
    have : Inhabited Nod := ⟨⟨0, 0, ⟨#[]⟩, [], []⟩⟩
    obtain ⟨f, hf⟩ := choose_lt each
    have hlen : ((List.range len).map f).length = len := by simp
    refine ⟨some a, (List.range len).map f, _, by rw [hlen], by rw [hlen]; omega, ?_, ?_⟩
    · intro i d hi
      have hil : i < len := by have := (List.getElem?_eq_some_iff.1 hi).1; omega
      rw [List.getElem?_map, List.getElem?_range hil] at hi
      simp at hi
      subst hi
      obtain ⟨⟨b, o, rfl, hb, hd⟩, _⟩ := hf i hil
      exact ⟨b, o, rfl, hb, hd⟩
    · intro d hd
      obtain ⟨i, hi, rfl⟩ := List.mem_map.1 hd
      exact (hf i (List.mem_range.1 hi)).2
set_option maxRecDepth 100000 in
theorem open_prog {v : Value} {d : DataW H} {p : List MemPlace} (hv : Value.okWide Tryz.prog W .any 0 88 v) (h : DataW.Trod enc Tryz.prog W 0 (fun _ => true) true 88 v d p) :
    ∃ (a : Option Addr) (ca : Nat) (cs : List Nod) (root : Int), v = .agg #[.slice a cs.length ca, .int .i64 root] ∧ cs.length ≤ 9223372036854775807 ∧ (∀ d ∈ cs, d.wf) ∧ RowN W W.heap.size a cs := by
  obtain ⟨vs, rfl, hsz⟩ := okWide_struct Tryz.underlying88 hv
  have hsz' : vs.size = 2 := hsz.trans (by kernel_rfl)
  obtain ⟨fuel, hf⟩ := h
  obtain ⟨xs, n, _, _, hlen, hxl, hfs⟩ := DataW.trod_struct Tryz.underlying88 hf
  have c22 : Tryz.prog.cellsOf 86 = 1 := by kernel_rfl
  have c3 : Tryz.prog.cellsOf 3 = 1 := by kernel_rfl
  obtain ⟨l⟩ := vs
  match l, hsz' with
  | [v0, v1], _ =>
    match xs, hxl with
    | [y0, y1], _ =>
      have g0 := hfs 0 _ rfl
      have g1 := hfs 1 _ rfl
      simp [c22, c3, Value.cells] at g0 g1
      obtain ⟨a, cs, ca, rfl, h1, h2, h3⟩ := open_rowN g0
      obtain ⟨z, e, _, wz⟩ := DataW.trod_int Tryz.underlying3 g1
      simp at e
      subst e
      exact ⟨a, ca, cs, z, rfl, h1, h3, h2⟩
end Go.Proofs.YtkkpiagchkdamaaGreatDoor
set_option linter.unusedVariables false
namespace Go.Proofs.YtkkpiagchkdamaaGreatDoor
open Go.ChangeShapes Go.WideShapes Go.ChangeAt Go.RowKit Go.Deep
variable {H : Type} {enc : TypeId × Value → H} {W : World}
/-- A row of what can be opened is opened. -/
theorem Rd.open_row {α : Type} [Inhabited α] (R : Rd α) (wf : α → Prop) {S T : TypeId} (hu : Tryz.prog.underlying S = some (.slice T)) (hc : Tryz.prog.cellsOf T = R.n) (hR : 0 < R.n)
    (each : ∀ {fuel : Nat} {cs : List Value} {x : DataW H × List MemPlace}, DataW.trod enc Tryz.prog W 0 (fun _ => true) true fuel T cs = some x → ∃ d, R.At W (fun b => b < W.heap.size) cs d ∧ wf d)
    {fuel : Nat} {c : Value} {x : DataW H × List MemPlace} (h : DataW.trod enc Tryz.prog W 0 (fun _ => true) true fuel S [c] = some x) :
    ∃ (a : Option Addr) (l : List α) (cap : Nat), c = .slice a l.length cap ∧ l.length ≤ 9223372036854775807 ∧ l.length ≤ cap ∧ R.Row W (fun b => b < W.heap.size) a l ∧ ∀ d ∈ l, wf d := by
  rcases open_slice hu h with ⟨hcs, _⟩ | ⟨a, len, cap, m, n, D, Pl, hcs, _, hl, hm, hmm, _, hx⟩
  · simp at hcs
    subst hcs
    exact ⟨none, [], 0, rfl, by simp, by simp, fun i x hi => by simp at hi, fun d hd => by cases hd⟩
  · simp at hcs
    subst hcs
    simp only [if_true] at hmm
    subst hmm
    have hml : maxLen = 9223372036854775807 := rfl
    rw [hc] at hx
    have each' : ∀ i, i < len → ∃ d : α, (∃ b o cs, a = ⟨b, o, none⟩ ∧ b < W.heap.size ∧ R.At W (fun b => b < W.heap.size) cs d ∧ LiesAt W b (o + i * R.n) cs) ∧ wf d := by
      intro i hi
      obtain ⟨cs', h1, h2⟩ := hx i (by omega)
      obtain ⟨d, hat, hw⟩ := each h2
      have hlen := R.len hat
      obtain ⟨_, _, hcell⟩ := World.cells?_some h1
      obtain ⟨b, off, spot⟩ := a
      have hspot : spot = none := by
        obtain ⟨cs0, h10, h20⟩ := hx 0 (by omega)
        obtain ⟨d0, hat0, _⟩ := each h20
        have hlen0 := R.len hat0
        obtain ⟨_, _, hcell0⟩ := World.cells?_some h10
        have hc0 := hcell0 0 hR
        rw [List.getElem?_eq_getElem (by omega)] at hc0
        have : (⟨b, off, spot⟩ : Addr).spot = none := World.cell?_spot (w := W) (a := ⟨b, off, spot⟩) (by simpa [Addr.add] using hc0)
        exact this
      subst hspot
      have k : ∀ j, j < R.n → W.cell? ⟨b, off + i * R.n + j, none⟩ = cs'[j]? := by
        intro j hj
        have := hcell j hj
        rw [add_add, add_none, ← Nat.add_assoc] at this
        exact this
      have k0 := k 0 hR
      rw [List.getElem?_eq_getElem (by omega)] at k0
      refine ⟨d, ⟨b, off, cs', rfl, World.block_lt_of_cell? W _ k0, hat, fun j v hj => ?_⟩, hw⟩
      have hjl := (List.getElem?_eq_some_iff.1 hj).1
      rw [k j (by omega), hj]
    obtain ⟨f, hf⟩ := choose_lt each'
    have hlen : ((List.range len).map f).length = len := by simp
    refine ⟨some a, (List.range len).map f, _, by rw [hlen], by rw [hlen]; omega, by rw [hlen]; exact hl, ?_, ?_⟩
    · intro i d hi
      have hil : i < len := by have := (List.getElem?_eq_some_iff.1 hi).1; omega
      rw [List.getElem?_map, List.getElem?_range hil] at hi
      simp at hi
      subst hi
      obtain ⟨⟨b, o, cs, rfl, hb, hd, hl⟩, _⟩ := hf i hil
      exact ⟨b, o, cs, rfl, hb, hd, hl⟩
    · intro d hd
      obtain ⟨i, hi, rfl⟩ := List.mem_map.1 hd
      exact (hf i (List.mem_range.1 hi)).2
instance : Inhabited Nod := ⟨⟨0, 0, ⟨#[]⟩, [], []⟩⟩
theorem opr_string {fuel : Nat} {c : Value} {x : DataW H × List MemPlace} (h : DataW.trod enc Tryz.prog W 0 (fun _ => true) true fuel 24 [c] = some x) :
    ∃ (a : Option Addr) (l : List ByteArray) (cap : Nat), c = .slice a l.length cap ∧ l.length ≤ 9223372036854775807 ∧ l.length ≤ cap ∧ rgS.Row W (fun b => b < W.heap.size) a l ∧ ∀ d ∈ l, wfS d := by
  obtain ⟨a, l, cap, h1, h2, h3, h4, h5⟩ := open_rowS h
  exact ⟨a, l, cap, h1, h2, h3, rowSP_iff.2 h4, h5⟩
theorem opr_Node {fuel : Nat} {c : Value} {x : DataW H × List MemPlace} (h : DataW.trod enc Tryz.prog W 0 (fun _ => true) true fuel 86 [c] = some x) :
    ∃ (a : Option Addr) (l : List Nod) (cap : Nat), c = .slice a l.length cap ∧ l.length ≤ 9223372036854775807 ∧ l.length ≤ cap ∧ rgN.Row W (fun b => b < W.heap.size) a l ∧ ∀ d ∈ l, Nod.wf d :=
  rgN.open_row Nod.wf Tryz.underlying86 (by kernel_rfl) (by decide) (fun h => by
    obtain ⟨d, an, aa, cn, ca, h1, h2, h3⟩ := open_nod h
    exact ⟨d, ⟨an, cn, aa, ca, h1, h3⟩, h2⟩) h
set_option maxRecDepth 100000 in
theorem opE_Prog {fuel : Nat} {cs' : List Value} {x : DataW H × List MemPlace} (h : DataW.trod enc Tryz.prog W 0 (fun _ => true) true fuel 88 cs' = some x) : ∃ d : Prg, rgP.At W (fun b => b < W.heap.size) cs' d ∧ d.wf := by
  obtain ⟨xs, n, _, _, hlen, hxl, hf⟩ := DataW.trod_struct Tryz.underlying88 h
  have hlen' : cs'.length = 2 := hlen.trans (by kernel_rfl)
  have c3 : Tryz.prog.cellsOf 3 = 1 := by kernel_rfl
  have c86 : Tryz.prog.cellsOf 86 = 1 := by kernel_rfl
  match cs', hlen' with
  | [v0, v1], _ =>
    match xs, hxl with
    | [y0, y1], _ =>
      have g0 := hf 0 _ rfl
      have g1 := hf 1 _ rfl
      simp [c3, c86] at g0 g1
      obtain ⟨a0, l0, p0, rfl, q0, r0, s0, t0⟩ := opr_Node g0
      obtain ⟨z1, e1, _, w1⟩ := DataW.trod_int Tryz.underlying3 g1
      simp at e1
      subst e1
      exact ⟨⟨l0, z1⟩, ⟨a0, p0, rfl, ⟨s0, r0⟩⟩, ⟨⟨q0, t0⟩, i64_of_wf w1⟩⟩
set_option maxRecDepth 100000 in
theorem opE_Type {fuel : Nat} {cs' : List Value} {x : DataW H × List MemPlace} (h : DataW.trod enc Tryz.prog W 0 (fun _ => true) true fuel 84 cs' = some x) : ∃ d : Typ, rgT.At W (fun b => b < W.heap.size) cs' d ∧ d.wf := by
  obtain ⟨xs, n, _, _, hlen, hxl, hf⟩ := DataW.trod_struct Tryz.underlying84 h
  have hlen' : cs'.length = 2 := hlen.trans (by kernel_rfl)
  have c3 : Tryz.prog.cellsOf 3 = 1 := by kernel_rfl
  have c9 : Tryz.prog.cellsOf 9 = 1 := by kernel_rfl
  match cs', hlen' with
  | [v0, v1], _ =>
    match xs, hxl with
    | [y0, y1], _ =>
      have g0 := hf 0 _ rfl
      have g1 := hf 1 _ rfl
      simp [c3, c9] at g0 g1
      obtain ⟨z0, e0, _, w0⟩ := DataW.trod_string Tryz.underlying9 g0
      obtain ⟨z1, e1, _, w1⟩ := DataW.trod_int Tryz.underlying3 g1
      simp at e0 e1
      subst e0 e1
      exact ⟨⟨z0, z1⟩, rfl, ⟨w0, i64_of_wf w1⟩⟩
instance : Inhabited Typ := ⟨⟨⟨#[]⟩, 0⟩⟩
theorem opr_Type {fuel : Nat} {c : Value} {x : DataW H × List MemPlace} (h : DataW.trod enc Tryz.prog W 0 (fun _ => true) true fuel 35 [c] = some x) :
    ∃ (a : Option Addr) (l : List Typ) (cap : Nat), c = .slice a l.length cap ∧ l.length ≤ 9223372036854775807 ∧ l.length ≤ cap ∧ rgT.Row W (fun b => b < W.heap.size) a l ∧ ∀ d ∈ l, Typ.wf d :=
  rgT.open_row Typ.wf Tryz.underlying35 (by kernel_rfl) (by decide) opE_Type h
set_option maxRecDepth 100000 in
theorem opE_Def {fuel : Nat} {cs' : List Value} {x : DataW H × List MemPlace} (h : DataW.trod enc Tryz.prog W 0 (fun _ => true) true fuel 90 cs' = some x) : ∃ d : Dfn, rgD.At W (fun b => b < W.heap.size) cs' d ∧ d.wf := by
  obtain ⟨xs, n, _, _, hlen, hxl, hf⟩ := DataW.trod_struct Tryz.underlying90 h
  have hlen' : cs'.length = 3 := hlen.trans (by kernel_rfl)
  have c9 : Tryz.prog.cellsOf 9 = 1 := by kernel_rfl
  have c88 : Tryz.prog.cellsOf 88 = 2 := by kernel_rfl
  match cs', hlen' with
  | [v0, v1, v2], _ =>
    match xs, hxl with
    | [y0, y1], _ =>
      have g0 := hf 0 _ rfl
      have g1 := hf 1 _ rfl
      simp [c9, c88] at g0 g1
      obtain ⟨z0, e0, _, w0⟩ := DataW.trod_string Tryz.underlying9 g0
      obtain ⟨d1, hat1, w1⟩ := opE_Prog g1
      obtain ⟨a1_0, p1_0, e1, hr1⟩ := hat1
      obtain ⟨s1_0, r1_0⟩ := hr1
      simp at e1
      obtain ⟨rfl, rfl⟩ := e1
      simp at e0
      subst e0
      exact ⟨⟨z0, d1⟩, ⟨a1_0, p1_0, rfl, ⟨s1_0, r1_0⟩⟩, ⟨w0, w1⟩⟩
instance : Inhabited Dfn := ⟨⟨⟨#[]⟩, ⟨[], 0⟩⟩⟩
theorem opr_Def {fuel : Nat} {c : Value} {x : DataW H × List MemPlace} (h : DataW.trod enc Tryz.prog W 0 (fun _ => true) true fuel 36 [c] = some x) :
    ∃ (a : Option Addr) (l : List Dfn) (cap : Nat), c = .slice a l.length cap ∧ l.length ≤ 9223372036854775807 ∧ l.length ≤ cap ∧ rgD.Row W (fun b => b < W.heap.size) a l ∧ ∀ d ∈ l, Dfn.wf d :=
  rgD.open_row Dfn.wf Tryz.underlying36 (by kernel_rfl) (by decide) opE_Def h
set_option maxRecDepth 100000 in
theorem opE_Src {fuel : Nat} {cs' : List Value} {x : DataW H × List MemPlace} (h : DataW.trod enc Tryz.prog W 0 (fun _ => true) true fuel 38 cs' = some x) : ∃ d : Srx, rgX.At W (fun b => b < W.heap.size) cs' d ∧ d.wf := by
  obtain ⟨xs, n, _, _, hlen, hxl, hf⟩ := DataW.trod_struct Tryz.underlying38 h
  have hlen' : cs'.length = 6 := hlen.trans (by kernel_rfl)
  have c9 : Tryz.prog.cellsOf 9 = 1 := by kernel_rfl
  have c24 : Tryz.prog.cellsOf 24 = 1 := by kernel_rfl
  have c35 : Tryz.prog.cellsOf 35 = 1 := by kernel_rfl
  have c36 : Tryz.prog.cellsOf 36 = 1 := by kernel_rfl
  match cs', hlen' with
  | [v0, v1, v2, v3, v4, v5], _ =>
    match xs, hxl with
    | [y0, y1, y2, y3, y4, y5], _ =>
      have g0 := hf 0 _ rfl
      have g1 := hf 1 _ rfl
      have g2 := hf 2 _ rfl
      have g3 := hf 3 _ rfl
      have g4 := hf 4 _ rfl
      have g5 := hf 5 _ rfl
      simp [c9, c24, c35, c36] at g0 g1 g2 g3 g4 g5
      obtain ⟨z0, e0, _, w0⟩ := DataW.trod_string Tryz.underlying9 g0
      obtain ⟨a1, l1, p1, rfl, q1, r1, s1, t1⟩ := opr_string g1
      obtain ⟨a2, l2, p2, rfl, q2, r2, s2, t2⟩ := opr_string g2
      obtain ⟨a3, l3, p3, rfl, q3, r3, s3, t3⟩ := opr_Type g3
      obtain ⟨a4, l4, p4, rfl, q4, r4, s4, t4⟩ := opr_Def g4
      obtain ⟨a5, l5, p5, rfl, q5, r5, s5, t5⟩ := opr_Def g5
      simp at e0
      subst e0
      exact ⟨⟨z0, l1, l2, l3, l4, l5⟩, ⟨a1, a2, a3, a4, a5, p1, p2, p3, p4, p5, rfl, ⟨⟨s1, r1⟩, ⟨s2, r2⟩, ⟨s3, r3⟩, ⟨s4, r4⟩, ⟨s5, r5⟩⟩⟩, ⟨w0, ⟨q1, t1⟩, ⟨q2, t2⟩, ⟨q3, t3⟩, ⟨q4, t4⟩, ⟨q5, t5⟩⟩⟩
instance : Inhabited Srx := ⟨⟨⟨#[]⟩, [], [], [], [], []⟩⟩
theorem opr_Src {fuel : Nat} {c : Value} {x : DataW H × List MemPlace} (h : DataW.trod enc Tryz.prog W 0 (fun _ => true) true fuel 22 [c] = some x) :
    ∃ (a : Option Addr) (l : List Srx) (cap : Nat), c = .slice a l.length cap ∧ l.length ≤ 9223372036854775807 ∧ l.length ≤ cap ∧ rgX.Row W (fun b => b < W.heap.size) a l ∧ ∀ d ∈ l, Srx.wf d :=
  rgX.open_row Srx.wf Tryz.underlying22 (by kernel_rfl) (by decide) opE_Src h
set_option maxRecDepth 100000 in
theorem op_Src {v : Value} {d : DataW H} {p : List MemPlace} (hv : Value.okWide Tryz.prog W .any 0 38 v) (h : DataW.Trod enc Tryz.prog W 0 (fun _ => true) true 38 v d p) :
    ∃ (x : Srx) (cs : List Value), v = .agg cs.toArray ∧ rgX.At W (fun b => b < W.heap.size) cs x ∧ x.wf := by
  obtain ⟨vs, rfl, hsz⟩ := okWide_struct Tryz.underlying38 hv
  obtain ⟨fuel, hf⟩ := h
  obtain ⟨x, h1, h2⟩ := opE_Src hf
  obtain ⟨l⟩ := vs
  exact ⟨x, _, rfl, h1, h2⟩
end Go.Proofs.YtkkpiagchkdamaaGreatDoor
