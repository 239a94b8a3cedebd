/- A heap and a value that come in, opened. A program that comes in, opened: rows of nodes. -/
import Derived.Test.YtamjofdgikifnaaGreatVlp
import Derived.Deep.Slices
import Derived.SliceStrings
import Derived.ChangeOld
import Derived.Carry
import Derived.Test.YtamjofdgikifnaaGreatZpx
set_option linter.unusedVariables false
namespace Go.Proofs.YtamjofdgikifnaaGreat
open Go.ChangeShapes Go.WideShapes Go.ChangeAt Go.RowKit Go.Deep
variable {H : Type} {enc : TypeId × Value → H} {W : World}
theorem add_none (b off j : Nat) : (⟨b, off, none⟩ : Addr).add j = ⟨b, off + j, none⟩ := by unfold Addr.add; split <;> simp_all
theorem open_rowS {fuel : Nat} {c : Value} {x : DataW H × List MemPlace} (h : DataW.trod enc Tryz.prog W 0 (fun _ => true) true fuel 22 [c] = some x) :
    ∃ (a : Option Addr) (ts : List ByteArray) (cap : Nat), c = .slice a ts.length cap ∧ ts.length ≤ 9223372036854775807 ∧ ts.length ≤ cap ∧ RowSP W (fun b => b < W.heap.size) a ts ∧ ∀ x ∈ ts, x.size ≤ 9223372036854775807 := by
  rcases open_strings Tryz.underlying22 Tryz.underlying9 (by kernel_rfl) h with ⟨hcs, _⟩ | ⟨x, l, cp, zs, hcs, _, hl, hm, hz, _, hcell, hwz⟩
  · simp at hcs
    subst hcs
    exact ⟨none, [], 0, rfl, by simp, by simp, fun i x hi => by simp at hi, fun x hx => by cases hx⟩
  · simp at hcs
    subst hcs
    simp only [if_true] at hz
    have hml : maxLen = 9223372036854775807 := rfl
    have hlen : (zs.take l).length = l := by rw [List.length_take]; omega
    refine ⟨some x, zs.take l, cp, by rw [hlen], by rw [hlen]; omega, by rw [hlen]; exact hl, ?_, fun y hy => hwz y (List.mem_of_mem_take hy)⟩
    intro i y hi
    have hil : i < l := by have := (List.getElem?_eq_some_iff.1 hi).1; omega
    rw [List.getElem?_take_of_lt hil] at hi
    obtain ⟨b, off, spot⟩ := x
    have hc := hcell 0 (by omega)
    have hspot : spot = none := by simpa [Addr.add] using World.cell?_spot hc
    subst hspot
    have hci := hcell i (by omega)
    rw [add_none] at hci
    have hg : zs.getD i ByteArray.empty = y := by rw [List.getD_eq_getElem?_getD, hi]; rfl
    rw [hg] at hci
    exact ⟨b, off, rfl, World.block_lt_of_cell? W _ hci, hci⟩
theorem i64_of_wf {n : Int} (h : (Lit.int .i64 n).wf = true) : i64B n := bounds_i64 h
end Go.Proofs.YtamjofdgikifnaaGreat
set_option linter.unusedVariables false
namespace Go.Proofs.YtamjofdgikifnaaGreat
open Go.ChangeShapes Go.WideShapes Go.ChangeAt Go.RowKit Go.Deep
variable {H : Type} {enc : TypeId × Value → H} {W : World}
theorem add_noneN (b off j : Nat) : (⟨b, off, none⟩ : Addr).add j = ⟨b, off + j, none⟩ := by unfold Addr.add; split <;> simp_all
theorem open_rowI {fuel : Nat} {c : Value} {x : DataW H × List MemPlace} (h : DataW.trod enc Tryz.prog W 0 (fun _ => true) true fuel 94 [c] = some x) :
    ∃ (a : Option Addr) (ts : List Int) (cap : Nat), c = .slice a ts.length cap ∧ ts.length ≤ 9223372036854775807 ∧ ts.length ≤ cap ∧ RowIP W (fun b => b < W.heap.size) a ts := by
  rcases open_ints Tryz.underlying94 Tryz.underlying3 (by kernel_rfl) h with ⟨hcs, _⟩ | ⟨x, l, cp, zs, hcs, _, hl, hm, hz, _, hcell, hwz⟩
  · simp at hcs
    subst hcs
    exact ⟨none, [], 0, rfl, by simp, by simp, fun i x hi => by simp at hi⟩
  · simp at hcs
    subst hcs
    simp only [if_true] at hz
    have hml : maxLen = 9223372036854775807 := rfl
    have hlen : (zs.take l).length = l := by rw [List.length_take]; omega
    refine ⟨some x, zs.take l, cp, by rw [hlen], by rw [hlen]; omega, by rw [hlen]; exact hl, ?_⟩
    intro i y hi
    have hil : i < l := by have := (List.getElem?_eq_some_iff.1 hi).1; omega
    rw [List.getElem?_take_of_lt hil] at hi
    obtain ⟨b, off, spot⟩ := x
    have hc := hcell 0 (by omega)
    have hspot : spot = none := by simpa [Addr.add] using World.cell?_spot hc
    subst hspot
    have hci := hcell i (by omega)
    rw [add_noneN] at hci
    have hg : zs.getD i 0 = y := by rw [List.getD_eq_getElem?_getD, hi]; rfl
    rw [hg] at hci
    exact ⟨b, off, rfl, World.block_lt_of_cell? W _ hci, hci⟩
theorem open_rowSN {fuel : Nat} {c : Value} {x : DataW H × List MemPlace} (h : DataW.trod enc Tryz.prog W 0 (fun _ => true) true fuel 22 [c] = some x) :
    ∃ (a : Option Addr) (ts : List ByteArray) (cap : Nat), c = .slice a ts.length cap ∧ ts.length ≤ 9223372036854775807 ∧ ts.length ≤ cap ∧ RowSPN W (fun b => b < W.heap.size) a ts ∧ ∀ x ∈ ts, x.size ≤ 9223372036854775807 := by
  rcases open_strings Tryz.underlying22 Tryz.underlying9 (by kernel_rfl) h with ⟨hcs, _⟩ | ⟨x, l, cp, zs, hcs, _, hl, hm, hz, _, hcell, hwz⟩
  · simp at hcs
    subst hcs
    exact ⟨none, [], 0, rfl, by simp, by simp, fun i x hi => by simp at hi, fun x hx => by cases hx⟩
  · simp at hcs
    subst hcs
    simp only [if_true] at hz
    have hml : maxLen = 9223372036854775807 := rfl
    have hlen : (zs.take l).length = l := by rw [List.length_take]; omega
    refine ⟨some x, zs.take l, cp, by rw [hlen], by rw [hlen]; omega, by rw [hlen]; exact hl, ?_, fun y hy => hwz y (List.mem_of_mem_take hy)⟩
    intro i y hi
    have hil : i < l := by have := (List.getElem?_eq_some_iff.1 hi).1; omega
    rw [List.getElem?_take_of_lt hil] at hi
    obtain ⟨b, off, spot⟩ := x
    have hc := hcell 0 (by omega)
    have hspot : spot = none := by simpa [Addr.add] using World.cell?_spot hc
    subst hspot
    have hci := hcell i (by omega)
    rw [add_noneN] at hci
    have hg : zs.getD i ByteArray.empty = y := by rw [List.getD_eq_getElem?_getD, hi]; rfl
    rw [hg] at hci
    exact ⟨b, off, rfl, World.block_lt_of_cell? W _ hci, hci⟩
theorem i64_of_wfN {n : Int} (h : (Lit.int .i64 n).wf = true) : i64B n := bounds_i64 h
set_option maxRecDepth 100000 in
theorem open_nod {fuel : Nat} {cs' : List Value} {x : DataW H × List MemPlace} (h : DataW.trod enc Tryz.prog W 0 (fun _ => true) true fuel 146 cs' = some x) :
    ∃ (d : Nod) (an aa : Option Addr) (cn ca : Nat), cs' = [.int .i64 d.k, .int .i64 d.n, .string d.s, .slice an d.names.length cn, .slice aa d.args.length ca] ∧ d.wf ∧ NodRows W (fun b => b < W.heap.size) an cn aa ca d := by
  obtain ⟨xs, n, _, _, hlen, hxl, hf⟩ := DataW.trod_struct Tryz.underlying146 h
  have hlen' : cs'.length = 5 := hlen.trans (by kernel_rfl)
  have c3 : Tryz.prog.cellsOf 3 = 1 := by kernel_rfl
  have c9 : Tryz.prog.cellsOf 9 = 1 := by kernel_rfl
  have c37 : Tryz.prog.cellsOf 94 = 1 := by kernel_rfl
  have c39 : Tryz.prog.cellsOf 22 = 1 := by kernel_rfl
  match cs', hlen' with
  | [v0, v1, v2, v3, v4], _ =>
    match xs, hxl with
    | [y0, y1, y2, y3, y4], _ =>
      have g0 := hf 0 _ rfl
      have g1 := hf 1 _ rfl
      have g2 := hf 2 _ rfl
      have g3 := hf 3 _ rfl
      have g4 := hf 4 _ rfl
      simp [c3, c9, c37, c39] at g0 g1 g2 g3 g4
      obtain ⟨z0, e0, _, w0⟩ := DataW.trod_int Tryz.underlying3 g0
      obtain ⟨z1, e1, _, w1⟩ := DataW.trod_int Tryz.underlying3 g1
      obtain ⟨z2, e2, _, w2⟩ := DataW.trod_string Tryz.underlying9 g2
      obtain ⟨an, names, cn, rfl, q1, q2, q3, q4⟩ := open_rowSN g3
      obtain ⟨aa, args, ca, rfl, q5, q6, q7⟩ := open_rowI g4
      simp at e0 e1 e2
      subst e0 e1 e2
      exact ⟨⟨z0, z1, z2, names, args⟩, an, aa, cn, ca, rfl, ⟨i64_of_wfN w0, i64_of_wfN w1, w2, q1, q5, q4⟩, q3, q7, q2, q6⟩
set_option maxRecDepth 100000 in
theorem open_rowN {fuel : Nat} {c : Value} {x : DataW H × List MemPlace} (h : DataW.trod enc Tryz.prog W 0 (fun _ => true) true fuel 84 [c] = some x) :
    ∃ (a : Option Addr) (cs : List Nod) (cap : Nat), c = .slice a cs.length cap ∧ cs.length ≤ 9223372036854775807 ∧ RowN W W.heap.size a cs ∧ ∀ d ∈ cs, d.wf := by
  rcases open_slice Tryz.underlying84 h with ⟨hcs, _⟩ | ⟨a, len, cap, m, n, D, Pl, hcs, _, hl, hm, hmm, _, hx⟩
  · simp at hcs
    subst hcs
    exact ⟨none, [], 0, rfl, by simp, fun i x hi => by simp at hi, fun d hd => by cases hd⟩
  · simp at hcs
    subst hcs
    simp only [if_true] at hmm
    subst hmm
    have hml : maxLen = 9223372036854775807 := rfl
    have c49 : Tryz.prog.cellsOf 146 = 5 := by kernel_rfl
    rw [c49] at hx
    have each : ∀ i, i < len → ∃ d : Nod, (∃ b o, a = ⟨b, o, none⟩ ∧ b < W.heap.size ∧ NodAt W (fun b => b < W.heap.size) b (o + i * 5) d) ∧ d.wf := by
      intro i hi
      obtain ⟨cs', h1, h2⟩ := hx i (by omega)
      obtain ⟨d, an, aa, cn, ca, rfl, hw, hrows⟩ := open_nod h2
      obtain ⟨_, _, hcell⟩ := World.cells?_some h1
      obtain ⟨b, off, spot⟩ := a
      have hspot : spot = none := by
        obtain ⟨cs0, h10, h20⟩ := hx 0 (by omega)
        obtain ⟨d0, _, _, _, _, rfl, _, _⟩ := open_nod h20
        obtain ⟨_, _, hcell0⟩ := World.cells?_some h10
        have hc0 := hcell0 0 (by omega)
        have : (⟨b, off, spot⟩ : Addr).spot = none := World.cell?_spot (w := W) (a := ⟨b, off, spot⟩) (by simpa [Addr.add] using hc0)
        exact this
      subst hspot
      have k : ∀ j, j < 5 → W.cell? ⟨b, off + i * 5 + j, none⟩ = [Value.int .i64 d.k, .int .i64 d.n, .string d.s, .slice an d.names.length cn, .slice aa d.args.length ca][j]? := by
        intro j hj
        have := hcell j hj
        rw [add_add, add_noneN, ← Nat.add_assoc] at this
        exact this
      have k0 := k 0 (by omega)
      exact ⟨d, ⟨b, off, rfl, World.block_lt_of_cell? W _ k0, an, cn, aa, ca, k0, k 1 (by omega), k 2 (by omega), k 3 (by omega), k 4 (by omega), hrows⟩, hw⟩
    have : Inhabited Nod := ⟨⟨0, 0, ⟨#[]⟩, [], []⟩⟩
    obtain ⟨f, hf⟩ := choose_lt each
    have hlen : ((List.range len).map f).length = len := by simp
    refine ⟨some a, (List.range len).map f, _, by rw [hlen], by rw [hlen]; omega, ?_, ?_⟩
    · intro i d hi
      have hil : i < len := by have := (List.getElem?_eq_some_iff.1 hi).1; omega
      rw [List.getElem?_map, List.getElem?_range hil] at hi
      simp at hi
      subst hi
      obtain ⟨⟨b, o, rfl, hb, hd⟩, _⟩ := hf i hil
      exact ⟨b, o, rfl, hb, hd⟩
    · intro d hd
      obtain ⟨i, hi, rfl⟩ := List.mem_map.1 hd
      exact (hf i (List.mem_range.1 hi)).2
set_option maxRecDepth 100000 in
theorem open_prog {v : Value} {d : DataW H} {p : List MemPlace} (hv : Value.okWide Tryz.prog W .any 0 86 v) (h : DataW.Trod enc Tryz.prog W 0 (fun _ => true) true 86 v d p) :
    ∃ (a : Option Addr) (ca : Nat) (cs : List Nod) (root : Int), v = .agg #[.slice a cs.length ca, .int .i64 root] ∧ cs.length ≤ 9223372036854775807 ∧ (∀ d ∈ cs, d.wf) ∧ RowN W W.heap.size a cs := by
  obtain ⟨vs, rfl, hsz⟩ := okWide_struct Tryz.underlying86 hv
  have hsz' : vs.size = 2 := hsz.trans (by kernel_rfl)
  obtain ⟨fuel, hf⟩ := h
  obtain ⟨xs, n, _, _, hlen, hxl, hfs⟩ := DataW.trod_struct Tryz.underlying86 hf
  have c22 : Tryz.prog.cellsOf 84 = 1 := by kernel_rfl
  have c3 : Tryz.prog.cellsOf 3 = 1 := by kernel_rfl
  obtain ⟨l⟩ := vs
  match l, hsz' with
  | [v0, v1], _ =>
    match xs, hxl with
    | [y0, y1], _ =>
      have g0 := hfs 0 _ rfl
      have g1 := hfs 1 _ rfl
      simp [c22, c3, Value.cells] at g0 g1
      obtain ⟨a, cs, ca, rfl, h1, h2, h3⟩ := open_rowN g0
      obtain ⟨z, e, _, wz⟩ := DataW.trod_int Tryz.underlying3 g1
      simp at e
      subst e
      exact ⟨a, ca, cs, z, rfl, h1, h3, h2⟩
end Go.Proofs.YtamjofdgikifnaaGreat
