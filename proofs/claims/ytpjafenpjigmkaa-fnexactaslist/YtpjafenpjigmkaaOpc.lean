/- A heap and a value that come in, opened. -/
import Derived.Test.YtpjafenpjigmkaaVlp
import Derived.Deep.Slices
import Derived.SliceStrings
import Derived.ChangeOld
import Derived.Carry
set_option linter.unusedVariables false
namespace Go.Proofs.Ytpjafenpjigmkaa
open Go.ChangeShapes Go.WideShapes Go.ChangeAt Go.RowKit Go.Deep
variable {H : Type} {enc : TypeId × Value → H} {W : World}
theorem add_none (b off j : Nat) : (⟨b, off, none⟩ : Addr).add j = ⟨b, off + j, none⟩ := by unfold Addr.add; split <;> simp_all
theorem open_rowS {fuel : Nat} {c : Value} {x : DataW H × List MemPlace} (h : DataW.trod enc Try.prog W 0 (fun _ => true) true fuel 40 [c] = some x) :
    ∃ (a : Option Addr) (ts : List ByteArray) (cap : Nat), c = .slice a ts.length cap ∧ ts.length ≤ 9223372036854775807 ∧ ts.length ≤ cap ∧ RowSP W (fun b => b < W.heap.size) a ts ∧ ∀ x ∈ ts, x.size ≤ 9223372036854775807 := by
  rcases open_strings Try.underlying40 Try.underlying9 (by kernel_rfl) h with ⟨hcs, _⟩ | ⟨x, l, cp, zs, hcs, _, hl, hm, hz, _, hcell, hwz⟩
  · simp at hcs
    subst hcs
    exact ⟨none, [], 0, rfl, by simp, by simp, fun i x hi => by simp at hi, fun x hx => by cases hx⟩
  · simp at hcs
    subst hcs
    simp only [if_true] at hz
    have hml : maxLen = 9223372036854775807 := rfl
    have hlen : (zs.take l).length = l := by rw [List.length_take]; omega
    refine ⟨some x, zs.take l, cp, by rw [hlen], by rw [hlen]; omega, by rw [hlen]; exact hl, ?_, fun y hy => hwz y (List.mem_of_mem_take hy)⟩
    intro i y hi
    have hil : i < l := by have := (List.getElem?_eq_some_iff.1 hi).1; omega
    rw [List.getElem?_take_of_lt hil] at hi
    obtain ⟨b, off, spot⟩ := x
    have hc := hcell 0 (by omega)
    have hspot : spot = none := by simpa [Addr.add] using World.cell?_spot hc
    subst hspot
    have hci := hcell i (by omega)
    rw [add_none] at hci
    have hg : zs.getD i ByteArray.empty = y := by rw [List.getD_eq_getElem?_getD, hi]; rfl
    rw [hg] at hci
    exact ⟨b, off, rfl, World.block_lt_of_cell? W _ hci, hci⟩
theorem i64_of_wf {n : Int} (h : (Lit.int .i64 n).wf = true) : i64B n := bounds_i64 h
set_option maxRecDepth 100000 in
theorem open_val {fuel : Nat} {cs' : List Value} {x : DataW H × List MemPlace} (h : DataW.trod enc Try.prog W 0 (fun _ => true) true fuel 24 cs' = some x) :
    ∃ d : Val, cs' = [.int .i64 d.k, .int .i64 d.n, .string d.s] ∧ d.wf := by
  obtain ⟨xs, n, _, _, hlen, hxl, hf⟩ := DataW.trod_struct Try.underlying24 h
  have hlen' : cs'.length = 3 := hlen.trans (by kernel_rfl)
  have c3 : Try.prog.cellsOf 3 = 1 := by kernel_rfl
  have c9 : Try.prog.cellsOf 9 = 1 := by kernel_rfl
  match cs', hlen' with
  | [v0, v1, v2], _ =>
    match xs, hxl with
    | [y0, y1, y2], _ =>
      have g0 := hf 0 _ rfl
      have g1 := hf 1 _ rfl
      have g2 := hf 2 _ rfl
      simp [c3, c9] at g0 g1 g2
      obtain ⟨z0, e0, _, w0⟩ := DataW.trod_int Try.underlying3 g0
      obtain ⟨z1, e1, _, w1⟩ := DataW.trod_int Try.underlying3 g1
      obtain ⟨z2, e2, _, w2⟩ := DataW.trod_string Try.underlying9 g2
      simp at e0 e1 e2
      subst e0 e1 e2
      exact ⟨⟨z0, z1, z2⟩, rfl, i64_of_wf w0, i64_of_wf w1, w2⟩
set_option maxRecDepth 100000 in
theorem open_rowV {fuel : Nat} {c : Value} {x : DataW H × List MemPlace} (h : DataW.trod enc Try.prog W 0 (fun _ => true) true fuel 41 [c] = some x) :
    ∃ (a : Option Addr) (cs : List Val) (cap : Nat), c = .slice a cs.length cap ∧ cs.length ≤ 9223372036854775807 ∧ cs.length ≤ cap ∧ RowVP W (fun b => b < W.heap.size) a cs ∧ ∀ d ∈ cs, d.wf := by
  rcases open_slice Try.underlying41 h with ⟨hcs, _⟩ | ⟨a, len, cap, m, n, D, Pl, hcs, _, hl, hm, hmm, _, hx⟩
  · simp at hcs
    subst hcs
    exact ⟨none, [], 0, rfl, by simp, by simp, fun i x hi => by simp at hi, fun d hd => by cases hd⟩
  · simp at hcs
    subst hcs
    simp only [if_true] at hmm
    subst hmm
    have hml : maxLen = 9223372036854775807 := rfl
    have c24 : Try.prog.cellsOf 24 = 3 := by kernel_rfl
    rw [c24] at hx
    have each : ∀ i, i < len → ∃ d : Val, (∃ b o, a = ⟨b, o, none⟩ ∧ b < W.heap.size ∧ ValAt W b (o + i * 3) d) ∧ d.wf := by
      intro i hi
      obtain ⟨cs', h1, h2⟩ := hx i (by omega)
      obtain ⟨d, rfl, hw⟩ := open_val h2
      obtain ⟨_, _, hcell⟩ := World.cells?_some h1
      obtain ⟨b, off, spot⟩ := a
      have hspot : spot = none := by
        obtain ⟨cs0, h10, h20⟩ := hx 0 (by omega)
        obtain ⟨d0, rfl, _⟩ := open_val h20
        obtain ⟨_, _, hcell0⟩ := World.cells?_some h10
        have hc0 := hcell0 0 (by omega)
        have : (⟨b, off, spot⟩ : Addr).spot = none := World.cell?_spot (w := W) (a := ⟨b, off, spot⟩) (by simpa [Addr.add] using hc0)
        exact this
      subst hspot
      have k : ∀ j, j < 3 → W.cell? ⟨b, off + i * 3 + j, none⟩ = [Value.int .i64 d.k, .int .i64 d.n, .string d.s][j]? := by
        intro j hj
        have := hcell j hj
        rw [add_add, add_none, ← Nat.add_assoc] at this
        exact this
      have k0 := k 0 (by omega)
      exact ⟨d, ⟨b, off, rfl, World.block_lt_of_cell? W _ k0, k0, k 1 (by omega), k 2 (by omega)⟩, hw⟩
    have : Inhabited Val := ⟨⟨0, 0, ⟨#[]⟩⟩⟩
    obtain ⟨f, hf⟩ := choose_lt each
    have hlen : ((List.range len).map f).length = len := by simp
    refine ⟨some a, (List.range len).map f, _, by rw [hlen], by rw [hlen]; omega, by rw [hlen]; exact hl, ?_, ?_⟩
    · intro i d hi
      have hil : i < len := by have := (List.getElem?_eq_some_iff.1 hi).1; omega
      rw [List.getElem?_map, List.getElem?_range hil] at hi
      simp at hi
      subst hi
      obtain ⟨⟨b, o, rfl, hb, hd⟩, _⟩ := hf i hil
      exact ⟨b, o, rfl, hb, hd⟩
    · intro d hd
      obtain ⟨i, hi, rfl⟩ := List.mem_map.1 hd
      exact (hf i (List.mem_range.1 hi)).2
set_option maxRecDepth 100000 in
theorem open_cel {fuel : Nat} {cs' : List Value} {x : DataW H × List MemPlace} (h : DataW.trod enc Try.prog W 0 (fun _ => true) true fuel 43 cs' = some x) :
    ∃ (d : Cel) (an aa : Option Addr) (cn ca : Nat), cs' = [.int .i64 d.k, .string d.s, .int .i64 d.a, .int .i64 d.b, .slice an d.names.length cn, .slice aa d.vals.length ca] ∧ d.wf ∧ CelRows W (fun b => b < W.heap.size) an cn aa ca d := by
  obtain ⟨xs, n, _, _, hlen, hxl, hf⟩ := DataW.trod_struct Try.underlying43 h
  have hlen' : cs'.length = 6 := hlen.trans (by kernel_rfl)
  have c3 : Try.prog.cellsOf 3 = 1 := by kernel_rfl
  have c9 : Try.prog.cellsOf 9 = 1 := by kernel_rfl
  have c37 : Try.prog.cellsOf 40 = 1 := by kernel_rfl
  have c38 : Try.prog.cellsOf 41 = 1 := by kernel_rfl
  match cs', hlen' with
  | [v0, v1, v2, v3, v4, v5], _ =>
    match xs, hxl with
    | [y0, y1, y2, y3, y4, y5], _ =>
      have g0 := hf 0 _ rfl
      have g1 := hf 1 _ rfl
      have g2 := hf 2 _ rfl
      have g3 := hf 3 _ rfl
      have g4 := hf 4 _ rfl
      have g5 := hf 5 _ rfl
      simp [c3, c9, c37, c38] at g0 g1 g2 g3 g4 g5
      obtain ⟨z0, e0, _, w0⟩ := DataW.trod_int Try.underlying3 g0
      obtain ⟨z1, e1, _, w1⟩ := DataW.trod_string Try.underlying9 g1
      obtain ⟨z2, e2, _, w2⟩ := DataW.trod_int Try.underlying3 g2
      obtain ⟨z3, e3, _, w3⟩ := DataW.trod_int Try.underlying3 g3
      obtain ⟨an, names, cn, rfl, q1, q2, q3, q4⟩ := open_rowS g4
      obtain ⟨aa, vals, ca, rfl, q5, q6, q7, q8⟩ := open_rowV g5
      simp at e0 e1 e2 e3
      subst e0 e1 e2 e3
      exact ⟨⟨z0, z1, z2, z3, names, vals⟩, an, aa, cn, ca, rfl, ⟨i64_of_wf w0, i64_of_wf w2, i64_of_wf w3, w1, q1, q5, q4, q8⟩, q3, q7, q2, q6⟩
set_option maxRecDepth 100000 in
theorem open_rowC {fuel : Nat} {c : Value} {x : DataW H × List MemPlace} (h : DataW.trod enc Try.prog W 0 (fun _ => true) true fuel 22 [c] = some x) :
    ∃ (a : Option Addr) (cs : List Cel) (cap : Nat), c = .slice a cs.length cap ∧ cs.length ≤ 9223372036854775807 ∧ RowC W W.heap.size a cs ∧ ∀ d ∈ cs, d.wf := by
  rcases open_slice Try.underlying22 h with ⟨hcs, _⟩ | ⟨a, len, cap, m, n, D, Pl, hcs, _, hl, hm, hmm, _, hx⟩
  · simp at hcs
    subst hcs
    exact ⟨none, [], 0, rfl, by simp, fun i x hi => by simp at hi, fun d hd => by cases hd⟩
  · simp at hcs
    subst hcs
    simp only [if_true] at hmm
    subst hmm
    have hml : maxLen = 9223372036854775807 := rfl
    have c40 : Try.prog.cellsOf 43 = 6 := by kernel_rfl
    rw [c40] at hx
    have each : ∀ i, i < len → ∃ d : Cel, (∃ b o, a = ⟨b, o, none⟩ ∧ b < W.heap.size ∧ CelAt W (fun b => b < W.heap.size) b (o + i * 6) d) ∧ d.wf := by
      intro i hi
      obtain ⟨cs', h1, h2⟩ := hx i (by omega)
      obtain ⟨d, an, aa, cn, ca, rfl, hw, hrows⟩ := open_cel h2
      obtain ⟨_, _, hcell⟩ := World.cells?_some h1
      obtain ⟨b, off, spot⟩ := a
      have hspot : spot = none := by
        obtain ⟨cs0, h10, h20⟩ := hx 0 (by omega)
        obtain ⟨d0, _, _, _, _, rfl, _, _⟩ := open_cel h20
        obtain ⟨_, _, hcell0⟩ := World.cells?_some h10
        have hc0 := hcell0 0 (by omega)
        have : (⟨b, off, spot⟩ : Addr).spot = none := World.cell?_spot (w := W) (a := ⟨b, off, spot⟩) (by simpa [Addr.add] using hc0)
        exact this
      subst hspot
      have k : ∀ j, j < 6 → W.cell? ⟨b, off + i * 6 + j, none⟩ = [Value.int .i64 d.k, .string d.s, .int .i64 d.a, .int .i64 d.b, .slice an d.names.length cn, .slice aa d.vals.length ca][j]? := by
        intro j hj
        have := hcell j hj
        rw [add_add, add_none, ← Nat.add_assoc] at this
        exact this
      have k0 := k 0 (by omega)
      exact ⟨d, ⟨b, off, rfl, World.block_lt_of_cell? W _ k0, an, cn, aa, ca, k0, k 1 (by omega), k 2 (by omega), k 3 (by omega), k 4 (by omega), k 5 (by omega), hrows⟩, hw⟩
    have : Inhabited Cel := ⟨⟨0, ⟨#[]⟩, 0, 0, [], []⟩⟩
    obtain ⟨f, hf⟩ := choose_lt each
    have hlen : ((List.range len).map f).length = len := by simp
    refine ⟨some a, (List.range len).map f, _, by rw [hlen], by rw [hlen]; omega, ?_, ?_⟩
    · intro i d hi
      have hil : i < len := by have := (List.getElem?_eq_some_iff.1 hi).1; omega
      rw [List.getElem?_map, List.getElem?_range hil] at hi
      simp at hi
      subst hi
      obtain ⟨⟨b, o, rfl, hb, hd⟩, _⟩ := hf i hil
      exact ⟨b, o, rfl, hb, hd⟩
    · intro d hd
      obtain ⟨i, hi, rfl⟩ := List.mem_map.1 hd
      exact (hf i (List.mem_range.1 hi)).2
set_option maxRecDepth 100000 in
theorem open_heap {v : Value} {d : DataW H} {p : List MemPlace} (hv : Value.okWide Try.prog W .any 0 22 v) (h : DataW.Trod enc Try.prog W 0 (fun _ => true) true 22 v d p) :
    ∃ (a : Option Addr) (cs : List Cel) (ca : Nat), v = .slice a cs.length ca ∧ cs.length ≤ 9223372036854775807 ∧ RowC W W.heap.size a cs ∧ (∀ d ∈ cs, d.wf) := by
  obtain ⟨fuel, hf⟩ := h
  obtain ⟨x, l, c, rfl⟩ := okWide_slice Try.underlying22 hv
  exact open_rowC hf
set_option maxRecDepth 100000 in
theorem open_value {v : Value} {d : DataW H} {p : List MemPlace} (hv : Value.okWide Try.prog W .any 0 24 v) (h : DataW.Trod enc Try.prog W 0 (fun _ => true) true 24 v d p) :
    ∃ d : Val, v = .agg #[.int .i64 d.k, .int .i64 d.n, .string d.s] ∧ d.wf := by
  obtain ⟨vs, rfl, hsz⟩ := okWide_struct Try.underlying24 hv
  obtain ⟨fuel, hf⟩ := h
  obtain ⟨d, h1, h2⟩ := open_val hf
  refine ⟨d, ?_, h2⟩
  obtain ⟨l⟩ := vs
  simp [Value.cells] at h1
  rw [h1]
end Go.Proofs.Ytpjafenpjigmkaa
