/- A node of a unit, and whether there is one. -/
import Derived.Test.YtlacidojljilaaaGreatDoorSpb
set_option linter.unusedVariables false
set_option maxRecDepth 100000
set_option maxHeartbeats 8000000
namespace Go.Proofs.YtlacidojljilaaaGreatDoor
open Go.ChangeShapes Go.WideShapes Go.ChangeAt Go.RowKit
def nodeAt (us : List Unt) (x z : Int) : Option Nod := if 0 ≤ x ∧ 0 ≤ z then (us[x.toNat]?).bind (fun u => u.prog.nodes[z.toNat]?) else none
theorem nodeAt_neg {us : List Unt} {x z : Int} (h : x < 0) : nodeAt us x z = none := if_neg (by omega)
theorem nodeAt_neg2 {us : List Unt} {x z : Int} (h : z < 0) : nodeAt us x z = none := if_neg (by omega)
theorem nodeAt_out {us : List Unt} {x z : Int} (h : (us.length : Int) ≤ x) : nodeAt us x z = none := by
 unfold nodeAt
 split
 ·rw [List.getElem?_eq_none (by omega)]; rfl
 ·rfl
theorem nodeAt_in {us : List Unt} {i : Nat} {z : Int} {u : Unt} (hu : us[i]? = some u) (hz : 0 ≤ z) : nodeAt us (i : Int) z = u.prog.nodes[z.toNat]? := by
 unfold nodeAt
 rw [if_pos ⟨by omega, hz⟩, Int.toNat_natCast, hu]; rfl
theorem isFnB_eq {us : List Unt} {x z : Int} (hx : 0 ≤ x) (hz : 0 ≤ z) : isFnB us x z = match nodeAt us x z with
  | none => false
  | some d => decide (d.k = 7) := by
 unfold isFnB nodeAt
 rw [if_pos ⟨hx, hz⟩]
 cases us[x.toNat]? <;> rfl
theorem res_nt {fn : Func} {p u : Tmp} (h : fn.results = #[.cell p 126, .tmp u]) (tmps : Array Value) (w : World) (g : Nat) (v0 v1 v2 v3 v4 : Value)
  (hp : tmps.getD p undef = .pointer (some ⟨g, 0, none⟩)) (hg : w.heap[g]? = some (.cells #[v0, v1, v2, v3, v4] 126 (0, 0))) :
  (results fn tmps).run Tryz.prog w = .ok (.tuple #[.agg #[v0, v1, v2, v3, v4], tmps.getD u undef]) w := by
 have hp' : tmps[p]?.getD undef = .pointer (some ⟨g, 0, none⟩) := by simpa using hp
 simp [results, h, hp', asAddr, run_loadVar_row w g 126 126 #[v0, v1, v2, v3, v4] (0, 0) _ hg Tryz.underlying126 rfl (by kernel_rfl)]
def NdPost (us : List Unt) (x z : Int) (w : World) (e : Ending) (w' : World) : Prop :=
 (∃ (d : Nod) (an aa : Option Addr) (cn ca : Nat), nodeAt us x z = some d ∧ d.small ∧ e = .returned (.tuple #[.agg #[.int .i64 d.k, .int .i64 d.n, .string d.s, .slice an d.names.length cn, .slice aa d.args.length ca], .bool true]) ∧ NodRows w (fun b => b < w.heap.size) an cn aa ca d ∧ Below w.heap.size w w') ∨
 (nodeAt us x z = none ∧ e = .returned (.tuple #[.agg #[.int .i64 0, .int .i64 0, .string ⟨#[]⟩, .slice none 0 0, .slice none 0 0], .bool false]) ∧ Below w.heap.size w w')
theorem nodeAt_any (a : Option Addr) (us : List Unt) (ca : Nat) (x z : Int) (w : World) (hn : us.length ≤ 1048576) (hs : ∀ d ∈ us, Unt.small d) (hr : rgU.Row w (fun b => b < w.heap.size) a us) :
  Calls Tryz.prog 55 #[.slice a us.length ca, .int .i64 x, .int .i64 z] w fun e w' => NdPost us x z w e w' := by
 by_cases h0 : x < 0
 ·have g0 : decide (x < 0) = true := decide_eq_true h0
  have HN : Hid (nodeAt us x z = none) := nodeAt_neg h0
  clear hr hs h0
  go_enter Tryz.func55, Tryz.ntmps55
  go_wp2_with fail
  refine bodyPost_ret (res_nt rfl _ _ w.heap.size _ _ _ _ _ rfl (blk_at _ _ _ rfl)) rfl ?_
  exact .inr ⟨HN.out, rfl, bR _ _⟩
 have g0 : decide (x < 0) = false := decide_eq_false h0
 by_cases h1 : (us.length : Int) ≤ x
 ·have g1 : decide ((us.length : Int) ≤ x) = true := decide_eq_true h1
  have HN : Hid (nodeAt us x z = none) := nodeAt_out h1
  clear hr hs h0 h1
  go_enter Tryz.func55, Tryz.ntmps55
  go_wp2_with fail
  refine bodyPost_ret (res_nt rfl _ _ w.heap.size _ _ _ _ _ rfl (blk_at _ _ _ rfl)) rfl ?_
  exact .inr ⟨HN.out, rfl, bR _ _⟩
 have g1 : decide ((us.length : Int) ≤ x) = false := decide_eq_false h1
 obtain ⟨i, rfl⟩ : ∃ i : Nat, x = (i : Int) := ⟨x.toNat, by omega⟩
 have hi : i < us.length := by omega
 obtain ⟨u, hu⟩ : ∃ u, us[i]? = some u := ⟨_, List.getElem?_eq_getElem hi⟩
 obtain ⟨b1, o1, cs, rfl, hbb, ⟨an, cn, rfl, hrn, hcn⟩, hl⟩ := hr i u hu
 have y1 : w.cell? ⟨b1, o1 + i * 3 + 1, none⟩ = some (.slice an u.prog.nodes.length cn) := hl 1 _ rfl
 have y2 : ∀ o, (w.alloc o).cell? ⟨b1, o1 + i * 3 + 1, none⟩ = some (.slice an u.prog.nodes.length cn) := fun o => (World.cell?_of_block (w := w) (a := ⟨b1, _, none⟩) (Below.heap_alloc _ _ _ hbb)).trans y1
 have hsn := (hs u (List.mem_of_getElem? hu)).2.1
 by_cases h2 : z < 0
 ·have g2 : decide (z < 0) = true := decide_eq_true h2
  have HN : Hid (nodeAt us i z = none) := nodeAt_neg2 h2
  clear hr hs h2 hrn hl hu
  go_enter Tryz.func55, Tryz.ntmps55
  go_wp2_with fail
  refine bodyPost_ret (res_nt rfl _ _ w.heap.size _ _ _ _ _ rfl (blk_at _ _ _ rfl)) rfl ?_
  exact .inr ⟨HN.out, rfl, bR _ _⟩
 have g2 : decide (z < 0) = false := decide_eq_false h2
 have HNA : Hid (nodeAt us i z = u.prog.nodes[z.toNat]?) := nodeAt_in hu (by omega)
 by_cases h3 : (u.prog.nodes.length : Int) ≤ z
 ·have g3 : decide ((u.prog.nodes.length : Int) ≤ z) = true := decide_eq_true h3
  have HN : Hid (nodeAt us i z = none) := by show _ = _; rw [HNA.out]; exact List.getElem?_eq_none (by omega)
  clear hr hs h2 hrn hl hu h3
  go_enter Tryz.func55, Tryz.ntmps55
  go_wp2_with fail
  refine bodyPost_ret (res_nt rfl _ _ w.heap.size _ _ _ _ _ rfl (blk_at _ _ _ rfl)) rfl ?_
  exact .inr ⟨HN.out, rfl, bR _ _⟩
 have g3 : decide ((u.prog.nodes.length : Int) ≤ z) = false := decide_eq_false h3
 obtain ⟨j, rfl⟩ : ∃ j : Nat, z = (j : Int) := ⟨z.toNat, by omega⟩
 have hj : j < u.prog.nodes.length := by omega
 obtain ⟨d, hd⟩ : ∃ d, u.prog.nodes[j]? = some d := ⟨_, List.getElem?_eq_getElem hj⟩
 obtain ⟨b2, o2, cs2, rfl, hbb2, ⟨an, cn2, aa, ca2, rfl, hrows⟩, hl2⟩ := hrn j d hd
 have HND : Hid (nodeAt us i j = some d) := by show _ = _; rw [HNA.out]; simpa using hd
 have HSD : Hid d.small := hsn.2 d (List.mem_of_getElem? hd)
 have k2 : ∀ o, (w.alloc o).heap[b2]? = w.heap[b2]? := fun o => Below.heap_alloc _ _ _ hbb2
 have z0 : ∀ o, (w.alloc o).cell? ⟨b2, o2 + j * 5, none⟩ = some (.int .i64 d.k) := fun o => (World.cell?_of_block (w := w) (a := ⟨b2, _, none⟩) (k2 o)).trans (hl2 0 _ rfl)
 have z1 : ∀ o, (w.alloc o).cell? ⟨b2, o2 + j * 5 + 1, none⟩ = some (.int .i64 d.n) := fun o => (World.cell?_of_block (w := w) (a := ⟨b2, _, none⟩) (k2 o)).trans (hl2 1 _ rfl)
 have z2 : ∀ o, (w.alloc o).cell? ⟨b2, o2 + j * 5 + 2, none⟩ = some (.string d.s) := fun o => (World.cell?_of_block (w := w) (a := ⟨b2, _, none⟩) (k2 o)).trans (hl2 2 _ rfl)
 have z3 : ∀ o, (w.alloc o).cell? ⟨b2, o2 + j * 5 + 3, none⟩ = some (.slice an d.names.length cn2) := fun o => (World.cell?_of_block (w := w) (a := ⟨b2, _, none⟩) (k2 o)).trans (hl2 3 _ rfl)
 have z4 : ∀ o, (w.alloc o).cell? ⟨b2, o2 + j * 5 + 4, none⟩ = some (.slice aa d.args.length ca2) := fun o => (World.cell?_of_block (w := w) (a := ⟨b2, _, none⟩) (k2 o)).trans (hl2 4 _ rfl)
 have HRW : Hid (NodRows w (fun b => b < w.heap.size) an cn2 aa ca2 d) := hrows
 have hjl : (j : Int) < (u.prog.nodes.length : Int) := by omega
 have hil : (i : Int) < (us.length : Int) := by omega
 have hsl := hsn.1
 clear hr hs h2 hrn hl hu h3 hl2 hd HNA hrows hsn h0 h1 k2
 go_enter Tryz.func55, Tryz.ntmps55
 go_wp2_with fail
 refine bodyPost_ret (res_nt rfl _ _ w.heap.size _ _ _ _ _ rfl (blk_at _ _ _ rfl)) rfl ?_
 exact .inl ⟨d, an, aa, cn2, ca2, HND.out, HSD.out, rfl, HRW.out, bR _ _⟩
theorem isFn_any (a : Option Addr) (us : List Unt) (ca : Nat) (x z : Int) (w : World) (hn : us.length ≤ 1048576) (hs : ∀ d ∈ us, Unt.small d) (hx : 0 ≤ x) (hz : 0 ≤ z) (hr : rgU.Row w (fun b => b < w.heap.size) a us) :
  Calls Tryz.prog 120 #[.slice a us.length ca, .int .i64 x, .int .i64 z] w fun e w' => Ans w (.bool (isFnB us x z)) e w' := by
 have HC : Hid (Calls Tryz.prog 55 #[.slice a us.length ca, .int .i64 x, .int .i64 z] w fun e w' => NdPost us x z w e w') := nodeAt_any a us ca x z w hn hs hr
 rw [isFnB_eq hx hz]
 clear hr hs hx hz
 cases hna : nodeAt us x z with
 | none =>
  show Calls _ _ _ _ fun e w' => Ans w (.bool false) e w'
  have HC2 : Hid (Calls Tryz.prog 55 #[.slice a us.length ca, .int .i64 x, .int .i64 z] w fun e w' => e = .returned (.tuple #[.agg #[.int .i64 0, .int .i64 0, .string ⟨#[]⟩, .slice none 0 0, .slice none 0 0], .bool false]) ∧ Below w.heap.size w w') := HC.out.mono (by
   rintro e w1 (⟨d, an, aa, cn, ca', hd, -, -⟩ | ⟨hd, rfl, hb⟩)
   ·rw [hna] at hd; cases hd
   ·exact ⟨rfl, hb⟩)
  clear HC hna
  go_enter Tryz.func120, Tryz.ntmps120
  go_wp2_with fail
  refine HC2.out.mono ?_
  rintro e w1 ⟨rfl, hb⟩
  go_wp2
  go_ret
  exact ⟨rfl, hb.alloc hb.size _⟩
 | some d =>
  show Calls _ _ _ _ fun e w' => Ans w (.bool (decide (d.k = 7))) e w'
  have HC2 : Hid (Calls Tryz.prog 55 #[.slice a us.length ca, .int .i64 x, .int .i64 z] w fun e w' => ∃ (an aa : Option Addr) (cn ca : Nat), e = .returned (.tuple #[.agg #[.int .i64 d.k, .int .i64 d.n, .string d.s, .slice an d.names.length cn, .slice aa d.args.length ca], .bool true]) ∧ Below w.heap.size w w') := HC.out.mono (by
   rintro e w1 (⟨d', an, aa, cn, ca', hd, -, rfl, -, hb⟩ | ⟨hd, -⟩)
   ·rw [hna] at hd
    obtain rfl := Option.some.inj hd
    exact ⟨an, aa, cn, ca', rfl, hb⟩
   ·rw [hna] at hd; cases hd)
  clear HC hna
  by_cases hk : d.k = 7
  ·have g3 : (d.k == 7) = true := beq_iff_eq.2 hk
   rw [decide_eq_true hk]
   clear hk
   go_enter Tryz.func120, Tryz.ntmps120
   go_wp2_with fail
   refine HC2.out.mono ?_
   rintro e w1 ⟨an, aa, cn, ca', rfl, hb⟩
   go_wp2
   go_ret
   exact ⟨rfl, hb.alloc hb.size _⟩
  ·have g3 : (d.k == 7) = false := beq_eq_false_iff_ne.2 hk
   rw [decide_eq_false hk]
   clear hk
   go_enter Tryz.func120, Tryz.ntmps120
   go_wp2_with fail
   refine HC2.out.mono ?_
   rintro e w1 ⟨an, aa, cn, ca', rfl, hb⟩
   go_wp2
   go_ret
   exact ⟨rfl, hb.alloc hb.size _⟩
end Go.Proofs.YtlacidojljilaaaGreatDoor
