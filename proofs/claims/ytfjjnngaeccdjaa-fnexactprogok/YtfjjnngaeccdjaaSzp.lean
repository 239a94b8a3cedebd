/- The size of a program that comes in: rows of nodes, and the whole. -/
import Derived.Test.YtfjjnngaeccdjaaSzn
namespace Go.Proofs.Ytfjjnngaeccdjaa
open Go.ChangeShapes Go.WideShapes Go.ChangeAt Go.RowKit
/-- How much nodes hold. -/
def bulkN : List Nod → Nat
  | [] => 0
  | x :: r => 1 + x.bulk + bulkN r
theorem bulkN_append : ∀ (a b : List Nod), bulkN (a ++ b) = bulkN a + bulkN b
  | [], b => by simp [bulkN]
  | d :: a, b => by simp [bulkN, bulkN_append a b]; omega
theorem bulkN_take_succ {cs : List Nod} {i : Nat} {d : Nod} (h : cs[i]? = some d) : bulkN (cs.take (i + 1)) = bulkN (cs.take i) + (1 + d.bulk) := by
  rw [List.take_add_one, h]
  simp [bulkN_append, bulkN]
theorem bulkN_len : ∀ (cs : List Nod), cs.length ≤ bulkN cs
  | [] => by simp [bulkN]
  | d :: cs => by have := bulkN_len cs; simp [bulkN]; omega
theorem bulkN_take_le (cs : List Nod) (i : Nat) : bulkN (cs.take i) + (cs.length - i) ≤ bulkN cs := by
  have := bulkN_len (cs.drop i)
  rw [List.length_drop] at this
  conv => rhs; rw [← List.take_append_drop i cs, bulkN_append]
  omega
theorem bulkN_mem {cs : List Nod} {x : Nod} (h : x ∈ cs) : x.bulk ≤ bulkN cs := by
  obtain ⟨a, b, rfl⟩ := List.append_of_mem h
  rw [bulkN_append]
  simp [bulkN]
  omega
theorem bulkN_flat : ∀ (cs : List Nod), (flat cs).length ≤ bulkN cs
  | [] => by simp [flat, bulkN]
  | d :: cs => by
    have h := bulkN_flat cs
    have e : flat (d :: cs) = d.args ++ flat cs := by simp [flat]
    rw [e, List.length_append]
    simp [bulkN, Nod.bulk]
    omega
theorem small_of {cs : List Nod} (hw : ∀ d ∈ cs, d.wf) (h : bulkN cs ≤ 1048576) : ∀ d ∈ cs, d.small := by
  intro d hd
  obtain ⟨w1, w2, _⟩ := hw d hd
  have hb := bulkN_mem hd
  have hl := bulkS_len d.names
  unfold Nod.bulk at hb
  exact ⟨w1, w2, by omega, by omega, by omega, fun x hx => by have := bulkS_mem hx; omega⟩
set_option maxRecDepth 100000 in
set_option maxHeartbeats 1000000 in
theorem szNodeS_any (a : Option Addr) (cs : List Nod) (cap : Nat) (left : Nat) (w : World) (hl : left ≤ 1048576) (hn : cs.length ≤ 9223372036854775807) (hr : RowN w w.heap.size a cs) (hwf : ∀ d ∈ cs, d.wf) :
    Calls Try.prog 15 #[.slice a cs.length cap, .int .i64 left] w fun e w' => Ans w (.int .i64 (leftOf left (bulkN cs))) e w' := by
  by_cases h : left < cs.length
  · have HL : Hid (leftOf left (bulkN cs) = -1) := if_pos (by have := bulkN_len cs; omega)
    have hd : decide ((left : Int) - (cs.length : Int) < 0) = true := by simp; omega
    go_enter Try.func15, Try.ntmps15
    go_wp2
    all_goals go_ret
    all_goals exact ⟨by rw [HL.out]; rfl, Below.refl _ _⟩
  · have hd : decide ((left : Int) - (cs.length : Int) < 0) = false := by simp; omega
    have HR : Hid (RowN w w.heap.size a cs) := hr
    have HW : Hid (∀ d ∈ cs, d.wf) := hwf
    clear hr hwf
    go_enter Try.func15, Try.ntmps15
    go_wp2
    go_loopw [1, 5] (fun t o wr => ∃ (i m : Nat), i ≤ cs.length ∧ m + bulkN (cs.take i) + (cs.length - i) = left ∧ t = .int .i64 m ∧ o = .int .i64 i ∧ Below w.heap.size w wr)
      (fun _ o _ => cs.length - (intOf o).toNat)
    case atStart => exact ⟨0, left - cs.length, by omega, by simp [bulkN]; omega, by go_num, rfl, Below.refl _ _⟩
    case round =>
      obtain ⟨i, m, hi, hm, rfl, rfl, hb⟩ := hrel
      by_cases hlt : i < cs.length
      · obtain ⟨d, hd⟩ : ∃ d, cs[i]? = some d := ⟨_, List.getElem?_eq_getElem hlt⟩
        obtain ⟨b1, o1, rfl, hbb, an, cn, aa, ca, v0, v1, v2, v3, v4, hrows⟩ := HR.out i d hd
        have c0 := cell_keep v0 hb hbb
        have c1 := cell_keep v1 hb hbb
        have c2 := cell_keep v2 hb hbb
        have c3 := cell_keep v3 hb hbb
        have c4 := cell_keep v4 hb hbb
        have hsz := hb.size
        have HM : Hid (m + bulkN (cs.take i) + (cs.length - i) = left) := hm
        have hm' : m ≤ 1048576 := by omega
        have hbs := bulkN_take_succ hd
        have hle := bulkN_take_le cs (i + 1)
        have HZ : Hid (Calls Try.prog 27 #[.agg #[.int .i64 d.k, .int .i64 d.n, .string d.s, .slice an d.names.length cn, .slice aa d.args.length ca], .int .i64 m] wr fun e w' => Ans wr (.int .i64 (leftOf m d.bulk)) e w') := szNode_any d an aa cn ca m wr hm' (HW.out d (List.mem_of_getElem? hd)) (hrows.keep fun b h => ⟨by omega, hb.block b h⟩)
        clear hm v0 v1 v2 v3 v4 hrows hd
        by_cases hq : m < d.bulk
        · rw [leftOf_neg hq] at HZ
          have HL : Hid (leftOf left (bulkN cs) = -1) := if_pos (by have := HM.out; omega)
          clear hbs hle
          go_wp2_with (go_at_call 27; refine HZ.out.mono ?_; rintro e w1 ⟨rfl, hb1⟩)
          go_ret
          exact ⟨by rw [HL.out]; rfl, hb.trans (hb1.mono hsz)⟩
        · rw [leftOf_nat hq] at HZ
          have HQ : Hid ((m - d.bulk) + bulkN (cs.take (i + 1)) + (cs.length - (i + 1)) = left) := by have := HM.out; show _ = _; omega
          generalize m - d.bulk = q at *
          clear hbs hle hq
          go_wp2_with (go_at_call 27; refine HZ.out.mono ?_; rintro e w1 ⟨rfl, hb1⟩)
          go_roundw
          case rel => exact ⟨i + 1, q, by omega, HQ.out, rfl, by go_num, hb.trans (hb1.mono hsz)⟩
          case measure => simp [intOf]; omega
      · have hlt' : decide ((i : Int) < (cs.length : Int)) = false := by simp; omega
        obtain rfl : i = cs.length := by omega
        rw [List.take_length] at hm
        have HL : Hid (leftOf left (bulkN cs) = m) := by show _ = _; rw [show leftOf left (bulkN cs) = (left : Int) - bulkN cs from if_neg (by omega)]; omega
        clear hm
        go_wp2
        go_ret
        exact ⟨by rw [HL.out]; rfl, hb⟩
theorem szProg_any (a : Option Addr) (cs : List Nod) (cap : Nat) (root : Int) (left : Nat) (w : World) (hl : left ≤ 1048576) (hn : cs.length ≤ 9223372036854775807) (hr : RowN w w.heap.size a cs) (hwf : ∀ d ∈ cs, d.wf) :
    Calls Try.prog 6 #[.agg #[.slice a cs.length cap, .int .i64 root], .int .i64 left] w fun e w' => Ans w (.int .i64 (leftOf left (bulkN cs))) e w' := by
  have hbB : Below w.heap.size w (w.alloc (Obj.cells #[.slice a cs.length cap, .int .i64 root] 24)) := (Below.refl _ _).alloc (Nat.le_refl _) _
  have HZ : Hid (∀ w1, Below w.heap.size w w1 → Calls Try.prog 15 #[.slice a cs.length cap, .int .i64 left] w1 fun e w' => Ans w1 (.int .i64 (leftOf left (bulkN cs))) e w') := fun w1 h => szNodeS_any a cs cap left w1 hl hn ((hr.below h).mono h.size) hwf
  clear hr hwf
  by_cases h : left < bulkN cs
  · rw [leftOf_neg h] at HZ ⊢
    clear h
    go_enter Try.func6, Try.ntmps6
    go_wp2_with (go_at_call 15; refine (HZ.out _ hbB).mono ?_; rintro e w1 ⟨rfl, hb1⟩)
    go_ret
    exact ⟨rfl, hbB.trans (hb1.mono hbB.size)⟩
  · rw [leftOf_nat h] at HZ ⊢
    generalize left - bulkN cs = q at *
    clear h
    go_enter Try.func6, Try.ntmps6
    go_wp2_with (go_at_call 15; refine (HZ.out _ hbB).mono ?_; rintro e w1 ⟨rfl, hb1⟩)
    go_ret
    exact ⟨rfl, hbB.trans (hb1.mono hbB.size)⟩
end Go.Proofs.Ytfjjnngaeccdjaa
