/- What is looked for in a system, as a plain function. The place of a name in a library: the model's way. -/
import Derived.Test.YtmnkomgdcebniaaGreatSpb
import Derived.Test.YtmnkomgdcebniaaGreatRdg
set_option linter.unusedVariables false
namespace Go.Proofs.YtmnkomgdcebniaaGreat
open Go.ChangeShapes Go.WideShapes Go.ChangeAt Go.RowKit
/-- The place of a text in a row of texts. -/
def idxS (ts : List ByteArray) (s : ByteArray) : Option Nat := ts.findIdx? (fun t => t.toList == s.toList)
/-- No value. -/
def val0 : Val := ⟨0, 0, ⟨#[]⟩⟩
def Ins.link (x : Ins) (s : ByteArray) : Option Lnk := x.links.find? (fun l => l.name.toList == s.toList)
/-- The value under a name of its own. -/
def Ins.own (x : Ins) (s : ByteArray) : Val := match idxS x.names s with
  | some i => (x.vals[i]?).getD val0
  | none => val0
/-- What is told of a name. -/
def look (l : List Ins) (home : Nat) (s : ByteArray) : Val := match l[home]? with
  | none => val0
  | some x => match idxS x.names s with
    | some i => (x.vals[i]?).getD val0
    | none => match x.link s with
      | none => val0
      | some k => match l[k.inst.toNat]? with
        | none => val0
        | some z => z.own k.at_
theorem idxS_take {ts : List ByteArray} {s : ByteArray} {k : Nat} {t : ByteArray} (h : ts[k]? = some t) (hn : idxS (ts.take k) s = none) : idxS (ts.take (k + 1)) s = if (t.toList == s.toList) = true then some k else none := by
  unfold idxS at *
  have hl : (ts.take k).length = k := by rw [List.length_take]; have := (List.getElem?_eq_some_iff.1 h).1; omega
  rw [List.take_add_one, h, List.findIdx?_append, hn]
  simp only [Option.toList, List.findIdx?_cons, List.findIdx?_nil, hl]
  split <;> simp_all
theorem idxS_hit {ts : List ByteArray} {s : ByteArray} {k : Nat} {t : ByteArray} (h : ts[k]? = some t) (hn : idxS (ts.take k) s = none) (he : (t.toList == s.toList) = true) : idxS ts s = some k := by
  have h1 := idxS_take h hn
  rw [if_pos he] at h1
  have e : ts = ts.take (k + 1) ++ ts.drop (k + 1) := (List.take_append_drop _ _).symm
  unfold idxS at *
  rw [e, List.findIdx?_append, h1]
  rfl
theorem find_take {ls : List Lnk} {s : ByteArray} {k : Nat} {l : Lnk} (h : ls[k]? = some l) (hn : (ls.take k).find? (fun l => l.name.toList == s.toList) = none) (he : (l.name.toList == s.toList) = false) : (ls.take (k + 1)).find? (fun l => l.name.toList == s.toList) = none := by
  rw [List.take_add_one, h, List.find?_append, hn]
  simp [he]
theorem find_hit {ls : List Lnk} {s : ByteArray} {k : Nat} {l : Lnk} (h : ls[k]? = some l) (hn : (ls.take k).find? (fun l => l.name.toList == s.toList) = none) (he : (l.name.toList == s.toList) = true) : ls.find? (fun l => l.name.toList == s.toList) = some l := by
  have e : ls = ls.take (k + 1) ++ ls.drop (k + 1) := (List.take_append_drop _ _).symm
  rw [e, List.find?_append, List.take_add_one, h, List.find?_append, hn]
  simp [he]
end Go.Proofs.YtmnkomgdcebniaaGreat
set_option linter.unusedVariables false
namespace Go.Proofs.YtmnkomgdcebniaaGreat
open Go.ChangeShapes Go.WideShapes Go.ChangeAt Go.RowKit
/-- A place, or -1. -/
def atI (o : Option Nat) : Int := match o with
  | some i => (i : Int)
  | none => -1
set_option maxRecDepth 100000 in
set_option maxHeartbeats 1000000 in
theorem l8Name_any (x : Ins) (a1 a2 a3 a4 : Option Addr) (c1 c2 c3 c4 : Nat) (s : ByteArray) (w : World) (hs : x.small) (hr : InsRows w (fun b => b < w.heap.size) a1 a2 a3 a4 c1 c2 c3 c4 x) :
    Calls Tryz.prog 96 #[.agg #[.string x.lib, .int .i64 x.ver, .slice a1 x.names.length c1, .slice a2 x.vals.length c2, .slice a3 x.links.length c3, .slice a4 x.types.length c4], .string s] w fun e w' => Ans w (.int .i64 (atI (idxS x.names s))) e w' := by
  obtain ⟨_, _, ⟨n2, n2'⟩, _⟩ := hs
  obtain ⟨⟨q1, u1⟩, _⟩ := hr
  have HR : Hid (rgS.Row w (fun b => b < w.heap.size) a1 x.names) := q1
  have hb0 : Below w.heap.size w (w.alloc (Obj.cells #[.string x.lib, .int .i64 x.ver, .slice a1 x.names.length c1, .slice a2 x.vals.length c2, .slice a3 x.links.length c3, .slice a4 x.types.length c4] 137)) := (Below.refl _ _).alloc (Nat.le_refl _) _
  have k0 : (w.alloc (Obj.cells #[.string x.lib, .int .i64 x.ver, .slice a1 x.names.length c1, .slice a2 x.vals.length c2, .slice a3 x.links.length c3, .slice a4 x.types.length c4] 137)).heap[w.heap.size]? = some (Obj.cells #[.string x.lib, .int .i64 x.ver, .slice a1 x.names.length c1, .slice a2 x.vals.length c2, .slice a3 x.links.length c3, .slice a4 x.types.length c4] 137) := blk_at _ _ _ rfl
  have hsA : w.heap.size < (w.alloc (Obj.cells #[.string x.lib, .int .i64 x.ver, .slice a1 x.names.length c1, .slice a2 x.vals.length c2, .slice a3 x.links.length c3, .slice a4 x.types.length c4] 137)).heap.size := by simp
  clear q1
  go_enter Tryz.func96, Tryz.ntmps96
  go_wp2
  generalize w.alloc (Obj.cells #[.string x.lib, .int .i64 x.ver, .slice a1 x.names.length c1, .slice a2 x.vals.length c2, .slice a3 x.links.length c3, .slice a4 x.types.length c4] 137) = W0 at *
  have K0 : Hid (W0.heap[w.heap.size]? = some (Obj.cells #[.string x.lib, .int .i64 x.ver, .slice a1 x.names.length c1, .slice a2 x.vals.length c2, .slice a3 x.links.length c3, .slice a4 x.types.length c4] 137)) := k0
  clear k0
  go_loopw [5] (fun o wr => ∃ k : Nat, k ≤ x.names.length ∧ o = .int .i64 k ∧ idxS (x.names.take k) s = none ∧ wr = W0) (fun o _ => x.names.length - (intOf o).toNat)
  case atStart => exact ⟨0, by omega, rfl, rfl, rfl⟩
  case round =>
    obtain ⟨k, hk, rfl, hnone, rfl⟩ := hrel
    have z2 := cell_blk (j := 2) K0.out rfl
    by_cases hlt : k < x.names.length
    · obtain ⟨t, ht⟩ : ∃ t, x.names[k]? = some t := ⟨_, List.getElem?_eq_getElem hlt⟩
      obtain ⟨b1, o1, cs, rfl, hbb, rfl, hl⟩ := (HR.out.below hb0) k t ht
      have e0 : wr.cell? ⟨b1, o1 + k, none⟩ = some (.string t) := by have := hl 0 _ rfl; simpa [rgS] using this
      have HT : Hid (x.names[k]? = some t) := ht
      have HN : Hid (idxS (x.names.take k) s = none) := hnone
      clear ht hnone hl
      cases he : (t.toList == s.toList)
      · have HQ : Hid (idxS (x.names.take (k + 1)) s = none) := by show _ = _; rw [idxS_take HT.out HN.out, he]; rfl
        go_wp2
        go_roundw
        case rel => exact ⟨k + 1, by omega, by go_num, HQ.out, by first | rfl | trivial⟩
        case measure => simp [intOf]; omega
      · have HQ : Hid (idxS x.names s = some k) := idxS_hit HT.out HN.out he
        go_wp2
        go_ret
        exact ⟨by rw [HQ.out]; rfl, hb0⟩
    · obtain rfl : k = x.names.length := by omega
      rw [List.take_length] at hnone
      have HQ : Hid (idxS x.names s = none) := hnone
      have hlt' : decide ((x.names.length : Int) < (x.names.length : Int)) = false := by simp
      clear hnone
      go_wp2
      go_ret
      exact ⟨by rw [HQ.out]; rfl, hb0⟩
end Go.Proofs.YtmnkomgdcebniaaGreat
