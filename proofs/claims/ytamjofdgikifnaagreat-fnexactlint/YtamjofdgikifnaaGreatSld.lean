/- Sources: too many of a kind; names of a kind alike; each known. -/
import Derived.Test.YtamjofdgikifnaaGreatSlc
import Derived.Deep.RegionWith
set_option linter.unusedVariables false
namespace Go.Proofs.YtamjofdgikifnaaGreat
open Go.ChangeShapes Go.WideShapes Go.ChangeAt Go.RowKit
def NmsAt (l : List ByteArray) (n : Nat) (w : World) (a : Option Addr) (cap : Nat) : Prop := l.length = n ∧ n ≤ cap ∧ RowS w w.heap.size a l
def NmP (l : List ByteArray) (n : Nat) (w : World) (e : Ending) (w' : World) : Prop := ∃ a cap, e = .returned (.slice a n cap) ∧ NmsAt l n w' a cap ∧ Below w.heap.size w w'
theorem NmsAt.keep {l : List ByteArray} {n cap : Nat} {w w' : World} {a : Option Addr} (h : NmsAt l n w a cap) (hb : Below w.heap.size w w') : NmsAt l n w' a cap := ⟨h.1, h.2.1, (h.2.2.below hb).mono hb.size⟩
theorem NmPost.to {α : Type} {f : α → ByteArray} {l : List α} {w w' : World} {e : Ending} (h : NmPost (l.map f) w e w') : NmP (l.map f) l.length w e w' := by
 obtain ⟨a, cap, rfl, h1, h2, h3⟩ := h
 have hl : (l.map f).length = l.length := List.length_map f
 exact ⟨a, cap, by rw [hl], ⟨hl, by rw [← hl]; exact h1, h2.rowS⟩, h3⟩
theorem twice_at {l : List ByteArray} {n cap : Nat} {w : World} {a : Option Addr} (hn : n ≤ 1048576) (h : NmsAt l n w a cap) : Calls Tryz.prog 83 #[.slice a n cap] w fun e w' => Ans w (.bool (twA l)) e w' := by
 obtain ⟨rfl, h1, h2⟩ := h
 exact l11Twice_any a l cap w hn h1 h2
theorem all_at {l : List ByteArray} {n cap : Nat} {w : World} {a : Option Addr} (hn : n ≤ 1048576) (hs : ∀ x ∈ l, x.size ≤ 1048576) (h : NmsAt l n w a cap) : Calls Tryz.prog 55 #[.slice a n cap] w fun e w' => Ans w (.bool (l.all nB)) e w' := by
 obtain ⟨rfl, h1, h2⟩ := h
 exact l11All_any a l cap w hn h2 hs
theorem names_at {l : List ByteArray} {n cap : Nat} {w : World} {a : Option Addr} (hn : n ≤ 1048576) (hs : ∀ x ∈ l, x.size ≤ 1048576) (h : NmsAt l n w a cap) : Calls Tryz.prog 89 #[.slice a n cap] w fun e w' => Ans w (.bool (nmA l)) e w' := by
 obtain ⟨rfl, h1, h2⟩ := h
 exact namesOk_any a l cap w hn h1 h2 hs
theorem in_at {l : List ByteArray} {n cap : Nat} {w : World} {a : Option Addr} (s : ByteArray) (hn : n ≤ 1048576) (h : NmsAt l n w a cap) : Calls Tryz.prog 27 #[.slice a n cap, .string s] w fun e w' => Ans w (.bool (hasS l s)) e w' := by
 obtain ⟨rfl, h1, h2⟩ := h
 exact l3In_any a l cap s w hn h2
theorem has_at {l : List ByteArray} {n cap : Nat} {w : World} {a : Option Addr} (s : ByteArray) (hn : n ≤ 1048576) (h : NmsAt l n w a cap) : Calls Tryz.prog 71 #[.slice a n cap, .string s] w fun e w' => Ans w (.bool (hasS l s)) e w' := by
 obtain ⟨rfl, h1, h2⟩ := h
 exact containsS_any a l cap s w hn h2
theorem among_at {l m : List ByteArray} {n n' cap cap' : Nat} {w : World} {a c : Option Addr} (hn : n ≤ 1048576) (hn' : n' ≤ 1048576) (h : NmsAt l n w a cap) (h' : NmsAt m n' w c cap') : Calls Tryz.prog 91 #[.slice a n cap, .slice c n' cap'] w fun e w' => Ans w (.bool (l.all (hasS m))) e w' := by
 obtain ⟨rfl, h1, h2⟩ := h
 obtain ⟨rfl, h3, h4⟩ := h'
 exact amongAll_any a c l m cap cap' w hn h2 hn' h4
structure SrxAt (x : Srx) (a1 a2 a3 a4 a5 : Option Addr) (c1 c2 c3 c4 c5 : Nat) (w : World) : Prop where
 sname : x.name.size ≤ 1048576
 simps : ∀ t ∈ x.imps, t.size ≤ 1048576
 sexps : ∀ t ∈ x.exps, t.size ≤ 1048576
 stns : ∀ t ∈ x.tns, t.size ≤ 1048576
 sdns : ∀ t ∈ x.dns, t.size ≤ 1048576
 scns : ∀ t ∈ x.cns, t.size ≤ 1048576
 stypes : ∀ t ∈ x.types, Typ.small t
 sdefs : ∀ t ∈ x.defs, Dfn.small t
 sconvs : ∀ t ∈ x.convs, Dfn.small t
 l1 : x.imps.length ≤ 1048576
 l2 : x.exps.length ≤ 1048576
 l3 : x.types.length ≤ 1048576
 l4 : x.defs.length ≤ 1048576
 l5 : x.convs.length ≤ 1048576
 imps : ∀ w2, Below w.heap.size w w2 → NmsAt x.imps x.imps.length w2 a1 c1
 exps : ∀ w2, Below w.heap.size w w2 → NmsAt x.exps x.exps.length w2 a2 c2
 types : ∀ w2, Below w.heap.size w w2 → rgT.Row w2 (fun b => b < w2.heap.size) a3 x.types
 defs : ∀ w2, Below w.heap.size w w2 → rgD.Row w2 (fun b => b < w2.heap.size) a4 x.defs
 convs : ∀ w2, Below w.heap.size w w2 → rgD.Row w2 (fun b => b < w2.heap.size) a5 x.convs
theorem srxAt (x : Srx) (a1 a2 a3 a4 a5 : Option Addr) (c1 c2 c3 c4 c5 : Nat) (w : World) (hs : x.small) (hr : SrxRows w (fun b => b < w.heap.size) a1 a2 a3 a4 a5 c1 c2 c3 c4 c5 x) : SrxAt x a1 a2 a3 a4 a5 c1 c2 c3 c4 c5 w := by
 obtain ⟨s0, ⟨s1, s1'⟩, ⟨s2, s2'⟩, ⟨s3, s3'⟩, ⟨s4, s4'⟩, ⟨s5, s5'⟩⟩ := hs
 obtain ⟨⟨r1, t1⟩, ⟨r2, t2⟩, ⟨r3, t3⟩, ⟨r4, t4⟩, ⟨r5, t5⟩⟩ := hr
 exact ⟨s0, s1', s2', fun t ht => by obtain ⟨d, hd, rfl⟩ := List.mem_map.1 ht; exact (s3' d hd).1, fun t ht => by obtain ⟨d, hd, rfl⟩ := List.mem_map.1 ht; exact (s4' d hd).1, fun t ht => by obtain ⟨d, hd, rfl⟩ := List.mem_map.1 ht; exact (s5' d hd).1, s3', s4', s5', s1, s2, s3, s4, s5,
  fun w2 hb => ⟨rfl, t1, ((rowS_iff.1 r1).below hb).mono hb.size⟩, fun w2 hb => ⟨rfl, t2, ((rowS_iff.1 r2).below hb).mono hb.size⟩, fun w2 hb => r3.now (B := 0) hb, fun w2 hb => r4.now (B := 0) hb, fun w2 hb => r5.now (B := 0) hb⟩
set_option maxRecDepth 100000 in
set_option maxHeartbeats 1000000 in
theorem l11Many_any (x : Srx) (a1 a2 a3 a4 a5 : Option Addr) (c1 c2 c3 c4 c5 : Nat) (w : World) (hs : x.small) (hr : SrxRows w (fun b => b < w.heap.size) a1 a2 a3 a4 a5 c1 c2 c3 c4 c5 x) :
  Calls Tryz.prog 52 #[.agg #[.string x.name, .slice a1 x.imps.length c1, .slice a2 x.exps.length c2, .slice a3 x.types.length c3, .slice a4 x.defs.length c4, .slice a5 x.convs.length c5]] w fun e w' => Ans w (.bool (x.many)) e w' := by
 have S : Hid (SrxAt x a1 a2 a3 a4 a5 c1 c2 c3 c4 c5 w) := srxAt x a1 a2 a3 a4 a5 c1 c2 c3 c4 c5 w hs hr
 clear hs hr
 have hb0 : Below w.heap.size w (w.alloc (Obj.cells #[.string x.name, .slice a1 x.imps.length c1, .slice a2 x.exps.length c2, .slice a3 x.types.length c3, .slice a4 x.defs.length c4, .slice a5 x.convs.length c5] 34)) := (Below.refl _ _).alloc (Nat.le_refl _) _
 have k0 : (w.alloc (Obj.cells #[.string x.name, .slice a1 x.imps.length c1, .slice a2 x.exps.length c2, .slice a3 x.types.length c3, .slice a4 x.defs.length c4, .slice a5 x.convs.length c5] 34)).heap[w.heap.size]? = some (Obj.cells #[.string x.name, .slice a1 x.imps.length c1, .slice a2 x.exps.length c2, .slice a3 x.types.length c3, .slice a4 x.defs.length c4, .slice a5 x.convs.length c5] 34) := blk_at _ _ _ rfl
 have s1 := S.out.l1
 have s2 := S.out.l2
 have s3 := S.out.l3
 have s4 := S.out.l4
 have s5 := S.out.l5
 by_cases h0 : 30 < x.imps.length
 ·have g0 : decide ((30 : Int) < (x.imps.length : Int)) = true := by simp; omega
  have HQ : Hid ((x.many) = true) := by show _ = _; unfold Srx.many; simp; omega
  go_enter Tryz.func52, Tryz.ntmps52
  go_wp2
  go_ret
  exact ⟨by rw [HQ.out]; rfl, hb0⟩
 ·have g0 : decide ((30 : Int) < (x.imps.length : Int)) = false := by simp; omega
  by_cases h1 : 30 < x.exps.length
  ·have g1 : decide ((30 : Int) < (x.exps.length : Int)) = true := by simp; omega
   have HQ : Hid ((x.many) = true) := by show _ = _; unfold Srx.many; simp; omega
   go_enter Tryz.func52, Tryz.ntmps52
   go_wp2
   go_ret
   exact ⟨by rw [HQ.out]; rfl, hb0⟩
  ·have g1 : decide ((30 : Int) < (x.exps.length : Int)) = false := by simp; omega
   by_cases h2 : 30 < x.defs.length
   ·have g2 : decide ((30 : Int) < (x.defs.length : Int)) = true := by simp; omega
    have HQ : Hid ((x.many) = true) := by show _ = _; unfold Srx.many; simp; omega
    go_enter Tryz.func52, Tryz.ntmps52
    go_wp2
    go_ret
    exact ⟨by rw [HQ.out]; rfl, hb0⟩
   ·have g2 : decide ((30 : Int) < (x.defs.length : Int)) = false := by simp; omega
    by_cases h3 : 8 < x.types.length
    ·have g3 : decide ((8 : Int) < (x.types.length : Int)) = true := by simp; omega
     have HQ : Hid ((x.many) = true) := by show _ = _; unfold Srx.many; simp; omega
     go_enter Tryz.func52, Tryz.ntmps52
     go_wp2
     go_ret
     exact ⟨by rw [HQ.out]; rfl, hb0⟩
    ·have g3 : decide ((8 : Int) < (x.types.length : Int)) = false := by simp; omega
     by_cases h4 : 8 < x.convs.length
     ·have g4 : decide ((8 : Int) < (x.convs.length : Int)) = true := by simp; omega
      have HQ : Hid ((x.many) = true) := by show _ = _; unfold Srx.many; simp; omega
      go_enter Tryz.func52, Tryz.ntmps52
      go_wp2
      go_ret
      exact ⟨by rw [HQ.out]; rfl, hb0⟩
     ·have g4 : decide ((8 : Int) < (x.convs.length : Int)) = false := by simp; omega
      have HQ : Hid ((x.many) = false) := by show _ = _; unfold Srx.many; simp; omega
      go_enter Tryz.func52, Tryz.ntmps52
      go_wp2
      go_ret
      exact ⟨by rw [HQ.out]; rfl, hb0⟩
set_option maxRecDepth 100000 in
set_option maxHeartbeats 1000000 in
theorem notTooMany_any (x : Srx) (a1 a2 a3 a4 a5 : Option Addr) (c1 c2 c3 c4 c5 : Nat) (w : World) (hs : x.small) (hr : SrxRows w (fun b => b < w.heap.size) a1 a2 a3 a4 a5 c1 c2 c3 c4 c5 x) :
  Calls Tryz.prog 62 #[.agg #[.string x.name, .slice a1 x.imps.length c1, .slice a2 x.exps.length c2, .slice a3 x.types.length c3, .slice a4 x.defs.length c4, .slice a5 x.convs.length c5]] w fun e w' => Ans w (.bool (!x.many)) e w' := by
 have S : Hid (SrxAt x a1 a2 a3 a4 a5 c1 c2 c3 c4 c5 w) := srxAt x a1 a2 a3 a4 a5 c1 c2 c3 c4 c5 w hs hr
 clear hs hr
 have hb0 : Below w.heap.size w (w.alloc (Obj.cells #[.string x.name, .slice a1 x.imps.length c1, .slice a2 x.exps.length c2, .slice a3 x.types.length c3, .slice a4 x.defs.length c4, .slice a5 x.convs.length c5] 34)) := (Below.refl _ _).alloc (Nat.le_refl _) _
 have k0 : (w.alloc (Obj.cells #[.string x.name, .slice a1 x.imps.length c1, .slice a2 x.exps.length c2, .slice a3 x.types.length c3, .slice a4 x.defs.length c4, .slice a5 x.convs.length c5] 34)).heap[w.heap.size]? = some (Obj.cells #[.string x.name, .slice a1 x.imps.length c1, .slice a2 x.exps.length c2, .slice a3 x.types.length c3, .slice a4 x.defs.length c4, .slice a5 x.convs.length c5] 34) := blk_at _ _ _ rfl
 have s1 := S.out.l1
 have s2 := S.out.l2
 have s3 := S.out.l3
 have s4 := S.out.l4
 have s5 := S.out.l5
 by_cases h0 : 30 < x.imps.length
 ·have g0 : decide ((x.imps.length : Int) ≤ 30) = false := by simp; omega
  have HQ : Hid ((!x.many) = false) := by show _ = _; unfold Srx.many; simp; omega
  go_enter Tryz.func62, Tryz.ntmps62
  go_wp2
  go_ret
  exact ⟨by rw [HQ.out]; rfl, hb0⟩
 ·have g0 : decide ((x.imps.length : Int) ≤ 30) = true := by simp; omega
  by_cases h1 : 30 < x.exps.length
  ·have g1 : decide ((x.exps.length : Int) ≤ 30) = false := by simp; omega
   have HQ : Hid ((!x.many) = false) := by show _ = _; unfold Srx.many; simp; omega
   go_enter Tryz.func62, Tryz.ntmps62
   go_wp2
   go_ret
   exact ⟨by rw [HQ.out]; rfl, hb0⟩
  ·have g1 : decide ((x.exps.length : Int) ≤ 30) = true := by simp; omega
   by_cases h2 : 8 < x.types.length
   ·have g2 : decide ((x.types.length : Int) ≤ 8) = false := by simp; omega
    have HQ : Hid ((!x.many) = false) := by show _ = _; unfold Srx.many; simp; omega
    go_enter Tryz.func62, Tryz.ntmps62
    go_wp2
    go_ret
    exact ⟨by rw [HQ.out]; rfl, hb0⟩
   ·have g2 : decide ((x.types.length : Int) ≤ 8) = true := by simp; omega
    by_cases h3 : 30 < x.defs.length
    ·have g3 : decide ((x.defs.length : Int) ≤ 30) = false := by simp; omega
     have HQ : Hid ((!x.many) = false) := by show _ = _; unfold Srx.many; simp; omega
     go_enter Tryz.func62, Tryz.ntmps62
     go_wp2
     go_ret
     exact ⟨by rw [HQ.out]; rfl, hb0⟩
    ·have g3 : decide ((x.defs.length : Int) ≤ 30) = true := by simp; omega
     by_cases h4 : 8 < x.convs.length
     ·have g4 : decide ((x.convs.length : Int) ≤ 8) = false := by simp; omega
      have HQ : Hid ((!x.many) = false) := by show _ = _; unfold Srx.many; simp; omega
      go_enter Tryz.func62, Tryz.ntmps62
      go_wp2
      go_ret
      exact ⟨by rw [HQ.out]; rfl, hb0⟩
     ·have g4 : decide ((x.convs.length : Int) ≤ 8) = true := by simp; omega
      have HQ : Hid ((!x.many) = true) := by show _ = _; unfold Srx.many; simp; omega
      go_enter Tryz.func62, Tryz.ntmps62
      go_wp2
      go_ret
      exact ⟨by rw [HQ.out]; rfl, hb0⟩
set_option maxRecDepth 100000 in
set_option maxHeartbeats 1000000 in
theorem l11Dup_any (x : Srx) (a1 a2 a3 a4 a5 : Option Addr) (c1 c2 c3 c4 c5 : Nat) (w : World) (hs : x.small) (hr : SrxRows w (fun b => b < w.heap.size) a1 a2 a3 a4 a5 c1 c2 c3 c4 c5 x) :
  Calls Tryz.prog 53 #[.agg #[.string x.name, .slice a1 x.imps.length c1, .slice a2 x.exps.length c2, .slice a3 x.types.length c3, .slice a4 x.defs.length c4, .slice a5 x.convs.length c5]] w fun e w' => Ans w (.bool (x.dup)) e w' := by
 have S : Hid (SrxAt x a1 a2 a3 a4 a5 c1 c2 c3 c4 c5 w) := srxAt x a1 a2 a3 a4 a5 c1 c2 c3 c4 c5 w hs hr
 clear hs hr
 have hb0 : Below w.heap.size w (w.alloc (Obj.cells #[.string x.name, .slice a1 x.imps.length c1, .slice a2 x.exps.length c2, .slice a3 x.types.length c3, .slice a4 x.defs.length c4, .slice a5 x.convs.length c5] 34)) := (Below.refl _ _).alloc (Nat.le_refl _) _
 have k0 : (w.alloc (Obj.cells #[.string x.name, .slice a1 x.imps.length c1, .slice a2 x.exps.length c2, .slice a3 x.types.length c3, .slice a4 x.defs.length c4, .slice a5 x.convs.length c5] 34)).heap[w.heap.size]? = some (Obj.cells #[.string x.name, .slice a1 x.imps.length c1, .slice a2 x.exps.length c2, .slice a3 x.types.length c3, .slice a4 x.defs.length c4, .slice a5 x.convs.length c5] 34) := blk_at _ _ _ rfl
 have HC0 : Hid (∀ w2, Below w.heap.size w w2 → Calls Tryz.prog 83 #[.slice a1 x.imps.length c1] w2 fun e w' => Ans w2 (.bool (twA x.imps)) e w') := fun w2 h2 => twice_at S.out.l1 (S.out.imps w2 h2)
 have HC1 : Hid (∀ w2, Below w.heap.size w w2 → Calls Tryz.prog 83 #[.slice a2 x.exps.length c2] w2 fun e w' => Ans w2 (.bool (twA x.exps)) e w') := fun w2 h2 => twice_at S.out.l2 (S.out.exps w2 h2)
 have HN2 : Hid (∀ w2, Below w.heap.size w w2 → Calls Tryz.prog 56 #[.slice a3 x.types.length c3] w2 fun e w' => NmP x.tns x.types.length w2 e w') := fun w2 h2 => (l11TypeNames_any a3 x.types c3 w2 S.out.l3 (S.out.types w2 h2)).mono fun e w' h => NmPost.to h
 have HC2 : Hid (∀ w2 a cap, NmsAt x.tns x.types.length w2 a cap → Calls Tryz.prog 83 #[.slice a x.types.length cap] w2 fun e w' => Ans w2 (.bool (twA x.tns)) e w') := fun w2 a cap h => twice_at S.out.l3 h
 have HN3 : Hid (∀ w2, Below w.heap.size w w2 → Calls Tryz.prog 24 #[.slice a4 x.defs.length c4] w2 fun e w' => NmP x.dns x.defs.length w2 e w') := fun w2 h2 => (l11DefNames_any a4 x.defs c4 w2 S.out.l4 (S.out.defs w2 h2)).mono fun e w' h => NmPost.to h
 have HC3 : Hid (∀ w2 a cap, NmsAt x.dns x.defs.length w2 a cap → Calls Tryz.prog 83 #[.slice a x.defs.length cap] w2 fun e w' => Ans w2 (.bool (twA x.dns)) e w') := fun w2 a cap h => twice_at S.out.l4 h
 have HN4 : Hid (∀ w2, Below w.heap.size w w2 → Calls Tryz.prog 24 #[.slice a5 x.convs.length c5] w2 fun e w' => NmP x.cns x.convs.length w2 e w') := fun w2 h2 => (l11DefNames_any a5 x.convs c5 w2 S.out.l5 (S.out.convs w2 h2)).mono fun e w' h => NmPost.to h
 have HC4 : Hid (∀ w2 a cap, NmsAt x.cns x.convs.length w2 a cap → Calls Tryz.prog 83 #[.slice a x.convs.length cap] w2 fun e w' => Ans w2 (.bool (twA x.cns)) e w') := fun w2 a cap h => twice_at S.out.l5 h
 have HC5 : Hid (∀ w2, Below w.heap.size w w2 → Calls Tryz.prog 27 #[.slice a1 x.imps.length c1, .string x.name] w2 fun e w' => Ans w2 (.bool (hasS x.imps x.name)) e w') := fun w2 h2 => in_at x.name S.out.l1 (S.out.imps w2 h2)
 clear S
 cases h0 : twA x.imps
 ·rw [h0] at HC0
  cases h1 : twA x.exps
  ·rw [h1] at HC1
   cases h2 : twA x.tns
   ·rw [h2] at HC2
    cases h3 : twA x.dns
    ·rw [h3] at HC3
     cases h4 : twA x.cns
     ·rw [h4] at HC4
      cases h5 : hasS x.imps x.name
      ·rw [h5] at HC5
       have HQ : Hid ((x.dup) = false) := by show _ = _; unfold Srx.dup; simp [h0, h1, h2, h3, h4, h5]
       clear h0 h1 h2 h3 h4 h5
       go_enter Tryz.func53, Tryz.ntmps53
       go_wp2_with fail
       refine (HC0.out _ hb0).mono ?_
       rintro e v0 ⟨rfl, hv0⟩
       have hb1 : Below w.heap.size w v0 := hb0.trans (hv0.mono hb0.size)
       have k1 := blk_keep k0 hv0 (Array.getElem?_eq_some_iff.1 k0).1
       have z0_0 := cell_blk (j := 0) k1 rfl
       have z0_1 := cell_blk (j := 1) k1 rfl
       have z0_2 := cell_blk (j := 2) k1 rfl
       have z0_3 := cell_blk (j := 3) k1 rfl
       have z0_4 := cell_blk (j := 4) k1 rfl
       have z0_5 := cell_blk (j := 5) k1 rfl
       go_wp2_with fail
       refine (HC1.out _ hb1).mono ?_
       rintro e v1 ⟨rfl, hv1⟩
       have hb2 : Below w.heap.size w v1 := hb1.trans (hv1.mono hb1.size)
       have k2 := blk_keep k1 hv1 (Array.getElem?_eq_some_iff.1 k1).1
       have z1_0 := cell_blk (j := 0) k2 rfl
       have z1_1 := cell_blk (j := 1) k2 rfl
       have z1_2 := cell_blk (j := 2) k2 rfl
       have z1_3 := cell_blk (j := 3) k2 rfl
       have z1_4 := cell_blk (j := 4) k2 rfl
       have z1_5 := cell_blk (j := 5) k2 rfl
       go_wp2_with fail
       refine (HN2.out _ hb2).mono ?_
       rintro e v2 ⟨oa2, oc2, rfl, ho2, hv2⟩
       have HT2 := HC2.out v2 oa2 oc2 ho2
       clear ho2
       have hb3 : Below w.heap.size w v2 := hb2.trans (hv2.mono hb2.size)
       have k3 := blk_keep k2 hv2 (Array.getElem?_eq_some_iff.1 k2).1
       have z2_0 := cell_blk (j := 0) k3 rfl
       have z2_1 := cell_blk (j := 1) k3 rfl
       have z2_2 := cell_blk (j := 2) k3 rfl
       have z2_3 := cell_blk (j := 3) k3 rfl
       have z2_4 := cell_blk (j := 4) k3 rfl
       have z2_5 := cell_blk (j := 5) k3 rfl
       go_wp2_with fail
       refine HT2.mono ?_
       rintro e v3 ⟨rfl, hv3⟩
       have hb4 : Below w.heap.size w v3 := hb3.trans (hv3.mono hb3.size)
       have k4 := blk_keep k3 hv3 (Array.getElem?_eq_some_iff.1 k3).1
       have z3_0 := cell_blk (j := 0) k4 rfl
       have z3_1 := cell_blk (j := 1) k4 rfl
       have z3_2 := cell_blk (j := 2) k4 rfl
       have z3_3 := cell_blk (j := 3) k4 rfl
       have z3_4 := cell_blk (j := 4) k4 rfl
       have z3_5 := cell_blk (j := 5) k4 rfl
       go_wp2_with fail
       refine (HN3.out _ hb4).mono ?_
       rintro e v4 ⟨oa4, oc4, rfl, ho4, hv4⟩
       have HT4 := HC3.out v4 oa4 oc4 ho4
       clear ho4
       have hb5 : Below w.heap.size w v4 := hb4.trans (hv4.mono hb4.size)
       have k5 := blk_keep k4 hv4 (Array.getElem?_eq_some_iff.1 k4).1
       have z4_0 := cell_blk (j := 0) k5 rfl
       have z4_1 := cell_blk (j := 1) k5 rfl
       have z4_2 := cell_blk (j := 2) k5 rfl
       have z4_3 := cell_blk (j := 3) k5 rfl
       have z4_4 := cell_blk (j := 4) k5 rfl
       have z4_5 := cell_blk (j := 5) k5 rfl
       go_wp2_with fail
       refine HT4.mono ?_
       rintro e v5 ⟨rfl, hv5⟩
       have hb6 : Below w.heap.size w v5 := hb5.trans (hv5.mono hb5.size)
       have k6 := blk_keep k5 hv5 (Array.getElem?_eq_some_iff.1 k5).1
       have z5_0 := cell_blk (j := 0) k6 rfl
       have z5_1 := cell_blk (j := 1) k6 rfl
       have z5_2 := cell_blk (j := 2) k6 rfl
       have z5_3 := cell_blk (j := 3) k6 rfl
       have z5_4 := cell_blk (j := 4) k6 rfl
       have z5_5 := cell_blk (j := 5) k6 rfl
       go_wp2_with fail
       refine (HN4.out _ hb6).mono ?_
       rintro e v6 ⟨oa6, oc6, rfl, ho6, hv6⟩
       have HT6 := HC4.out v6 oa6 oc6 ho6
       clear ho6
       have hb7 : Below w.heap.size w v6 := hb6.trans (hv6.mono hb6.size)
       have k7 := blk_keep k6 hv6 (Array.getElem?_eq_some_iff.1 k6).1
       have z6_0 := cell_blk (j := 0) k7 rfl
       have z6_1 := cell_blk (j := 1) k7 rfl
       have z6_2 := cell_blk (j := 2) k7 rfl
       have z6_3 := cell_blk (j := 3) k7 rfl
       have z6_4 := cell_blk (j := 4) k7 rfl
       have z6_5 := cell_blk (j := 5) k7 rfl
       go_wp2_with fail
       refine HT6.mono ?_
       rintro e v7 ⟨rfl, hv7⟩
       have hb8 : Below w.heap.size w v7 := hb7.trans (hv7.mono hb7.size)
       have k8 := blk_keep k7 hv7 (Array.getElem?_eq_some_iff.1 k7).1
       have z7_0 := cell_blk (j := 0) k8 rfl
       have z7_1 := cell_blk (j := 1) k8 rfl
       have z7_2 := cell_blk (j := 2) k8 rfl
       have z7_3 := cell_blk (j := 3) k8 rfl
       have z7_4 := cell_blk (j := 4) k8 rfl
       have z7_5 := cell_blk (j := 5) k8 rfl
       go_wp2_with fail
       refine (HC5.out _ hb8).mono ?_
       rintro e v8 ⟨rfl, hv8⟩
       have hb9 : Below w.heap.size w v8 := hb8.trans (hv8.mono hb8.size)
       have k9 := blk_keep k8 hv8 (Array.getElem?_eq_some_iff.1 k8).1
       have z8_0 := cell_blk (j := 0) k9 rfl
       have z8_1 := cell_blk (j := 1) k9 rfl
       have z8_2 := cell_blk (j := 2) k9 rfl
       have z8_3 := cell_blk (j := 3) k9 rfl
       have z8_4 := cell_blk (j := 4) k9 rfl
       have z8_5 := cell_blk (j := 5) k9 rfl
       go_wp2
       go_ret
       exact ⟨by rw [HQ.out]; rfl, hb9⟩
      ·rw [h5] at HC5
       have HQ : Hid ((x.dup) = true) := by show _ = _; unfold Srx.dup; simp [h0, h1, h2, h3, h4, h5]
       clear h0 h1 h2 h3 h4 h5
       go_enter Tryz.func53, Tryz.ntmps53
       go_wp2_with fail
       refine (HC0.out _ hb0).mono ?_
       rintro e v0 ⟨rfl, hv0⟩
       have hb1 : Below w.heap.size w v0 := hb0.trans (hv0.mono hb0.size)
       have k1 := blk_keep k0 hv0 (Array.getElem?_eq_some_iff.1 k0).1
       have z0_0 := cell_blk (j := 0) k1 rfl
       have z0_1 := cell_blk (j := 1) k1 rfl
       have z0_2 := cell_blk (j := 2) k1 rfl
       have z0_3 := cell_blk (j := 3) k1 rfl
       have z0_4 := cell_blk (j := 4) k1 rfl
       have z0_5 := cell_blk (j := 5) k1 rfl
       go_wp2_with fail
       refine (HC1.out _ hb1).mono ?_
       rintro e v1 ⟨rfl, hv1⟩
       have hb2 : Below w.heap.size w v1 := hb1.trans (hv1.mono hb1.size)
       have k2 := blk_keep k1 hv1 (Array.getElem?_eq_some_iff.1 k1).1
       have z1_0 := cell_blk (j := 0) k2 rfl
       have z1_1 := cell_blk (j := 1) k2 rfl
       have z1_2 := cell_blk (j := 2) k2 rfl
       have z1_3 := cell_blk (j := 3) k2 rfl
       have z1_4 := cell_blk (j := 4) k2 rfl
       have z1_5 := cell_blk (j := 5) k2 rfl
       go_wp2_with fail
       refine (HN2.out _ hb2).mono ?_
       rintro e v2 ⟨oa2, oc2, rfl, ho2, hv2⟩
       have HT2 := HC2.out v2 oa2 oc2 ho2
       clear ho2
       have hb3 : Below w.heap.size w v2 := hb2.trans (hv2.mono hb2.size)
       have k3 := blk_keep k2 hv2 (Array.getElem?_eq_some_iff.1 k2).1
       have z2_0 := cell_blk (j := 0) k3 rfl
       have z2_1 := cell_blk (j := 1) k3 rfl
       have z2_2 := cell_blk (j := 2) k3 rfl
       have z2_3 := cell_blk (j := 3) k3 rfl
       have z2_4 := cell_blk (j := 4) k3 rfl
       have z2_5 := cell_blk (j := 5) k3 rfl
       go_wp2_with fail
       refine HT2.mono ?_
       rintro e v3 ⟨rfl, hv3⟩
       have hb4 : Below w.heap.size w v3 := hb3.trans (hv3.mono hb3.size)
       have k4 := blk_keep k3 hv3 (Array.getElem?_eq_some_iff.1 k3).1
       have z3_0 := cell_blk (j := 0) k4 rfl
       have z3_1 := cell_blk (j := 1) k4 rfl
       have z3_2 := cell_blk (j := 2) k4 rfl
       have z3_3 := cell_blk (j := 3) k4 rfl
       have z3_4 := cell_blk (j := 4) k4 rfl
       have z3_5 := cell_blk (j := 5) k4 rfl
       go_wp2_with fail
       refine (HN3.out _ hb4).mono ?_
       rintro e v4 ⟨oa4, oc4, rfl, ho4, hv4⟩
       have HT4 := HC3.out v4 oa4 oc4 ho4
       clear ho4
       have hb5 : Below w.heap.size w v4 := hb4.trans (hv4.mono hb4.size)
       have k5 := blk_keep k4 hv4 (Array.getElem?_eq_some_iff.1 k4).1
       have z4_0 := cell_blk (j := 0) k5 rfl
       have z4_1 := cell_blk (j := 1) k5 rfl
       have z4_2 := cell_blk (j := 2) k5 rfl
       have z4_3 := cell_blk (j := 3) k5 rfl
       have z4_4 := cell_blk (j := 4) k5 rfl
       have z4_5 := cell_blk (j := 5) k5 rfl
       go_wp2_with fail
       refine HT4.mono ?_
       rintro e v5 ⟨rfl, hv5⟩
       have hb6 : Below w.heap.size w v5 := hb5.trans (hv5.mono hb5.size)
       have k6 := blk_keep k5 hv5 (Array.getElem?_eq_some_iff.1 k5).1
       have z5_0 := cell_blk (j := 0) k6 rfl
       have z5_1 := cell_blk (j := 1) k6 rfl
       have z5_2 := cell_blk (j := 2) k6 rfl
       have z5_3 := cell_blk (j := 3) k6 rfl
       have z5_4 := cell_blk (j := 4) k6 rfl
       have z5_5 := cell_blk (j := 5) k6 rfl
       go_wp2_with fail
       refine (HN4.out _ hb6).mono ?_
       rintro e v6 ⟨oa6, oc6, rfl, ho6, hv6⟩
       have HT6 := HC4.out v6 oa6 oc6 ho6
       clear ho6
       have hb7 : Below w.heap.size w v6 := hb6.trans (hv6.mono hb6.size)
       have k7 := blk_keep k6 hv6 (Array.getElem?_eq_some_iff.1 k6).1
       have z6_0 := cell_blk (j := 0) k7 rfl
       have z6_1 := cell_blk (j := 1) k7 rfl
       have z6_2 := cell_blk (j := 2) k7 rfl
       have z6_3 := cell_blk (j := 3) k7 rfl
       have z6_4 := cell_blk (j := 4) k7 rfl
       have z6_5 := cell_blk (j := 5) k7 rfl
       go_wp2_with fail
       refine HT6.mono ?_
       rintro e v7 ⟨rfl, hv7⟩
       have hb8 : Below w.heap.size w v7 := hb7.trans (hv7.mono hb7.size)
       have k8 := blk_keep k7 hv7 (Array.getElem?_eq_some_iff.1 k7).1
       have z7_0 := cell_blk (j := 0) k8 rfl
       have z7_1 := cell_blk (j := 1) k8 rfl
       have z7_2 := cell_blk (j := 2) k8 rfl
       have z7_3 := cell_blk (j := 3) k8 rfl
       have z7_4 := cell_blk (j := 4) k8 rfl
       have z7_5 := cell_blk (j := 5) k8 rfl
       go_wp2_with fail
       refine (HC5.out _ hb8).mono ?_
       rintro e v8 ⟨rfl, hv8⟩
       have hb9 : Below w.heap.size w v8 := hb8.trans (hv8.mono hb8.size)
       have k9 := blk_keep k8 hv8 (Array.getElem?_eq_some_iff.1 k8).1
       have z8_0 := cell_blk (j := 0) k9 rfl
       have z8_1 := cell_blk (j := 1) k9 rfl
       have z8_2 := cell_blk (j := 2) k9 rfl
       have z8_3 := cell_blk (j := 3) k9 rfl
       have z8_4 := cell_blk (j := 4) k9 rfl
       have z8_5 := cell_blk (j := 5) k9 rfl
       go_wp2
       go_ret
       exact ⟨by rw [HQ.out]; rfl, hb9⟩
     ·rw [h4] at HC4
      have HQ : Hid ((x.dup) = true) := by show _ = _; unfold Srx.dup; simp [h0, h1, h2, h3, h4]
      clear h0 h1 h2 h3 h4
      go_enter Tryz.func53, Tryz.ntmps53
      go_wp2_with fail
      refine (HC0.out _ hb0).mono ?_
      rintro e v0 ⟨rfl, hv0⟩
      have hb1 : Below w.heap.size w v0 := hb0.trans (hv0.mono hb0.size)
      have k1 := blk_keep k0 hv0 (Array.getElem?_eq_some_iff.1 k0).1
      have z0_0 := cell_blk (j := 0) k1 rfl
      have z0_1 := cell_blk (j := 1) k1 rfl
      have z0_2 := cell_blk (j := 2) k1 rfl
      have z0_3 := cell_blk (j := 3) k1 rfl
      have z0_4 := cell_blk (j := 4) k1 rfl
      have z0_5 := cell_blk (j := 5) k1 rfl
      go_wp2_with fail
      refine (HC1.out _ hb1).mono ?_
      rintro e v1 ⟨rfl, hv1⟩
      have hb2 : Below w.heap.size w v1 := hb1.trans (hv1.mono hb1.size)
      have k2 := blk_keep k1 hv1 (Array.getElem?_eq_some_iff.1 k1).1
      have z1_0 := cell_blk (j := 0) k2 rfl
      have z1_1 := cell_blk (j := 1) k2 rfl
      have z1_2 := cell_blk (j := 2) k2 rfl
      have z1_3 := cell_blk (j := 3) k2 rfl
      have z1_4 := cell_blk (j := 4) k2 rfl
      have z1_5 := cell_blk (j := 5) k2 rfl
      go_wp2_with fail
      refine (HN2.out _ hb2).mono ?_
      rintro e v2 ⟨oa2, oc2, rfl, ho2, hv2⟩
      have HT2 := HC2.out v2 oa2 oc2 ho2
      clear ho2
      have hb3 : Below w.heap.size w v2 := hb2.trans (hv2.mono hb2.size)
      have k3 := blk_keep k2 hv2 (Array.getElem?_eq_some_iff.1 k2).1
      have z2_0 := cell_blk (j := 0) k3 rfl
      have z2_1 := cell_blk (j := 1) k3 rfl
      have z2_2 := cell_blk (j := 2) k3 rfl
      have z2_3 := cell_blk (j := 3) k3 rfl
      have z2_4 := cell_blk (j := 4) k3 rfl
      have z2_5 := cell_blk (j := 5) k3 rfl
      go_wp2_with fail
      refine HT2.mono ?_
      rintro e v3 ⟨rfl, hv3⟩
      have hb4 : Below w.heap.size w v3 := hb3.trans (hv3.mono hb3.size)
      have k4 := blk_keep k3 hv3 (Array.getElem?_eq_some_iff.1 k3).1
      have z3_0 := cell_blk (j := 0) k4 rfl
      have z3_1 := cell_blk (j := 1) k4 rfl
      have z3_2 := cell_blk (j := 2) k4 rfl
      have z3_3 := cell_blk (j := 3) k4 rfl
      have z3_4 := cell_blk (j := 4) k4 rfl
      have z3_5 := cell_blk (j := 5) k4 rfl
      go_wp2_with fail
      refine (HN3.out _ hb4).mono ?_
      rintro e v4 ⟨oa4, oc4, rfl, ho4, hv4⟩
      have HT4 := HC3.out v4 oa4 oc4 ho4
      clear ho4
      have hb5 : Below w.heap.size w v4 := hb4.trans (hv4.mono hb4.size)
      have k5 := blk_keep k4 hv4 (Array.getElem?_eq_some_iff.1 k4).1
      have z4_0 := cell_blk (j := 0) k5 rfl
      have z4_1 := cell_blk (j := 1) k5 rfl
      have z4_2 := cell_blk (j := 2) k5 rfl
      have z4_3 := cell_blk (j := 3) k5 rfl
      have z4_4 := cell_blk (j := 4) k5 rfl
      have z4_5 := cell_blk (j := 5) k5 rfl
      go_wp2_with fail
      refine HT4.mono ?_
      rintro e v5 ⟨rfl, hv5⟩
      have hb6 : Below w.heap.size w v5 := hb5.trans (hv5.mono hb5.size)
      have k6 := blk_keep k5 hv5 (Array.getElem?_eq_some_iff.1 k5).1
      have z5_0 := cell_blk (j := 0) k6 rfl
      have z5_1 := cell_blk (j := 1) k6 rfl
      have z5_2 := cell_blk (j := 2) k6 rfl
      have z5_3 := cell_blk (j := 3) k6 rfl
      have z5_4 := cell_blk (j := 4) k6 rfl
      have z5_5 := cell_blk (j := 5) k6 rfl
      go_wp2_with fail
      refine (HN4.out _ hb6).mono ?_
      rintro e v6 ⟨oa6, oc6, rfl, ho6, hv6⟩
      have HT6 := HC4.out v6 oa6 oc6 ho6
      clear ho6
      have hb7 : Below w.heap.size w v6 := hb6.trans (hv6.mono hb6.size)
      have k7 := blk_keep k6 hv6 (Array.getElem?_eq_some_iff.1 k6).1
      have z6_0 := cell_blk (j := 0) k7 rfl
      have z6_1 := cell_blk (j := 1) k7 rfl
      have z6_2 := cell_blk (j := 2) k7 rfl
      have z6_3 := cell_blk (j := 3) k7 rfl
      have z6_4 := cell_blk (j := 4) k7 rfl
      have z6_5 := cell_blk (j := 5) k7 rfl
      go_wp2_with fail
      refine HT6.mono ?_
      rintro e v7 ⟨rfl, hv7⟩
      have hb8 : Below w.heap.size w v7 := hb7.trans (hv7.mono hb7.size)
      have k8 := blk_keep k7 hv7 (Array.getElem?_eq_some_iff.1 k7).1
      have z7_0 := cell_blk (j := 0) k8 rfl
      have z7_1 := cell_blk (j := 1) k8 rfl
      have z7_2 := cell_blk (j := 2) k8 rfl
      have z7_3 := cell_blk (j := 3) k8 rfl
      have z7_4 := cell_blk (j := 4) k8 rfl
      have z7_5 := cell_blk (j := 5) k8 rfl
      go_wp2
      go_ret
      exact ⟨by rw [HQ.out]; rfl, hb8⟩
    ·rw [h3] at HC3
     have HQ : Hid ((x.dup) = true) := by show _ = _; unfold Srx.dup; simp [h0, h1, h2, h3]
     clear h0 h1 h2 h3
     go_enter Tryz.func53, Tryz.ntmps53
     go_wp2_with fail
     refine (HC0.out _ hb0).mono ?_
     rintro e v0 ⟨rfl, hv0⟩
     have hb1 : Below w.heap.size w v0 := hb0.trans (hv0.mono hb0.size)
     have k1 := blk_keep k0 hv0 (Array.getElem?_eq_some_iff.1 k0).1
     have z0_0 := cell_blk (j := 0) k1 rfl
     have z0_1 := cell_blk (j := 1) k1 rfl
     have z0_2 := cell_blk (j := 2) k1 rfl
     have z0_3 := cell_blk (j := 3) k1 rfl
     have z0_4 := cell_blk (j := 4) k1 rfl
     have z0_5 := cell_blk (j := 5) k1 rfl
     go_wp2_with fail
     refine (HC1.out _ hb1).mono ?_
     rintro e v1 ⟨rfl, hv1⟩
     have hb2 : Below w.heap.size w v1 := hb1.trans (hv1.mono hb1.size)
     have k2 := blk_keep k1 hv1 (Array.getElem?_eq_some_iff.1 k1).1
     have z1_0 := cell_blk (j := 0) k2 rfl
     have z1_1 := cell_blk (j := 1) k2 rfl
     have z1_2 := cell_blk (j := 2) k2 rfl
     have z1_3 := cell_blk (j := 3) k2 rfl
     have z1_4 := cell_blk (j := 4) k2 rfl
     have z1_5 := cell_blk (j := 5) k2 rfl
     go_wp2_with fail
     refine (HN2.out _ hb2).mono ?_
     rintro e v2 ⟨oa2, oc2, rfl, ho2, hv2⟩
     have HT2 := HC2.out v2 oa2 oc2 ho2
     clear ho2
     have hb3 : Below w.heap.size w v2 := hb2.trans (hv2.mono hb2.size)
     have k3 := blk_keep k2 hv2 (Array.getElem?_eq_some_iff.1 k2).1
     have z2_0 := cell_blk (j := 0) k3 rfl
     have z2_1 := cell_blk (j := 1) k3 rfl
     have z2_2 := cell_blk (j := 2) k3 rfl
     have z2_3 := cell_blk (j := 3) k3 rfl
     have z2_4 := cell_blk (j := 4) k3 rfl
     have z2_5 := cell_blk (j := 5) k3 rfl
     go_wp2_with fail
     refine HT2.mono ?_
     rintro e v3 ⟨rfl, hv3⟩
     have hb4 : Below w.heap.size w v3 := hb3.trans (hv3.mono hb3.size)
     have k4 := blk_keep k3 hv3 (Array.getElem?_eq_some_iff.1 k3).1
     have z3_0 := cell_blk (j := 0) k4 rfl
     have z3_1 := cell_blk (j := 1) k4 rfl
     have z3_2 := cell_blk (j := 2) k4 rfl
     have z3_3 := cell_blk (j := 3) k4 rfl
     have z3_4 := cell_blk (j := 4) k4 rfl
     have z3_5 := cell_blk (j := 5) k4 rfl
     go_wp2_with fail
     refine (HN3.out _ hb4).mono ?_
     rintro e v4 ⟨oa4, oc4, rfl, ho4, hv4⟩
     have HT4 := HC3.out v4 oa4 oc4 ho4
     clear ho4
     have hb5 : Below w.heap.size w v4 := hb4.trans (hv4.mono hb4.size)
     have k5 := blk_keep k4 hv4 (Array.getElem?_eq_some_iff.1 k4).1
     have z4_0 := cell_blk (j := 0) k5 rfl
     have z4_1 := cell_blk (j := 1) k5 rfl
     have z4_2 := cell_blk (j := 2) k5 rfl
     have z4_3 := cell_blk (j := 3) k5 rfl
     have z4_4 := cell_blk (j := 4) k5 rfl
     have z4_5 := cell_blk (j := 5) k5 rfl
     go_wp2_with fail
     refine HT4.mono ?_
     rintro e v5 ⟨rfl, hv5⟩
     have hb6 : Below w.heap.size w v5 := hb5.trans (hv5.mono hb5.size)
     have k6 := blk_keep k5 hv5 (Array.getElem?_eq_some_iff.1 k5).1
     have z5_0 := cell_blk (j := 0) k6 rfl
     have z5_1 := cell_blk (j := 1) k6 rfl
     have z5_2 := cell_blk (j := 2) k6 rfl
     have z5_3 := cell_blk (j := 3) k6 rfl
     have z5_4 := cell_blk (j := 4) k6 rfl
     have z5_5 := cell_blk (j := 5) k6 rfl
     go_wp2
     go_ret
     exact ⟨by rw [HQ.out]; rfl, hb6⟩
   ·rw [h2] at HC2
    have HQ : Hid ((x.dup) = true) := by show _ = _; unfold Srx.dup; simp [h0, h1, h2]
    clear h0 h1 h2
    go_enter Tryz.func53, Tryz.ntmps53
    go_wp2_with fail
    refine (HC0.out _ hb0).mono ?_
    rintro e v0 ⟨rfl, hv0⟩
    have hb1 : Below w.heap.size w v0 := hb0.trans (hv0.mono hb0.size)
    have k1 := blk_keep k0 hv0 (Array.getElem?_eq_some_iff.1 k0).1
    have z0_0 := cell_blk (j := 0) k1 rfl
    have z0_1 := cell_blk (j := 1) k1 rfl
    have z0_2 := cell_blk (j := 2) k1 rfl
    have z0_3 := cell_blk (j := 3) k1 rfl
    have z0_4 := cell_blk (j := 4) k1 rfl
    have z0_5 := cell_blk (j := 5) k1 rfl
    go_wp2_with fail
    refine (HC1.out _ hb1).mono ?_
    rintro e v1 ⟨rfl, hv1⟩
    have hb2 : Below w.heap.size w v1 := hb1.trans (hv1.mono hb1.size)
    have k2 := blk_keep k1 hv1 (Array.getElem?_eq_some_iff.1 k1).1
    have z1_0 := cell_blk (j := 0) k2 rfl
    have z1_1 := cell_blk (j := 1) k2 rfl
    have z1_2 := cell_blk (j := 2) k2 rfl
    have z1_3 := cell_blk (j := 3) k2 rfl
    have z1_4 := cell_blk (j := 4) k2 rfl
    have z1_5 := cell_blk (j := 5) k2 rfl
    go_wp2_with fail
    refine (HN2.out _ hb2).mono ?_
    rintro e v2 ⟨oa2, oc2, rfl, ho2, hv2⟩
    have HT2 := HC2.out v2 oa2 oc2 ho2
    clear ho2
    have hb3 : Below w.heap.size w v2 := hb2.trans (hv2.mono hb2.size)
    have k3 := blk_keep k2 hv2 (Array.getElem?_eq_some_iff.1 k2).1
    have z2_0 := cell_blk (j := 0) k3 rfl
    have z2_1 := cell_blk (j := 1) k3 rfl
    have z2_2 := cell_blk (j := 2) k3 rfl
    have z2_3 := cell_blk (j := 3) k3 rfl
    have z2_4 := cell_blk (j := 4) k3 rfl
    have z2_5 := cell_blk (j := 5) k3 rfl
    go_wp2_with fail
    refine HT2.mono ?_
    rintro e v3 ⟨rfl, hv3⟩
    have hb4 : Below w.heap.size w v3 := hb3.trans (hv3.mono hb3.size)
    have k4 := blk_keep k3 hv3 (Array.getElem?_eq_some_iff.1 k3).1
    have z3_0 := cell_blk (j := 0) k4 rfl
    have z3_1 := cell_blk (j := 1) k4 rfl
    have z3_2 := cell_blk (j := 2) k4 rfl
    have z3_3 := cell_blk (j := 3) k4 rfl
    have z3_4 := cell_blk (j := 4) k4 rfl
    have z3_5 := cell_blk (j := 5) k4 rfl
    go_wp2
    go_ret
    exact ⟨by rw [HQ.out]; rfl, hb4⟩
  ·rw [h1] at HC1
   have HQ : Hid ((x.dup) = true) := by show _ = _; unfold Srx.dup; simp [h0, h1]
   clear h0 h1
   go_enter Tryz.func53, Tryz.ntmps53
   go_wp2_with fail
   refine (HC0.out _ hb0).mono ?_
   rintro e v0 ⟨rfl, hv0⟩
   have hb1 : Below w.heap.size w v0 := hb0.trans (hv0.mono hb0.size)
   have k1 := blk_keep k0 hv0 (Array.getElem?_eq_some_iff.1 k0).1
   have z0_0 := cell_blk (j := 0) k1 rfl
   have z0_1 := cell_blk (j := 1) k1 rfl
   have z0_2 := cell_blk (j := 2) k1 rfl
   have z0_3 := cell_blk (j := 3) k1 rfl
   have z0_4 := cell_blk (j := 4) k1 rfl
   have z0_5 := cell_blk (j := 5) k1 rfl
   go_wp2_with fail
   refine (HC1.out _ hb1).mono ?_
   rintro e v1 ⟨rfl, hv1⟩
   have hb2 : Below w.heap.size w v1 := hb1.trans (hv1.mono hb1.size)
   have k2 := blk_keep k1 hv1 (Array.getElem?_eq_some_iff.1 k1).1
   have z1_0 := cell_blk (j := 0) k2 rfl
   have z1_1 := cell_blk (j := 1) k2 rfl
   have z1_2 := cell_blk (j := 2) k2 rfl
   have z1_3 := cell_blk (j := 3) k2 rfl
   have z1_4 := cell_blk (j := 4) k2 rfl
   have z1_5 := cell_blk (j := 5) k2 rfl
   go_wp2
   go_ret
   exact ⟨by rw [HQ.out]; rfl, hb2⟩
 ·rw [h0] at HC0
  have HQ : Hid ((x.dup) = true) := by show _ = _; unfold Srx.dup; simp [h0]
  clear h0
  go_enter Tryz.func53, Tryz.ntmps53
  go_wp2_with fail
  refine (HC0.out _ hb0).mono ?_
  rintro e v0 ⟨rfl, hv0⟩
  have hb1 : Below w.heap.size w v0 := hb0.trans (hv0.mono hb0.size)
  have k1 := blk_keep k0 hv0 (Array.getElem?_eq_some_iff.1 k0).1
  have z0_0 := cell_blk (j := 0) k1 rfl
  have z0_1 := cell_blk (j := 1) k1 rfl
  have z0_2 := cell_blk (j := 2) k1 rfl
  have z0_3 := cell_blk (j := 3) k1 rfl
  have z0_4 := cell_blk (j := 4) k1 rfl
  have z0_5 := cell_blk (j := 5) k1 rfl
  go_wp2
  go_ret
  exact ⟨by rw [HQ.out]; rfl, hb1⟩
set_option maxRecDepth 100000 in
set_option maxHeartbeats 1000000 in
theorem allUnlike_any (x : Srx) (a1 a2 a3 a4 a5 : Option Addr) (c1 c2 c3 c4 c5 : Nat) (w : World) (hs : x.small) (hr : SrxRows w (fun b => b < w.heap.size) a1 a2 a3 a4 a5 c1 c2 c3 c4 c5 x) :
  Calls Tryz.prog 63 #[.agg #[.string x.name, .slice a1 x.imps.length c1, .slice a2 x.exps.length c2, .slice a3 x.types.length c3, .slice a4 x.defs.length c4, .slice a5 x.convs.length c5]] w fun e w' => Ans w (.bool (x.alike)) e w' := by
 have S : Hid (SrxAt x a1 a2 a3 a4 a5 c1 c2 c3 c4 c5 w) := srxAt x a1 a2 a3 a4 a5 c1 c2 c3 c4 c5 w hs hr
 clear hs hr
 have hb0 : Below w.heap.size w (w.alloc (Obj.cells #[.string x.name, .slice a1 x.imps.length c1, .slice a2 x.exps.length c2, .slice a3 x.types.length c3, .slice a4 x.defs.length c4, .slice a5 x.convs.length c5] 34)) := (Below.refl _ _).alloc (Nat.le_refl _) _
 have k0 : (w.alloc (Obj.cells #[.string x.name, .slice a1 x.imps.length c1, .slice a2 x.exps.length c2, .slice a3 x.types.length c3, .slice a4 x.defs.length c4, .slice a5 x.convs.length c5] 34)).heap[w.heap.size]? = some (Obj.cells #[.string x.name, .slice a1 x.imps.length c1, .slice a2 x.exps.length c2, .slice a3 x.types.length c3, .slice a4 x.defs.length c4, .slice a5 x.convs.length c5] 34) := blk_at _ _ _ rfl
 have HC0 : Hid (∀ w2, Below w.heap.size w w2 → Calls Tryz.prog 89 #[.slice a1 x.imps.length c1] w2 fun e w' => Ans w2 (.bool (nmA x.imps)) e w') := fun w2 h2 => names_at S.out.l1 S.out.simps (S.out.imps w2 h2)
 have HC1 : Hid (∀ w2, Below w.heap.size w w2 → Calls Tryz.prog 89 #[.slice a2 x.exps.length c2] w2 fun e w' => Ans w2 (.bool (nmA x.exps)) e w') := fun w2 h2 => names_at S.out.l2 S.out.sexps (S.out.exps w2 h2)
 have HC2 : Hid (∀ w2, Below w.heap.size w w2 → Calls Tryz.prog 90 #[.slice a3 x.types.length c3] w2 fun e w' => Ans w2 (.bool (x.types.all Typ.ok && nmA x.tns)) e w') := fun w2 h2 => typesOk_any a3 x.types c3 w2 S.out.l3 S.out.stypes (S.out.types w2 h2)
 have HN3 : Hid (∀ w2, Below w.heap.size w w2 → Calls Tryz.prog 35 #[.slice a4 x.defs.length c4] w2 fun e w' => NmP x.dns x.defs.length w2 e w') := fun w2 h2 => (defNames_any a4 x.defs c4 w2 S.out.l4 (S.out.defs w2 h2)).mono fun e w' h => NmPost.to h
 have HC3 : Hid (∀ w2 a cap, NmsAt x.dns x.defs.length w2 a cap → Calls Tryz.prog 89 #[.slice a x.defs.length cap] w2 fun e w' => Ans w2 (.bool (nmA x.dns)) e w') := fun w2 a cap h => names_at S.out.l4 S.out.sdns h
 have HN4 : Hid (∀ w2, Below w.heap.size w w2 → Calls Tryz.prog 35 #[.slice a5 x.convs.length c5] w2 fun e w' => NmP x.cns x.convs.length w2 e w') := fun w2 h2 => (defNames_any a5 x.convs c5 w2 S.out.l5 (S.out.convs w2 h2)).mono fun e w' h => NmPost.to h
 have HC4 : Hid (∀ w2 a cap, NmsAt x.cns x.convs.length w2 a cap → Calls Tryz.prog 89 #[.slice a x.convs.length cap] w2 fun e w' => Ans w2 (.bool (nmA x.cns)) e w') := fun w2 a cap h => names_at S.out.l5 S.out.scns h
 have HC5 : Hid (∀ w2, Below w.heap.size w w2 → Calls Tryz.prog 71 #[.slice a1 x.imps.length c1, .string x.name] w2 fun e w' => Ans w2 (.bool (hasS x.imps x.name)) e w') := fun w2 h2 => has_at x.name S.out.l1 (S.out.imps w2 h2)
 clear S
 cases h0 : nmA x.imps
 ·rw [h0] at HC0
  have HQ : Hid ((x.alike) = false) := by show _ = _; unfold Srx.alike; simp [h0]
  clear h0
  go_enter Tryz.func63, Tryz.ntmps63
  go_wp2_with fail
  refine (HC0.out _ hb0).mono ?_
  rintro e v0 ⟨rfl, hv0⟩
  have hb1 : Below w.heap.size w v0 := hb0.trans (hv0.mono hb0.size)
  have k1 := blk_keep k0 hv0 (Array.getElem?_eq_some_iff.1 k0).1
  have z0_0 := cell_blk (j := 0) k1 rfl
  have z0_1 := cell_blk (j := 1) k1 rfl
  have z0_2 := cell_blk (j := 2) k1 rfl
  have z0_3 := cell_blk (j := 3) k1 rfl
  have z0_4 := cell_blk (j := 4) k1 rfl
  have z0_5 := cell_blk (j := 5) k1 rfl
  go_wp2
  go_ret
  exact ⟨by rw [HQ.out]; rfl, hb1⟩
 ·rw [h0] at HC0
  cases h1 : nmA x.exps
  ·rw [h1] at HC1
   have HQ : Hid ((x.alike) = false) := by show _ = _; unfold Srx.alike; simp [h0, h1]
   clear h0 h1
   go_enter Tryz.func63, Tryz.ntmps63
   go_wp2_with fail
   refine (HC0.out _ hb0).mono ?_
   rintro e v0 ⟨rfl, hv0⟩
   have hb1 : Below w.heap.size w v0 := hb0.trans (hv0.mono hb0.size)
   have k1 := blk_keep k0 hv0 (Array.getElem?_eq_some_iff.1 k0).1
   have z0_0 := cell_blk (j := 0) k1 rfl
   have z0_1 := cell_blk (j := 1) k1 rfl
   have z0_2 := cell_blk (j := 2) k1 rfl
   have z0_3 := cell_blk (j := 3) k1 rfl
   have z0_4 := cell_blk (j := 4) k1 rfl
   have z0_5 := cell_blk (j := 5) k1 rfl
   go_wp2_with fail
   refine (HC1.out _ hb1).mono ?_
   rintro e v1 ⟨rfl, hv1⟩
   have hb2 : Below w.heap.size w v1 := hb1.trans (hv1.mono hb1.size)
   have k2 := blk_keep k1 hv1 (Array.getElem?_eq_some_iff.1 k1).1
   have z1_0 := cell_blk (j := 0) k2 rfl
   have z1_1 := cell_blk (j := 1) k2 rfl
   have z1_2 := cell_blk (j := 2) k2 rfl
   have z1_3 := cell_blk (j := 3) k2 rfl
   have z1_4 := cell_blk (j := 4) k2 rfl
   have z1_5 := cell_blk (j := 5) k2 rfl
   go_wp2
   go_ret
   exact ⟨by rw [HQ.out]; rfl, hb2⟩
  ·rw [h1] at HC1
   cases h2 : (x.types.all Typ.ok && nmA x.tns)
   ·rw [h2] at HC2
    have HQ : Hid ((x.alike) = false) := by show _ = _; unfold Srx.alike; simp [h0, h1, h2]
    clear h0 h1 h2
    go_enter Tryz.func63, Tryz.ntmps63
    go_wp2_with fail
    refine (HC0.out _ hb0).mono ?_
    rintro e v0 ⟨rfl, hv0⟩
    have hb1 : Below w.heap.size w v0 := hb0.trans (hv0.mono hb0.size)
    have k1 := blk_keep k0 hv0 (Array.getElem?_eq_some_iff.1 k0).1
    have z0_0 := cell_blk (j := 0) k1 rfl
    have z0_1 := cell_blk (j := 1) k1 rfl
    have z0_2 := cell_blk (j := 2) k1 rfl
    have z0_3 := cell_blk (j := 3) k1 rfl
    have z0_4 := cell_blk (j := 4) k1 rfl
    have z0_5 := cell_blk (j := 5) k1 rfl
    go_wp2_with fail
    refine (HC1.out _ hb1).mono ?_
    rintro e v1 ⟨rfl, hv1⟩
    have hb2 : Below w.heap.size w v1 := hb1.trans (hv1.mono hb1.size)
    have k2 := blk_keep k1 hv1 (Array.getElem?_eq_some_iff.1 k1).1
    have z1_0 := cell_blk (j := 0) k2 rfl
    have z1_1 := cell_blk (j := 1) k2 rfl
    have z1_2 := cell_blk (j := 2) k2 rfl
    have z1_3 := cell_blk (j := 3) k2 rfl
    have z1_4 := cell_blk (j := 4) k2 rfl
    have z1_5 := cell_blk (j := 5) k2 rfl
    go_wp2_with fail
    refine (HC2.out _ hb2).mono ?_
    rintro e v2 ⟨rfl, hv2⟩
    have hb3 : Below w.heap.size w v2 := hb2.trans (hv2.mono hb2.size)
    have k3 := blk_keep k2 hv2 (Array.getElem?_eq_some_iff.1 k2).1
    have z2_0 := cell_blk (j := 0) k3 rfl
    have z2_1 := cell_blk (j := 1) k3 rfl
    have z2_2 := cell_blk (j := 2) k3 rfl
    have z2_3 := cell_blk (j := 3) k3 rfl
    have z2_4 := cell_blk (j := 4) k3 rfl
    have z2_5 := cell_blk (j := 5) k3 rfl
    go_wp2
    go_ret
    exact ⟨by rw [HQ.out]; rfl, hb3⟩
   ·rw [h2] at HC2
    cases h3 : nmA x.dns
    ·rw [h3] at HC3
     have HQ : Hid ((x.alike) = false) := by show _ = _; unfold Srx.alike; simp [h0, h1, h2, h3]
     clear h0 h1 h2 h3
     go_enter Tryz.func63, Tryz.ntmps63
     go_wp2_with fail
     refine (HC0.out _ hb0).mono ?_
     rintro e v0 ⟨rfl, hv0⟩
     have hb1 : Below w.heap.size w v0 := hb0.trans (hv0.mono hb0.size)
     have k1 := blk_keep k0 hv0 (Array.getElem?_eq_some_iff.1 k0).1
     have z0_0 := cell_blk (j := 0) k1 rfl
     have z0_1 := cell_blk (j := 1) k1 rfl
     have z0_2 := cell_blk (j := 2) k1 rfl
     have z0_3 := cell_blk (j := 3) k1 rfl
     have z0_4 := cell_blk (j := 4) k1 rfl
     have z0_5 := cell_blk (j := 5) k1 rfl
     go_wp2_with fail
     refine (HC1.out _ hb1).mono ?_
     rintro e v1 ⟨rfl, hv1⟩
     have hb2 : Below w.heap.size w v1 := hb1.trans (hv1.mono hb1.size)
     have k2 := blk_keep k1 hv1 (Array.getElem?_eq_some_iff.1 k1).1
     have z1_0 := cell_blk (j := 0) k2 rfl
     have z1_1 := cell_blk (j := 1) k2 rfl
     have z1_2 := cell_blk (j := 2) k2 rfl
     have z1_3 := cell_blk (j := 3) k2 rfl
     have z1_4 := cell_blk (j := 4) k2 rfl
     have z1_5 := cell_blk (j := 5) k2 rfl
     go_wp2_with fail
     refine (HC2.out _ hb2).mono ?_
     rintro e v2 ⟨rfl, hv2⟩
     have hb3 : Below w.heap.size w v2 := hb2.trans (hv2.mono hb2.size)
     have k3 := blk_keep k2 hv2 (Array.getElem?_eq_some_iff.1 k2).1
     have z2_0 := cell_blk (j := 0) k3 rfl
     have z2_1 := cell_blk (j := 1) k3 rfl
     have z2_2 := cell_blk (j := 2) k3 rfl
     have z2_3 := cell_blk (j := 3) k3 rfl
     have z2_4 := cell_blk (j := 4) k3 rfl
     have z2_5 := cell_blk (j := 5) k3 rfl
     go_wp2_with fail
     refine (HN3.out _ hb3).mono ?_
     rintro e v3 ⟨oa3, oc3, rfl, ho3, hv3⟩
     have HT3 := HC3.out v3 oa3 oc3 ho3
     clear ho3
     have hb4 : Below w.heap.size w v3 := hb3.trans (hv3.mono hb3.size)
     have k4 := blk_keep k3 hv3 (Array.getElem?_eq_some_iff.1 k3).1
     have z3_0 := cell_blk (j := 0) k4 rfl
     have z3_1 := cell_blk (j := 1) k4 rfl
     have z3_2 := cell_blk (j := 2) k4 rfl
     have z3_3 := cell_blk (j := 3) k4 rfl
     have z3_4 := cell_blk (j := 4) k4 rfl
     have z3_5 := cell_blk (j := 5) k4 rfl
     go_wp2_with fail
     refine HT3.mono ?_
     rintro e v4 ⟨rfl, hv4⟩
     have hb5 : Below w.heap.size w v4 := hb4.trans (hv4.mono hb4.size)
     have k5 := blk_keep k4 hv4 (Array.getElem?_eq_some_iff.1 k4).1
     have z4_0 := cell_blk (j := 0) k5 rfl
     have z4_1 := cell_blk (j := 1) k5 rfl
     have z4_2 := cell_blk (j := 2) k5 rfl
     have z4_3 := cell_blk (j := 3) k5 rfl
     have z4_4 := cell_blk (j := 4) k5 rfl
     have z4_5 := cell_blk (j := 5) k5 rfl
     go_wp2
     go_ret
     exact ⟨by rw [HQ.out]; rfl, hb5⟩
    ·rw [h3] at HC3
     cases h4 : nmA x.cns
     ·rw [h4] at HC4
      have HQ : Hid ((x.alike) = false) := by show _ = _; unfold Srx.alike; simp [h0, h1, h2, h3, h4]
      clear h0 h1 h2 h3 h4
      go_enter Tryz.func63, Tryz.ntmps63
      go_wp2_with fail
      refine (HC0.out _ hb0).mono ?_
      rintro e v0 ⟨rfl, hv0⟩
      have hb1 : Below w.heap.size w v0 := hb0.trans (hv0.mono hb0.size)
      have k1 := blk_keep k0 hv0 (Array.getElem?_eq_some_iff.1 k0).1
      have z0_0 := cell_blk (j := 0) k1 rfl
      have z0_1 := cell_blk (j := 1) k1 rfl
      have z0_2 := cell_blk (j := 2) k1 rfl
      have z0_3 := cell_blk (j := 3) k1 rfl
      have z0_4 := cell_blk (j := 4) k1 rfl
      have z0_5 := cell_blk (j := 5) k1 rfl
      go_wp2_with fail
      refine (HC1.out _ hb1).mono ?_
      rintro e v1 ⟨rfl, hv1⟩
      have hb2 : Below w.heap.size w v1 := hb1.trans (hv1.mono hb1.size)
      have k2 := blk_keep k1 hv1 (Array.getElem?_eq_some_iff.1 k1).1
      have z1_0 := cell_blk (j := 0) k2 rfl
      have z1_1 := cell_blk (j := 1) k2 rfl
      have z1_2 := cell_blk (j := 2) k2 rfl
      have z1_3 := cell_blk (j := 3) k2 rfl
      have z1_4 := cell_blk (j := 4) k2 rfl
      have z1_5 := cell_blk (j := 5) k2 rfl
      go_wp2_with fail
      refine (HC2.out _ hb2).mono ?_
      rintro e v2 ⟨rfl, hv2⟩
      have hb3 : Below w.heap.size w v2 := hb2.trans (hv2.mono hb2.size)
      have k3 := blk_keep k2 hv2 (Array.getElem?_eq_some_iff.1 k2).1
      have z2_0 := cell_blk (j := 0) k3 rfl
      have z2_1 := cell_blk (j := 1) k3 rfl
      have z2_2 := cell_blk (j := 2) k3 rfl
      have z2_3 := cell_blk (j := 3) k3 rfl
      have z2_4 := cell_blk (j := 4) k3 rfl
      have z2_5 := cell_blk (j := 5) k3 rfl
      go_wp2_with fail
      refine (HN3.out _ hb3).mono ?_
      rintro e v3 ⟨oa3, oc3, rfl, ho3, hv3⟩
      have HT3 := HC3.out v3 oa3 oc3 ho3
      clear ho3
      have hb4 : Below w.heap.size w v3 := hb3.trans (hv3.mono hb3.size)
      have k4 := blk_keep k3 hv3 (Array.getElem?_eq_some_iff.1 k3).1
      have z3_0 := cell_blk (j := 0) k4 rfl
      have z3_1 := cell_blk (j := 1) k4 rfl
      have z3_2 := cell_blk (j := 2) k4 rfl
      have z3_3 := cell_blk (j := 3) k4 rfl
      have z3_4 := cell_blk (j := 4) k4 rfl
      have z3_5 := cell_blk (j := 5) k4 rfl
      go_wp2_with fail
      refine HT3.mono ?_
      rintro e v4 ⟨rfl, hv4⟩
      have hb5 : Below w.heap.size w v4 := hb4.trans (hv4.mono hb4.size)
      have k5 := blk_keep k4 hv4 (Array.getElem?_eq_some_iff.1 k4).1
      have z4_0 := cell_blk (j := 0) k5 rfl
      have z4_1 := cell_blk (j := 1) k5 rfl
      have z4_2 := cell_blk (j := 2) k5 rfl
      have z4_3 := cell_blk (j := 3) k5 rfl
      have z4_4 := cell_blk (j := 4) k5 rfl
      have z4_5 := cell_blk (j := 5) k5 rfl
      go_wp2_with fail
      refine (HN4.out _ hb5).mono ?_
      rintro e v5 ⟨oa5, oc5, rfl, ho5, hv5⟩
      have HT5 := HC4.out v5 oa5 oc5 ho5
      clear ho5
      have hb6 : Below w.heap.size w v5 := hb5.trans (hv5.mono hb5.size)
      have k6 := blk_keep k5 hv5 (Array.getElem?_eq_some_iff.1 k5).1
      have z5_0 := cell_blk (j := 0) k6 rfl
      have z5_1 := cell_blk (j := 1) k6 rfl
      have z5_2 := cell_blk (j := 2) k6 rfl
      have z5_3 := cell_blk (j := 3) k6 rfl
      have z5_4 := cell_blk (j := 4) k6 rfl
      have z5_5 := cell_blk (j := 5) k6 rfl
      go_wp2_with fail
      refine HT5.mono ?_
      rintro e v6 ⟨rfl, hv6⟩
      have hb7 : Below w.heap.size w v6 := hb6.trans (hv6.mono hb6.size)
      have k7 := blk_keep k6 hv6 (Array.getElem?_eq_some_iff.1 k6).1
      have z6_0 := cell_blk (j := 0) k7 rfl
      have z6_1 := cell_blk (j := 1) k7 rfl
      have z6_2 := cell_blk (j := 2) k7 rfl
      have z6_3 := cell_blk (j := 3) k7 rfl
      have z6_4 := cell_blk (j := 4) k7 rfl
      have z6_5 := cell_blk (j := 5) k7 rfl
      go_wp2
      go_ret
      exact ⟨by rw [HQ.out]; rfl, hb7⟩
     ·rw [h4] at HC4
      cases h5 : hasS x.imps x.name
      ·rw [h5] at HC5
       have HQ : Hid ((x.alike) = true) := by show _ = _; unfold Srx.alike; simp [h0, h1, h2, h3, h4, h5]
       clear h0 h1 h2 h3 h4 h5
       go_enter Tryz.func63, Tryz.ntmps63
       go_wp2_with fail
       refine (HC0.out _ hb0).mono ?_
       rintro e v0 ⟨rfl, hv0⟩
       have hb1 : Below w.heap.size w v0 := hb0.trans (hv0.mono hb0.size)
       have k1 := blk_keep k0 hv0 (Array.getElem?_eq_some_iff.1 k0).1
       have z0_0 := cell_blk (j := 0) k1 rfl
       have z0_1 := cell_blk (j := 1) k1 rfl
       have z0_2 := cell_blk (j := 2) k1 rfl
       have z0_3 := cell_blk (j := 3) k1 rfl
       have z0_4 := cell_blk (j := 4) k1 rfl
       have z0_5 := cell_blk (j := 5) k1 rfl
       go_wp2_with fail
       refine (HC1.out _ hb1).mono ?_
       rintro e v1 ⟨rfl, hv1⟩
       have hb2 : Below w.heap.size w v1 := hb1.trans (hv1.mono hb1.size)
       have k2 := blk_keep k1 hv1 (Array.getElem?_eq_some_iff.1 k1).1
       have z1_0 := cell_blk (j := 0) k2 rfl
       have z1_1 := cell_blk (j := 1) k2 rfl
       have z1_2 := cell_blk (j := 2) k2 rfl
       have z1_3 := cell_blk (j := 3) k2 rfl
       have z1_4 := cell_blk (j := 4) k2 rfl
       have z1_5 := cell_blk (j := 5) k2 rfl
       go_wp2_with fail
       refine (HC2.out _ hb2).mono ?_
       rintro e v2 ⟨rfl, hv2⟩
       have hb3 : Below w.heap.size w v2 := hb2.trans (hv2.mono hb2.size)
       have k3 := blk_keep k2 hv2 (Array.getElem?_eq_some_iff.1 k2).1
       have z2_0 := cell_blk (j := 0) k3 rfl
       have z2_1 := cell_blk (j := 1) k3 rfl
       have z2_2 := cell_blk (j := 2) k3 rfl
       have z2_3 := cell_blk (j := 3) k3 rfl
       have z2_4 := cell_blk (j := 4) k3 rfl
       have z2_5 := cell_blk (j := 5) k3 rfl
       go_wp2_with fail
       refine (HN3.out _ hb3).mono ?_
       rintro e v3 ⟨oa3, oc3, rfl, ho3, hv3⟩
       have HT3 := HC3.out v3 oa3 oc3 ho3
       clear ho3
       have hb4 : Below w.heap.size w v3 := hb3.trans (hv3.mono hb3.size)
       have k4 := blk_keep k3 hv3 (Array.getElem?_eq_some_iff.1 k3).1
       have z3_0 := cell_blk (j := 0) k4 rfl
       have z3_1 := cell_blk (j := 1) k4 rfl
       have z3_2 := cell_blk (j := 2) k4 rfl
       have z3_3 := cell_blk (j := 3) k4 rfl
       have z3_4 := cell_blk (j := 4) k4 rfl
       have z3_5 := cell_blk (j := 5) k4 rfl
       go_wp2_with fail
       refine HT3.mono ?_
       rintro e v4 ⟨rfl, hv4⟩
       have hb5 : Below w.heap.size w v4 := hb4.trans (hv4.mono hb4.size)
       have k5 := blk_keep k4 hv4 (Array.getElem?_eq_some_iff.1 k4).1
       have z4_0 := cell_blk (j := 0) k5 rfl
       have z4_1 := cell_blk (j := 1) k5 rfl
       have z4_2 := cell_blk (j := 2) k5 rfl
       have z4_3 := cell_blk (j := 3) k5 rfl
       have z4_4 := cell_blk (j := 4) k5 rfl
       have z4_5 := cell_blk (j := 5) k5 rfl
       go_wp2_with fail
       refine (HN4.out _ hb5).mono ?_
       rintro e v5 ⟨oa5, oc5, rfl, ho5, hv5⟩
       have HT5 := HC4.out v5 oa5 oc5 ho5
       clear ho5
       have hb6 : Below w.heap.size w v5 := hb5.trans (hv5.mono hb5.size)
       have k6 := blk_keep k5 hv5 (Array.getElem?_eq_some_iff.1 k5).1
       have z5_0 := cell_blk (j := 0) k6 rfl
       have z5_1 := cell_blk (j := 1) k6 rfl
       have z5_2 := cell_blk (j := 2) k6 rfl
       have z5_3 := cell_blk (j := 3) k6 rfl
       have z5_4 := cell_blk (j := 4) k6 rfl
       have z5_5 := cell_blk (j := 5) k6 rfl
       go_wp2_with fail
       refine HT5.mono ?_
       rintro e v6 ⟨rfl, hv6⟩
       have hb7 : Below w.heap.size w v6 := hb6.trans (hv6.mono hb6.size)
       have k7 := blk_keep k6 hv6 (Array.getElem?_eq_some_iff.1 k6).1
       have z6_0 := cell_blk (j := 0) k7 rfl
       have z6_1 := cell_blk (j := 1) k7 rfl
       have z6_2 := cell_blk (j := 2) k7 rfl
       have z6_3 := cell_blk (j := 3) k7 rfl
       have z6_4 := cell_blk (j := 4) k7 rfl
       have z6_5 := cell_blk (j := 5) k7 rfl
       go_wp2_with fail
       refine (HC5.out _ hb7).mono ?_
       rintro e v7 ⟨rfl, hv7⟩
       have hb8 : Below w.heap.size w v7 := hb7.trans (hv7.mono hb7.size)
       have k8 := blk_keep k7 hv7 (Array.getElem?_eq_some_iff.1 k7).1
       have z7_0 := cell_blk (j := 0) k8 rfl
       have z7_1 := cell_blk (j := 1) k8 rfl
       have z7_2 := cell_blk (j := 2) k8 rfl
       have z7_3 := cell_blk (j := 3) k8 rfl
       have z7_4 := cell_blk (j := 4) k8 rfl
       have z7_5 := cell_blk (j := 5) k8 rfl
       go_wp2
       go_ret
       exact ⟨by rw [HQ.out]; rfl, hb8⟩
      ·rw [h5] at HC5
       have HQ : Hid ((x.alike) = false) := by show _ = _; unfold Srx.alike; simp [h0, h1, h2, h3, h4, h5]
       clear h0 h1 h2 h3 h4 h5
       go_enter Tryz.func63, Tryz.ntmps63
       go_wp2_with fail
       refine (HC0.out _ hb0).mono ?_
       rintro e v0 ⟨rfl, hv0⟩
       have hb1 : Below w.heap.size w v0 := hb0.trans (hv0.mono hb0.size)
       have k1 := blk_keep k0 hv0 (Array.getElem?_eq_some_iff.1 k0).1
       have z0_0 := cell_blk (j := 0) k1 rfl
       have z0_1 := cell_blk (j := 1) k1 rfl
       have z0_2 := cell_blk (j := 2) k1 rfl
       have z0_3 := cell_blk (j := 3) k1 rfl
       have z0_4 := cell_blk (j := 4) k1 rfl
       have z0_5 := cell_blk (j := 5) k1 rfl
       go_wp2_with fail
       refine (HC1.out _ hb1).mono ?_
       rintro e v1 ⟨rfl, hv1⟩
       have hb2 : Below w.heap.size w v1 := hb1.trans (hv1.mono hb1.size)
       have k2 := blk_keep k1 hv1 (Array.getElem?_eq_some_iff.1 k1).1
       have z1_0 := cell_blk (j := 0) k2 rfl
       have z1_1 := cell_blk (j := 1) k2 rfl
       have z1_2 := cell_blk (j := 2) k2 rfl
       have z1_3 := cell_blk (j := 3) k2 rfl
       have z1_4 := cell_blk (j := 4) k2 rfl
       have z1_5 := cell_blk (j := 5) k2 rfl
       go_wp2_with fail
       refine (HC2.out _ hb2).mono ?_
       rintro e v2 ⟨rfl, hv2⟩
       have hb3 : Below w.heap.size w v2 := hb2.trans (hv2.mono hb2.size)
       have k3 := blk_keep k2 hv2 (Array.getElem?_eq_some_iff.1 k2).1
       have z2_0 := cell_blk (j := 0) k3 rfl
       have z2_1 := cell_blk (j := 1) k3 rfl
       have z2_2 := cell_blk (j := 2) k3 rfl
       have z2_3 := cell_blk (j := 3) k3 rfl
       have z2_4 := cell_blk (j := 4) k3 rfl
       have z2_5 := cell_blk (j := 5) k3 rfl
       go_wp2_with fail
       refine (HN3.out _ hb3).mono ?_
       rintro e v3 ⟨oa3, oc3, rfl, ho3, hv3⟩
       have HT3 := HC3.out v3 oa3 oc3 ho3
       clear ho3
       have hb4 : Below w.heap.size w v3 := hb3.trans (hv3.mono hb3.size)
       have k4 := blk_keep k3 hv3 (Array.getElem?_eq_some_iff.1 k3).1
       have z3_0 := cell_blk (j := 0) k4 rfl
       have z3_1 := cell_blk (j := 1) k4 rfl
       have z3_2 := cell_blk (j := 2) k4 rfl
       have z3_3 := cell_blk (j := 3) k4 rfl
       have z3_4 := cell_blk (j := 4) k4 rfl
       have z3_5 := cell_blk (j := 5) k4 rfl
       go_wp2_with fail
       refine HT3.mono ?_
       rintro e v4 ⟨rfl, hv4⟩
       have hb5 : Below w.heap.size w v4 := hb4.trans (hv4.mono hb4.size)
       have k5 := blk_keep k4 hv4 (Array.getElem?_eq_some_iff.1 k4).1
       have z4_0 := cell_blk (j := 0) k5 rfl
       have z4_1 := cell_blk (j := 1) k5 rfl
       have z4_2 := cell_blk (j := 2) k5 rfl
       have z4_3 := cell_blk (j := 3) k5 rfl
       have z4_4 := cell_blk (j := 4) k5 rfl
       have z4_5 := cell_blk (j := 5) k5 rfl
       go_wp2_with fail
       refine (HN4.out _ hb5).mono ?_
       rintro e v5 ⟨oa5, oc5, rfl, ho5, hv5⟩
       have HT5 := HC4.out v5 oa5 oc5 ho5
       clear ho5
       have hb6 : Below w.heap.size w v5 := hb5.trans (hv5.mono hb5.size)
       have k6 := blk_keep k5 hv5 (Array.getElem?_eq_some_iff.1 k5).1
       have z5_0 := cell_blk (j := 0) k6 rfl
       have z5_1 := cell_blk (j := 1) k6 rfl
       have z5_2 := cell_blk (j := 2) k6 rfl
       have z5_3 := cell_blk (j := 3) k6 rfl
       have z5_4 := cell_blk (j := 4) k6 rfl
       have z5_5 := cell_blk (j := 5) k6 rfl
       go_wp2_with fail
       refine HT5.mono ?_
       rintro e v6 ⟨rfl, hv6⟩
       have hb7 : Below w.heap.size w v6 := hb6.trans (hv6.mono hb6.size)
       have k7 := blk_keep k6 hv6 (Array.getElem?_eq_some_iff.1 k6).1
       have z6_0 := cell_blk (j := 0) k7 rfl
       have z6_1 := cell_blk (j := 1) k7 rfl
       have z6_2 := cell_blk (j := 2) k7 rfl
       have z6_3 := cell_blk (j := 3) k7 rfl
       have z6_4 := cell_blk (j := 4) k7 rfl
       have z6_5 := cell_blk (j := 5) k7 rfl
       go_wp2_with fail
       refine (HC5.out _ hb7).mono ?_
       rintro e v7 ⟨rfl, hv7⟩
       have hb8 : Below w.heap.size w v7 := hb7.trans (hv7.mono hb7.size)
       have k8 := blk_keep k7 hv7 (Array.getElem?_eq_some_iff.1 k7).1
       have z7_0 := cell_blk (j := 0) k8 rfl
       have z7_1 := cell_blk (j := 1) k8 rfl
       have z7_2 := cell_blk (j := 2) k8 rfl
       have z7_3 := cell_blk (j := 3) k8 rfl
       have z7_4 := cell_blk (j := 4) k8 rfl
       have z7_5 := cell_blk (j := 5) k8 rfl
       go_wp2
       go_ret
       exact ⟨by rw [HQ.out]; rfl, hb8⟩
end Go.Proofs.YtamjofdgikifnaaGreat
