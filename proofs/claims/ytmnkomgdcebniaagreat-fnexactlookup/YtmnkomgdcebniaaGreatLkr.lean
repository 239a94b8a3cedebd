/- A map by a number and a text, its elements pointers: what it says, key by key. Where the value of a name stands: the program's way, over what its map of holdings says. What the program copies: texts, values. -/
import Derived.Test.YtmnkomgdcebniaaGreatKmp
import Derived.Test.YtmnkomgdcebniaaGreatLkt
import Derived.DeepKeys4
import Derived.Test.YtmnkomgdcebniaaGreatLkb
import Derived.Deep.QuietTactic
import Derived.BigQuiet
import Derived.Deep.DeepCutAuto
import Derived.Shelf.LaysM
import Derived.Shelf.Strconv.Clone
import Derived.Test.YtmnkomgdcebniaaGreatRdg
set_option linter.unusedVariables false
namespace Go.Proofs.YtmnkomgdcebniaaGreat
open Go.ChangeShapes Go.WideShapes Go.ChangeAt Go.RowKit
open Go.Maps (Keyed has)
theorem Tryz.laidOut1 : laidOutB Tryz.prog = true := by kernel_rfl
theorem Tryz.row118 : (163 : Nat) < Tryz.prog.types.size := by
  have h : Tryz.prog.types.size = 280 := by kernel_rfl
  rw [h]
  omega
theorem Tryz.law118 : Keyed Tryz.prog 163 := Keyed.of_law (deep_law_laid Tryz.laidOut1 (m := 2) (by omega) Tryz.row118 (by kernel_rfl) (by kernel_rfl))
theorem Tryz.keyType118 : Tryz.prog.keyType 163 = true := by kernel_rfl
theorem Tryz.cells118 : Tryz.prog.cellsOf 163 = 2 := by kernel_rfl
theorem Tryz.cellsOf9 : Tryz.prog.cellsOf 9 = 1 := by kernel_rfl
theorem Tryz.cellsOf3 : Tryz.prog.cellsOf 3 = 1 := by kernel_rfl
/-- A key. -/
def Kh (i : Int) (s : ByteArray) : Value := .agg #[.int .i64 i, .string s]
/-- What a key reads as. -/
def khl (i : Int) (s : ByteArray) : Lit := .string (keyBytes [.int .i64 i, .string s.data.toList])
theorem keyOf_H {i : Int} {s : ByteArray} (hs : s.size ≤ 1048576) (hi : i64B i) : keyOf Tryz.prog 163 (Kh i s) = some (khl i s) := by
  have wb := lit_wf hi
  have wa : s.size ≤ maxLen := by simp [maxLen]; omega
  obtain ⟨m, hm⟩ := Tryz.size99
  unfold keyOf Kh khl
  simp only [Tryz.underlying163]
  rw [if_pos (by simp [Tryz.keyType118, Value.formed, Tryz.underlying163, Tryz.cells118]), hm]
  unfold Program.keyLits
  simp only [Tryz.underlying163, Value.cells]
  rw [if_pos (by rw [Tryz.cells118]; exact ⟨rfl, by simp⟩)]
  simp [List.mapM_cons, Tryz.cellsOf9, Tryz.cellsOf3, Program.keyLits, Tryz.underlying3, Tryz.underlying9, wa, wb]
theorem khl_inj {s s' : ByteArray} {i i' : Int} (hs : s.size ≤ 1048576) (hs' : s'.size ≤ 1048576) (hi : i64B i) (hi' : i64B i') (e : khl i s = khl i' s') : i = i' ∧ s = s' := by
  have h1 := keyOf_H hs hi
  have h2 := keyOf_H hs' hi'
  rw [← e] at h2
  have := Tryz.law118.inj h1 h2
  simpa [Kh] using this
/-- How an element reads: as itself. -/
def Rh (v : Value) : Option (DataW Value × List MemPlace) := some (.held v, [])
theorem khl_key (i : Int) (s : ByteArray) : WideAt.IsKeyLit (khl i s) := trivial
/-- The map in a block says F, key by key. -/
def MapH (w : World) (m n : Nat) (F : Int → ByteArray → Option Value) : Prop :=
  ∃ D : DataW Value, w.ownsMap Tryz.prog 163 Rh m n D ∧ ∀ (i : Int) (s : ByteArray), s.size ≤ 1048576 → i64B i → (F i s = none → has D (khl i s) = false) ∧ ∀ v, F i s = some v → has D (khl i s) = true ∧ ∀ z, D.atKey (khl i s) z = .held v
def updH (F : Int → ByteArray → Option Value) (i0 : Int) (s0 : ByteArray) (v : Value) : Int → ByteArray → Option Value := fun i s => if i = i0 ∧ s = s0 then some v else F i s
theorem MapH.made (w : World) : MapH (w.alloc (.map #[] 0)) w.heap.size 0 (fun _ _ => none) :=
  ⟨_, World.ownsMap_made w _ _ _, fun _ _ _ _ => ⟨fun _ => rfl, fun _ h => by cases h⟩⟩
theorem MapH.same {w w' : World} {m n : Nat} {F : Int → ByteArray → Option Value} (h : MapH w m n F) (hb : w'.heap[m]? = w.heap[m]?) : MapH w' m n F := by
  obtain ⟨D, ⟨es, clock, h1, h2⟩, hD⟩ := h
  exact ⟨D, ⟨es, clock, hb.trans h1, h2⟩, hD⟩
theorem MapH.lt {w : World} {m n : Nat} {F : Int → ByteArray → Option Value} (h : MapH w m n F) : m < w.heap.size := by
  obtain ⟨D, ho, _⟩ := h
  exact ho.lt
theorem MapH.store {w : World} {m n : Nat} {F : Int → ByteArray → Option Value} (h : MapH w m n F) (hn : n < 9000000000000000000) {i : Int} {s : ByteArray} (hs : s.size ≤ 1048576) (hi : i64B i) (v : Value) :
    ∃ w', (Instr.mapUpdate 159 (.map (some m)) (Kh i s) v).run Tryz.prog w = .ok () w' ∧ MapH w' m (n + 1) (updH F i s v) ∧ w.grownBy w' (some m) := by
  obtain ⟨D, ho, hD⟩ := h
  have hm := ho.isMap
  obtain ⟨w', hr, ho', hg⟩ := ho.update Tryz.law118 Tryz.underlying159 (by unfold maxLen; omega) (keyOf_H hs hi) (rfl : Rh v = some (.held v, []))
  refine ⟨w', hr, ⟨_, ho', fun j t ht hj => ?_⟩, hg⟩
  by_cases he : j = i ∧ t = s
  · obtain ⟨rfl, rfl⟩ := he
    have e : updH F j t v j t = some v := if_pos ⟨rfl, rfl⟩
    rw [e]
    refine ⟨fun h => (by cases h), fun v' h => ?_⟩
    obtain rfl := Option.some.inj h
    exact ⟨Maps.has_put_same hm (khl_key _ _) _, fun z => Maps.atKey_put_same hm (khl_key _ _) _ z⟩
  · have e : updH F i s v j t = F j t := if_neg he
    have hne : khl j t ≠ khl i s := fun h => he (khl_inj ht hs hj hi h)
    rw [e, Maps.has_put_other hne]
    obtain ⟨h1, h2⟩ := hD j t ht hj
    exact ⟨h1, fun v' h => ⟨(h2 v' h).1, fun z => by rw [Maps.atKey_put_other hne]; exact (h2 v' h).2 z⟩⟩
theorem Tryz.zero116 (w : World) : (zeroValue 161).run Tryz.prog w = .ok (.pointer none) w := by kernel_rfl
theorem MapH.look {w : World} {m n : Nat} {F : Int → ByteArray → Option Value} (h : MapH w m n F) {i : Int} {s : ByteArray} (hs : s.size ≤ 1048576) (hi : i64B i) :
    (Instr.lookup 159 (.map (some m)) (Kh i s) false).run Tryz.prog w = .ok ((F i s).getD (.pointer none)) w := by
  obtain ⟨D, ho, hD⟩ := h
  obtain ⟨u, ps, hr, hv⟩ := ho.lookup Tryz.law118 Tryz.underlying159 (Tryz.zero116 w) (rfl : Rh (.pointer none) = some (.held (.pointer none), [])) (keyOf_H hs hi)
  obtain ⟨h1, h2⟩ := hD i s hs hi
  cases hF : F i s with
  | none =>
    rw [Maps.atKey_of_not_has (h1 hF)] at hv
    have : Rh u = some (.held u, []) := rfl
    rw [this] at hv
    simp at hv
    rw [hv.1] at hr
    exact hr
  | some v =>
    rw [(h2 v hF).2] at hv
    have : Rh u = some (.held u, []) := rfl
    rw [this] at hv
    simp at hv
    rw [hv.1] at hr
    exact hr
end Go.Proofs.YtmnkomgdcebniaaGreat
set_option linter.unusedVariables false
namespace Go.Proofs.YtmnkomgdcebniaaGreat
open Go.ChangeShapes Go.WideShapes Go.ChangeAt Go.RowKit
/-- What a library has under a name, behind a pointer. -/
def Held (w : World) (B : Nat) (l : List Ins) (i : Int) (s : ByteArray) (r : Option Value) : Prop :=
  (∃ x k v h b o, 0 ≤ i ∧ l[i.toNat]? = some x ∧ idxS x.names s = some k ∧ x.vals[k]? = some v ∧ r = some (.pointer (some ⟨h, 0, none⟩)) ∧ w.heap[h]? = some (.cells #[.pointer (some ⟨b, o, none⟩), .pointer none] 166 (0, 0)) ∧ b < B ∧ ValAt w b o v) ∨
  (∃ x d h b o, 0 ≤ i ∧ l[i.toNat]? = some x ∧ idxS x.names s = none ∧ x.link s = some d ∧ r = some (.pointer (some ⟨h, 0, none⟩)) ∧ w.heap[h]? = some (.cells #[.pointer none, .pointer (some ⟨b, o, none⟩)] 166 (0, 0)) ∧ b < B ∧ w.cell? ⟨b, o, none⟩ = some (.string d.name) ∧ w.cell? ⟨b, o + 1, none⟩ = some (.int .i64 d.inst) ∧ w.cell? ⟨b, o + 2, none⟩ = some (.string d.at_)) ∨
  (r = none ∧ ∀ x, 0 ≤ i → l[i.toNat]? = some x → idxS x.names s = none ∧ x.link s = none)
/-- What holdings leaves. -/
def HoldP (l : List Ins) (w : World) (e : Ending) (w' : World) : Prop :=
  ∃ m n F, e = .returned (.map (some m)) ∧ MapH w' m n F ∧ (∀ (i : Int) (s : ByteArray), s.size ≤ 1048576 → i64B i → Held w' w.heap.size l i s (F i s)) ∧ Below w.heap.size w w'
/-- What is looked for, at whatever number. -/
def lookI (l : List Ins) (i : Int) (s : ByteArray) : Val := if 0 ≤ i then look l i.toNat s else val0
/-- What find tells. -/
def FindP (l : List Ins) (i : Int) (s : ByteArray) (w : World) (e : Ending) (w' : World) : Prop :=
  ((e = .returned (.pointer none) ∧ lookI l i s = val0) ∨ ∃ b o, e = .returned (.pointer (some ⟨b, o, none⟩)) ∧ b < w.heap.size ∧ ValAt w' b o (lookI l i s)) ∧ Below w.heap.size w w'
theorem lookI_own {l : List Ins} {i : Int} {s : ByteArray} {x : Ins} {k : Nat} {v : Val} (h0 : 0 ≤ i) (hx : l[i.toNat]? = some x) (hi : idxS x.names s = some k) (hv : x.vals[k]? = some v) : lookI l i s = v := by
  unfold lookI look
  rw [if_pos h0, hx]
  simp [hi, hv]
theorem lookI_none {l : List Ins} {i : Int} {s : ByteArray} (h : ∀ x, 0 ≤ i → l[i.toNat]? = some x → idxS x.names s = none ∧ x.link s = none) : lookI l i s = val0 := by
  unfold lookI
  by_cases h0 : 0 ≤ i
  · rw [if_pos h0]
    unfold look
    cases hx : l[i.toNat]? with
    | none => rfl
    | some x =>
      obtain ⟨h1, h2⟩ := h x h0 hx
      simp [h1, h2]
  · rw [if_neg h0]
theorem lookI_link {l : List Ins} {i : Int} {s : ByteArray} {x : Ins} {d : Lnk} (h0 : 0 ≤ i) (hx : l[i.toNat]? = some x) (hi : idxS x.names s = none) (hd : x.link s = some d) : lookI l i s = match l[d.inst.toNat]? with | none => val0 | some z => z.own d.at_ := by
  unfold lookI look
  rw [if_pos h0, hx]
  simp [hi, hd]
  cases l[d.inst.toNat]? <;> rfl
set_option maxRecDepth 100000 in
set_option maxHeartbeats 2000000 in
theorem find_any (a : Option Addr) (l : List Ins) (ca : Nat) (i : Int) (s : ByteArray) (w : World) (hi : i64B i) (hs : s.size ≤ 1048576) (hsm : ∀ x ∈ l, Ins.small x) (hld : ∀ x ∈ l, ∀ k ∈ x.links, 0 ≤ k.inst)
    (hold : Calls Tryz.prog 97 #[.slice a l.length ca] w fun e w' => HoldP l w e w') :
    Calls Tryz.prog 49 #[.slice a l.length ca, .int .i64 i, .string s] w fun e w' => FindP l i s w e w' := by
  have HH : Hid (Calls Tryz.prog 97 #[.slice a l.length ca] w fun e w' => HoldP l w e w') := hold
  have HSM : Hid (∀ x ∈ l, Ins.small x) := hsm
  have HLD : Hid (∀ x ∈ l, ∀ k ∈ x.links, 0 ≤ k.inst) := hld
  clear hold hsm hld
  go_enter Tryz.func49, Tryz.ntmps49
  go_wp2_with fail
  refine HH.out.mono ?_
  rintro e w1 ⟨m, n, F, rfl, hm, hF, hb1⟩
  have hk1 : (Instr.lookup 159 (.map (some m)) (.agg #[.int .i64 i, .string s]) false).run Tryz.prog w1 = .ok ((F i s).getD (.pointer none)) w1 := hm.look hs hi
  have HM : Hid (MapH w1 m n F) := hm
  have HF : Hid (∀ (i : Int) (s : ByteArray), s.size ≤ 1048576 → i64B i → Held w1 w.heap.size l i s (F i s)) := hF
  have HB : Hid (Below w.heap.size w w1) := hb1
  clear hm hF hb1 HH
  rcases HF.out i s hs hi with ⟨x, k, v, h, b, o, h0, hx, hix, hv, hr, hblk, hbB, hval⟩ | ⟨x, d, h, b, o, h0, hx, hix, hd, hr, hblk, hbB, c0, c1, c2⟩ | ⟨hr, hn⟩
  · rw [hr] at hk1
    simp only [Option.getD_some] at hk1
    have HL : Hid (lookI l i s = v) := lookI_own h0 hx hix hv
    have q0 := cell_blk (j := 0) hblk rfl
    have q1 := cell_blk (j := 1) hblk rfl
    clear hx hix hv hr hblk
    go_wp2_with fail
    go_ret
    exact ⟨.inr ⟨b, o, rfl, hbB, by rw [HL.out]; exact hval⟩, HB.out⟩
  · rw [hr] at hk1
    simp only [Option.getD_some] at hk1
    have hmx := List.mem_of_getElem? hx
    have hdm : d ∈ x.links := List.mem_of_find?_eq_some hd
    have hd0 := HLD.out x hmx d hdm
    obtain ⟨d1, d2, d3⟩ := ((HSM.out x hmx).2.2.2.2.1.2) d hdm
    have HL : Hid (lookI l i s = match l[d.inst.toNat]? with | none => val0 | some z => z.own d.at_) := lookI_link h0 hx hix hd
    have q0 := cell_blk (j := 0) hblk rfl
    have q1 := cell_blk (j := 1) hblk rfl
    have hk2 : ∀ nd, (Instr.lookup 159 (.map (some m)) (.agg #[.int .i64 d.inst, .string d.at_]) false).run Tryz.prog (w1.drewN nd) = .ok ((F d.inst d.at_).getD (.pointer none)) (w1.drewN nd) := fun nd => (HM.out.same (w' := w1.drewN nd) rfl).look d3 d2
    have hk3 : (Instr.lookup 159 (.map (some m)) (.agg #[.int .i64 d.inst, .string d.at_]) false).run Tryz.prog w1.drew = .ok ((F d.inst d.at_).getD (.pointer none)) w1.drew := hk2 1
    clear hx hix hd hr hblk
    go_upto_region 4 with fail
    go_cut [8] (fun c wx => c = (F d.inst d.at_).getD (.pointer none) ∧ ∃ nd, wx = w1.drewN nd)
    case first =>
      go_region
      all_goals
        go_wp2_with fail
        go_meet
        exact ⟨rfl, _, rfl⟩
    case rest =>
      obtain ⟨rfl, nd, rfl⟩ := hcut
      have hbd : Below w.heap.size w (w1.drewN nd) := below_drewN HB.out nd
      rcases HF.out d.inst d.at_ d3 d2 with ⟨z, k2, v, h2, b2, o2, _, hz, hiz, hvz, hr2, hblk2, hbB2, hval2⟩ | ⟨z, d', h2, b2, o2, _, hz, hiz, hdz, hr2, hblk2, _, _, _, _⟩ | ⟨hr2, hn2⟩
      · rw [hr2]
        have HV : Hid (lookI l i s = v) := by show _ = _; rw [HL.out, hz]; simp [Ins.own, hiz, hvz]
        have t0 := cell_blk (w := w1) (j := 0) hblk2 rfl
        clear hz hiz hvz hr2 hblk2
        simp only [Option.getD_some]
        go_wp2_with fail
        go_ret
        exact ⟨.inr ⟨b2, o2, rfl, hbB2, by rw [HV.out]; exact hval2⟩, hbd⟩
      · rw [hr2]
        have HV : Hid (lookI l i s = val0) := by show _ = _; rw [HL.out, hz]; simp [Ins.own, hiz]
        have t0 := cell_blk (w := w1) (j := 0) hblk2 rfl
        clear hz hiz hdz hr2 hblk2
        simp only [Option.getD_some]
        go_wp2_with fail
        go_ret
        exact ⟨.inl ⟨rfl, HV.out⟩, hbd⟩
      · rw [hr2]
        have HV : Hid (lookI l i s = val0) := by
          show _ = _
          rw [HL.out]
          cases hz : l[d.inst.toNat]? with
          | none => rfl
          | some z => simp [Ins.own, (hn2 z hd0 hz).1]
        clear hr2 hn2
        simp only [Option.getD_none]
        go_wp2_with fail
        go_ret
        exact ⟨.inl ⟨rfl, HV.out⟩, hbd⟩
  · rw [hr] at hk1
    simp only [Option.getD_none] at hk1
    have HL : Hid (lookI l i s = val0) := lookI_none hn
    clear hn hr
    go_wp2_with fail
    go_ret
    exact ⟨.inl ⟨rfl, HL.out⟩, HB.out⟩
end Go.Proofs.YtmnkomgdcebniaaGreat
set_option linter.unusedVariables false
namespace Go.Proofs.YtmnkomgdcebniaaGreat
def Tryz.laysM316_ren : Go.Shelf.Ren := ⟨fun | 316 => 142 | n => n, fun | 9 => 9 | 3 => 3 | 4 => 4 | 37 => 217 | 0 => 0 | 127 => 242 | 5 => 5 | n => n, fun | n => n⟩
theorem Tryz.laysM316 : Go.Proofs.LaysM.n316 Tryz.prog Tryz.laysM316_ren := {
  mixed := by kernel_rfl
  f316 := Tryz.func142.trans (congrArg some (by kernel_rfl))
  t0 := Tryz.underlying0
  a0 := Tryz.isAgg0
  z0 := Tryz.sizeOf0
  v0 := Tryz.zeroValue0
  t3 := Tryz.underlying3
  a3 := Tryz.isAgg3
  z3 := Tryz.sizeOf3
  v3 := Tryz.zeroValue3
  t4 := Tryz.underlying4
  a4 := Tryz.isAgg4
  z4 := Tryz.sizeOf4
  v4 := Tryz.zeroValue4
  t9 := Tryz.underlying9
  a9 := Tryz.isAgg9
  z9 := Tryz.sizeOf9
  v9 := Tryz.zeroValue9
  t37 := Tryz.underlying217
  a37 := Tryz.isAgg217
  z37 := Tryz.sizeOf217
  v37 := Tryz.zeroValue217
  t127 := Tryz.underlying242
  a127 := Tryz.isAgg242
  z127 := Tryz.sizeOf242
  v127 := Tryz.zeroValue242
  t5 := Tryz.underlying5
  a5 := Tryz.isAgg5
  z5 := Tryz.sizeOf5
  v5 := Tryz.zeroValue5
  i0 := by kernel_rfl
  i3 := by kernel_rfl
  i4 := by kernel_rfl
  i5 := by kernel_rfl
  i9 := by kernel_rfl
  i37 := by kernel_rfl
  i127 := by kernel_rfl }
open Go.RowKit in
theorem Tryz.stringslite_Clone (s : ByteArray) (w : World) (hlim : s.size ≤ 281474976710656) :
    Calls Tryz.prog 142 #[.string s] w fun e w' => e = .returned (.string s) ∧ Below w.heap.size w w' := Any.stringslite_Clone Tryz.laysM316 s w hlim
end Go.Proofs.YtmnkomgdcebniaaGreat
namespace Go.Proofs.YtmnkomgdcebniaaGreat
open Go.ChangeShapes Go.WideShapes Go.ChangeAt Go.RowKit
theorem clone_any (s : ByteArray) (w : World) (hs : s.size ≤ 1048576) : Calls Tryz.prog 98 #[.string s] w fun e w' => Ans w (.string s) e w' := by
  have HC : Hid (Calls Tryz.prog 142 #[.string s] w fun e w' => e = .returned (.string s) ∧ Below w.heap.size w w') := Tryz.stringslite_Clone s w (by omega)
  go_enter Tryz.func98, Tryz.ntmps98
  go_wp2_with (go_at_call 142; refine HC.out.mono ?_; rintro e w2 ⟨rfl, hb⟩)
  go_ret
  exact ⟨rfl, hb⟩
set_option maxRecDepth 100000 in
set_option maxHeartbeats 1000000 in
theorem copyValue_any (d : Val) (w : World) (hs : d.s.size ≤ 1048576) : Calls Tryz.prog 50 #[.agg #[.int .i64 d.k, .int .i64 d.n, .string d.s]] w fun e w' => Ans w (.agg #[.int .i64 d.k, .int .i64 d.n, .string d.s]) e w' := by
  have HC : Hid (∀ w, Calls Tryz.prog 98 #[.string d.s] w fun e w' => Ans w (.string d.s) e w') := fun w => clone_any d.s w hs
  have hb0 : Below w.heap.size w ((w.alloc (Obj.cells #[.int .i64 d.k, .int .i64 d.n, .string d.s] 39)).alloc (Obj.cells #[.int .i64 0, .int .i64 0, .string ⟨#[]⟩] 39)) := ((Below.refl _ _).alloc (Nat.le_refl _) _).alloc (by simp) _
  have k0 : ((w.alloc (Obj.cells #[.int .i64 d.k, .int .i64 d.n, .string d.s] 39)).alloc (Obj.cells #[.int .i64 0, .int .i64 0, .string ⟨#[]⟩] 39)).heap[w.heap.size]? = some (Obj.cells #[.int .i64 d.k, .int .i64 d.n, .string d.s] 39) := blk_past (blk_at _ _ _ rfl)
  have k1 : ((w.alloc (Obj.cells #[.int .i64 d.k, .int .i64 d.n, .string d.s] 39)).alloc (Obj.cells #[.int .i64 0, .int .i64 0, .string ⟨#[]⟩] 39)).heap[w.heap.size + 1]? = some (Obj.cells #[.int .i64 0, .int .i64 0, .string ⟨#[]⟩] 39) := blk_at _ _ _ (by simp)
  have hs0 : ((w.alloc (Obj.cells #[.int .i64 d.k, .int .i64 d.n, .string d.s] 39)).alloc (Obj.cells #[.int .i64 0, .int .i64 0, .string ⟨#[]⟩] 39)).heap.size = w.heap.size + 2 := by simp
  go_enter Tryz.func50, Tryz.ntmps50
  go_wp2_with fail
  refine (HC.out _).mono ?_
  rintro e w1 ⟨rfl, hb1⟩
  have k2 := blk_keep k0 hb1 (by omega)
  have k3 := blk_keep k1 hb1 (by omega)
  have c0 := cell_blk (j := 0) k2 rfl
  have c1 := cell_blk (j := 1) k2 rfl
  have c2 := cell_blk (j := 2) k2 rfl
  have f2 := frozen_blk k2 2
  have d0 := cell_blk (j := 0) k3 rfl
  have d1 := cell_blk (j := 1) k3 rfl
  have d2 := cell_blk (j := 2) k3 rfl
  have g0 := frozen_blk k3 0
  have g1 := frozen_blk k3 1
  have g2 := frozen_blk k3 2
  have HB : Hid (Below w.heap.size w w1) := hb0.trans (hb1.mono hb0.size)
  have K3 : Hid (w1.heap[w.heap.size + 1]? = some (Obj.cells #[.int .i64 0, .int .i64 0, .string ⟨#[]⟩] 39)) := k3
  clear hb0 hb1 k0 k1 k2 k3 hs0 HC
  go_wp2
  have K4 : (w1.setCell ⟨w.heap.size, 2, none⟩ (.string d.s)).heap[w.heap.size + 1]? = some (Obj.cells #[.int .i64 0, .int .i64 0, .string ⟨#[]⟩] 39) := (heap_setCell_other _ _ _ _ (by show w.heap.size + 1 ≠ w.heap.size; omega)).trans K3.out
  refine bodyPost_ret (results_cell_row rfl _ _ (w.heap.size + 1) 39 #[.int .i64 d.k, .int .i64 d.n, .string d.s] (0, 0) _ rfl (heap_setCell_same _ _ _ _ _ _ (heap_setCell_same _ _ _ _ _ _ (heap_setCell_same _ _ _ _ _ _ K4))) Tryz.underlying39 rfl (by kernel_rfl)) rfl ?_
  exact ⟨rfl, (((HB.out.setCell (p := ⟨_, _, none⟩) (Nat.le_refl _) _).setCell (p := ⟨_, _, none⟩) (by simp) _).setCell (p := ⟨_, _, none⟩) (by simp) _).setCell (p := ⟨_, _, none⟩) (by simp) _⟩
end Go.Proofs.YtmnkomgdcebniaaGreat
