/- The program's Free. The law's marks: blocks that may be written, of any numbers and texts; what a mark leaves as it was. The law's marks: a text of a number. -/
import Derived.Test.YtamjofdgikifnaaGreatVit
import Derived.Test.YtamjofdgikifnaaGreatSzc
import Derived.Test.YtamjofdgikifnaaGreatRdx
import Derived.Test.YtamjofdgikifnaaGreatKmp
set_option linter.unusedVariables false
namespace Go.Proofs.YtamjofdgikifnaaGreat.Fr
open Go.ChangeShapes Go.WideShapes Go.ChangeAt Go.RowKit
theorem make44 (W : World) : (Instr.makeMap 101 none).run Tryz.prog W = .ok (.map (some W.heap.size)) (W.alloc (.map #[] 0)) := by
 rfl
set_option maxRecDepth 100000 in
set_option maxHeartbeats 1000000 in
theorem freeNames_any (a : Option Addr) (ns : List Nod) (cap : Nat) (root : Int) (i : Nat) (w : World) (hn : ns.length ≤ 1048576) (hr : RowN w w.heap.size a ns) (hsm : ∀ d ∈ ns, d.small) (hok : OkP ns root) (hi : i < ns.length) (hLk : (Lk ns).length ≤ 8388608) :
  Calls Tryz.prog 33 #[.slice a ns.length cap, .int .i64 (i : Int)] w fun e w' => TellP (freeF ns ns.length (i : Int) [] []) w e w' := by
 obtain ⟨w1, hw1⟩ : ∃ w1, w1 = w.alloc (Obj.cells #[.slice a ns.length cap] 52) := ⟨_, rfl⟩
 have HB1 : Hid (Below w.heap.size w w1) := by show Below _ _ _; rw [hw1]; exact (Below.refl _ _).alloc (Nat.le_refl _) _
 have k1 : w1.heap[w.heap.size]? = some (Obj.cells #[.slice a ns.length cap] 52) := by rw [hw1]; exact blk_alloc _ _
 have HW1 : Hid (w1 = w.alloc (Obj.cells #[.slice a ns.length cap] 52)) := hw1
 have HR : Hid (RowN w w.heap.size a ns) := hr
 have HOKP : Hid (OkP ns root) := hok
 have HSM : Hid (∀ d ∈ ns, d.small) := hsm
 have e0 := cell_blk (j := 0) k1 rfl
 rw [hw1] at e0
 clear hr hsm hok hw1
 have hsto := fun (W : World) (f x y z u : Nat) => run_store Tryz.prog W ⟨f, 0, none⟩ (Value.func (Fn.func 67) #[] #[.pointer (some ⟨x, 0, none⟩), .pointer (some ⟨y, 0, none⟩), .pointer (some ⟨z, 0, none⟩), .pointer (some ⟨u, 0, none⟩)]) .plain rfl
 have hmk := make44
 have HS1 : Hid (w.heap.size + 1 = w1.heap.size) := by show _ = _; rw [HW1.out]; simp
 go_enter Tryz.func33, Tryz.ntmps33
 go_wp2_with fail
 rw [← HW1.out, HS1.out]
 clear HW1 HS1
 obtain ⟨W, hW⟩ : ∃ W, W = (((w1.alloc (Obj.cells #[Value.slice none 0 0] 22)).alloc (Obj.map #[] 0)).alloc (Obj.cells #[Value.map (some (w1.heap.size + 1))] 101)).alloc (Obj.cells #[Value.func (Fn.func 67) #[] #[.pointer (some ⟨w1.heap.size + 1 + 1, 0, none⟩), .pointer (some ⟨w1.heap.size, 0, none⟩), .pointer (some ⟨w1.heap.size + 1 + 1 + 1, 0, none⟩), .pointer (some ⟨w.heap.size, 0, none⟩)]] 102) := ⟨_, rfl⟩
 obtain ⟨x, hxd⟩ : ∃ x : Bx, x = ⟨w1.heap.size + 1 + 1, w1.heap.size, w1.heap.size + 1 + 1 + 1, w.heap.size, w1.heap.size + 1, w.heap.size, w1.heap.size + 4⟩ := ⟨_, rfl⟩
 have hw1 : w.heap.size < w1.heap.size := (Array.getElem?_eq_some_iff.1 k1).1
 have hxo : x.Ok := by
  rw [hxd]
  constructor <;> (simp only; omega)
 have hz : W.heap.size = w1.heap.size + 4 := by rw [hW]; simp
 have hbW : Below w1.heap.size w1 W := by rw [hW]; exact ((((Below.refl _ _).alloc (Nat.le_refl _) _).alloc (by simp) _).alloc (by simp; omega) _).alloc (by simp; omega) _
 have HBW : Hid (Below w.heap.size w W) := HB1.out.trans (hbW.mono HB1.out.size)
 have hst : VSt x a ns cap root (FB [] []) [] (.slice none 0 0) W := by
  have hm : MapC W (w1.heap.size + 1) (Lk ns) (FB [] []) := by
   have h0 := (MapC.made (w1.alloc (Obj.cells #[Value.slice none 0 0] 22)) (Lk ns)).eq (G := FB [] []) FB_nil
   have e0 : (w1.alloc (Obj.cells #[Value.slice none 0 0] 22)).heap.size = w1.heap.size + 1 := by simp
   rw [e0] at h0
   refine h0.same ?_
   rw [hW]
   have hm0 : ((w1.alloc (Obj.cells #[Value.slice none 0 0] 22)).alloc (.map #[] 0)).heap[w1.heap.size + 1]? = some (.map #[] 0) := blk_at _ _ _ e0.symm
   rw [hm0]
   exact blk_past (blk_past hm0)
  rw [hxd]
  refine ⟨?_, ?_, ?_, (hbW.block _ hw1).trans k1, hm, ⟨rfl, .inl ⟨rfl, rfl⟩⟩, HR.out.below HBW.out, by simp only; omega⟩
  ·rw [hW]; exact blk_past (blk_at _ _ _ (by simp))
  ·rw [hW]; exact blk_past (blk_past (blk_past (blk_at _ _ _ rfl)))
  ·rw [hW]; exact blk_at _ _ _ (by simp)
 obtain ⟨d, hd⟩ : ∃ d, ns[i]? = some d := ⟨_, List.getElem?_eq_getElem hi⟩
 obtain ⟨b1, o1, ha, hbb, an, cn, aa, ca, v0, v1, v2, v3, v4, her⟩ := hst.rows i d hd
 have HV : Hid (Calls Tryz.prog 67 #[.agg #[.int .i64 d.k, .int .i64 d.n, .string d.s, .slice an d.names.length cn, .slice aa d.args.length ca], .pointer (some ⟨x.S, 0, none⟩), .pointer (some ⟨x.F, 0, none⟩), .pointer (some ⟨x.V, 0, none⟩), .pointer (some ⟨x.P, 0, none⟩)] W.drew fun e w' => VP x a ns cap root [] (freeF ns ns.length (i : Int) [] []) (.slice none 0 0) W e w') := (visit_any x hxo a ns cap root HSM.out HOKP.out hLk ns.length i hi hi d an aa cn ca [] [] (.slice none 0 0) W.drew hd her ⟨hst.s, hst.f, hst.vb, hst.p, hst.map.same rfl, hst.own, hst.rows, hst.size⟩ (by simp) (Fnd.nil ns)).mono (fun e w' ⟨v', h1, h2, h3, h4⟩ => ⟨v', h1, h2, ⟨h3.os, h3.tape, h3.output, h3.size, h3.block⟩, h4⟩)
 have p0 : W.cell? ⟨x.P, 0, none⟩ = some (.slice a ns.length cap) := cell_blk (j := 0) hst.p rfl
 have g0 : W.cell? ⟨x.V, 0, none⟩ = some (Value.func (.func 67) #[] #[.pointer (some ⟨x.S, 0, none⟩), .pointer (some ⟨x.F, 0, none⟩), .pointer (some ⟨x.V, 0, none⟩), .pointer (some ⟨x.P, 0, none⟩)]) := cell_blk (j := 0) hst.vb rfl
 have hx1 : x.S = w1.heap.size + 1 + 1 := by rw [hxd]
 have hx2 : x.F = w1.heap.size := by rw [hxd]
 have hx3 : x.V = w1.heap.size + 1 + 1 + 1 := by rw [hxd]
 have hx4 : x.P = w.heap.size := by rw [hxd]
 have hx5 : x.C = w1.heap.size + 4 := by rw [hxd]
 have hx6 : x.m = w1.heap.size + 1 := by rw [hxd]
 rw [hx1, hx2, hx3, hx4] at HV g0
 rw [hx4] at p0
 have HX2 : Hid (x.F = w1.heap.size) := hx2
 have HX5 : Hid (x.C = w1.heap.size + 4) := hx5
 have HX6 : Hid (x.m = w1.heap.size + 1) := hx6
 have HZ : Hid (W.heap.size = w1.heap.size + 4) := hz
 rw [← hW]
 clear hst hmk hW hbW hxd hx1 hx2 hx3 hx4 hx5 hx6 her hd hsto HB1 HR HSM HOKP e0 k1 hxo hz
 subst ha
 go_wp2_with fail
 go_region_with (go_at_call 67; refine HV.out.mono ?_; rintro e5 w5 ⟨v5, rfl, hvs5, hvg5, hnw5⟩)
 all_goals
  have f5 := cell_blk (j := 0) hvs5.f rfl
  rw [HX2.out] at f5
  obtain ⟨a5, c5, rfl⟩ := hvs5.own.slice
  have HO5 : Hid (OwnS w5 w.heap.size (.slice a5 (freeF ns ns.length (i : Int) [] []).length c5) (freeF ns ns.length (i : Int) [] [])) := hvs5.own.weak (by rw [HX5.out]; omega)
  have HB5 : Hid (Below w.heap.size w w5) := HBW.out.trans ⟨hvg5.os, hvg5.tape, hvg5.output, hvg5.size, fun k hk => hvg5.block k (by rw [HZ.out]; omega) (by rw [HX6.out]; omega) (by rw [HX2.out]; omega) (fun e => by cases e)⟩
  clear hvs5 hvg5 hnw5
  go_wp2
  go_ret
  exact ⟨_, rfl, HO5.out, HB5.out⟩
end Go.Proofs.YtamjofdgikifnaaGreat.Fr
set_option linter.unusedVariables false
namespace Go.Proofs.YtamjofdgikifnaaGreat
open Go.ChangeShapes Go.WideShapes Go.ChangeAt Go.RowKit
inductive Like : Value → Value → Prop
 | int (n m : Int) : Like (.int .i64 n) (.int .i64 m)
 | str (s t : ByteArray) : Like (.string s) (.string t)
 | same (v : Value) : Like v v
theorem Like.trans {a b c : Value} (h : Like a b) (g : Like b c) : Like a c := by
 cases h with
 | int n m =>
  cases g with
  | int _ p => exact .int _ _
  | same => exact .int _ _
 | str s t =>
  cases g with
  | str _ p => exact .str _ _
  | same => exact .str _ _
 | same => exact g
theorem Like.slice {a : Option Addr} {n c : Nat} {v : Value} (h : Like (.slice a n c) v) : v = .slice a n c := by
 cases h; rfl
structure Ks (B C : Nat) (w w' : World) : Prop where
 os : w'.os = w.os
 tape : w'.tape = w.tape
 output : w'.output = w.output
 size : w.heap.size ≤ w'.heap.size
 same : ∀ b, b < w.heap.size → (b < B ∨ C ≤ b) → w'.heap[b]? = w.heap[b]?
 cells : ∀ (b : Nat) (X : Array Value) (t : TypeId), w.heap[b]? = some (.cells X t (0, 0)) → ∃ X' : Array Value, w'.heap[b]? = some (.cells X' t (0, 0)) ∧ X'.size = X.size ∧ ∀ (j : Nat) (v : Value), X[j]? = some v → ∃ v', X'[j]? = some v' ∧ Like v v'
theorem Ks.refl (B C : Nat) (w : World) : Ks B C w w := ⟨rfl, rfl, rfl, Nat.le_refl _, fun _ _ _ => rfl, fun _ X _ h => ⟨X, h, rfl, fun _ v hv => ⟨v, hv, .same v⟩⟩⟩
theorem Ks.trans {B C : Nat} {a b c : World} (h : Ks B C a b) (g : Ks B C b c) : Ks B C a c :=
 ⟨g.os.trans h.os, g.tape.trans h.tape, g.output.trans h.output, Nat.le_trans h.size g.size, fun k hk hb => (g.same k (Nat.lt_of_lt_of_le hk h.size) hb).trans (h.same k hk hb), fun k X t hX => by
  obtain ⟨X1, e1, s1, c1⟩ := h.cells k X t hX
  obtain ⟨X2, e2, s2, c2⟩ := g.cells k X1 t e1
  refine ⟨X2, e2, s2.trans s1, fun j v hv => ?_⟩
  obtain ⟨v1, h1, l1⟩ := c1 j v hv
  obtain ⟨v2, h2, l2⟩ := c2 j v1 h1
  exact ⟨v2, h2, l1.trans l2⟩⟩
theorem Ks.of_below {B C : Nat} {w w' : World} (h : Below w.heap.size w w') : Ks B C w w' :=
 ⟨h.os, h.tape, h.output, h.size, fun k hk _ => h.block k hk, fun k X t hX => ⟨X, (h.block k (Array.getElem?_eq_some_iff.1 hX).1).trans hX, rfl, fun _ v hv => ⟨v, hv, .same v⟩⟩⟩
theorem Ks.set {B C : Nat} {w : World} {g o : Nat} {X : Array Value} {t : TypeId} {v v' : Value} (h1 : B ≤ g) (h2 : g < C) (hX : w.heap[g]? = some (.cells X t (0, 0))) (hv : X[o]? = some v) (hl : Like v v') : Ks B C w (w.setCell ⟨g, o, none⟩ v') := by
 refine ⟨rfl, rfl, rfl, by simp, fun k hk hb => heap_setCell_other _ _ _ _ (by show k ≠ g; omega), fun k Y u hY => ?_⟩
 by_cases hk : k = g
 ·subst hk
  rw [hX] at hY
  obtain ⟨rfl, rfl⟩ : X = Y ∧ t = u := by simpa using hY
  refine ⟨_, heap_setCell_same _ _ _ _ _ _ hX, by simp, fun j u hu => ?_⟩
  rw [Array.getElem?_setIfInBounds]
  by_cases hj : o = j
  ·subst hj
   rw [hv] at hu
   obtain rfl := Option.some.inj hu
   rw [if_pos rfl, if_pos (Array.getElem?_eq_some_iff.1 hv).1]
   exact ⟨v', rfl, hl⟩
  ·rw [if_neg hj]
   exact ⟨u, hu, .same u⟩
 ·exact ⟨Y, (heap_setCell_other _ _ _ _ hk).trans hY, rfl, fun _ u hu => ⟨u, hu, .same u⟩⟩
inductive Sh
 | i
 | s
 | r (m : Nat) (els : List (List Sh))
inductive Fits (B C : Nat) (w : World) : Sh → Value → Prop
 | i (n : Int) : Fits B C w .i (.int .i64 n)
 | s (t : ByteArray) : Fits B C w .s (.string t)
 | r (m : Nat) (els : List (List Sh)) (a : Option Addr) (cap b o : Nat) (X : Array Value) (t : TypeId) (V : Nat → Nat → Value)
   (ha : els ≠ [] → a = some ⟨b, o, none⟩ ∧ B ≤ b ∧ b < C ∧ w.heap[b]? = some (.cells X t (0, 0)))
   (hv : ∀ i fs j f, els[i]? = some fs → fs[j]? = some f → X[o + i * m + j]? = some (V i j))
   (hf : ∀ i fs j f, els[i]? = some fs → fs[j]? = some f → Fits B C w f (V i j)) : Fits B C w (.r m els) (.slice a els.length cap)
theorem Fits.ks {B C : Nat} {w w' : World} {f : Sh} {v : Value} (h : Fits B C w f v) (hk : Ks B C w w') : ∀ v', Like v v' → Fits B C w' f v' := by
 induction h with
 | i n =>
  intro v' hl
  cases hl with
  | int _ m => exact .i m
  | same => exact .i n
 | s t =>
  intro v' hl
  cases hl with
  | str _ u => exact .s u
  | same => exact .s t
 | r m els a cap b o X t V ha hv hf ih =>
  intro v' hl
  rw [hl.slice]
  by_cases hne : els = []
  ·subst hne
   exact .r m [] a cap b o X t V (fun h => absurd rfl h) (fun i fs j f h => by simp at h) (fun i fs j f h => by simp at h)
  ·obtain ⟨h1, h2, h3, h4⟩ := ha hne
   obtain ⟨X', e', s', c'⟩ := hk.cells b X t h4
   refine .r m els a cap b o X' t (fun i j => (X'[o + i * m + j]?).getD undef) (fun _ => ⟨h1, h2, h3, e'⟩) (fun i fs j f hi hj => ?_) (fun i fs j f hi hj => ?_)
   ·obtain ⟨v1, g1, _⟩ := c' _ _ (hv i fs j f hi hj)
    rw [g1]; rfl
   ·obtain ⟨v1, g1, l1⟩ := c' _ _ (hv i fs j f hi hj)
    rw [g1]
    exact ih i fs j f hi hj v1 l1
theorem Fits.row {B C : Nat} {w : World} {m : Nat} {els : List (List Sh)} {a : Option Addr} {n cap : Nat} (h : Fits B C w (.r m els) (.slice a n cap)) {i : Nat} {fs : List Sh} (hi : els[i]? = some fs) :
  ∃ (b o : Nat) (X : Array Value) (t : TypeId), a = some ⟨b, o, none⟩ ∧ B ≤ b ∧ b < C ∧ w.heap[b]? = some (.cells X t (0, 0)) ∧ ∀ (j : Nat) (f : Sh), fs[j]? = some f → ∃ u, X[o + i * m + j]? = some u ∧ Fits B C w f u := by
 cases h with
 | r _ _ _ _ b o X t V ha hv hf =>
  have hne : els ≠ [] := fun e => by subst e; simp at hi
  obtain ⟨h1, h2, h3, h4⟩ := ha hne
  exact ⟨b, o, X, t, h1, h2, h3, h4, fun j f hj => ⟨V i j, hv i fs j f hi hj, hf i fs j f hi hj⟩⟩
theorem Fits.int {B C : Nat} {w : World} {v : Value} (h : Fits B C w .i v) : ∃ n, v = .int .i64 n := by cases h; exact ⟨_, rfl⟩
theorem Fits.text {B C : Nat} {w : World} {v : Value} (h : Fits B C w .s v) : ∃ t, v = .string t := by cases h; exact ⟨_, rfl⟩
theorem Fits.slice {B C : Nat} {w : World} {m : Nat} {els : List (List Sh)} {v : Value} (h : Fits B C w (.r m els) v) : ∃ a cap, v = .slice a els.length cap := by cases h; exact ⟨_, _, rfl⟩
end Go.Proofs.YtamjofdgikifnaaGreat
set_option linter.unusedVariables false
namespace Go.Proofs.YtamjofdgikifnaaGreat
open Go.ChangeShapes Go.WideShapes Go.ChangeAt Go.RowKit
def mtx (n : Nat) : ByteArray := ⟨(109 :: digs 20 n).toArray⟩
set_option maxRecDepth 100000 in
set_option maxHeartbeats 1000000 in
theorem markText_any (n : Nat) (w : World) (h0 : 0 < n) (hn : n ≤ 9223372036854775807) :
  Calls Tryz.prog 44 #[.int .i64 n] w fun e w' => Ans w (.string (mtx n)) e w' := by
 have hz : decide ((n : Int) ≤ 0) = false := by simp; omega
 go_enter Tryz.func44, Tryz.ntmps44
 go_wp2
 go_loopw [0, 3] (fun t o wr => ∃ (f m : Nat) (out : List UInt8), f + out.length = 20 ∧ m < 10 ^ f ∧ m ≤ 9223372036854775807 ∧ digs f m ++ out = digs 20 n ∧ t = .int .i64 m ∧ o = .string ⟨out.toArray⟩ ∧ Below w.heap.size w wr)
  (fun t _ _ => (intOf t).toNat)
 case atStart => exact ⟨20, n, [], rfl, by omega, hn, by simp, rfl, rfl, Below.refl _ _⟩
 case round =>
  clear hz
  obtain ⟨f, m, out, hf, hm, hmn, hpre, rfl, rfl, hnx⟩ := hrel
  have hsz := hnx.size
  by_cases hm0 : m = 0
  ·subst hm0
   rw [digs_zero, List.nil_append] at hpre
   have HP : Hid (out = digs 20 n) := hpre
   have hll : out.length ≤ 20 := by omega
   clear hpre hm
   go_wp2
   go_ret
   exact ⟨by rw [mtx, ← HP.out]; exact congrArg (fun b => Ending.returned (Value.string b)) (ByteArray.mk_append_mk [109] out), hnx⟩
  ·match f, hf, hm, hpre with
   | 0, hf, hm, hpre => exact absurd hm (by simp; omega)
   | f + 1, hf, hm, hpre =>
    rw [digs_pos f m hm0] at hpre
    rw [Nat.pow_succ] at hm
    obtain ⟨c, hc⟩ : ∃ c, c = UInt8.ofNat (48 + m % 10) := ⟨_, rfl⟩
    have HP : Hid (digs f (m / 10) ++ (c :: out) = digs 20 n) := by
     show _ = _; rw [← hpre, hc]; simp
    have HM : Hid (m / 10 < 10 ^ f) := by show _ < _; omega
    have HC : Hid ((48 : Int) + (m : Int) % 10 = (c.toNat : Int)) := by
     have := ofNat48 (m % 10) (by omega)
     show _ = _; rw [hc, this]; omega
    have hll : out.length ≤ 20 := by omega
    have hz2 : decide ((0 : Int) < (m : Int)) = true := by simp; omega
    have hz3 : (0 : Int) < (m : Int) := by omega
    have hcv := conv_one wr c
    rw [← HC.out] at hcv
    clear hpre hm hc
    go_wp2
    go_roundw
    case rel => exact ⟨f, m / 10, c :: out, by simp; omega, HM.out, by omega, HP.out, by go_num, congrArg Value.string (ByteArray.mk_append_mk [c] out), hnx.alloc hsz _⟩
    case measure => simp [intOf]; omega
end Go.Proofs.YtamjofdgikifnaaGreat
