/- The program's Lint. -/
import Derived.Test.YtamjofdgikifnaaGreatMrt
import Derived.Test.YtamjofdgikifnaaGreatLnp
import Derived.Test.YtamjofdgikifnaaGreatCtn
import Derived.Test.YtamjofdgikifnaaGreatImc
set_option linter.unusedVariables false
namespace Go.Proofs.YtamjofdgikifnaaGreat
open Go.ChangeShapes Go.WideShapes Go.ChangeAt Go.RowKit
def Apt2 (v u : Value) : Prop := ∀ b, v.ownBlock = some b → u.ownBlock ≠ some b
theorem own_grown {w w' : World} {B n s : Nat} {e : TypeId} {v : Value} {xs : List Value} {o : Option Nat} (h : w.ownsRow B e s v n xs) (hg : w.grownBy w' o) (ha : ∀ b, v.ownBlock = some b → o ≠ some b) : w'.ownsRow B e s v n xs :=
 own_keep h fun b hb => hg.block b (own_blk h hb).2.1 fun e => ha b hb e.symm
theorem own_below' {w w' : World} {B n s : Nat} {e : TypeId} {v : Value} {xs : List Value} (h : w.ownsRow B e s v n xs) (hb : Below w.heap.size w w') : w'.ownsRow B e s v n xs := own_keep h fun b hb' => hb.block b (own_blk h hb').2.1
theorem apt2_new {w w2 : World} {B n s : Nat} {e : TypeId} {v u v' : Value} {xs : List Value} (ha : Apt2 v u) (hu : w.ownsRow B e s u n xs) (hv : v'.ownBlock = v.ownBlock ∨ v'.ownBlock = some w2.heap.size) (hsz : w.heap.size ≤ w2.heap.size) : Apt2 v' u := fun b hb hub => by
 rcases hv with h | h
 ·exact ha b (h ▸ hb) hub
 ·rw [h] at hb
  have := (own_blk hu hub).2.1
  obtain rfl := Option.some.inj hb
  omega
theorem Apt2.symm {v u : Value} (h : Apt2 v u) : Apt2 u v := fun b hb hv => h b hv hb
theorem OwnS.append {w : World} {B n : Nat} {v : Value} {l m : List ByteArray} (hn : n = m.length) (h : w.ownsRow B 9 1 v (l.length + n) (l.map Value.string ++ m.map Value.string)) : OwnS w B v (l ++ m) := by
 show World.ownsRow _ _ _ _ _ _ _
 rw [List.length_append, List.map_append, ← hn]
 exact h
theorem cell_al {W : World} {a : Addr} {v : Value} {o : Obj} (h : W.cell? a = some v) : (W.alloc o).cell? a = some v := by
 have hb : Below W.heap.size W (W.alloc o) := (Below.refl _ _).alloc (Nat.le_refl _) _
 have hl : a.block < W.heap.size := by
  apply Classical.byContradiction
  intro hn
  have : W.heap[a.block]? = none := Array.getElem?_eq_none (by omega)
  simp [World.cell?, this] at h
 exact (World.cell?_of_block (hb.block _ hl)).trans h
structure KeepC (M : Nat) (W w' : World) : Prop where
 cell : ∀ g o v, W.cell? ⟨g, o, none⟩ = some v → w'.cell? ⟨g, o, none⟩ = some v
 own : ∀ v l, OwnN W (M + 1) v l → OwnN w' (M + 1) v l
theorem OwnN.drew' {W : World} {B : Nat} {v : Value} {l : List Nte} (h : OwnN W B v l) : OwnN W.drew B v l := h
theorem RowS.drew' {W : World} {a : Option Addr} {l : List ByteArray} (h : RowS W W.heap.size a l) : RowS W.drew W.drew.heap.size a l := h
def ApD (w : World) (M : Nat) (l : List ByteArray) (W : World) (e : Ending) (w' : World) : Prop := ∃ a k, e = .returned (.slice a l.length k) ∧ RowS w' w'.heap.size a l ∧ CSt w M w' ∧ Hid (KeepC M W w')
theorem ApS.toD {W w' w : World} {M : Nat} {l : List ByteArray} {e : Ending} (hM : w.heap.size ≤ M) (hs : CSt w M W) (h : ApS M l W e w') : ApD w M l W e w' := by
 obtain ⟨v, rfl, ho, hm, hg⟩ := h
 obtain ⟨a, k, rfl, _⟩ := ho.slice
 exact ⟨a, k, rfl, ho.rowS, ⟨below_gby2 hs.below hM hg, hm⟩, ⟨fun g o v h => cell_gby hs.map hg (cell_lt h) h, fun v l h => own_gby h hg (Nat.lt_succ_self M)⟩⟩
theorem apD1_any {w : World} {M n nL : Nat} {L row : List ByteArray} {a b : Option Addr} {ca cb : Nat} (hM : w.heap.size ≤ M) (e1 : row.length = n) (e2 : L.length = nL) (hn : n ≤ 1048576) (hnL : nL ≤ 1048576) (hrs : ∀ x ∈ row, smS x) (hsl : ∀ x ∈ L, smS x) (hrow : RowS w w.heap.size a row) (hl : RowS w w.heap.size b L) :
  ∀ W g, CSt w M W → W.cell? ⟨g, 0, none⟩ = some (.slice b nL cb) → Calls Tryz.prog 38 #[.map (some M), .slice a n ca, .slice (some ⟨g, 0, none⟩) 1 1] W fun e w' => ApD w M (apR L row) W e w' := fun W g hs hc =>
 (apS_one M L row a b ca cb g W e1 e2 hs.map hnL hsl (cell_lt hc) hc ((hl.below hs.below).mono hs.below.size) hn hrs ((hrow.below hs.below).mono hs.below.size)).mono fun _ _ h => h.toD hM hs
theorem apD2_any {w : World} {M n n1 n2 : Nat} {L1 L2 row : List ByteArray} {a b1 b2 : Option Addr} {ca k1 k2 : Nat} (hM : w.heap.size ≤ M) (e1 : row.length = n) (e2 : L1.length = n1) (e3 : L2.length = n2) (hn : n ≤ 1048576) (h1 : n1 ≤ 1048576) (h2 : n2 ≤ 1048576) (hrs : ∀ x ∈ row, smS x) (hs1 : ∀ x ∈ L1, smS x) (hs2 : ∀ x ∈ L2, smS x) (hrow : RowS w w.heap.size a row) (hl1 : RowS w w.heap.size b1 L1) (hl2 : RowS w w.heap.size b2 L2) :
  ∀ W g, CSt w M W → W.cell? ⟨g, 0, none⟩ = some (.slice b1 n1 k1) → W.cell? ⟨g, 1, none⟩ = some (.slice b2 n2 k2) → Calls Tryz.prog 38 #[.map (some M), .slice a n ca, .slice (some ⟨g, 0, none⟩) 2 2] W fun e w' => ApD w M (apR (L1 ++ L2) row) W e w' := fun W g hs q1 q2 => by
 subst e1
 subst e2
 subst e3
 exact (apS_any M [⟨b1, L1.length, k1, L1.map Value.string⟩, ⟨b2, L2.length, k2, L2.map Value.string⟩] (L1 ++ L2) row a ca g W hs.map (by simp) (by rw [List.length_append]; omega) (fun x hx => (List.mem_append.1 hx).elim (hs1 x) (hs2 x)) (cell_lt q1) (fun i r hi => by
  match i, hi with
  | 0, hi => obtain rfl := Option.some.inj hi; exact ⟨q1, rwS k1 ((hl1.below hs.below).mono hs.below.size)⟩
  | 1, hi => obtain rfl := Option.some.inj hi; exact ⟨q2, rwS k2 ((hl2.below hs.below).mono hs.below.size)⟩
  | i + 2, hi => simp at hi) (by simp [sumN]) (by simp [catU]) hn hrs ((hrow.below hs.below).mono hs.below.size)).mono fun _ _ h => h.toD hM hs
def NtC (w : World) (M n : Nat) (l : List Nte) (W : World) (e : Ending) (w' : World) : Prop := ∃ a k, e = .returned (.slice a n k) ∧ l.length = n ∧ OwnN w' (M + 1) (.slice a n k) l ∧ CSt w M w' ∧ Hid (KeepC M W w')
theorem ntC_any {w : World} {M : Nat} {l : List ByteArray} (t : Int) (ht : i64B t) (hn : l.length ≤ 1048576) (hs : ∀ x ∈ l, smS x) :
  ∀ W a k, CSt w M W → RowS W W.heap.size a l → Calls Tryz.prog 37 #[.int .i64 t, .slice a l.length k] W fun e w' => NtC w M l.length (l.map (Nte.mk t)) W e w' := fun W a k hc hr =>
 (notes_any t ht a l k W hn hs hr).mono fun e w' h => by
  obtain ⟨a', k', rfl, ho, hb⟩ := h
  rw [List.length_map] at ho ⊢
  exact ⟨a', k', rfl, by rw [List.length_map], ho.weak hc.map.lt, hc.call hb, ⟨fun g o v h => cell_gby hc.map (gby_of hb) (cell_lt h) h, fun v l h => own_gby h (gby_of hb) (Nat.lt_succ_self M)⟩⟩
theorem rawN_one (l : List Nte) : ∀ v ∈ l.flatMap ntC, v.oneCell' = true := fun v hv => by
 obtain ⟨d, _, hd⟩ := List.mem_flatMap.1 hv
 simp [ntC] at hd
 rcases hd with rfl | rfl <;> rfl
theorem ownN_at {W : World} {B n k : Nat} {a : Option Addr} {l : List Nte} (e : l.length = n) (h : OwnN W B (.slice a n k) l) : (⟨a, n, k, l.flatMap ntC⟩ : Rw).At 2 W := by
 subst e
 refine ⟨by rw [ntC_len], rawN_one l, fun wr hb hp => ?_⟩
 obtain ⟨g, cur, rfl, hblk, _⟩ := own_some h hp
 obtain ⟨hg, hl⟩ := own_lies h
 exact ⟨_, rfl, fun j x hx => by rw [add_lit]; exact (hl.keep (hb.block _ hg)) j x hx⟩
theorem cat3N_any {w : World} {M n1 n2 n3 : Nat} {l1 l2 l3 : List Nte} (h1 : n1 ≤ 1048576) (h2 : n2 ≤ 1048576) (h3 : n3 ≤ 1048576) (e1 : l1.length = n1) (e2 : l2.length = n2) (e3 : l3.length = n3) :
  ∀ W g p1 k1 p2 k2 p3 k3, CSt w M W → OwnN W (M + 1) (.slice p1 n1 k1) l1 → OwnN W (M + 1) (.slice p2 n2 k2) l2 → OwnN W (M + 1) (.slice p3 n3 k3) l3 → W.cell? ⟨g, 0, none⟩ = some (.slice p1 n1 k1) → W.cell? ⟨g, 1, none⟩ = some (.slice p2 n2 k2) → W.cell? ⟨g, 2, none⟩ = some (.slice p3 n3 k3) →
  Calls Tryz.prog 36 #[.slice (some ⟨g, 0, none⟩) 3 3] W fun e w' => ∃ v, e = .returned v ∧ OwnN w' w.heap.size v (l1 ++ (l2 ++ l3)) ∧ CSt w M w' := fun W g p1 k1 p2 k2 p3 k3 hs o1 o2 o3 q1 q2 q3 => by
 have := catCtn_any [⟨p1, n1, k1, l1.flatMap ntC⟩, ⟨p2, n2, k2, l2.flatMap ntC⟩, ⟨p3, n3, k3, l3.flatMap ntC⟩] g W (by simp) (by simp only [sumN]; omega) (cell_lt q1) (fun i r hi => by
  match i, hi with
  | 0, hi => obtain rfl := Option.some.inj hi; exact ⟨q1, ownN_at e1 o1⟩
  | 1, hi => obtain rfl := Option.some.inj hi; exact ⟨q2, ownN_at e2 o2⟩
  | 2, hi => obtain rfl := Option.some.inj hi; exact ⟨q3, ownN_at e3 o3⟩
  | i + 3, hi => simp at hi)
 refine Calls.mono this fun e w' h => ?_
 obtain ⟨v, rfl, ho, hb⟩ := h
 have ho' : OwnN w' W.heap.size v (l1 ++ (l2 ++ l3)) := by
  show World.ownsRow _ _ _ _ _ _ _
  have e4 : sumN [⟨p1, n1, k1, l1.flatMap ntC⟩, ⟨p2, n2, k2, l2.flatMap ntC⟩, ⟨p3, n3, k3, l3.flatMap ntC⟩] = (l1 ++ (l2 ++ l3)).length := by simp [sumN, e1, e2, e3]
  have e5 : catU [⟨p1, n1, k1, l1.flatMap ntC⟩, ⟨p2, n2, k2, l2.flatMap ntC⟩, ⟨p3, n3, k3, l3.flatMap ntC⟩] = (l1 ++ (l2 ++ l3)).flatMap ntC := by simp [catU]
  rw [← e4, ← e5]
  exact ho
 exact ⟨v, rfl, ho'.weak hs.below.size, hs.call hb⟩
def TellN (l : List Nte) (w : World) (e : Ending) (w' : World) : Prop := ∃ v, e = .returned v ∧ OwnN w' w.heap.size v l ∧ Below w.heap.size w w'
set_option maxRecDepth 100000 in
set_option maxHeartbeats 12000000 in
theorem implLint_any (x : Srx) (a1 a2 a3 a4 a5 ag : Option Addr) (c1 c2 c3 c4 c5 cg : Nat) (gv : List ByteArray) (w : World) (hs : x.small) (hr : SrxRows w (fun b => b < w.heap.size) a1 a2 a3 a4 a5 c1 c2 c3 c4 c5 x)
  (hgl : gv.length ≤ 1048576) (hgs : ∀ t ∈ gv, smS t) (hgr : RowS w w.heap.size ag gv) (hLk : ∀ d ∈ x.all, (Fr.Lk d.prog.nodes).length ≤ 8388608) :
  Calls Tryz.prog 10 #[.agg #[.string x.name, .slice a1 x.imps.length c1, .slice a2 x.exps.length c2, .slice a3 x.types.length c3, .slice a4 x.defs.length c4, .slice a5 x.convs.length c5], .slice ag gv.length cg] w fun e w' => TellN (lintL x gv) w e w' := by
 have S : Hid (SrxAt x a1 a2 a3 a4 a5 c1 c2 c3 c4 c5 w) := srxAt x a1 a2 a3 a4 a5 c1 c2 c3 c4 c5 w hs hr
 have HC1 : Hid (∀ w2, Below w.heap.size w w2 → Calls Tryz.prog 31 #[.agg #[.string x.name, .slice a1 x.imps.length c1, .slice a2 x.exps.length c2, .slice a3 x.types.length c3, .slice a4 x.defs.length c4, .slice a5 x.convs.length c5]] w2 fun e w' => Ans w2 (.bool x.ok) e w') := fun w2 h2 => implSrc_any x a1 a2 a3 a4 a5 c1 c2 c3 c4 c5 w2 hs (SrxRows.keep hr fun b h => ⟨Nat.lt_of_lt_of_le h h2.size, h2.block b h⟩)
 have HL : Hid (lintL x gv = if x.ok then lintY x gv else []) := rfl
 have HG : Hid (RowS w w.heap.size ag gv) := hgr
 have HGS : Hid (∀ t ∈ gv, smS t) := hgs
 have HLK : Hid (∀ d ∈ x.all, (Fr.Lk d.prog.nodes).length ≤ 8388608) := hLk
 clear hs hr hgr hgs hLk
 have HSM : Hid (∀ d ∈ x.all, Dfn.small d) := fun d hd => by
  rcases List.mem_append.1 hd with h | h
  ·exact S.out.sdefs d h
  ·exact S.out.sconvs d h
 obtain ⟨w0, hw0⟩ : ∃ w0, w0 = w.alloc (Obj.cells #[.string x.name, .slice a1 x.imps.length c1, .slice a2 x.exps.length c2, .slice a3 x.types.length c3, .slice a4 x.defs.length c4, .slice a5 x.convs.length c5] 34) := ⟨_, rfl⟩
 have HW : Hid (w0 = _) := hw0
 have HB0 : Hid (Below w.heap.size w w0) := by show Below _ _ _; rw [hw0]; exact (Below.refl _ _).alloc (Nat.le_refl _) _
 have K0 : Hid (w0.heap[w.heap.size]? = some (Obj.cells #[.string x.name, .slice a1 x.imps.length c1, .slice a2 x.exps.length c2, .slice a3 x.types.length c3, .slice a4 x.defs.length c4, .slice a5 x.convs.length c5] 34)) := by show _ = _; rw [hw0]; exact blk_at _ _ _ rfl
 obtain ⟨i9, hi9, hz90, hz91, hz92⟩ := info_parts Tryz.inf9
 clear hw0
 go_enter Tryz.func10, Tryz.ntmps10
 go_wp2_with fail
 rw [← HW.out]
 refine (HC1.out _ HB0.out).mono ?_
 rintro e w1 ⟨rfl, hb1⟩
 have HB1 : Hid (Below w.heap.size w w1) := HB0.out.trans (hb1.mono HB0.out.size)
 have K1 : Hid (w1.heap[w.heap.size]? = some (Obj.cells #[.string x.name, .slice a1 x.imps.length c1, .slice a2 x.exps.length c2, .slice a3 x.types.length c3, .slice a4 x.defs.length c4, .slice a5 x.convs.length c5] 34)) := blk_keep K0.out hb1 (Array.getElem?_eq_some_iff.1 K0.out).1
 clear hb1 K0 HB0 HW HC1
 cases hx : x.ok
 ·have HQ : Hid (lintL x gv = []) := by show _ = _; rw [HL.out, hx]; rfl
  clear HL hx
  go_wp2
  go_ret
  rw [HQ.out]
  exact ⟨.slice none 0 0, rfl, ⟨rfl, .inl ⟨rfl, rfl⟩⟩, HB1.out⟩
 ·have HQ : Hid (lintL x gv = lintY x gv) := by show _ = _; rw [HL.out, hx]; rfl
  obtain ⟨hal, _, _, hok⟩ := ok_all hx
  have HOK : Hid (∀ d ∈ x.all, OkP d.prog.nodes d.prog.root) := hok
  have HLF : Hid ((frA x.all).length ≤ 1048576) := by have := frA_len hok; show _ ≤ _; omega
  have HLS : Hid ((stA x.all).length ≤ 1048576) := by have := stA_len hok; show _ ≤ _; omega
  have HSF : Hid (∀ t ∈ frA x.all, smS t) := frA_sm hok HSM.out
  have HSS : Hid (∀ t ∈ stA x.all, smS t) := stA_sm HSM.out
  have HFT : Hid (∀ i, (frA (x.all.take i)).length ≤ 15200) := fun i => by
   have := frA_len (l := x.all.take i) fun d hd => hok d (List.mem_of_mem_take hd)
   rw [List.length_take] at this
   omega
  have HST : Hid (∀ i, (stA (x.all.take i)).length ≤ 15200) := fun i => by
   have := stA_len (l := x.all.take i) fun d hd => hok d (List.mem_of_mem_take hd)
   rw [List.length_take] at this
   omega
  have HFL : Hid (∀ d ∈ x.all, (frP d.prog).length ≤ 400 ∧ (stP d.prog).length ≤ 400) := fun d hd => ⟨frP_len (hok d hd), stP_len (hok d hd)⟩
  have k1 := K1.out
  have e4 := cell_blk (j := 4) k1 rfl
  have e5 := cell_blk (j := 5) k1 rfl
  clear k1 HL hx hok
  obtain ⟨wX, hwX⟩ : ∃ wX, wX = w1.alloc (Obj.cells #[.slice a4 x.defs.length c4, .slice a5 x.convs.length c5] 32) := ⟨_, rfl⟩
  have hbX1 : Below w1.heap.size w1 wX := by rw [hwX]; exact (Below.refl _ _).alloc (Nat.le_refl _) _
  have hbX : Below w.heap.size w wX := HB1.out.trans (hbX1.mono HB1.out.size)
  have kX : wX.heap[w1.heap.size]? = some (Obj.cells #[.slice a4 x.defs.length c4, .slice a5 x.convs.length c5] 32) := by rw [hwX]; exact blk_at _ _ _ rfl
  have HC : Hid (Calls Tryz.prog 32 #[.slice (some ⟨w1.heap.size, 0, none⟩) 2 2] wX fun e w' => CcPost (x.defs ++ x.convs) (x.defs.length + x.convs.length) wX e w') :=
   concat_any x.defs x.convs a4 a5 c4 c5 w1.heap.size wX S.out.l4 S.out.l5 (Array.getElem?_eq_some_iff.1 kX).1 (cell_blk (j := 0) kX rfl) (cell_blk (j := 1) kX rfl) (S.out.defs _ hbX) (S.out.convs _ hbX)
  have HWX : Hid (wX = _) := hwX
  have HBX1 : Hid (Below w1.heap.size w1 wX) := hbX1
  clear kX hwX hbX hbX1
  go_wp2_with fail
  rw [← HWX.out]
  refine HC.out.mono ?_
  rintro e W2 ⟨qa, qc, rfl, hql, hqr, hb4⟩
  have HR : Hid (rgD.Row W2 (fun b => b < W2.heap.size) qa x.all) := hqr
  have HB2 : Hid (Below w1.heap.size w1 W2) := HBX1.out.trans (hb4.mono HBX1.out.size)
  obtain ⟨n, hn⟩ : ∃ n, n = x.defs.length + x.convs.length := ⟨_, rfl⟩
  rw [← hn] at hql
  have hln : x.all.length = n := hql
  have hnI : (x.defs.length : Int) + (x.convs.length : Int) = (n : Int) := by omega
  have hn2 : n ≤ 38 := by omega
  rw [← hn]
  clear HWX HBX1 HC hqr hb4 e4 e5 hql hn hal
  go_wp2
  go_loopw [5, 6, 21] (fun f g o wr => ∃ i : Nat, i ≤ n ∧ o = .int .i64 i ∧ OwnS wr W2.heap.size f (frA (x.all.take i)) ∧ OwnS wr W2.heap.size g (stA (x.all.take i)) ∧ Apt2 f g ∧ Below W2.heap.size W2 wr)
   (fun _ _ o _ => n - (intOf o).toNat)
  case atStart => exact ⟨0, by omega, rfl, ⟨rfl, .inl ⟨rfl, rfl⟩⟩, ⟨rfl, .inl ⟨rfl, rfl⟩⟩, (fun b hb => by cases hb), Below.refl _ _⟩
  case round =>
   obtain ⟨i, hi, rfl, hfo, hgo, hap, hbW⟩ := hrel
   have HAP : Hid (Apt2 _ _) := hap
   have HF1 := HFT.out i
   have HS1 := HST.out i
   have HB : Hid (Below W2.heap.size W2 wr) := hbW
   have hwr := hbW.size
   obtain ⟨fa, fc, rfl, hfc⟩ := hfo.slice
   obtain ⟨ga, gc, rfl, hgc⟩ := hgo.slice
   have HFO : Hid (OwnS wr W2.heap.size (.slice fa (frA (x.all.take i)).length fc) (frA (x.all.take i))) := hfo
   have HGO : Hid (OwnS wr W2.heap.size (.slice ga (stA (x.all.take i)).length gc) (stA (x.all.take i))) := hgo
   clear hfo hgo hap
   by_cases hlt : i < n
   ·obtain ⟨d, hd⟩ : ∃ d, x.all[i]? = some d := ⟨_, List.getElem?_eq_getElem (by omega)⟩
    obtain ⟨b1, o1, cs, rfl, hbb, ⟨an, cn, rfl, hrn, hcn⟩, hl⟩ := HR.out i d hd
    have x0 : wr.cell? ⟨b1, o1 + i * 3, none⟩ = some (.string d.name) := (World.cell?_of_block (w := W2) (a := ⟨b1, _, none⟩) (hbW.block b1 hbb)).trans (hl 0 _ rfl)
    have x1 : wr.cell? ⟨b1, o1 + i * 3 + 1, none⟩ = some (.slice an d.prog.nodes.length cn) := (World.cell?_of_block (w := W2) (a := ⟨b1, _, none⟩) (hbW.block b1 hbb)).trans (hl 1 _ rfl)
    have x2 : wr.cell? ⟨b1, o1 + i * 3 + 2, none⟩ = some (.int .i64 d.prog.root) := (World.cell?_of_block (w := W2) (a := ⟨b1, _, none⟩) (hbW.block b1 hbb)).trans (hl 2 _ rfl)
    have hdm := List.mem_of_getElem? hd
    obtain ⟨_, ⟨n1, n2⟩, _⟩ := HSM.out d hdm
    obtain ⟨hp4, hp5⟩ := HFL.out d hdm
    have HTF : Hid (frA (x.all.take (i + 1)) = frA (x.all.take i) ++ frP d.prog) := frA_take hd
    have HTS : Hid (stA (x.all.take (i + 1)) = stA (x.all.take i) ++ stP d.prog) := stA_take hd
    have HRN : Hid (∀ w2, Below W2.heap.size W2 w2 → RowN w2 w2.heap.size an d.prog.nodes) := fun w2 h2 => rowN_iff.1 (hrn.keep fun b hb' => ⟨Nat.lt_of_lt_of_le hb' h2.size, h2.block b hb'⟩)
    have HP1 : Hid (∀ w2, Below W2.heap.size W2 w2 → Calls Tryz.prog 33 #[.slice an d.prog.nodes.length cn, .int .i64 d.prog.root] w2 fun e w' => TellP (frP d.prog) w2 e w') := fun w2 h2 => by
     obtain ⟨ri, hri, hrl⟩ := okP_root (HOK.out d hdm)
     have := Fr.freeNames_any an d.prog.nodes cn d.prog.root ri w2 n1 (HRN.out w2 h2) n2 (HOK.out d hdm) hrl (HLK.out d hdm)
     rw [← hri] at this
     exact this
    have HP2 : Hid (∀ w2, Below W2.heap.size W2 w2 → Calls Tryz.prog 34 #[.agg #[.slice an d.prog.nodes.length cn, .int .i64 d.prog.root]] w2 fun e w' => TellP (stP d.prog) w2 e w') := fun w2 h2 => Fr.implSets_yes an d.prog.nodes cn d.prog.root w2 n1 (HRN.out w2 h2) n2 (HOK.out d hdm)
    clear hl hd hrn n1 n2 hdm HRN
    generalize frA (x.all.take i) = ls at *
    generalize stA (x.all.take i) = ms at *
    generalize frP d.prog = lp at *
    generalize stP d.prog = mp at *
    go_wp2_with fail
    have hbA : Below wr.heap.size wr (wr.alloc (Obj.cells #[.string d.name, .slice an d.prog.nodes.length cn, .int .i64 d.prog.root] 63)) := (Below.refl _ _).alloc (Nat.le_refl _) _
    have kA : (wr.alloc (Obj.cells #[.string d.name, .slice an d.prog.nodes.length cn, .int .i64 d.prog.root] 63)).heap[wr.heap.size]? = some (Obj.cells #[.string d.name, .slice an d.prog.nodes.length cn, .int .i64 d.prog.root] 63) := blk_at _ _ _ rfl
    refine (HP1.out _ (HB.out.trans (hbA.mono hwr))).mono ?_
    rintro e w3 ⟨v, rfl, hvo, hb3⟩
    obtain ⟨va, vc, rfl, hvc⟩ := hvo.slice
    have HN3 : Hid (0 < lp.length → ∃ ad, va = some ad ∧ ∀ j u, (lp.map Value.string)[j]? = some u → w3.cell? (ad.add j) = some u) := news_S hvo.rowS
    have HB3 : Hid (Below wr.heap.size wr w3) := hbA.trans (hb3.mono hbA.size)
    have k3 := blk_keep kA hb3 (Array.getElem?_eq_some_iff.1 kA).1
    have hz3 : wr.heap.size < w3.heap.size := (Array.getElem?_eq_some_iff.1 k3).1
    have HFO3 : Hid (w3.ownsRow W2.heap.size 9 1 (.slice fa ls.length fc) ls.length (ls.map Value.string)) := own_below' HFO.out HB3.out
    have HGO3 : Hid (w3.ownsRow W2.heap.size 9 1 (.slice ga ms.length gc) ms.length (ms.map Value.string)) := own_below' HGO.out HB3.out
    have HK3 : Hid (w3.heap[wr.heap.size]? = some (Obj.cells #[.string d.name, .slice an d.prog.nodes.length cn, .int .i64 d.prog.root] 63)) := k3
    clear hvo hb3 hbA kA k3 HP1 HGO x0 x1 x2
    go_wp2_with (at_builtin; go_loud (refine wpList_append_row rfl _ _ 22 rfl W2.heap.size 9 i9 _ 1 16 Tryz.underlying22 hi9 hz90 hz91 hz92 rfl (by omega) (.slice fa ls.length fc) ls.length (ls.map Value.string) rfl HFO3.out va lp.length vc (lp.map Value.string) rfl (by simp) HN3.out (by intro u hu; obtain ⟨s, _, rfl⟩ := List.mem_map.1 hu; rfl) (by unfold maxLen; omega) (by omega) (by omega) ?_; intro v' w4 hown hgrow hat; refine stop ?_))
    have HF4 : Hid (OwnS w4 W2.heap.size v' (ls ++ lp)) := OwnS.append rfl hown
    have HG4 : Hid (w4.ownsRow W2.heap.size 9 1 (.slice ga ms.length gc) ms.length (ms.map Value.string)) := own_grown HGO3.out hgrow HAP.out.symm
    have HAP4 : Hid (Apt2 v' (.slice ga ms.length gc)) := apt2_new HAP.out HGO3.out hat (Nat.le_refl _)
    have HB4 : Hid (Below W2.heap.size W2 w4) := app_belowR (HB.out.trans (HB3.out.mono hwr)) (by omega) HFO3.out hgrow
    have k4 := (hgrow.block _ hz3 (fun e => Nat.lt_irrefl _ (own_blk HFO.out e.symm).2.1)).trans HK3.out
    have y1 := cell_blk (j := 1) k4 rfl
    have y2 := cell_blk (j := 2) k4 rfl
    unfold Hid
    clear hown hgrow hat HN3 HFO3 HGO3 HAP HFO HK3 hfc k4 HB3
    go_wp2_with fail
    refine (HP2.out _ HB4.out).mono ?_
    rintro e w5 ⟨u, rfl, huo, hb5⟩
    obtain ⟨ua, uc, rfl, huc⟩ := huo.slice
    have HN5 : Hid (0 < mp.length → ∃ ad, ua = some ad ∧ ∀ j u, (mp.map Value.string)[j]? = some u → w5.cell? (ad.add j) = some u) := news_S huo.rowS
    have HF5 : Hid (OwnS w5 W2.heap.size v' (ls ++ lp)) := own_below' HF4.out hb5
    have HG5 : Hid (w5.ownsRow W2.heap.size 9 1 (.slice ga ms.length gc) ms.length (ms.map Value.string)) := own_below' HG4.out hb5
    have HB5 : Hid (Below W2.heap.size W2 w5) := HB4.out.trans (hb5.mono HB4.out.size)
    have hs5 := HB5.out.size
    clear huo hb5 HP2 HF4 HG4 HB4 y1 y2
    go_wp2_with (at_builtin; go_loud (refine wpList_append_row rfl _ _ 22 rfl W2.heap.size 9 i9 _ 1 16 Tryz.underlying22 hi9 hz90 hz91 hz92 rfl (by omega) (.slice ga ms.length gc) ms.length (ms.map Value.string) rfl HG5.out ua mp.length uc (mp.map Value.string) rfl (by simp) HN5.out (by intro u hu; obtain ⟨s, _, rfl⟩ := List.mem_map.1 hu; rfl) (by unfold maxLen; omega) (by omega) (by omega) ?_; intro u' w6 hown hgrow hat; refine stop ?_))
    have HG6 : Hid (OwnS w6 W2.heap.size u' (ms ++ mp)) := OwnS.append rfl hown
    have HF6 : Hid (OwnS w6 W2.heap.size v' (ls ++ lp)) := own_grown HF5.out hgrow HAP4.out
    have HAP6 : Hid (Apt2 v' u') := (apt2_new HAP4.out.symm HF5.out hat (Nat.le_refl _)).symm
    have HB6 : Hid (Below W2.heap.size W2 w6) := app_belowR HB5.out (by omega) HG5.out hgrow
    unfold Hid
    clear hown hgrow hat HN5 HF5 HG5 HAP4 HB5 hgc
    go_wp2
    go_roundw
    case rel => exact ⟨i + 1, by omega, by go_num, by rw [HTF.out]; exact HF6.out, by rw [HTS.out]; exact HG6.out, HAP6.out, HB6.out⟩
    case measure => simp [intOf]; omega
   ·obtain rfl : i = n := by omega
    have hlt' : decide ((i : Int) < (i : Int)) = false := by simp
    have et : x.all.take i = x.all := List.take_of_length_le (by omega)
    rw [et] at HFO HGO ⊢
    have HBW : Hid (Below w.heap.size w wr) := HB1.out.trans ((HB2.out.trans (HB.out.mono HB2.out.size)).mono HB1.out.size)
    have K3 : Hid (wr.heap[w.heap.size]? = some (Obj.cells #[.string x.name, .slice a1 x.imps.length c1, .slice a2 x.exps.length c2, .slice a3 x.types.length c3, .slice a4 x.defs.length c4, .slice a5 x.convs.length c5] 34)) := blk_keep K1.out (HB2.out.trans (HB.out.mono HB2.out.size)) (Array.getElem?_eq_some_iff.1 K1.out).1
    have HFR : Hid (RowS wr wr.heap.size fa (frA x.all)) := HFO.out.rowS
    have HGR : Hid (RowS wr wr.heap.size ga (stA x.all)) := HGO.out.rowS
    have e4 := cell_blk (j := 4) K3.out rfl
    have e2 := cell_blk (j := 2) K3.out rfl
    have HDN : Hid (Calls Tryz.prog 35 #[.slice a4 x.defs.length c4] wr fun e w' => NmPost x.dns wr e w') := defNames_any a4 x.defs c4 wr S.out.l4 (S.out.defs _ HBW.out)
    clear et HFO HGO HF1 HS1 HAP hwr hlt hi HR HB2 HB K1 HFT HST HFL HOK HLK HSM hfc hgc hn2 hnI hln
    go_wp2_with fail
    refine HDN.out.mono ?_
    rintro e w2 ⟨da, dc, rfl, _, hdo, hb2⟩
    have HB2 : Hid (Below w.heap.size w w2) := HBW.out.trans (hb2.mono HBW.out.size)
    have K2 : Hid (w2.heap[w.heap.size]? = some (Obj.cells #[.string x.name, .slice a1 x.imps.length c1, .slice a2 x.exps.length c2, .slice a3 x.types.length c3, .slice a4 x.defs.length c4, .slice a5 x.convs.length c5] 34)) := blk_keep K3.out hb2 (Array.getElem?_eq_some_iff.1 K3.out).1
    have ND : Hid (RowS w2 w2.heap.size da x.dns) := hdo.rowS
    have NF : Hid (RowS w2 w2.heap.size fa (frA x.all)) := (HFR.out.below hb2).mono hb2.size
    have NS : Hid (RowS w2 w2.heap.size ga (stA x.all)) := (HGR.out.below hb2).mono hb2.size
    have NG : Hid (RowS w2 w2.heap.size ag gv) := (HG.out.below HB2.out).mono HB2.out.size
    have NX : Hid (RowS w2 w2.heap.size a2 x.exps) := (S.out.exps w2 HB2.out).2.2
    have SX : Hid (∀ t ∈ x.exps, smS t) := S.out.sexps
    have SD : Hid (∀ t ∈ x.dns, smS t) := S.out.sdns
    have LX : Hid (x.exps.length ≤ 1048576) := S.out.l2
    have LD : Hid (x.dns.length ≤ 1048576) := by show (List.map _ _).length ≤ _; rw [List.length_map]; exact S.out.l4
    unfold lintY at HQ
    clear hdo hb2 HBW K3 HFR HGR HG e4 e2 HDN S
    generalize frA x.all = fr at *
    generalize stA x.all = st at *
    generalize x.dns = dn at *
    obtain ⟨L1, hL1⟩ : ∃ L, L = apR (dn ++ gv) fr := ⟨_, rfl⟩
    obtain ⟨L2, hL2⟩ : ∃ L, L = apR (x.exps ++ fr) dn := ⟨_, rfl⟩
    obtain ⟨L3, hL3⟩ : ∃ L, L = apR dn st := ⟨_, rfl⟩
    have H1 : Hid (∀ W g, CSt w2 w2.heap.size W → W.cell? ⟨g, 0, none⟩ = some (.slice da dn.length dc) → W.cell? ⟨g, 1, none⟩ = some (.slice ag gv.length cg) → Calls Tryz.prog 38 #[.map (some w2.heap.size), .slice fa fr.length fc, .slice (some ⟨g, 0, none⟩) 2 2] W fun e w' => ApD w2 w2.heap.size L1 W e w') := by
     rw [hL1]; exact apD2_any (Nat.le_refl _) rfl rfl rfl HLF.out LD.out hgl HSF.out SD.out HGS.out NF.out ND.out NG.out
    have H2 : Hid (∀ W g, CSt w2 w2.heap.size W → W.cell? ⟨g, 0, none⟩ = some (.slice a2 x.exps.length c2) → W.cell? ⟨g, 1, none⟩ = some (.slice fa fr.length fc) → Calls Tryz.prog 38 #[.map (some w2.heap.size), .slice da dn.length dc, .slice (some ⟨g, 0, none⟩) 2 2] W fun e w' => ApD w2 w2.heap.size L2 W e w') := by
     rw [hL2]; exact apD2_any (Nat.le_refl _) rfl rfl rfl LD.out LX.out HLF.out SD.out SX.out HSF.out ND.out NX.out NF.out
    have H3 : Hid (∀ W g, CSt w2 w2.heap.size W → W.cell? ⟨g, 0, none⟩ = some (.slice da dn.length dc) → Calls Tryz.prog 38 #[.map (some w2.heap.size), .slice ga st.length gc, .slice (some ⟨g, 0, none⟩) 1 1] W fun e w' => ApD w2 w2.heap.size L3 W e w') := by
     rw [hL3]; exact apD1_any (Nat.le_refl _) rfl rfl HLS.out LD.out HSS.out SD.out NS.out ND.out
    have l1 : L1.length ≤ 1048576 := by rw [hL1]; exact Nat.le_trans (apR_len _ _) HLF.out
    have l2 : L2.length ≤ 1048576 := by rw [hL2]; exact Nat.le_trans (apR_len _ _) LD.out
    have l3 : L3.length ≤ 1048576 := by rw [hL3]; exact Nat.le_trans (apR_len _ _) HLS.out
    have N1 : Hid (∀ W a k, CSt w2 w2.heap.size W → RowS W W.heap.size a L1 → Calls Tryz.prog 37 #[.int .i64 1, .slice a L1.length k] W fun e w' => NtC w2 w2.heap.size L1.length (L1.map (Nte.mk 1)) W e w') := ntC_any 1 (by unfold i64B; omega) l1 (fun t ht => HSF.out t (apR_mem (hL1 ▸ ht)))
    have N2 : Hid (∀ W a k, CSt w2 w2.heap.size W → RowS W W.heap.size a L2 → Calls Tryz.prog 37 #[.int .i64 2, .slice a L2.length k] W fun e w' => NtC w2 w2.heap.size L2.length (L2.map (Nte.mk 2)) W e w') := ntC_any 2 (by unfold i64B; omega) l2 (fun t ht => SD.out t (apR_mem (hL2 ▸ ht)))
    have N3 : Hid (∀ W a k, CSt w2 w2.heap.size W → RowS W W.heap.size a L3 → Calls Tryz.prog 37 #[.int .i64 3, .slice a L3.length k] W fun e w' => NtC w2 w2.heap.size L3.length (L3.map (Nte.mk 3)) W e w') := ntC_any 3 (by unfold i64B; omega) l3 (fun t ht => HSS.out t (apR_mem (hL3 ▸ ht)))
    have H7 : Hid (∀ W g p1 k1 p2 k2 p3 k3, CSt w2 w2.heap.size W → OwnN W (w2.heap.size + 1) (.slice p1 L1.length k1) (L1.map (Nte.mk 1)) → OwnN W (w2.heap.size + 1) (.slice p2 L2.length k2) (L2.map (Nte.mk 2)) → OwnN W (w2.heap.size + 1) (.slice p3 L3.length k3) (L3.map (Nte.mk 3)) → W.cell? ⟨g, 0, none⟩ = some (.slice p1 L1.length k1) → W.cell? ⟨g, 1, none⟩ = some (.slice p2 L2.length k2) → W.cell? ⟨g, 2, none⟩ = some (.slice p3 L3.length k3) →
     Calls Tryz.prog 36 #[.slice (some ⟨g, 0, none⟩) 3 3] W fun e w' => ∃ v, e = .returned v ∧ OwnN w' w2.heap.size v (L1.map (Nte.mk 1) ++ (L2.map (Nte.mk 2) ++ L3.map (Nte.mk 3))) ∧ CSt w2 w2.heap.size w') := cat3N_any l1 l2 l3 (by simp) (by simp) (by simp)
    rw [← hL1, ← hL2, ← hL3] at HQ
    have HX : Hid (∀ W, CSt w2 w2.heap.size W → W.cell? ⟨w.heap.size, 2, none⟩ = some (.slice a2 x.exps.length c2)) := fun W h => cell_blk (j := 2) (blk_keep K2.out h.below (Array.getElem?_eq_some_iff.1 K2.out).1) rfl
    obtain ⟨W0, hW0⟩ : ∃ W0, W0 = w2.alloc (Obj.map #[] 0) := ⟨_, rfl⟩
    have hst : CSt w2 w2.heap.size W0 := by rw [hW0]; exact ⟨(Below.refl _ _).alloc (Nat.le_refl _) _, MapE.made w2⟩
    have HW0 : Hid (W0 = w2.alloc (Obj.map #[] 0)) := hW0
    clear hW0 hL1 hL2 hL3 l1 l2 l3 K2 ND NF NS NG NX SX SD LX LD HLF HLS HSF HSS HGS hgl
    have hmk := make65
    have z2 := HX.out _ hst
    go_wp2_with fail
    rw [← HW0.out]
    go_region_held3 (fun W => W.cell? ⟨w.heap.size, 2, none⟩ = some (.slice a2 x.exps.length c2))
     ((refine HX.out _ ?_; (repeat (first | assumption | with_reducible refine CSt.alloc ?_ _ | with_reducible refine CSt.drew ?_))))
     (first
     | (go_at_call_of 38 (Value.slice fa fr.length fc); refine Calls.mono (H1.out _ _ ?_ ?_ ?_) ?_; (focus (repeat (first | assumption | with_reducible refine CSt.alloc ?_ _ | with_reducible refine CSt.drew ?_))); (focus (repeat (first | exact cell_blk (j := 0) (blk_at _ _ _ rfl) rfl | (refine cell_blk (j := 0) (blk_at _ _ _ ?_) rfl; simp; done) | with_reducible refine cell_al ?_ | with_reducible refine cell_drew ?_ | refine hkf.out.cell _ _ _ ?_ | refine hke.out.cell _ _ _ ?_ | refine hkd.out.cell _ _ _ ?_ | refine hkc.out.cell _ _ _ ?_ | refine hkb.out.cell _ _ _ ?_ | refine hka.out.cell _ _ _ ?_))); (focus (repeat (first | exact cell_blk (j := 1) (blk_at _ _ _ rfl) rfl | (refine cell_blk (j := 1) (blk_at _ _ _ ?_) rfl; simp; done) | with_reducible refine cell_al ?_ | with_reducible refine cell_drew ?_ | refine hkf.out.cell _ _ _ ?_ | refine hke.out.cell _ _ _ ?_ | refine hkd.out.cell _ _ _ ?_ | refine hkc.out.cell _ _ _ ?_ | refine hkb.out.cell _ _ _ ?_ | refine hka.out.cell _ _ _ ?_))); rintro e wa ⟨pa, ka, rfl, hra, hsa, hka⟩)
     | (go_at_call_of 37 (Value.int .i64 1); refine Calls.mono (N1.out _ _ _ ?_ ?_) ?_; (focus (repeat (first | assumption | with_reducible refine CSt.alloc ?_ _ | with_reducible refine CSt.drew ?_))); (focus (repeat (first | assumption | with_reducible refine RowS.alloc' ?_ _ | with_reducible refine RowS.drew' ?_))); rintro e wb ⟨pb, kb, rfl, heb, hob, hsb, hkb⟩)
     | (go_at_call_of 38 (Value.slice da dn.length dc); refine Calls.mono (H2.out _ _ ?_ ?_ ?_) ?_; (focus (repeat (first | assumption | with_reducible refine CSt.alloc ?_ _ | with_reducible refine CSt.drew ?_))); (focus (repeat (first | exact cell_blk (j := 0) (blk_at _ _ _ rfl) rfl | (refine cell_blk (j := 0) (blk_at _ _ _ ?_) rfl; simp; done) | with_reducible refine cell_al ?_ | with_reducible refine cell_drew ?_ | refine hkf.out.cell _ _ _ ?_ | refine hke.out.cell _ _ _ ?_ | refine hkd.out.cell _ _ _ ?_ | refine hkc.out.cell _ _ _ ?_ | refine hkb.out.cell _ _ _ ?_ | refine hka.out.cell _ _ _ ?_))); (focus (repeat (first | exact cell_blk (j := 1) (blk_at _ _ _ rfl) rfl | (refine cell_blk (j := 1) (blk_at _ _ _ ?_) rfl; simp; done) | with_reducible refine cell_al ?_ | with_reducible refine cell_drew ?_ | refine hkf.out.cell _ _ _ ?_ | refine hke.out.cell _ _ _ ?_ | refine hkd.out.cell _ _ _ ?_ | refine hkc.out.cell _ _ _ ?_ | refine hkb.out.cell _ _ _ ?_ | refine hka.out.cell _ _ _ ?_))); rintro e wc ⟨pc, kc, rfl, hrc, hsc, hkc⟩)
     | (go_at_call_of 37 (Value.int .i64 2); refine Calls.mono (N2.out _ _ _ ?_ ?_) ?_; (focus (repeat (first | assumption | with_reducible refine CSt.alloc ?_ _ | with_reducible refine CSt.drew ?_))); (focus (repeat (first | assumption | with_reducible refine RowS.alloc' ?_ _ | with_reducible refine RowS.drew' ?_))); rintro e wd ⟨pd, kd, rfl, hed, hod, hsd, hkd⟩)
     | (go_at_call_of 38 (Value.slice ga st.length gc); refine Calls.mono (H3.out _ _ ?_ ?_) ?_; (focus (repeat (first | assumption | with_reducible refine CSt.alloc ?_ _ | with_reducible refine CSt.drew ?_))); (focus (repeat (first | exact cell_blk (j := 0) (blk_at _ _ _ rfl) rfl | (refine cell_blk (j := 0) (blk_at _ _ _ ?_) rfl; simp; done) | with_reducible refine cell_al ?_ | with_reducible refine cell_drew ?_ | refine hkf.out.cell _ _ _ ?_ | refine hke.out.cell _ _ _ ?_ | refine hkd.out.cell _ _ _ ?_ | refine hkc.out.cell _ _ _ ?_ | refine hkb.out.cell _ _ _ ?_ | refine hka.out.cell _ _ _ ?_))); rintro e we ⟨pe, ke, rfl, hre, hse, hke⟩)
     | (go_at_call_of 37 (Value.int .i64 3); refine Calls.mono (N3.out _ _ _ ?_ ?_) ?_; (focus (repeat (first | assumption | with_reducible refine CSt.alloc ?_ _ | with_reducible refine CSt.drew ?_))); (focus (repeat (first | assumption | with_reducible refine RowS.alloc' ?_ _ | with_reducible refine RowS.drew' ?_))); rintro e wf ⟨pf, kf, rfl, hef, hof, hsf, hkf⟩)
     | (go_at_call 36; refine Calls.mono (H7.out _ _ pb kb pd kd pf kf ?_ ?_ ?_ ?_ ?_ ?_ ?_) ?_; (focus (repeat (first | assumption | with_reducible refine CSt.alloc ?_ _ | with_reducible refine CSt.drew ?_))); (focus (repeat (first | assumption | with_reducible refine OwnN.alloc' ?_ _ | with_reducible refine OwnN.drew' ?_ | refine hkf.out.own _ _ ?_ | refine hke.out.own _ _ ?_ | refine hkd.out.own _ _ ?_ | refine hkc.out.own _ _ ?_ | refine hkb.out.own _ _ ?_ | refine hka.out.own _ _ ?_))); (focus (repeat (first | assumption | with_reducible refine OwnN.alloc' ?_ _ | with_reducible refine OwnN.drew' ?_ | refine hkf.out.own _ _ ?_ | refine hke.out.own _ _ ?_ | refine hkd.out.own _ _ ?_ | refine hkc.out.own _ _ ?_ | refine hkb.out.own _ _ ?_ | refine hka.out.own _ _ ?_))); (focus (repeat (first | assumption | with_reducible refine OwnN.alloc' ?_ _ | with_reducible refine OwnN.drew' ?_ | refine hkf.out.own _ _ ?_ | refine hke.out.own _ _ ?_ | refine hkd.out.own _ _ ?_ | refine hkc.out.own _ _ ?_ | refine hkb.out.own _ _ ?_ | refine hka.out.own _ _ ?_))); (focus (repeat (first | exact cell_blk (j := 0) (blk_at _ _ _ rfl) rfl | (refine cell_blk (j := 0) (blk_at _ _ _ ?_) rfl; simp; done) | with_reducible refine cell_al ?_ | with_reducible refine cell_drew ?_ | refine hkf.out.cell _ _ _ ?_ | refine hke.out.cell _ _ _ ?_ | refine hkd.out.cell _ _ _ ?_ | refine hkc.out.cell _ _ _ ?_ | refine hkb.out.cell _ _ _ ?_ | refine hka.out.cell _ _ _ ?_))); (focus (repeat (first | exact cell_blk (j := 1) (blk_at _ _ _ rfl) rfl | (refine cell_blk (j := 1) (blk_at _ _ _ ?_) rfl; simp; done) | with_reducible refine cell_al ?_ | with_reducible refine cell_drew ?_ | refine hkf.out.cell _ _ _ ?_ | refine hke.out.cell _ _ _ ?_ | refine hkd.out.cell _ _ _ ?_ | refine hkc.out.cell _ _ _ ?_ | refine hkb.out.cell _ _ _ ?_ | refine hka.out.cell _ _ _ ?_))); (focus (repeat (first | exact cell_blk (j := 2) (blk_at _ _ _ rfl) rfl | (refine cell_blk (j := 2) (blk_at _ _ _ ?_) rfl; simp; done) | with_reducible refine cell_al ?_ | with_reducible refine cell_drew ?_ | refine hkf.out.cell _ _ _ ?_ | refine hke.out.cell _ _ _ ?_ | refine hkd.out.cell _ _ _ ?_ | refine hkc.out.cell _ _ _ ?_ | refine hkb.out.cell _ _ _ ?_ | refine hka.out.cell _ _ _ ?_))); rintro e wg ⟨vg, rfl, hog, hbg⟩))
    all_goals
     have HO : Hid (OwnN wg w.heap.size vg (L1.map (Nte.mk 1) ++ (L2.map (Nte.mk 2) ++ L3.map (Nte.mk 3)))) := hog.weak HB2.out.size
     have HBG : Hid (Below w.heap.size w wg) := HB2.out.trans (hbg.below.mono HB2.out.size)
     clear H1 H2 H3 N1 N2 N3 H7 HX hra hsa hka heb hob hsb hkb hrc hsc hkc hed hod hsd hkd hre hse hke hef hof hsf hkf hog hbg z2 hst hmk
     go_wp2
     go_ret
     rw [HQ.out]
     exact ⟨_, rfl, HO.out, HBG.out⟩
end Go.Proofs.YtamjofdgikifnaaGreat
