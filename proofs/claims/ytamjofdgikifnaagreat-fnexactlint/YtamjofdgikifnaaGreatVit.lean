/- The program's closure that goes through a node: whatever the node. -/
import Derived.Test.YtamjofdgikifnaaGreatVis
set_option linter.unusedVariables false
namespace Go.Proofs.YtamjofdgikifnaaGreat.Fr
open Go.ChangeShapes Go.WideShapes Go.ChangeAt Go.RowKit
theorem VGr.low {x : Bx} {r : Option Nat} {w w' : World} (h : VGr x r w w') (hx : x.Ok) (hr : ∀ k, r = some k → x.C ≤ k) (hz : x.C ≤ w.heap.size) {k : Nat} (hk : k < x.B) : w'.heap[k]? = w.heap[k]? :=
 h.block k (by have := hx.bc; omega) (by have := hx.bm; omega) (by have := hx.bf; omega) (fun e => by have := hr k e.symm; have := hx.bc; omega)
theorem drop_cons {l : List ByteArray} {k : Nat} {s : ByteArray} (h : l[k]? = some s) : l.drop k = s :: l.drop (k + 1) := by
 obtain ⟨hlt, he⟩ := List.getElem?_eq_some_iff.1 h
 rw [List.drop_eq_getElem_cons hlt, he]
theorem names_of (d : Nod) (an : Option Addr) (cn : Nat) (w : World) (B : Nat) (hr : RowSP w (fun b => b < B) an d.names) : ∃ (na : Option Addr) (nc : Nat), (if d.k = 7 then Value.slice an d.names.length cn else .slice none 0 0) = .slice na (nmsF d).length nc ∧ RowSP w (fun b => b < B) na (nmsF d) := by
 unfold nmsF
 by_cases h : d.k = 7
 ·rw [if_pos h, if_pos h]
  exact ⟨an, cn, rfl, hr⟩
 ·rw [if_neg h, if_neg h]
  exact ⟨none, 0, rfl, fun i y hy => by simp at hy⟩
theorem nms_len {d : Nod} (h : d.ok = true) : (nmsF d).length ≤ 8 := by
 unfold nmsF
 by_cases hk : d.k = 7
 ·rw [if_pos hk]; exact ok_lam h hk
 ·rw [if_neg hk]; simp
theorem nms_mem {d : Nod} {s : ByteArray} (h : s ∈ nmsF d) : s ∈ d.names := by
 unfold nmsF at h
 split at h
 ·exact h
 ·cases h
set_option maxRecDepth 100000 in
set_option maxHeartbeats 4000000 in
theorem visit_any (x : Bx) (hx : x.Ok) (a : Option Addr) (ns : List Nod) (cap : Nat) (root : Int) (hsm : ∀ d ∈ ns, d.small) (hok : OkP ns root) (hL : (Lk ns).length ≤ 8388608) : ∀ (f i : Nat), i < f → i < ns.length → ∀ (d : Nod) (an aa : Option Addr) (cn ca : Nat) (b out : List ByteArray) (v : Value) (w : World), ns[i]? = some d → NodRows w (fun b => b < x.B) an cn aa ca d → VSt x a ns cap root (FB b out) out v w → b.length ≤ 8 * (400 - i) → Fnd ns out →
  Calls Tryz.prog 67 #[.agg #[.int .i64 d.k, .int .i64 d.n, .string d.s, .slice an d.names.length cn, .slice aa d.args.length ca], .pointer (some ⟨x.S, 0, none⟩), .pointer (some ⟨x.F, 0, none⟩), .pointer (some ⟨x.V, 0, none⟩), .pointer (some ⟨x.P, 0, none⟩)] w fun e w' => VP x a ns cap root b (freeF ns f (i : Int) b out) v w e w'
 | 0, i, h, _ => absurd h (by omega)
 | f + 1, i, hif, hil => by
  intro d an aa cn ca b out v w hd hrows hst hbl hfd
  have HIH : Hid _ := visit_any x hx a ns cap root hsm hok hL f
  obtain ⟨hl1, hl2, -, hoks, hin, -⟩ := id hok
  have hdo := hoks d (List.mem_of_getElem? hd)
  obtain ⟨s1, _, s3, s4, s5, s6⟩ := hsm d (List.mem_of_getElem? hd)
  have hol := hfd.len
  by_cases hk5 : d.k = 5
  ·rw [freeF_var hd hk5]
   exact visit_var x hx a ns cap root i d an aa cn ca b out v w hd hk5 s3 (ok_var hdo hk5) hL hst (by omega) (by omega)
  ·have hk5b : (d.k == 5) = false := by rw [beq_eq_false_iff_ne]; exact hk5
   have HFE : Hid (freeF ns (f + 1) (i : Int) b out = argsF ns f (b ++ nmsF d) d.args out) := by
    show _ = _
    rw [freeF_else hd hk5, bndF_eq]
    rfl
   have HIN : Hid (inR ns) := hin
   have HSM : Hid (∀ d ∈ ns, d.small) := hsm
   have HD : Hid (ns[i]? = some d) := hd
   have HFD : Hid (Fnd ns out) := hfd
   have hnl := nms_len hdo
   have hcb0 : ∀ s, cbS b s ≤ 4000 := fun s => by have := cbS_le b s; omega
   obtain ⟨na, nc, hnv, hnr⟩ := names_of d an cn w x.B hrows.1
   have HNR : Hid (RowSP w (fun b => b < x.B) na (nmsF d)) := hnr
   have HRI : Hid (RowIP w (fun b => b < x.B) aa d.args) := hrows.2.1
   have HNS : Hid (∀ s ∈ nmsF d, s.size ≤ 1048576 ∧ Ks s 0 ∈ Lk ns) := fun s hs => ⟨s6 s (nms_mem hs), Lk_n hd (nms_mem hs)⟩
   have HBB : Hid (∀ W, Calls Tryz.prog 69 #[.agg #[.int .i64 d.k, .int .i64 d.n, .string d.s, .slice an d.names.length cn, .slice aa d.args.length ca]] W fun e w' => e = .returned (.slice na (nmsF d).length nc) ∧ Below W.heap.size W w') := fun W => by
    have := boundBy_any d an aa cn ca W s1
    rw [hnv] at this
    exact this
   obtain ⟨W, hW⟩ : ∃ W, W = w.alloc (Obj.cells #[.int .i64 d.k, .int .i64 d.n, .string d.s, .slice an d.names.length cn, .slice aa d.args.length ca] 96) := ⟨_, rfl⟩
   have hbW : Below w.heap.size w W := by rw [hW]; exact (Below.refl _ _).alloc (Nat.le_refl _) _
   have HS1 : Hid (VSt x a ns cap root (FB b out) out v W) := hst.below hx hbW
   have HBW : Hid (Below w.heap.size w W) := hbW
   have HW : Hid (W = w.alloc (Obj.cells #[.int .i64 d.k, .int .i64 d.n, .string d.s, .slice an d.names.length cn, .slice aa d.args.length ca] 96)) := hW
   have KX : Hid (W.heap[w.heap.size]? = some (Obj.cells #[.int .i64 d.k, .int .i64 d.n, .string d.s, .slice an d.names.length cn, .slice aa d.args.length ca] 96)) := by show _ = _; rw [hW]; exact blk_at _ _ _ rfl
   have hsz := hst.size
   have HOB : Hid (∀ k, v.ownBlock = some k → x.C ≤ k ∧ k < w.heap.size) := fun k hk => hst.own.lt hk
   have hXm : w.heap.size ≠ x.m := by have := hx.mc; omega
   have hXF : w.heap.size ≠ x.F := by have := hx.fc; omega
   generalize nmsF d = nms at *
   clear hk5 hd hfd hin hoks hdo hrows hnr hnv hst hW hbW hsm hok s1 s3 s4 s6
   go_enter Tryz.func67, Tryz.ntmps67
   go_wp2_with fail
   rw [← HW.out]
   clear HW
   refine (HBB.out _).mono ?_
   rintro e w1 ⟨rfl, hb1⟩
   have HS2 : Hid (VSt x a ns cap root (FB b out) out v w1) := HS1.out.below hx hb1
   have HV2 : Hid (VGr x v.ownBlock w w1) := (VGr.of_below v.ownBlock HBW.out).trans (VGr.of_below v.ownBlock hb1) (.inl rfl)
   have KX2 : Hid (w1.heap[w.heap.size]? = some (Obj.cells #[.int .i64 d.k, .int .i64 d.n, .string d.s, .slice an d.names.length cn, .slice aa d.args.length ca] 96)) := (hb1.block _ (Array.getElem?_eq_some_iff.1 KX.out).1).trans KX.out
   clear hb1 HS1 HBW KX HBB
   go_wp2
   go_loopw [50] (fun o wr => ∃ (k : Nat), k ≤ nms.length ∧ o = .int .i64 k ∧ VSt x a ns cap root (FB (b ++ nms.take k) out) out v wr ∧ VGr x v.ownBlock w wr ∧ wr.heap[w.heap.size]? = some (Obj.cells #[.int .i64 d.k, .int .i64 d.n, .string d.s, .slice an d.names.length cn, .slice aa d.args.length ca] 96))
    (fun o _ => nms.length - (intOf o).toNat)
   case atStart => exact ⟨0, by omega, rfl, by simpa using HS2.out, HV2.out, KX2.out⟩
   case round =>
    clear HS2 HV2 KX2
    obtain ⟨k, hk, rfl, hvs, hvg, hkx⟩ := hrel
    have HVS : Hid (VSt x a ns cap root (FB (b ++ nms.take k) out) out v wr) := hvs
    have HVG : Hid (VGr x v.ownBlock w wr) := hvg
    have HKX : Hid (wr.heap[w.heap.size]? = some (Obj.cells #[.int .i64 d.k, .int .i64 d.n, .string d.s, .slice an d.names.length cn, .slice aa d.args.length ca] 96)) := hkx
    by_cases hkl : k < nms.length
    ·obtain ⟨s, hs⟩ : ∃ s, nms[k]? = some s := ⟨_, List.getElem?_eq_getElem hkl⟩
     obtain ⟨b2, o2, rfl, hb2b, c0⟩ := HNR.out k s hs
     have hb2' : b2 < x.B := hb2b
     have c1 : wr.cell? ⟨b2, o2 + k, none⟩ = some (.string s) := (World.cell?_of_block (w := w) (a := ⟨b2, _, none⟩) (hvg.low hx (fun k hk => (HOB.out k hk).1) hsz hb2')).trans c0
     obtain ⟨hss, hsl⟩ := HNS.out s (List.mem_of_getElem? hs)
     have hts : nms.take (k + 1) = nms.take k ++ [s] := by rw [List.take_add_one, hs]; rfl
     obtain ⟨st, w3, w4, q1, q2, q3, q4, q5, q6⟩ := hvs.bump hx hL hss (⟨by omega, by omega⟩ : i64B 0) hsl ((cbS (b ++ nms.take k) s : Nat) + 1) (fun s' k' => FB_bind (b ++ nms.take k) out s s' k')
     rw [FB_0] at q1 q2 q3
     have hcb := cbS_le (b ++ nms.take k) s
     rw [List.length_append, List.length_take] at hcb
     have HQ5 : Hid (MapC w4 x.m (Lk ns) (FB (b ++ nms.take (k + 1)) out)) := by rw [hts, ← List.append_assoc]; exact q5
     have HQ6 : Hid (wr.grownBy w4 (some x.m)) := q6
     have m1 := cell_blk (j := 0) hvs.s rfl
     clear q5 q6 hvs hvg hkx c0 hts hs
     generalize cbS (b ++ nms.take k) s = cc at *
     go_wp2_with fail
     go_region
     have HS4 : Hid (VSt x a ns cap root (FB (b ++ nms.take (k + 1)) out) out v w4) := HVS.out.put hx HQ6.out HQ5.out
     have HV4 : Hid (VGr x v.ownBlock w w4) := HVG.out.trans (VGr.of_map v.ownBlock HQ6.out) (.inl rfl)
     have HK4 : Hid (w4.heap[w.heap.size]? = some (Obj.cells #[.int .i64 d.k, .int .i64 d.n, .string d.s, .slice an d.names.length cn, .slice aa d.args.length ca] 96)) := (HQ6.out.block _ (Array.getElem?_eq_some_iff.1 HKX.out).1 (fun e => hXm (Option.some.inj e))).trans HKX.out
     clear q1 q2 q3 q4 m1 c1
     go_wp2
     go_roundw
     case rel => exact ⟨k + 1, by omega, by go_num, HS4.out, HV4.out, HK4.out⟩
     case measure => simp [intOf]; omega
    ·have hkl' : decide ((k : Int) < (nms.length : Int)) = false := by simp; omega
     obtain rfl : k = nms.length := by omega
     rw [List.take_length] at HVS
     have x4 := cell_blk (j := 4) hkx rfl
     clear hkl hvs hvg hkx
     have hnwl : (b ++ nms).length ≤ 8 * (400 - i) + 8 := by rw [List.length_append]; omega
     obtain ⟨nb, hnb⟩ : ∃ nb, nb = b ++ nms := ⟨_, rfl⟩
     have HNB : Hid (nb = b ++ nms) := hnb
     rw [← hnb] at HVS hnwl HFE
     clear hnb
     go_wp2
     go_loopw [65] (fun o wr2 => ∃ (k : Nat) (vk : Value), k ≤ d.args.length ∧ o = .int .i64 k ∧ VSt x a ns cap root (FB nb (argsF ns f nb (d.args.take k) out)) (argsF ns f nb (d.args.take k) out) vk wr2 ∧ VGr x v.ownBlock w wr2 ∧ wr2.heap[w.heap.size]? = some (Obj.cells #[.int .i64 d.k, .int .i64 d.n, .string d.s, .slice an d.names.length cn, .slice aa d.args.length ca] 96) ∧ (vk.ownBlock = v.ownBlock ∨ ∀ kk, vk.ownBlock = some kk → w.heap.size + 1 ≤ kk))
      (fun o _ => d.args.length - (intOf o).toNat)
     case atStart => exact ⟨0, v, by omega, rfl, by simpa [argsF] using HVS.out, HVG.out, HKX.out, .inl rfl⟩
     case round =>
      clear HVS HVG HKX x4
      obtain ⟨k, vk, hk, rfl, hvs, hvg, hkx, hnw⟩ := hrel
      have HVS : Hid (VSt x a ns cap root (FB nb (argsF ns f nb (d.args.take k) out)) (argsF ns f nb (d.args.take k) out) vk wr) := hvs
      have HVG : Hid (VGr x v.ownBlock w wr) := hvg
      have HKX : Hid (wr.heap[w.heap.size]? = some (Obj.cells #[.int .i64 d.k, .int .i64 d.n, .string d.s, .slice an d.names.length cn, .slice aa d.args.length ca] 96)) := hkx
      have HNW : Hid (vk.ownBlock = v.ownBlock ∨ ∀ kk, vk.ownBlock = some kk → w.heap.size + 1 ≤ kk) := hnw
      have HFK : Hid (Fnd ns (argsF ns f nb (d.args.take k) out)) := Fnd.args HIN.out HD.out (Nat.le_of_lt_succ hif) nb out HFD.out k
      have hxs := (Array.getElem?_eq_some_iff.1 hkx).1
      by_cases hkl : k < d.args.length
      ·obtain ⟨y, hy⟩ : ∃ y, d.args[k]? = some y := ⟨_, List.getElem?_eq_getElem hkl⟩
       obtain ⟨b2, o2, haa, hb2b, c0⟩ := HRI.out k y hy
       have hb2' : b2 < x.B := hb2b
       have c1 : wr.cell? ⟨b2, o2 + k, none⟩ = some (.int .i64 y) := (World.cell?_of_block (w := w) (a := ⟨b2, _, none⟩) (hvg.low hx (fun k hk => (HOB.out k hk).1) hsz hb2')).trans c0
       obtain ⟨hy0, hy1⟩ := HIN.out i d HD.out y (List.mem_of_getElem? hy)
       obtain ⟨A, rfl⟩ := Int.eq_ofNat_of_zero_le hy0
       have HTS : Hid (argsF ns f nb (d.args.take (k + 1)) out = freeF ns f (A : Int) nb (argsF ns f nb (d.args.take k) out)) := by show _ = _; rw [List.take_add_one, hy]; exact argsF_snoc _ _ _ _ _ _
       generalize argsF ns f nb (d.args.take k) out = oo at *
       obtain ⟨e, he⟩ : ∃ e, ns[A]? = some e := ⟨_, List.getElem?_eq_getElem (by omega)⟩
       obtain ⟨b3, o3, hb3a, hbb, en, ecn, ea, eca, v0, v1, v2, v3, v4, her⟩ := hvs.rows A e he
       subst haa
       subst hb3a
       have HC : Hid (Calls Tryz.prog 67 #[.agg #[.int .i64 e.k, .int .i64 e.n, .string e.s, .slice en e.names.length ecn, .slice ea e.args.length eca], .pointer (some ⟨x.S, 0, none⟩), .pointer (some ⟨x.F, 0, none⟩), .pointer (some ⟨x.V, 0, none⟩), .pointer (some ⟨x.P, 0, none⟩)] wr.drew fun e w' => VP x (some ⟨b3, o3, none⟩) ns cap root nb (freeF ns f (A : Int) nb oo) vk wr e w') := (HIH.out A (by omega) (by omega) e en ea ecn eca nb oo vk wr.drew he her ⟨HVS.out.s, HVS.out.f, HVS.out.vb, HVS.out.p, HVS.out.map.same rfl, HVS.out.own, HVS.out.rows, HVS.out.size⟩ (by omega) HFK.out).mono (fun e w' ⟨v', h1, h2, h3, h4⟩ => ⟨v', h1, h2, ⟨h3.os, h3.tape, h3.output, h3.size, h3.block⟩, h4⟩)
       have p0 := cell_blk (j := 0) hvs.p rfl
       have g0 := cell_blk (j := 0) hvs.vb rfl
       simp only [clo] at g0
       clear hvs hvg hkx hnw c0 hy he her
       go_wp2_with fail
       go_region_with (go_at_call 67; refine HC.out.mono ?_; rintro e5 w5 ⟨v5, rfl, hvs5, hvg5, hnw5⟩)
       all_goals
        have hne : some w.heap.size ≠ vk.ownBlock := by
         intro e
         rcases HNW.out with h | h
         ·rw [h] at e
          have := (HOB.out _ e.symm).2
          omega
         ·have := h _ e.symm
          omega
        have HS5 : Hid (VSt x (some ⟨b3, o3, none⟩) ns cap root (FB nb (argsF ns f nb (d.args.take (k + 1)) out)) (argsF ns f nb (d.args.take (k + 1)) out) v5 w5) := by rw [HTS.out]; exact hvs5
        have HV5 : Hid (VGr x v.ownBlock w w5) := HVG.out.trans hvg5 (HNW.out.imp id (fun h kk hk => by have := h kk hk; omega))
        have HK5 : Hid (w5.heap[w.heap.size]? = _) := (hvg5.block _ hxs hXm hXF hne).trans HKX.out
        have HN5 : Hid (v5.ownBlock = v.ownBlock ∨ ∀ kk, v5.ownBlock = some kk → w.heap.size + 1 ≤ kk) := new_trans (by omega) HNW.out hnw5
        clear hvs5 hvg5 hnw5 hne
        go_wp2
        go_roundw
        case rel => exact ⟨k + 1, v5, by omega, by go_num, HS5.out, HV5.out, HK5.out, HN5.out⟩
        case measure => simp [intOf]; omega
      ·have hkl' : decide ((k : Int) < (d.args.length : Int)) = false := by simp; omega
       obtain rfl : k = d.args.length := by omega
       rw [List.take_length] at HVS HFK
       rw [← HFE.out, HNB.out] at HVS
       clear hkl hvs hvg hkx hnw
       obtain ⟨oo, hoo⟩ : ∃ oo, oo = freeF ns (f + 1) (i : Int) b out := ⟨_, rfl⟩
       have HOO : Hid (oo = freeF ns (f + 1) (i : Int) b out) := hoo
       rw [← hoo] at HVS
       clear hoo
       go_wp2
       go_loopw [78] (fun o wr3 => ∃ (k : Nat), k ≤ nms.length ∧ o = .int .i64 k ∧ VSt x a ns cap root (FB (b ++ nms.drop k) oo) oo vk wr3 ∧ VGr x v.ownBlock w wr3)
        (fun o _ => nms.length - (intOf o).toNat)
       case atStart => exact ⟨0, by omega, rfl, HVS.out, HVG.out⟩
       case round =>
        clear HVS HVG HKX
        obtain ⟨k, hk, rfl, hvs, hvg⟩ := hrel
        have HVS : Hid (VSt x a ns cap root (FB (b ++ nms.drop k) oo) oo vk wr) := hvs
        have HVG : Hid (VGr x v.ownBlock w wr) := hvg
        by_cases hkl : k < nms.length
        ·obtain ⟨s, hs⟩ : ∃ s, nms[k]? = some s := ⟨_, List.getElem?_eq_getElem hkl⟩
         obtain ⟨b2, o2, rfl, hb2b, c0⟩ := HNR.out k s hs
         have hb2' : b2 < x.B := hb2b
         have c1 : wr.cell? ⟨b2, o2 + k, none⟩ = some (.string s) := (World.cell?_of_block (w := w) (a := ⟨b2, _, none⟩) (hvg.low hx (fun k hk => (HOB.out k hk).1) hsz hb2')).trans c0
         obtain ⟨hss, hsl⟩ := HNS.out s (List.mem_of_getElem? hs)
         rw [drop_cons hs] at hvs HVS
         obtain ⟨st, w3, w4, q1, q2, q3, q4, q5, q6⟩ := hvs.bump hx hL hss (⟨by omega, by omega⟩ : i64B 0) hsl ((cbS (b ++ s :: nms.drop (k + 1)) s : Nat) - 1) (fun s' k' => FB_unbind b (nms.drop (k + 1)) oo s s' k')
         rw [FB_0] at q1 q2 q3
         have hcb := cbS_le (b ++ s :: nms.drop (k + 1)) s
         rw [List.length_append, List.length_cons, List.length_drop] at hcb
         have HQ5 : Hid (MapC w4 x.m (Lk ns) (FB (b ++ nms.drop (k + 1)) oo)) := q5
         have HQ6 : Hid (wr.grownBy w4 (some x.m)) := q6
         have m1 := cell_blk (j := 0) hvs.s rfl
         clear q5 q6 hvs hvg c0 hs
         generalize cbS (b ++ s :: nms.drop (k + 1)) s = cc at *
         go_wp2_with fail
         go_region
         have HS4 : Hid (VSt x a ns cap root (FB (b ++ nms.drop (k + 1)) oo) oo vk w4) := HVS.out.put hx HQ6.out HQ5.out
         have HV4 : Hid (VGr x v.ownBlock w w4) := HVG.out.trans (VGr.of_map v.ownBlock HQ6.out) (.inl rfl)
         clear q1 q2 q3 q4 m1 c1
         go_wp2
         go_roundw
         case rel => exact ⟨k + 1, by omega, by go_num, HS4.out, HV4.out⟩
         case measure => simp [intOf]; omega
        ·have hkl' : decide ((k : Int) < (nms.length : Int)) = false := by simp; omega
         obtain rfl : k = nms.length := by omega
         rw [List.drop_length, List.append_nil] at HVS
         clear hkl hvs hvg
         go_wp2
         refine bodyPost_ret (results_none rfl _ _ _) rfl ?_
         exact ⟨vk, rfl, by rw [← HOO.out]; exact HVS.out, HVG.out, HNW.out.imp id (fun h kk hk => by have := h kk hk; omega)⟩
end Go.Proofs.YtamjofdgikifnaaGreat.Fr
