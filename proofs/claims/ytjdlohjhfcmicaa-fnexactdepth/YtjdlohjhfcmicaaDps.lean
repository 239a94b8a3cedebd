/- The model's Depth. -/
import Derived.Test.YtjdlohjhfcmicaaDpp
import Derived.Deep.QuietTactic
import Derived.BigQuiet
set_option linter.unusedVariables false
namespace Go.Proofs.Ytjdlohjhfcmicaa
open Go.ChangeShapes Go.WideShapes Go.ChangeAt Go.RowKit
theorem specDepth_no (a : Option Addr) (ns : List Nod) (cap : Nat) (root : Int) (w : World) (hn : ns.length ≤ 1048576) (hfl : (flat ns).length ≤ 1048576) (hr : RowN w w.heap.size a ns) (hsm : ∀ d ∈ ns, d.small) (hno : ¬ OkP ns root) :
    Calls Try.prog 17 #[.agg #[.slice a ns.length cap, .int .i64 root]] w fun e w' => Ans w (.int .i64 0) e w' := by
  have hbB : Below w.heap.size w (w.alloc (Obj.cells #[.slice a ns.length cap, .int .i64 root] 30)) := (Below.refl _ _).alloc (Nat.le_refl _) _
  have HOK : Hid (Calls Try.prog 20 #[.agg #[.slice a ns.length cap, .int .i64 root]] (w.alloc (Obj.cells #[.slice a ns.length cap, .int .i64 root] 30)) fun e w' => OkPost ns root (w.alloc (Obj.cells #[.slice a ns.length cap, .int .i64 root] 30)) e w') := specOk_any a ns cap root _ hn hfl ((hr.below hbB).mono hbB.size) hsm
  clear hr hsm
  go_enter Try.func17, Try.ntmps17
  go_wp2_with fail
  refine HOK.out.mono ?_
  rintro e w1 ⟨b, rfl, hq, hb1⟩
  obtain rfl : b = false := by
    cases b with
    | false => rfl
    | true => exact absurd (hq.1 rfl) hno
  have hb2 := hbB.trans (hb1.mono hbB.size)
  clear hbB hb1
  go_wp2
  go_ret
  exact ⟨rfl, hb2⟩
set_option maxRecDepth 100000 in
set_option maxHeartbeats 1000000 in
theorem specDepth_yes (a : Option Addr) (ns : List Nod) (cap : Nat) (root : Int) (w : World) (hn : ns.length ≤ 1048576) (hfl : (flat ns).length ≤ 1048576) (hr : RowN w w.heap.size a ns) (hsm : ∀ d ∈ ns, d.small) (hok : OkP ns root) :
    Calls Try.prog 17 #[.agg #[.slice a ns.length cap, .int .i64 root]] w fun e w' => Ans w (.int .i64 (depN ns : Nat)) e w' := by
  obtain ⟨w0, hw0⟩ : ∃ w0, w0 = w.alloc (Obj.cells #[.slice a ns.length cap, .int .i64 root] 30) := ⟨_, rfl⟩
  have hbB : Below w.heap.size w w0 := by rw [hw0]; exact (Below.refl _ _).alloc (Nat.le_refl _) _
  have kB : w0.heap[w.heap.size]? = some (Obj.cells #[.slice a ns.length cap, .int .i64 root] 30) := by rw [hw0]; exact blk_alloc _ _
  have HOK : Hid (Calls Try.prog 20 #[.agg #[.slice a ns.length cap, .int .i64 root]] w0 fun e w' => OkPost ns root w0 e w') := specOk_any a ns cap root _ hn hfl ((hr.below hbB).mono hbB.size) hsm
  have HW0 : Hid (w0 = w.alloc (Obj.cells #[.slice a ns.length cap, .int .i64 root] 30)) := hw0
  have hs0 : w0.heap.size = w.heap.size + 1 := by rw [hw0]; simp
  have HR : Hid (RowN w w.heap.size a ns) := hr
  obtain ⟨hl1, hl2, hroot, _, hin, _⟩ := id hok
  have HIN : Hid (inR ns) := hin
  have HRT : Hid (root = (ns.length : Int) - 1) := hroot
  have HOKP : Hid (OkP ns root) := hok
  clear hr hsm hok hin hw0 hroot
  obtain ⟨i0, hi, hz0, hz1, hz2⟩ := info_parts Try.info3
  go_enter Try.func17, Try.ntmps17
  go_wp2_with fail
  rw [← HW0.out]
  refine HOK.out.mono ?_
  rintro e w1 ⟨b, rfl, hq, hb1⟩
  obtain rfl : b = true := hq.2 HOKP.out
  have k1 := blk_keep kB hb1 (by omega)
  have hb2 := hbB.trans (hb1.mono hbB.size)
  have hs1 := hb1.size
  have e0 := cell_blk (j := 0) k1 rfl
  have K1 : Hid (w1.heap[w.heap.size]? = some (Obj.cells #[.slice a ns.length cap, .int .i64 root] 30)) := k1
  clear hbB hb1 hq kB HW0 k1 HOK
  go_wp2_with (at_make; refine wpList_make_full _ rfl _ _ 46 rfl w1.heap.size 3 i0 _ 1 Try.underlying46 hi hz0 hz1 .i64 .i64 _ _ ns.length rfl rfl rfl rfl ?c1 ?c2 ?c3 ?_)
  case c1 => rw [hz2]; omega
  case c2 => simp [maxLen]; omega
  case c3 => simp
  intro w2 hown2 hgr2
  have hb3 : Below w1.heap.size w1 w2 := (Below.refl _ _).grown hgr2 (by simp) (fun _ h => by cases h)
  have hb4 := hb2.trans (hb3.mono hb2.size)
  have HK2 : Hid (w2.heap[w.heap.size]? = some (Obj.cells #[.slice a ns.length cap, .int .i64 root] 30)) := blk_keep K1.out hb3 (by omega)
  have HC : Hid (DpAt w2 w1.heap.size ns.length []) := DpAt.zero hown2
  have hgw : w.heap.size < w1.heap.size := by omega
  obtain ⟨G, hG⟩ : ∃ G, G = w1.heap.size := ⟨_, rfl⟩
  rw [← hG] at HC hgw ⊢
  clear hown2 hgr2 hb3 hb2 K1 e0 hs1 hG
  go_wp2
  go_loopw [4] (fun o wr => ∃ (i : Nat), i ≤ ns.length ∧ o = .int .i64 i ∧ wr.heap[w.heap.size]? = some (Obj.cells #[.slice a ns.length cap, .int .i64 root] 30) ∧ DpAt wr G ns.length (dps (ns.take i)) ∧ Below w.heap.size w wr)
    (fun o _ => ns.length - (intOf o).toNat)
  case atStart => exact ⟨0, by omega, rfl, HK2.out, by simpa [dps] using HC.out, hb4⟩
  case round =>
    clear HK2 HC hb4
    obtain ⟨i, hi, rfl, hkd, hcn, hb⟩ := hrel
    have e0 := cell_blk (j := 0) hkd rfl
    have e1 := cell_blk (j := 1) hkd rfl
    have HKD : Hid (wr.heap[w.heap.size]? = some (Obj.cells #[.slice a ns.length cap, .int .i64 root] 30)) := hkd
    have HCN : Hid (DpAt wr G ns.length (dps (ns.take i))) := hcn
    have hws := hb.size
    clear hkd hcn
    by_cases hlt : i < ns.length
    · obtain ⟨d, hd⟩ : ∃ d, ns[i]? = some d := ⟨_, List.getElem?_eq_getElem hlt⟩
      have HD : Hid (ns[i]? = some d) := hd
      obtain ⟨b1, o1, rfl, hbb, an, cn, aa, ca, v0, v1, v2, v3, v4, hrs, hri, hcn1, hca1⟩ := HR.out i d hd
      have HRI : Hid (∀ w3, Below w.heap.size w w3 → RowIP w3 (fun b => b < w.heap.size) aa d.args) := fun w3 h3 => hri.keep fun b h => ⟨h, h3.block b h⟩
      have C4 : Hid (∀ w3, Below w.heap.size w w3 → w3.cell? ⟨b1, o1 + i * 5 + 4, none⟩ = some (.slice aa d.args.length ca)) := fun w3 h3 => cell_keep v4 h3 hbb
      obtain ⟨hdl, hdm⟩ := dps_len i (ns.take i) (by rw [List.length_take]; omega)
      have HDM : Hid (∀ x ∈ dps (ns.take i), x ≤ i) := hdm
      have HDT : Hid (dps (ns.take (i + 1)) = dps (ns.take i) ++ [dpO (dps (ns.take i)) d.args + 1]) := dps_take hd
      have HDI : Hid (∀ a ∈ d.args, 0 ≤ a ∧ a < (i : Int)) := HIN.out i d hd
      have hdal : d.args.length ≤ 1048576 := by
        have h1 := flat_split hd
        have h2 := hfl
        rw [h1] at h2
        simp at h2
        omega
      have HC0 : Hid (DpAt wr G ns.length (dps (ns.take i) ++ [dpO (dps (ns.take i)) []])) := HCN.out.begin
      generalize dps (ns.take i) = l at *
      clear hrs hri hd v0 v1 v2 v3 v4 hdm HCN
      go_wp2
      go_loopw [5] (fun o wr => ∃ (k : Nat), k ≤ d.args.length ∧ o = .int .i64 k ∧ wr.heap[w.heap.size]? = some (Obj.cells #[.slice (some ⟨b1, o1, none⟩) ns.length cap, .int .i64 root] 30) ∧ DpAt wr G ns.length (l ++ [dpO l (d.args.take k)]) ∧ Below w.heap.size w wr)
        (fun o _ => d.args.length - (intOf o).toNat)
      case atStart => exact ⟨0, by omega, rfl, HKD.out, HC0.out, hb⟩
      case round =>
        clear HKD HC0 hb e0 e1 hws
        obtain ⟨k, hk, rfl, hkd, hcn, hb⟩ := hrel
        have e0 := cell_blk (j := 0) hkd rfl
        have c4 := C4.out _ hb
        have HKD : Hid (wr.heap[w.heap.size]? = some (Obj.cells #[.slice (some ⟨b1, o1, none⟩) ns.length cap, .int .i64 root] 30)) := hkd
        obtain ⟨g3, f3⟩ := hcn.cell (j := i) (by omega)
        have hgi : (l ++ [dpO l (d.args.take k)]).getD i 0 = dpO l (d.args.take k) := by rw [← hdl]; exact getD_snoc_eq
        rw [hgi] at g3
        have hmx : dpO l (d.args.take k) ≤ i := dpO_le HDM.out _
        by_cases hkl : k < d.args.length
        · obtain ⟨x, hx⟩ : ∃ x, d.args[k]? = some x := ⟨_, List.getElem?_eq_getElem hkl⟩
          obtain ⟨b2, o2, rfl, hb2b, cx⟩ := HRI.out _ hb k x hx
          obtain ⟨hx0, hx1⟩ := HDI.out x (List.mem_of_getElem? hx)
          obtain ⟨A, rfl⟩ := Int.eq_ofNat_of_zero_le hx0
          have HTS : Hid (dpO l (d.args.take (k + 1)) = max (dpO l (d.args.take k)) (l.getD A 0)) := by show _ = _; rw [List.take_add_one, hx]; exact dpO_snoc _ _ _
          obtain ⟨g4, f4⟩ := hcn.cell (j := A) (by omega)
          rw [getD_snoc_lt (by omega)] at g4
          have hgA : l.getD A 0 ≤ i := getD_le HDM.out _
          have HCN : Hid (DpAt wr G ns.length (l ++ [dpO l (d.args.take k)])) := hcn
          generalize l.getD A 0 = y at *
          generalize dpO l (d.args.take k) = z at *
          clear hx hkd hcn hgi
          by_cases hyz : z < y
          · have q1 : decide ((y : Int) ≤ (z : Int)) = false := by simp; omega
            have q2 : decide ((z : Int) < (y : Int)) = true := by simp; omega
            have HP : Hid _ := HCN.out.put (y := y) (by omega)
            rw [hdl] at HP
            go_wp2_with fail
            go_quiet (fail)
            go_wp2
            go_roundw
            case rel =>
              refine ⟨k + 1, by omega, by go_num, (heap_setCell_other _ _ _ _ (by show w.heap.size ≠ G; omega)).trans HKD.out, ?_, (below_drewN hb _).setCell (p := ⟨_, _, none⟩) (by show w.heap.size ≤ G; omega) _⟩
              rw [HTS.out, Nat.max_eq_right (by omega)]
              exact HP.out
            case measure => simp [intOf]; omega
          · have q1 : decide ((y : Int) ≤ (z : Int)) = true := by simp; omega
            have q2 : decide ((z : Int) < (y : Int)) = false := by simp; omega
            go_wp2_with fail
            go_quiet (fail)
            go_wp2
            go_roundw
            case rel =>
              refine ⟨k + 1, by omega, by go_num, HKD.out, ?_, below_drewN hb _⟩
              rw [HTS.out, Nat.max_eq_left (by omega)]
              exact HCN.out
            case measure => simp [intOf]; omega
        · have hkl' : decide ((k : Int) < (d.args.length : Int)) = false := by simp; omega
          obtain rfl : k = d.args.length := by omega
          rw [List.take_length] at hcn g3 hmx
          have HP : Hid _ := hcn.put (y := dpO l d.args + 1) (by omega)
          rw [hdl, ← HDT.out] at HP
          generalize dpO l d.args = z at *
          clear hkd hcn hgi
          go_wp2
          go_roundw
          case rel =>
            refine ⟨i + 1, by omega, by go_num, (heap_setCell_other _ _ _ _ (by show w.heap.size ≠ G; omega)).trans HKD.out, HP.out, hb.setCell (p := ⟨_, _, none⟩) (by show w.heap.size ≤ G; omega) _⟩
          case measure => simp [intOf]; omega
    · have hlt' : decide ((i : Int) < (ns.length : Int)) = false := by simp; omega
      obtain rfl : i = ns.length := by omega
      rw [List.take_length] at HCN
      obtain ⟨g3, f3⟩ := HCN.out.cell (j := ns.length - 1) (by omega)
      have hrt : root = ((ns.length - 1 : Nat) : Int) := by have := HRT.out; omega
      subst hrt
      clear hlt hi
      go_wp2
      go_ret
      exact ⟨rfl, hb⟩
end Go.Proofs.Ytjdlohjhfcmicaa
