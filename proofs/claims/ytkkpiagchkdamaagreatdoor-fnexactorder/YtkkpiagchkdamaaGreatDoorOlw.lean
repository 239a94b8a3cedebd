/- The law FnExactOrder walked: for whatever sources the program and the model say the same, the argument stays as it was, and the answer owns its memory. -/
import Derived.Test.YtkkpiagchkdamaaGreatDoorOmc
import Derived.Test.YtkkpiagchkdamaaGreatDoorOhm
import Derived.Test.YtkkpiagchkdamaaGreatDoorFtr
import Derived.Test.YtkkpiagchkdamaaGreatDoorSyu
import Derived.Test.YtkkpiagchkdamaaGreatDoorSyz
import Derived.Test.YtkkpiagchkdamaaGreatDoorSye
import Derived.Test.YtkkpiagchkdamaaGreatDoorEqc
set_option linter.unusedVariables false
namespace Go.Proofs.YtkkpiagchkdamaaGreatDoor
open Go.ChangeShapes Go.WideShapes Go.ChangeAt Go.RowKit
theorem Srx.flat_of {y : Srx} (h : y.bulk ≤ 1048576) : flatOk y := by
  unfold Srx.bulk at h
  refine ⟨fun u hu => ?_, fun u hu => ?_⟩
  · have h1 := bulkOf_mem Dfn.bulk hu
    have h2 := bulkN_flat u.prog.nodes
    have h3 : u.bulk = u.name.size + bulkN u.prog.nodes := rfl
    omega
  · have h1 := bulkOf_mem Dfn.bulk hu
    have h2 := bulkN_flat u.prog.nodes
    have h3 : u.bulk = u.name.size + bulkN u.prog.nodes := rfl
    omega
theorem cnt_le {α : Type} {c f : α → Nat} (h : ∀ x, c x ≤ 6 * (1 + f x)) : ∀ l : List α, cnt c l ≤ 6 * bulkOf f l
  | [] => by simp [cnt, bulkOf]
  | x :: t => by
    have h1 := cnt_le h t
    have h2 := h x
    have h3 : cnt c (x :: t) = c x + cnt c t := by simp [cnt]
    have h4 : bulkOf f (x :: t) = 1 + f x + bulkOf f t := rfl
    omega
theorem cntSN : ∀ l : List ByteArray, cnt c_string l ≤ 6 * bulkSN l
  | [] => by simp [cnt, bulkSN]
  | x :: t => by
    have h1 := cntSN t
    have h3 : cnt c_string (x :: t) = 1 + cnt c_string t := by simp [cnt, c_string]
    have h4 : bulkSN (x :: t) = 1 + x.size + bulkSN t := rfl
    omega
theorem cntI : ∀ l : List Int, cnt c_int l = l.length
  | [] => rfl
  | x :: t => by
    have h1 := cntI t
    have h3 : cnt c_int (x :: t) = 1 + cnt c_int t := by simp [cnt, c_int]
    simp only [List.length_cons]
    omega
theorem cntN : ∀ l : List Nod, cnt c_Node l ≤ 6 * bulkN l
  | [] => by simp [cnt, bulkN]
  | x :: t => by
    have h1 := cntN t
    have h3 : cnt c_Node (x :: t) = c_Node x + cnt c_Node t := by simp [cnt]
    have h4 : bulkN (x :: t) = 1 + x.bulk + bulkN t := rfl
    have h5 : c_Node x = 3 + cnt c_string x.names + cnt c_int x.args := rfl
    have h6 := cntSN x.names
    have h7 := cntI x.args
    have h8 : x.bulk = x.s.size + bulkSN x.names + x.args.length := rfl
    omega
theorem cSrc_le (l : List Srx) : cnt c_Src l ≤ 6 * bulkOf Srx.bulk l := by
  have hS : ∀ l, cnt c_string l ≤ 6 * bulkS l := fun l => cnt_le (fun x => by show 1 ≤ _; omega) l
  have hT : ∀ l, cnt c_Type l ≤ 6 * bulkOf Typ.bulk l := fun l => cnt_le (fun x => by show 2 ≤ _; omega) l
  have hD : ∀ l, cnt c_Def l ≤ 6 * bulkOf Dfn.bulk l := fun l => cnt_le (fun x => by
    have h1 : c_Def x = 2 + cnt c_Node x.prog.nodes := rfl
    have h2 := cntN x.prog.nodes
    have h3 : x.bulk = x.name.size + bulkN x.prog.nodes := rfl
    omega) l
  exact cnt_le (fun x => by
    have h1 : c_Src x = 1 + cnt c_string x.imps + cnt c_string x.exps + cnt c_Type x.types + cnt c_Def x.defs + cnt c_Def x.convs := rfl
    have h2 := hS x.imps
    have h3 := hS x.exps
    have h4 := hT x.types
    have h5 := hD x.defs
    have h6 := hD x.convs
    have h7 : x.bulk = x.name.size + (bulkS x.imps + (bulkS x.exps + (bulkOf Typ.bulk x.types + (bulkOf Dfn.bulk x.defs + (bulkOf Dfn.bulk x.convs))))) := rfl
    omega) l
theorem allB_bulk (l : List Srx) : (allB l).length ≤ bulkOf Srx.bulk l := by
  induction l with
  | nil => exact Nat.le_refl _
  | cons x l ih =>
    have h1 : (allB (x :: l)).length = 1 + x.imps.length + (allB l).length := by
      show (x.name :: x.imps ++ allB l).length = _
      simp
      omega
    have h2 : bulkOf Srx.bulk (x :: l) = 1 + x.bulk + bulkOf Srx.bulk l := rfl
    have h3 : x.bulk = x.name.size + (bulkS x.imps + (bulkS x.exps + (bulkOf Typ.bulk x.types + (bulkOf Dfn.bulk x.defs + (bulkOf Dfn.bulk x.convs))))) := rfl
    have h4 : x.imps.length ≤ bulkS x.imps := bulkOf_len _ _
    omega
theorem ordL_len {l : List Srx} (hl : l.length ≤ 1048576) : (ordL l).length ≤ 1048576 := by
  unfold ordL
  split
  · rw [List.length_map]
    exact Nat.le_trans (runO_len _ _) hl
  · simp
namespace fnExactOrder
set_option maxRecDepth 100000 in
set_option maxHeartbeats 4000000 in
theorem walk (a : Option Addr) (l : List Srx) (ca : Nat) (w : World) (hwf : ∀ d ∈ l, Srx.wf d) (hn : l.length ≤ 9223372036854775807) (hr : rgX.Row w (fun b => b < w.heap.size) a l) (hTab : TabAt 0 Lib.deBruijn64tab w) (h0 : 0 < w.heap.size) :
    Calls Tryz.prog 3 #[.slice a l.length ca] w fun e w' => Ans w (.bool true) e w' := by
  have HZ : Hid (Calls Tryz.prog 4 #[.slice a l.length ca, .int .i64 1048576] w fun e w' => Ans w (.int .i64 (leftOf 1048576 (bulkOf Srx.bulk l))) e w') := sz_Src a l ca 1048576 w (Nat.le_refl _) hn hr hwf
  by_cases hbk : 1048576 < bulkOf Srx.bulk l
  · rw [leftOf_neg hbk] at HZ
    clear hr hwf hTab
    go_enter Tryz.func3, Tryz.ntmps3
    go_wp2_with (go_at_call 4; refine HZ.out.mono ?_; rintro e w1 ⟨rfl, hb1⟩)
    go_ret
    exact ⟨rfl, hb1⟩
  · have hbk' : bulkOf Srx.bulk l ≤ 1048576 := by omega
    have hl : l.length ≤ 1048576 := Nat.le_trans (bulkOf_len _ _) hbk'
    have hsm : ∀ d ∈ l, Srx.small d := fun d hd => Srx.small_of (hwf d hd) (Nat.le_trans (bulkOf_mem Srx.bulk hd) hbk')
    have hfl : ∀ d ∈ l, flatOk d := fun d hd => Srx.flat_of (Nat.le_trans (bulkOf_mem Srx.bulk hd) hbk')
    have hN : (allB l).length ≤ 4194304 := by have := allB_bulk l; omega
    have hcn : 1 + cnt c_Src l ≤ 9000000 := by have := cSrc_le l; omega
    have hLl := ordL_len hl
    have hTK : ∀ W, Below w.heap.size w W → TabAt 0 Lib.deBruijn64tab W := fun W hW => tab_keep hTab (hW.block 0 h0)
    rw [leftOf_nat hbk] at HZ
    have HTO : Hid (∀ W, Below w.heap.size w W → Calls Tryz.prog 6 #[.slice a l.length ca] W fun e w' => MadeU rgX l W e w') := fun W hW => tu_Src a l ca W hl hsm (Rd.Row.now (B := 0) hr hW)
    have HSP : Hid (∀ W b cb, l.length ≤ cb → rgX.Row W (fun b => b < W.heap.size) b l → Calls Tryz.prog 5 #[.slice b l.length cb] W fun e w' => OrdP l W e w') := fun W b cb hc hW => specOrder_any b l cb W hl hc hsm hfl hW
    have HIM : Hid (∀ W b cb, Below w.heap.size w W → rgX.Row W (fun b => b < W.heap.size) b l → Calls Tryz.prog 7 #[.slice b l.length cb] W fun e w' => OrdP l W e w') := fun W b cb hW hrw => implOrder_any b l cb W hl hsm hN hrw (hTK W hW) (Nat.lt_of_lt_of_le h0 hW.size)
    have HEQ : Hid (∀ W b b' cb cb', rgX.Row W (fun b => b < W.heap.size) b l → rgX.Row W (fun b => b < W.heap.size) b' l → Calls Tryz.prog 9 #[.slice b l.length cb, .slice b' l.length cb'] W fun e w' => Ans W (.bool true) e w') := fun W b b' cb cb' h1 h2 => eq_Src b b' l cb cb' W hl hsm h1 h2
    have HMK : Hid (∀ B C b cb W, Fits B C W (.r 6 (l.map sh_Src)) (.slice b l.length cb) → Calls Tryz.prog 10 #[.slice b l.length cb, .int .i64 1] W fun e w' => Mk B C W 1 (cnt c_Src l) e w') := fun B C b cb W hf => mark_Src B C b l cb 1 W hf hl hsm (Nat.le_refl _) hcn
    obtain ⟨L, hL⟩ : ∃ L, ordL l = L := ⟨_, rfl⟩
    obtain ⟨ob, hob⟩ : ∃ ob, ordB l = ob := ⟨_, rfl⟩
    rw [hL] at hLl
    have HOP : Hid (∀ W e W', OrdP l W e W' → ∃ v, e = .returned (.tuple #[v, .bool ob]) ∧ OwnS W' W.heap.size v L ∧ Below W.heap.size W W') := fun W e W' h => by
      rw [← hL, ← hob]
      exact h
    have HES : Hid (∀ W b b' cb cb', RowS W W.heap.size b L → RowS W W.heap.size b' L → Calls Tryz.prog 8 #[.slice b L.length cb, .slice b' L.length cb'] W fun e w' => Ans W (.bool true) e w') := fun W b b' cb cb' h1 h2 => eqStringS_same b b' L cb cb' W hLl h1 h2
    generalize hq : 1048576 - bulkOf Srx.bulk l = q at *
    clear hq hr hwf hTab hbk hbk' hsm hfl hN hTK hL hob
    have hqn : decide ((q : Int) < 0) = false := by simp
    have hcn2 : decide (((1 + cnt c_Src l : Nat) : Int) < 0) = false := by simp; omega
    generalize hcc : 1 + cnt c_Src l = cc at *
    clear hcc
    go_enter Tryz.func3, Tryz.ntmps3
    go_wp2_with (go_at_call 4; refine HZ.out.mono ?_; rintro e w1 ⟨rfl, hb1⟩; refine stop ?_)
    unfold Hid
    go_wp2_with (go_at_call 6; go_loud (refine (HTO.out _ hb1).mono ?_; rintro e w2 ⟨g2, rfl, hrow2, hb2⟩; refine stop ?_))
    unfold Hid
    have hB2 : Below w.heap.size w w2 := hb1.trans (hb2.mono hb1.size)
    go_wp2_with (go_at_call 5; go_loud (refine (HSP.out w2 _ _ (Nat.le_refl _) (hrow2.keep fun b hb => ⟨hb.2.1, rfl⟩)).mono ?_; intro e w3 h3; obtain ⟨v3, rfl, ho3, hb3⟩ := HOP.out _ _ _ h3; obtain ⟨a3, c3, rfl, hc3⟩ := ho3.slice; refine stop ?_))
    unfold Hid
    have hB3 : Below w.heap.size w w3 := hB2.trans (hb3.mono hB2.size)
    clear h3 hrow2 hb1 hb2 hb3
    go_wp2_with (go_at_call 6; go_loud (refine (HTO.out _ hB3).mono ?_; rintro e w4 ⟨g4, rfl, hrow4, hb4⟩; refine stop ?_))
    unfold Hid
    have hB4 : Below w.heap.size w w4 := hB3.trans (hb4.mono hB3.size)
    have hs34 := hb4.size
    have ho3b : ∀ b, (Value.slice a3 L.length c3).ownBlock = some b → b < w3.heap.size := fun b hb => (ho3.blk hb).2.1
    have HO3B : Hid (∀ b, (Value.slice a3 L.length c3).ownBlock = some b → b < w3.heap.size) := ho3b
    have ho34 : OwnS w4 w2.heap.size (.slice a3 L.length c3) L := ho3.keep fun b hb => hb4.block b (ho3b b hb)
    have HRX : Hid (rgX.Row w4 (fun b => w3.heap.size ≤ b ∧ b < w4.heap.size ∧ Unf w4 b) (some ⟨g4, 0, none⟩) l) := hrow4
    clear hb4 ho3 ho3b
    go_wp2_with (go_at_call 7; go_loud (refine (HIM.out w4 _ _ hB4 (hrow4.keep fun b hb => ⟨hb.2.1, rfl⟩)).mono ?_; intro e w5 h5; obtain ⟨v5, rfl, ho5, hb5⟩ := HOP.out _ _ _ h5; obtain ⟨a5, c5, rfl, hc5⟩ := ho5.slice; refine stop ?_))
    unfold Hid
    have hB5 : Below w.heap.size w w5 := hB4.trans (hb5.mono hB4.size)
    have hs45 := hb5.size
    have ho35 : OwnS w5 w2.heap.size (.slice a3 L.length c3) L := ho34.keep fun b hb => hb5.block b (by have := HO3B.out b hb; omega)
    have HX5 : Hid (rgX.Row w5 (fun b => w3.heap.size ≤ b ∧ b < w4.heap.size ∧ Unf w5 b) (some ⟨g4, 0, none⟩) l) := HRX.out.keep fun b hb => ⟨⟨hb.1, hb.2.1, hb.2.2.keep (hb5.block b hb.2.1)⟩, hb5.block b hb.2.1⟩
    clear h5 hrow4 hb5 ho34 HRX
    go_wp2_with (go_at_call 8; go_loud (refine (HES.out w5 _ _ _ _ ho5.rowS ho35.rowS).mono ?_; rintro e w6 ⟨rfl, hb6⟩; refine stop ?_))
    unfold Hid
    have hB6 : Below w.heap.size w w6 := hB5.trans (hb6.mono hB5.size)
    have hs56 := hb6.size
    have ho36 : OwnS w6 w2.heap.size (.slice a3 L.length c3) L := ho35.keep fun b hb => hb6.block b (by have := HO3B.out b hb; omega)
    have ho56 : OwnS w6 w4.heap.size (.slice a5 L.length c5) L := ho5.keep fun b hb => hb6.block b (ho5.blk hb).2.1
    have HX6 : Hid (rgX.Row w6 (fun b => w3.heap.size ≤ b ∧ b < w4.heap.size ∧ Unf w6 b) (some ⟨g4, 0, none⟩) l) := HX5.out.keep fun b hb => ⟨⟨hb.1, hb.2.1, hb.2.2.keep (hb6.block b (by omega))⟩, hb6.block b (by omega)⟩
    clear hb6 ho35 ho5 HX5
    have hbn : (ob != ob) = false := by simp
    go_wp2_with (go_at_call 6; go_loud (refine (HTO.out _ hB6).mono ?_; rintro e w7 ⟨g7, rfl, hrow7, hb7⟩; refine stop ?_))
    unfold Hid
    have hB7 : Below w.heap.size w w7 := hB6.trans (hb7.mono hB6.size)
    have hs67 := hb7.size
    have ho37 : OwnS w7 w2.heap.size (.slice a3 L.length c3) L := ho36.keep fun b hb => hb7.block b (by have := HO3B.out b hb; omega)
    have ho57 : OwnS w7 w4.heap.size (.slice a5 L.length c5) L := ho56.keep fun b hb => hb7.block b (ho56.blk hb).2.1
    have HX7 : Hid (rgX.Row w7 (fun b => w3.heap.size ≤ b ∧ b < w4.heap.size ∧ Unf w7 b) (some ⟨g4, 0, none⟩) l) := HX6.out.keep fun b hb => ⟨⟨hb.1, hb.2.1, hb.2.2.keep (hb7.block b (by omega))⟩, hb7.block b (by omega)⟩
    clear hb7 ho36 ho56 HX6
    go_wp2_with (go_at_call 9; go_loud (refine (HEQ.out w7 _ _ _ _ (HX7.out.keep fun b hb => ⟨by omega, rfl⟩) (hrow7.keep fun b hb => ⟨hb.2.1, rfl⟩)).mono ?_; rintro e w8 ⟨rfl, hb8⟩; refine stop ?_))
    unfold Hid
    have hB8 : Below w.heap.size w w8 := hB7.trans (hb8.mono hB7.size)
    have hs78 := hb8.size
    have ho38 : OwnS w8 w2.heap.size (.slice a3 L.length c3) L := ho37.keep fun b hb => hb8.block b (by have := HO3B.out b hb; omega)
    have ho58 : OwnS w8 w4.heap.size (.slice a5 L.length c5) L := ho57.keep fun b hb => hb8.block b (ho57.blk hb).2.1
    have HX8 : Hid (rgX.Row w8 (fun b => w3.heap.size ≤ b ∧ b < w4.heap.size ∧ Unf w8 b) (some ⟨g4, 0, none⟩) l) := HX7.out.keep fun b hb => ⟨⟨hb.1, hb.2.1, hb.2.2.keep (hb8.block b (by omega))⟩, hb8.block b (by omega)⟩
    clear hb8 ho37 ho57 HX7 hrow7
    go_wp2_with (go_at_call 10; go_loud (refine (HMK.out w3.heap.size w4.heap.size _ _ w8 (fits_Src _ HX8.out)).mono ?_; rintro e w9 ⟨rfl, hk9⟩; refine stop ?_))
    unfold Hid
    have hs89 := hk9.size
    have hn3 := hB3.size
    have hB9 : Below w.heap.size w w9 := ⟨hk9.os.trans hB8.os, hk9.tape.trans hB8.tape, hk9.output.trans hB8.output, Nat.le_trans hB8.size hk9.size, fun b hb => (hk9.same b (by omega) (by omega)).trans (hB8.block b hb)⟩
    have ho39 : OwnS w9 w2.heap.size (.slice a3 L.length c3) L := ho38.keep fun b hb => hk9.same b (by have := HO3B.out b hb; omega) (by have := HO3B.out b hb; omega)
    have ho59 : OwnS w9 w4.heap.size (.slice a5 L.length c5) L := ho58.keep fun b hb => hk9.same b (ho58.blk hb).2.1 (by have := (ho58.blk hb).1; omega)
    clear hk9 ho38 ho58 HX8
    go_wp2_with (go_at_call 8; go_loud (refine (HES.out w9 _ _ _ _ ho59.rowS ho39.rowS).mono ?_; rintro e w10 ⟨rfl, hb10⟩; refine stop ?_))
    unfold Hid
    have hs910 := hb10.size
    have hB10 : Below w.heap.size w w10 := hB9.trans (hb10.mono hB9.size)
    have ho310 : OwnS w10 w2.heap.size (.slice a3 L.length c3) L := ho39.keep fun b hb => hb10.block b (ho39.blk hb).2.1
    have ho510 : OwnS w10 w4.heap.size (.slice a5 L.length c5) L := ho59.keep fun b hb => hb10.block b (ho59.blk hb).2.1
    clear hb10 ho39 ho59
    go_wp2_with (go_at_call 11; go_loud (refine (markStringS_o w4.heap.size a5 L c5 1 w10 ho510 (Nat.le_refl _) (by omega)).mono ?_; rintro e w11 ⟨rfl, ho511, hg11⟩; refine stop ?_))
    unfold Hid
    have hs1011 := hg11.size
    have hB11 : Below w.heap.size w w11 := gb_bel hB10 hB10.size (fun b hb => by have := (ho510.blk hb).1; omega) hg11
    have ho311 : OwnS w11 w2.heap.size (.slice a3 L.length c3) L := ho310.keep fun b hb => hg11.block b (ho310.blk hb).2.1 (fun e => by have h1 := (ho510.blk e.symm).1; have h2 := HO3B.out b hb; omega)
    have hml : (marksS 1 L.length).length = L.length := marksS_len _ _
    have hr11 : RowS w11 w11.heap.size a5 (marksS 1 L.length) := by
      have h1 := ho511
      rw [show (Value.slice a5 L.length c5) = Value.slice a5 (marksS 1 L.length).length c5 by rw [hml]] at h1
      exact h1.rowS
    clear hg11 ho510 ho310
    have hmn : decide ((1 + (L.length : Int)) < 0) = false := by simp; omega
    have hmm : ((1 + (L.length : Int)) != (1 + (L.length : Int))) = false := by simp
    have HHS : Hid (∀ W, RowS W W.heap.size a5 (marksS 1 L.length) → Calls Tryz.prog 12 #[.slice a5 L.length c5, .int .i64 1] W fun e w' => Ans W (.int .i64 (1 + (L.length : Int))) e w') := fun W h => by
      have h1 := heldStringS_o a5 L.length c5 1 W (Nat.le_refl _) (by omega) h
      rw [show (((1 + L.length : Nat) : Int)) = 1 + (L.length : Int) by omega] at h1
      exact h1
    have HM5B : Hid (∀ b, (Value.slice a5 L.length c5).ownBlock = some b → w4.heap.size ≤ b ∧ b < w11.heap.size) := fun b hb => by
      have h1 := ho511
      unfold OwnS at h1
      rw [hml] at h1
      exact ⟨(own_blk h1 hb).1, (own_blk h1 hb).2.1⟩
    generalize hmk : marksS 1 L.length = mk at *
    clear hmk
    have HR11 : Hid (RowS w11 w11.heap.size a5 mk) := hr11
    clear ho511
    go_wp2_with (go_at_call 12; go_loud (refine (HHS.out w11 hr11).mono ?_; rintro e w12 ⟨rfl, hb12⟩; refine stop ?_))
    unfold Hid
    have hs1112 := hb12.size
    have hB12 : Below w.heap.size w w12 := hB11.trans (hb12.mono hB11.size)
    have ho312 : OwnS w12 w2.heap.size (.slice a3 L.length c3) L := ho311.keep fun b hb => hb12.block b (ho311.blk hb).2.1
    have HR12 : Hid (RowS w12 w11.heap.size a5 mk) := HR11.out.below hb12
    clear hb12 ho311 hr11 HR11
    go_wp2_with (go_at_call 6; go_loud (refine (HTO.out _ hB12).mono ?_; rintro e w13 ⟨g13, rfl, hrow13, hb13⟩; refine stop ?_))
    unfold Hid
    have hs1213 := hb13.size
    have hB13 : Below w.heap.size w w13 := hB12.trans (hb13.mono hB12.size)
    have ho313 : OwnS w13 w2.heap.size (.slice a3 L.length c3) L := ho312.keep fun b hb => hb13.block b (ho312.blk hb).2.1
    have HR13 : Hid (RowS w13 w11.heap.size a5 mk) := HR12.out.below (hb13.mono (by omega))
    clear hb13 ho312 HR12
    go_wp2_with (go_at_call 7; go_loud (refine (HIM.out w13 _ _ hB13 (hrow13.keep fun b hb => ⟨hb.2.1, rfl⟩)).mono ?_; intro e w14 h14; obtain ⟨v14, rfl, ho14, hb14⟩ := HOP.out _ _ _ h14; obtain ⟨a14, c14, rfl, hc14⟩ := ho14.slice; refine stop ?_))
    unfold Hid
    have hs1314 := hb14.size
    have hB14 : Below w.heap.size w w14 := hB13.trans (hb14.mono hB13.size)
    have ho314 : OwnS w14 w2.heap.size (.slice a3 L.length c3) L := ho313.keep fun b hb => hb14.block b (ho313.blk hb).2.1
    have HR14 : Hid (RowS w14 w11.heap.size a5 mk) := HR13.out.below (hb14.mono (by omega))
    clear h14 hb14 ho313 HR13 hrow13
    go_wp2_with (go_at_call 8; go_loud (refine (HES.out w14 _ _ _ _ ho14.rowS ho314.rowS).mono ?_; rintro e w15 ⟨rfl, hb15⟩; refine stop ?_))
    unfold Hid
    have hs1415 := hb15.size
    have hB15 : Below w.heap.size w w15 := hB14.trans (hb15.mono hB14.size)
    have HR15 : Hid (RowS w15 w15.heap.size a5 mk) := (HR14.out.below (hb15.mono (by omega))).mono (by omega)
    clear hb15 ho314 ho14 HR14
    go_wp2_with (go_at_call 12; go_loud (refine (HHS.out w15 HR15.out).mono ?_; rintro e w16 ⟨rfl, hb16⟩; refine stop ?_))
    unfold Hid
    have hB16 : Below w.heap.size w w16 := hB15.trans (hb16.mono hB15.size)
    clear hb16
    go_wp2
    go_ret
    exact ⟨rfl, hB16⟩
end fnExactOrder
end Go.Proofs.YtkkpiagchkdamaaGreatDoor
