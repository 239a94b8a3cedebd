/- The law's walk over what Prim is for. -/
import Derived.Test.YtngelfohpkpekaaDve
import Derived.Test.YtngelfohpkpekaaPla
import Derived.Test.YtngelfohpkpekaaPii
import Derived.Test.YtngelfohpkpekaaPsp
import Derived.Test.YtngelfohpkpekaaHot
import Derived.Test.YtngelfohpkpekaaVox
import Derived.Test.YtngelfohpkpekaaTru
import Derived.Deep.RegionHeld3
set_option linter.unusedVariables false
namespace Go.Proofs.Ytngelfohpkpekaa
open Go.ChangeShapes Go.WideShapes Go.ChangeAt Go.RowKit
open Cu (Cw Code1 CurS CodeAt)
theorem big_no (a : Option Addr) (len cap : Nat) (w : World) (h : len ≤ 1048576) :
    Calls Try.prog 4 #[.slice a len cap] w fun e w' => e = .returned (.bool false) ∧ w' = w := by
  have hd : decide ((1048576 : Int) < (len : Int)) = false := by simp; omega
  go_enter Try.func4, Try.ntmps4
  go_wp2
  go_ret
  exact ⟨rfl, rfl⟩
theorem big_yes (a : Option Addr) (len cap : Nat) (w : World) (h : 1048576 < len) :
    Calls Try.prog 4 #[.slice a len cap] w fun e w' => e = .returned (.bool true) ∧ w' = w := by
  have hd : decide ((1048576 : Int) < (len : Int)) = true := by simp; omega
  go_enter Try.func4, Try.ntmps4
  go_wp2
  go_ret
  exact ⟨rfl, rfl⟩
theorem wrap_small {n : Int} (h0 : 0 ≤ n) (h1 : n ≤ 1000000) : IntKind.i64.wrap n = n := by
  rw [IntKind.wrap_i64]
  omega
theorem ok_size {h : List Cel} {v : Val} (hv : v.ok h = true) : v.s.size ≤ 1048576 := by
  unfold Val.ok at hv
  by_cases h4 : v.k = 4
  · rw [if_pos h4] at hv
    unfold syL at hv
    simp at hv
    have : v.s.size = v.s.data.size := rfl
    omega
  · rw [if_neg h4, Bool.and_eq_true] at hv
    have := of_decide_eq_true hv.1
    omega
theorem cons_small {h : List Cel} {x y : Val} (hs : ∀ d ∈ h, d.small) (hx : x.small) (hy : y.small) : ∀ d ∈ h ++ [consC x y], d.small := by
  intro d hd
  rcases List.mem_append.1 hd with hd | hd
  · exact hs d hd
  · simp at hd
    subst hd
    refine ⟨⟨by show (-9223372036854775808 : Int) ≤ 1; omega, by show (1 : Int) ≤ 9223372036854775807; omega⟩, ⟨by show (-9223372036854775808 : Int) ≤ 0; omega, by show (0 : Int) ≤ 9223372036854775807; omega⟩, ⟨by show (-9223372036854775808 : Int) ≤ 0; omega, by show (0 : Int) ≤ 9223372036854775807; omega⟩, by show (0 : Nat) ≤ 1048576; omega, by show (0 : Nat) ≤ 1048576; omega, by show (2 : Nat) ≤ 1048576; omega, fun q hq => absurd hq (by simp [consC]), fun v hv => ?_⟩
    simp [consC] at hv
    rcases hv with rfl | rfl
    · exact hx
    · exact hy
theorem row_one {W : World} {b : Nat} {v : Val} (h : W.heap[b]? = some (Obj.cells #[.int .i64 v.k, .int .i64 v.n, .string v.s] 29)) : RowV W W.heap.size (some ⟨b, 0, none⟩) [v] := by
  intro i d hd
  have hi : i < 1 := by have := (List.getElem?_eq_some_iff.1 hd).1; simpa using this
  obtain rfl : i = 0 := by omega
  simp at hd
  subst hd
  exact ⟨b, 0, rfl, (Array.getElem?_eq_some_iff.1 h).1, cell_blk (j := 0) h rfl, cell_blk (j := 1) h rfl, cell_blk (j := 2) h rfl⟩
theorem row_two {W : World} {B : Nat} {a : Option Addr} {x y : Val} (h : RowV W B a [x, y]) : ∃ b o, a = some ⟨b, o, none⟩ ∧ b < B ∧ ValAt W b o x ∧ ValAt W b (o + 3) y := by
  obtain ⟨b, o, rfl, h2, h3⟩ := h 0 x rfl
  obtain ⟨b', o', e, _, h4⟩ := h 1 y rfl
  injection e with e
  injection e with e1 e2
  subst e1 e2
  exact ⟨b, o, rfl, h2, by simpa using h3, by simpa using h4⟩
set_option maxRecDepth 100000 in
set_option maxHeartbeats 8000000 in
theorem lawP (d : Code1) (w : World) (hc : CodeAt w w.heap.size d) : Calls Try.prog 3 #[.slice d.a d.len d.cap] w fun e w' => Ans w (.bool true) e w' := by
  have HBG : Hid (Calls Try.prog 4 #[.slice d.a d.len d.cap] w fun e w' => e = .returned (.bool false) ∧ w' = w) := big_no _ _ _ w hc.1
  have HDR : Hid (Calls Try.prog 5 #[.slice d.a d.len d.cap] w fun e w' => DpPost w e w') := drawPrim_any d w hc
  clear hc
  go_enter Try.func3, Try.ntmps3
  go_wp2_with fail
  refine HBG.out.mono ?_
  rintro e w0 ⟨rfl, rfl⟩
  go_wp2_with fail
  refine HDR.out.mono ?_
  rintro e w1 ⟨h, ah, ch, s, vs, av, cv, rfl, hl, hch, ht, hs, hvl, hvc, htv, hrow, hrv, hb1⟩
  obtain ⟨r, hR⟩ := prim_any h s vs
  have hsm : ∀ x ∈ h, x.small := fun x hx => (ht x hx).small
  have has : ∀ v ∈ vs, v.small := fun x hx => (htv x hx).small
  have HIM : Hid (Calls Try.prog 6 #[.slice ah h.length ch, .string s, .slice av vs.length cv] w1 fun e w' => PpPost w1.heap.size r w1 e w') := implPrim_any ah ch h s av cv vs r w1 (by omega) hch hsm (by omega) has (by omega) hrow hrv hR
  have HSP : Hid (∀ w2, Below w1.heap.size w1 w2 → Calls Try.prog 7 #[.slice ah h.length ch, .string s, .slice av vs.length cv] w2 fun e w' => PpPost w2.heap.size r w2 e w') := fun w2 hb => specPrim_any ah ch h s av cv vs r w2 (by omega) hsm (by omega) has ((hrow.below hb).mono hb.size) ((hrv.below hb).mono hb.size) hR
  have HRV : Hid (RowV w1 w1.heap.size av vs) := hrv
  have HB1 : Hid (Below w0.heap.size w0 w1) := hb1
  have HSM : Hid (∀ x ∈ h, x.small) := hsm
  have HAS : Hid (∀ v ∈ vs, v.small) := has
  have HTL : Hid (ToldP h s vs r) := prim_told hR
  have hs01 : w0.heap.size ≤ w1.heap.size := hb1.size
  clear hrv hb1 hsm has hR ht htv hrow HDR HBG
  go_wp2_with fail
  refine HIM.out.mono ?_
  rintro e w2 ⟨hv2, rfl, ho2, hb2⟩
  obtain ⟨ga, gc, rfl, hgc⟩ := ho2.slice
  have hbA : Below w1.heap.size w1 (w2.alloc (Obj.cells #[.int .i64 r.2.1.k, .int .i64 r.2.1.n, .string r.2.1.s] 29)) := hb2.alloc hb2.size _
  have HBA : Hid (Below w1.heap.size w1 (w2.alloc (Obj.cells #[.int .i64 r.2.1.k, .int .i64 r.2.1.n, .string r.2.1.s] 29))) := hbA
  have HO2 : Hid (OwnH w2 w1.heap.size w2.heap.size (.slice ga r.1.length gc) r.1) := ho2
  have hs12 : w1.heap.size ≤ w2.heap.size := hb2.size
  have hsA : (w2.alloc (Obj.cells #[.int .i64 r.2.1.k, .int .i64 r.2.1.n, .string r.2.1.s] 29)).heap.size = w2.heap.size + 1 := by simp
  clear hbA hb2 ho2 HIM
  go_wp2_with fail
  refine (HSP.out _ HBA.out).mono ?_
  rintro e w3 ⟨hv3, rfl, -, hb3⟩
  have hs3 : w2.heap.size + 1 ≤ w3.heap.size := by have := hb3.size; omega
  have hb4 : Below (w2.alloc (Obj.cells #[.int .i64 r.2.1.k, .int .i64 r.2.1.n, .string r.2.1.s] 29)).heap.size (w2.alloc (Obj.cells #[.int .i64 r.2.1.k, .int .i64 r.2.1.n, .string r.2.1.s] 29)) (w3.alloc (Obj.cells #[.int .i64 r.2.1.k, .int .i64 r.2.1.n, .string r.2.1.s] 29)) := hb3.alloc hb3.size _
  have ka : (w3.alloc (Obj.cells #[.int .i64 r.2.1.k, .int .i64 r.2.1.n, .string r.2.1.s] 29)).heap[w2.heap.size]? = some (Obj.cells #[.int .i64 r.2.1.k, .int .i64 r.2.1.n, .string r.2.1.s] 29) := (hb4.block w2.heap.size (by omega)).trans (blk_at _ _ _ rfl)
  have kb : (w3.alloc (Obj.cells #[.int .i64 r.2.1.k, .int .i64 r.2.1.n, .string r.2.1.s] 29)).heap[w3.heap.size]? = some (Obj.cells #[.int .i64 r.2.1.k, .int .i64 r.2.1.n, .string r.2.1.s] 29) := blk_at _ _ _ rfl
  have HB4 : Hid (Below w1.heap.size w1 (w3.alloc (Obj.cells #[.int .i64 r.2.1.k, .int .i64 r.2.1.n, .string r.2.1.s] 29))) := HBA.out.trans (hb4.mono HBA.out.size)
  have HO4 : Hid (OwnH (w3.alloc (Obj.cells #[.int .i64 r.2.1.k, .int .i64 r.2.1.n, .string r.2.1.s] 29)) w1.heap.size w2.heap.size (.slice ga r.1.length gc) r.1) := (HO2.out.below ((Below.refl _ _).alloc (Nat.le_refl _) _)).below hb4
  have hs4 : (w3.alloc (Obj.cells #[.int .i64 r.2.1.k, .int .i64 r.2.1.n, .string r.2.1.s] 29)).heap.size = w3.heap.size + 1 := by simp
  have hne : (r.2.2 != r.2.2) = false := by simp
  clear hb3 hb4 hsA HBA HO2 HSP
  have a0 := cell_blk (j := 0) ka rfl
  have a1 := cell_blk (j := 1) ka rfl
  have a2 := cell_blk (j := 2) ka rfl
  have b0 := cell_blk (j := 0) kb rfl
  have b1 := cell_blk (j := 1) kb rfl
  have b2 := cell_blk (j := 2) kb rfl
  rcases HTL.out with ⟨hc0, e1, e2⟩ | ⟨hc0, hH, hok, hq⟩
  · have q0 : (r.2.2 != 0) = true := by rw [bne_iff_ne]; exact hc0
    have q1 : ((r.1.length : Int) == (h.length : Int)) = true := by rw [e1]; simp
    have HF : Hid (Below w0.heap.size w0 (w3.alloc (Obj.cells #[.int .i64 r.2.1.k, .int .i64 r.2.1.n, .string r.2.1.s] 29))) := HB1.out.trans (HB4.out.mono hs01)
    clear e1 hc0 ka kb
    obtain ⟨rh, ⟨vk, vn, vt⟩, rc⟩ := r
    obtain ⟨rfl, rfl, rfl⟩ : vk = 0 ∧ vn = 0 ∧ vt = ⟨#[]⟩ := by
      injection e2 with h1 h2 h3
      exact ⟨h1, h2, h3⟩
    clear e2
    dsimp only at *
    go_wp2
    go_ret
    exact ⟨rfl, HF.out⟩
  · have q0 : (r.2.2 != 0) = false := by rw [hc0]; rfl
    have hrl : r.1.length ≤ 1048576 := by
      rcases hq with ⟨_, e⟩ | ⟨_, x, y, _, _, e⟩
      · rw [e]; omega
      · rw [e]; simp; omega
    have hrs : ∀ d ∈ r.1, d.small := by
      rcases hq with ⟨_, e⟩ | ⟨_, x, y, e0, _, e⟩
      · rw [e]; exact HSM.out
      · rw [e]
        exact cons_small HSM.out (HAS.out x (by rw [e0]; simp)) (HAS.out y (by rw [e0]; simp))
    have HHO : Hid (Calls Try.prog 8 #[(.slice ga r.1.length gc)] (w3.alloc (Obj.cells #[.int .i64 r.2.1.k, .int .i64 r.2.1.n, .string r.2.1.s] 29)) fun e w' => e = .returned (.bool true) ∧ Below (w3.alloc (Obj.cells #[.int .i64 r.2.1.k, .int .i64 r.2.1.n, .string r.2.1.s] 29)).heap.size (w3.alloc (Obj.cells #[.int .i64 r.2.1.k, .int .i64 r.2.1.n, .string r.2.1.s] 29)) w') := (specHeap_any ga r.1 gc _ hrl hrs HO4.out.row).mono fun e w' ⟨b, h1, h2, h3⟩ => ⟨by rw [h1, h2.2 hH], h3⟩
    have HVO : Hid (∀ w', Below (w3.alloc (Obj.cells #[.int .i64 r.2.1.k, .int .i64 r.2.1.n, .string r.2.1.s] 29)).heap.size (w3.alloc (Obj.cells #[.int .i64 r.2.1.k, .int .i64 r.2.1.n, .string r.2.1.s] 29)) w' → Calls Try.prog 9 #[(.slice ga r.1.length gc), (.agg #[.int .i64 r.2.1.k, .int .i64 r.2.1.n, .string r.2.1.s])] w' fun e w'' => e = .returned (.bool true) ∧ Below w'.heap.size w' w'') := fun w' hb => (specVal_any r.2.1 ga r.1 gc w' hrl (ok_size hok) (HO4.out.below hb).row).mono fun e w'' ⟨h1, h2⟩ => ⟨by rw [h1, hok], h2⟩
    have KA : Hid ((w3.alloc (Obj.cells #[.int .i64 r.2.1.k, .int .i64 r.2.1.n, .string r.2.1.s] 29)).heap[w2.heap.size]? = some (Obj.cells #[.int .i64 r.2.1.k, .int .i64 r.2.1.n, .string r.2.1.s] 29)) := ka
    clear kb b0 b1 b2 ka hc0
    go_wp2_with fail
    refine HHO.out.mono ?_
    rintro e w5 ⟨rfl, hb5⟩
    have ka5 : w5.heap[w2.heap.size]? = some (Obj.cells #[.int .i64 r.2.1.k, .int .i64 r.2.1.n, .string r.2.1.s] 29) := (hb5.block _ (by omega)).trans KA.out
    have HB5 : Hid (Below (w3.alloc (Obj.cells #[.int .i64 r.2.1.k, .int .i64 r.2.1.n, .string r.2.1.s] 29)).heap.size (w3.alloc (Obj.cells #[.int .i64 r.2.1.k, .int .i64 r.2.1.n, .string r.2.1.s] 29)) w5) := hb5
    have hs5 : w3.heap.size + 1 ≤ w5.heap.size := by have := hb5.size; omega
    clear a0 a1 a2 hb5 HHO
    have c0 := cell_blk (j := 0) ka5 rfl
    have c1 := cell_blk (j := 1) ka5 rfl
    have c2 := cell_blk (j := 2) ka5 rfl
    go_wp2_with fail
    refine (HVO.out _ HB5.out).mono ?_
    rintro e w6 ⟨rfl, hb6⟩
    have ka6 : w6.heap[w2.heap.size]? = some (Obj.cells #[.int .i64 r.2.1.k, .int .i64 r.2.1.n, .string r.2.1.s] 29) := (hb6.block _ (by omega)).trans ka5
    have HB6 : Hid (Below (w3.alloc (Obj.cells #[.int .i64 r.2.1.k, .int .i64 r.2.1.n, .string r.2.1.s] 29)).heap.size (w3.alloc (Obj.cells #[.int .i64 r.2.1.k, .int .i64 r.2.1.n, .string r.2.1.s] 29)) w6) := HB5.out.trans (hb6.mono HB5.out.size)
    have hs6 : w3.heap.size + 1 ≤ w6.heap.size := by have := hb6.size; omega
    have HW6 : Hid (Below w1.heap.size w1 w6) := HB4.out.trans (HB6.out.mono HB4.out.size)
    clear c0 c1 c2 ka5 hb6 HVO HB5
    rcases hq with ⟨hsn, e1⟩ | ⟨hsn, x, y, e0, hl3, e1⟩
    · have q1 : ((r.1.length : Int) == (h.length : Int)) = true := by rw [e1]; simp
      have q2 : (s.toList == [99, 111, 110, 115]) = false := by rw [beq_eq_false_iff_ne]; exact hsn
      have HF : Hid (Below w0.heap.size w0 w6) := HB1.out.trans (HW6.out.mono hs01)
      clear e1 hsn ka6 KA
      go_wp2
      go_ret
      exact ⟨rfl, HF.out⟩
    · have q2 : (s.toList == [99, 111, 110, 115]) = true := by rw [beq_iff_eq]; exact hsn
      have hr1 : r.1 = h ++ [consC x y] := by rw [e1]
      have hr2 : r.2.1 = ⟨5, h.length, ⟨#[]⟩⟩ := by rw [e1]
      have hxs : x.small := HAS.out x (by rw [e0]; simp)
      have hys : y.small := HAS.out y (by rw [e0]; simp)
      have hv2 : r.2.1.small := by rw [hr2]; exact ⟨⟨by show (-9223372036854775808 : Int) ≤ 5; omega, by show (5 : Int) ≤ 9223372036854775807; omega⟩, ⟨by show (-9223372036854775808 : Int) ≤ (h.length : Int); omega, by show (h.length : Int) ≤ 9223372036854775807; omega⟩, by show (0 : Nat) ≤ 1048576; omega⟩
      have hP1 : PrimR r.1 ⟨#[99, 97, 114]⟩ [r.2.1] (r.1, x, 0) := by rw [hr1] at hH hok ⊢; rw [hr2] at hok ⊢; exact car_cons hH hok
      have hP2 : PrimR r.1 ⟨#[99, 100, 114]⟩ [r.2.1] (r.1, y, 0) := by rw [hr1] at hH hok ⊢; rw [hr2] at hok ⊢; exact cdr_cons hH hok
      have HCA : Hid (∀ (W : World) (b : Nat), RowC W W.heap.size ga r.1 → W.heap[b]? = some (Obj.cells #[.int .i64 r.2.1.k, .int .i64 r.2.1.n, .string r.2.1.s] 29) → Calls Try.prog 6 #[(.slice ga r.1.length gc), .string ⟨#[99, 97, 114]⟩, .slice (some ⟨b, 0, none⟩) 1 1] W fun e w' => PpPost W.heap.size (r.1, x, 0) W e w') := fun W b h1 h2 => implPrim_any ga gc r.1 _ (some ⟨b, 0, none⟩) 1 [r.2.1] _ W hrl hgc hrs (by simp) (by intro v hv; simp at hv; subst hv; exact hv2) (by decide) h1 (row_one h2) hP1
      have HCD : Hid (∀ (W : World) (b : Nat), RowC W W.heap.size ga r.1 → W.heap[b]? = some (Obj.cells #[.int .i64 r.2.1.k, .int .i64 r.2.1.n, .string r.2.1.s] 29) → Calls Try.prog 6 #[(.slice ga r.1.length gc), .string ⟨#[99, 100, 114]⟩, .slice (some ⟨b, 0, none⟩) 1 1] W fun e w' => PpPost W.heap.size (r.1, y, 0) W e w') := fun W b h1 h2 => implPrim_any ga gc r.1 _ (some ⟨b, 0, none⟩) 1 [r.2.1] _ W hrl hgc hrs (by simp) (by intro v hv; simp at hv; subst hv; exact hv2) (by decide) h1 (row_one h2) hP2
      have HTR : Hid (∀ W, Calls Try.prog 10 #[(.agg #[.int .i64 r.2.1.k, .int .i64 r.2.1.n, .string r.2.1.s])] W fun e w' => e = .returned (.bool true) ∧ Below W.heap.size W w') := fun W => (implTruth_any r.2.1 W).mono fun e w' ⟨h1, h2⟩ => ⟨by rw [h1, hr2]; rfl, h2⟩
      have hlq : ((r.1.length : Int) == (h.length : Int) + 1) = true := by rw [hr1]; simp
      have hlw : ((r.1.length : Int) == IntKind.i64.wrap ((h.length : Int) + 1)) = true := by
        have e : IntKind.i64.wrap ((h.length : Int) + 1) = (h.length : Int) + 1 := wrap_small (by omega) (by omega)
        rw [e]
        exact hlq
      have hv2l : vs.length = 2 := by rw [e0]; rfl
      have HRX : Hid (∃ b o, av = some ⟨b, o, none⟩ ∧ b < w1.heap.size ∧ ValAt w1 b o x ∧ ValAt w1 b (o + 3) y) := row_two (e0 ▸ HRV.out)
      obtain ⟨vb, vo, rfl, hvb, hvx, hvy⟩ := HRX.out
      have HVX : Hid (ValAt w1 vb vo x) := hvx
      have HVY : Hid (ValAt w1 vb (vo + 3) y) := hvy
      have HO6 : Hid (OwnH w6 w1.heap.size w2.heap.size (.slice ga r.1.length gc) r.1) := HO4.out.below HB6.out
      have HK6 : Hid (w6.heap[w2.heap.size]? = some (Obj.cells #[.int .i64 r.2.1.k, .int .i64 r.2.1.n, .string r.2.1.s] 29)) := ka6
      have c0 := cell_blk (j := 0) ka6 rfl
      have c1 := cell_blk (j := 1) ka6 rfl
      have c2 := cell_blk (j := 2) ka6 rfl
      clear hP1 hP2 hrs e1 e0 hr1 hr2 hsn HRX hvx hvy HO4 HB6 HRV HTL hH hok hxs hys hv2 HAS HSM KA ka6
      go_wp2_with fail
      have hbB : Below w6.heap.size w6 (w6.alloc (Obj.cells #[.int .i64 r.2.1.k, .int .i64 r.2.1.n, .string r.2.1.s] 29)) := (Below.refl _ _).alloc (Nat.le_refl _) _
      refine (HCA.out _ w6.heap.size (HO6.out.below hbB).row (blk_at _ _ _ rfl)).mono ?_
      rintro e w7 ⟨hv7, rfl, -, hb7⟩
      have hsB : (w6.alloc (Obj.cells #[.int .i64 r.2.1.k, .int .i64 r.2.1.n, .string r.2.1.s] 29)).heap.size = w6.heap.size + 1 := by simp
      have hs7 : w6.heap.size + 1 ≤ w7.heap.size := by have := hb7.size; omega
      have hb67 : Below w6.heap.size w6 (w7.alloc (Obj.cells #[.int .i64 x.k, .int .i64 x.n, .string x.s] 29)) := (hbB.trans (hb7.mono hbB.size)).alloc (by omega) _
      have HB67 : Hid (Below w6.heap.size w6 (w7.alloc (Obj.cells #[.int .i64 x.k, .int .i64 x.n, .string x.s] 29))) := hb67
      have ka7 : (w7.alloc (Obj.cells #[.int .i64 x.k, .int .i64 x.n, .string x.s] 29)).heap[w2.heap.size]? = some (Obj.cells #[.int .i64 r.2.1.k, .int .i64 r.2.1.n, .string r.2.1.s] 29) := (hb67.block _ (by omega)).trans HK6.out
      have HKX : Hid ((w7.alloc (Obj.cells #[.int .i64 x.k, .int .i64 x.n, .string x.s] 29)).heap[w7.heap.size]? = some (Obj.cells #[.int .i64 x.k, .int .i64 x.n, .string x.s] 29)) := blk_at _ _ _ rfl
      have HK7 : Hid ((w7.alloc (Obj.cells #[.int .i64 x.k, .int .i64 x.n, .string x.s] 29)).heap[w2.heap.size]? = some (Obj.cells #[.int .i64 r.2.1.k, .int .i64 r.2.1.n, .string r.2.1.s] 29)) := ka7
      have hsX : (w7.alloc (Obj.cells #[.int .i64 x.k, .int .i64 x.n, .string x.s] 29)).heap.size = w7.heap.size + 1 := by simp
      clear c0 c1 c2 hb7 hbB HCA hsB hb67
      have c0 := cell_blk (j := 0) ka7 rfl
      have c1 := cell_blk (j := 1) ka7 rfl
      have c2 := cell_blk (j := 2) ka7 rfl
      clear ka7
      go_wp2_with fail
      have hbC : Below (w7.alloc (Obj.cells #[.int .i64 x.k, .int .i64 x.n, .string x.s] 29)).heap.size (w7.alloc (Obj.cells #[.int .i64 x.k, .int .i64 x.n, .string x.s] 29)) ((w7.alloc (Obj.cells #[.int .i64 x.k, .int .i64 x.n, .string x.s] 29)).alloc (Obj.cells #[.int .i64 r.2.1.k, .int .i64 r.2.1.n, .string r.2.1.s] 29)) := (Below.refl _ _).alloc (Nat.le_refl _) _
      refine (HCD.out _ (w7.heap.size + 1) ((HO6.out.below HB67.out).below hbC).row (blk_at _ _ _ hsX.symm)).mono ?_
      rintro e w8 ⟨hv8, rfl, -, hb8⟩
      have hsC : ((w7.alloc (Obj.cells #[.int .i64 x.k, .int .i64 x.n, .string x.s] 29)).alloc (Obj.cells #[.int .i64 r.2.1.k, .int .i64 r.2.1.n, .string r.2.1.s] 29)).heap.size = w7.heap.size + 1 + 1 := by simp
      have hs8 : w7.heap.size + 1 + 1 ≤ w8.heap.size := by have := hb8.size; omega
      have hb78 : Below (w7.alloc (Obj.cells #[.int .i64 x.k, .int .i64 x.n, .string x.s] 29)).heap.size (w7.alloc (Obj.cells #[.int .i64 x.k, .int .i64 x.n, .string x.s] 29)) (w8.alloc (Obj.cells #[.int .i64 y.k, .int .i64 y.n, .string y.s] 29)) := (hbC.trans (hb8.mono hbC.size)).alloc (by omega) _
      have kv : (w8.alloc (Obj.cells #[.int .i64 y.k, .int .i64 y.n, .string y.s] 29)).heap[w2.heap.size]? = some (Obj.cells #[.int .i64 r.2.1.k, .int .i64 r.2.1.n, .string r.2.1.s] 29) := (hb78.block _ (by omega)).trans HK7.out
      have kx : (w8.alloc (Obj.cells #[.int .i64 y.k, .int .i64 y.n, .string y.s] 29)).heap[w7.heap.size]? = some (Obj.cells #[.int .i64 x.k, .int .i64 x.n, .string x.s] 29) := (hb78.block _ (by omega)).trans HKX.out
      have ky : (w8.alloc (Obj.cells #[.int .i64 y.k, .int .i64 y.n, .string y.s] 29)).heap[w8.heap.size]? = some (Obj.cells #[.int .i64 y.k, .int .i64 y.n, .string y.s] 29) := blk_at _ _ _ rfl
      have hb1Y : Below w1.heap.size w1 (w8.alloc (Obj.cells #[.int .i64 y.k, .int .i64 y.n, .string y.s] 29)) := HW6.out.trans ((HB67.out.trans (hb78.mono HB67.out.size)).mono HW6.out.size)
      have HF : Hid (Below w0.heap.size w0 (w8.alloc (Obj.cells #[.int .i64 y.k, .int .i64 y.n, .string y.s] 29))) := HB1.out.trans (hb1Y.mono hs01)
      obtain ⟨x0, x1, x2⟩ := HVX.out
      obtain ⟨y0, y1, y2⟩ := HVY.out
      have x0 := cell_keep x0 hb1Y hvb
      have x1 := cell_keep x1 hb1Y hvb
      have x2 := cell_keep x2 hb1Y hvb
      have y0 := cell_keep y0 hb1Y hvb
      have y1 := cell_keep y1 hb1Y hvb
      have y2 := cell_keep y2 hb1Y hvb
      clear c0 c1 c2 hb8 hbC HCD hsC hb78
      have c0 := cell_blk (j := 0) kv rfl
      have c1 := cell_blk (j := 1) kv rfl
      have c2 := cell_blk (j := 2) kv rfl
      have g0 := cell_blk (j := 0) kx rfl
      have g1 := cell_blk (j := 1) kx rfl
      have g2 := cell_blk (j := 2) kx rfl
      have k0 := cell_blk (j := 0) ky rfl
      have k1 := cell_blk (j := 1) ky rfl
      have k2 := cell_blk (j := 2) ky rfl
      clear kv kx ky hb1Y
      go_wp2_with fail
      have hbY : Below (w8.alloc (Obj.cells #[.int .i64 y.k, .int .i64 y.n, .string y.s] 29)).heap.size (w8.alloc (Obj.cells #[.int .i64 y.k, .int .i64 y.n, .string y.s] 29)) (w8.alloc (Obj.cells #[.int .i64 y.k, .int .i64 y.n, .string y.s] 29)) := Below.refl _ _
      have hsY : (w8.alloc (Obj.cells #[.int .i64 y.k, .int .i64 y.n, .string y.s] 29)).heap.size = w8.heap.size + 1 := by simp
      go_region_held3 (fun w' => Below (w8.alloc (Obj.cells #[.int .i64 y.k, .int .i64 y.n, .string y.s] 29)).heap.size (w8.alloc (Obj.cells #[.int .i64 y.k, .int .i64 y.n, .string y.s] 29)) w' ∧ w'.cell? ⟨w2.heap.size, 0, none⟩ = some (.int .i64 r.2.1.k) ∧ w'.cell? ⟨w2.heap.size, 1, none⟩ = some (.int .i64 r.2.1.n) ∧ w'.cell? ⟨w2.heap.size, 2, none⟩ = some (.string r.2.1.s) ∧ w'.cell? ⟨w7.heap.size, 0, none⟩ = some (.int .i64 x.k) ∧ w'.cell? ⟨w7.heap.size, 1, none⟩ = some (.int .i64 x.n) ∧ w'.cell? ⟨w7.heap.size, 2, none⟩ = some (.string x.s) ∧ w'.cell? ⟨w8.heap.size, 0, none⟩ = some (.int .i64 y.k) ∧ w'.cell? ⟨w8.heap.size, 1, none⟩ = some (.int .i64 y.n) ∧ w'.cell? ⟨w8.heap.size, 2, none⟩ = some (.string y.s) ∧ w'.cell? ⟨vb, vo, none⟩ = some (.int .i64 x.k) ∧ w'.cell? ⟨vb, vo + 1, none⟩ = some (.int .i64 x.n) ∧ w'.cell? ⟨vb, vo + 2, none⟩ = some (.string x.s) ∧ w'.cell? ⟨vb, vo + 3, none⟩ = some (.int .i64 y.k) ∧ w'.cell? ⟨vb, vo + 3 + 1, none⟩ = some (.int .i64 y.n) ∧ w'.cell? ⟨vb, vo + 3 + 2, none⟩ = some (.string y.s))
        (first | exact ⟨below_drewN hbY 1, c0, c1, c2, g0, g1, g2, k0, k1, k2, x0, x1, x2, y0, y1, y2⟩ | exact ⟨hb10, zc0, zc1, zc2, zg0, zg1, zg2, zk0, zk1, zk2, zx0, zx1, zx2, zy0, zy1, zy2⟩)
        ((go_at_call 10; refine (HTR.out _).mono ?_; rintro e w9 ⟨rfl, hb9⟩; have hb10 : Below (w8.alloc (Obj.cells #[.int .i64 y.k, .int .i64 y.n, .string y.s] 29)).heap.size (w8.alloc (Obj.cells #[.int .i64 y.k, .int .i64 y.n, .string y.s] 29)) w9 := (below_drewN hbY 1).trans hb9; have zc0 := cell_keep c0 hb10 (by omega); have zc1 := cell_keep c1 hb10 (by omega); have zc2 := cell_keep c2 hb10 (by omega); have zg0 := cell_keep g0 hb10 (by omega); have zg1 := cell_keep g1 hb10 (by omega); have zg2 := cell_keep g2 hb10 (by omega); have zk0 := cell_keep k0 hb10 (by omega); have zk1 := cell_keep k1 hb10 (by omega); have zk2 := cell_keep k2 hb10 (by omega); have zx0 := cell_keep x0 hb10 (by omega); have zx1 := cell_keep x1 hb10 (by omega); have zx2 := cell_keep x2 hb10 (by omega); have zy0 := cell_keep y0 hb10 (by omega); have zy1 := cell_keep y1 hb10 (by omega); have zy2 := cell_keep y2 hb10 (by omega); skip))
      all_goals
        go_wp2
        go_ret
        exact ⟨rfl, HF.out.trans (hb10.mono HF.out.size)⟩
end Go.Proofs.Ytngelfohpkpekaa
