/- The law's marks: into a program. -/
import Derived.Test.YtjdlohjhfcmicaaMks
set_option linter.unusedVariables false
namespace Go.Proofs.Ytjdlohjhfcmicaa
open Go.ChangeShapes Go.WideShapes Go.ChangeAt Go.RowKit
/-- A node's two slices, and the rows behind them. -/
def Hdr (B C : Nat) (w : World) (g j : Nat) (d : Nod) : Prop := ∃ (an : Option Addr) (cn : Nat) (aa : Option Addr) (ca : Nat),
  w.cell? ⟨g, j * 5 + 3, none⟩ = some (.slice an d.names.length cn) ∧ w.cell? ⟨g, j * 5 + 4, none⟩ = some (.slice aa d.args.length ca) ∧ RowU B C w an d.names.length ∧ RowU B C w aa d.args.length
theorem Hdr.keep {B C B' C' : Nat} {w w' : World} {g j : Nat} {d : Nod} (h : Hdr B C w g j d) (hc : Chg B' C' w w') (h3 : w'.cell? ⟨g, j * 5 + 3, none⟩ = w.cell? ⟨g, j * 5 + 3, none⟩) (h4 : w'.cell? ⟨g, j * 5 + 4, none⟩ = w.cell? ⟨g, j * 5 + 4, none⟩) : Hdr B C w' g j d := by
  obtain ⟨an, cn, aa, ca, e3, e4, r3, r4⟩ := h
  exact ⟨an, cn, aa, ca, h3.trans e3, h4.trans e4, r3.chg hc, r4.chg hc⟩
theorem Hdr.blk {B C B' C' : Nat} {w w' : World} {g j : Nat} {d : Nod} (h : Hdr B C w g j d) (hc : Chg B' C' w w') (hk : w'.heap[g]? = w.heap[g]?) : Hdr B C w' g j d :=
  h.keep hc (World.cell?_of_block (w := w) (a := ⟨g, _, none⟩) hk) (World.cell?_of_block (w := w) (a := ⟨g, _, none⟩) hk)
theorem bulk_ge (d : Nod) : d.names.length + d.args.length ≤ d.bulk := by
  have := bulkS_len d.names
  unfold Nod.bulk
  omega
theorem row_not {B C : Nat} {w : World} {a : Option Addr} {n g : Nat} {X : Array Value} (h : RowU B C w a n) (hg : w.heap[g]? = some (.cells X 48 (0, 0))) : n = 0 ∨ ∀ b o, a = some ⟨b, o, none⟩ → g ≠ b := by
  rcases h with h | ⟨b, o, Y, t, rfl, _, _, ht, hY, _⟩
  · exact .inl h
  · refine .inr fun b' o' e => ?_
    simp only [Option.some.injEq, Addr.mk.injEq, and_true] at e
    obtain ⟨rfl, rfl⟩ := e
    rintro rfl
    have := hg.symm.trans hY
    simp at this
    exact ht this.2.symm
set_option maxRecDepth 100000 in
set_option maxHeartbeats 2000000 in
theorem markNodeS_U (B C g cap : Nat) (cs : List Nod) (w : World) (hB : B ≤ g) (hgC : g < C) (hC : C ≤ w.heap.size) (hbk : bulkN cs ≤ 1048576) (hg : ∃ cur : Array Value, w.heap[g]? = some (.cells cur 48 (0, 0)) ∧ cur.size = cs.length * 5) (hh : ∀ (j : Nat) (d : Nod), cs[j]? = some d → Hdr B C w g j d) :
    Calls Try.prog 28 #[.slice (some ⟨g, 0, none⟩) cs.length cap, .int .i64 1] w fun e w' => ∃ m : Nat, e = .returned (.int .i64 (m : Int)) ∧ Chg B C w w' := by
  have hln := bulkN_len cs
  have HH : Hid (∀ (j : Nat) (d : Nod), cs[j]? = some d → Hdr B C w g j d) := hh
  clear hh
  go_enter Try.func28, Try.ntmps28
  go_wp2
  go_loopw [1, 5] (fun kv iv wr => ∃ (i m : Nat) (X : Array Value), i ≤ cs.length ∧ 1 ≤ m ∧ m ≤ 1 + 3 * bulkN (cs.take i) ∧ kv = .int .i64 m ∧ iv = .int .i64 i ∧ wr.heap[g]? = some (.cells X 48 (0, 0)) ∧ X.size = cs.length * 5 ∧ (∀ (j : Nat) (d : Nod), i ≤ j → cs[j]? = some d → Hdr B C wr g j d) ∧ Chg B C w wr)
    (fun kv iv _ => cs.length - (intOf iv).toNat)
  case atStart =>
    obtain ⟨cur, h1, h2⟩ := hg
    exact ⟨0, 1, cur, Nat.zero_le _, by omega, by omega, rfl, rfl, h1, h2, fun j d _ hd => HH.out j d hd, Chg.refl _ _ _⟩
  case round =>
    clear hg HH
    obtain ⟨i, m, X, hi, hm1, hm2, rfl, rfl, kX, hX, hhd, hchg⟩ := hrel
    have HM : Hid (m ≤ 1 + 3 * bulkN (cs.take i)) := hm2
    have hm6 : m ≤ 3145729 := by have := bulkN_take_le cs i; omega
    have HG : Hid (Chg B C w wr) := hchg
    have HHD : Hid (∀ (j : Nat) (d : Nod), i ≤ j → cs[j]? = some d → Hdr B C wr g j d) := hhd
    have KX : Hid (wr.heap[g]? = some (.cells X 48 (0, 0))) := kX
    by_cases hlt : i < cs.length
    · obtain ⟨d, hd⟩ : ∃ d, cs[i]? = some d := ⟨_, List.getElem?_eq_getElem hlt⟩
      have HBT : Hid (bulkN (cs.take (i + 1)) = bulkN (cs.take i) + (1 + d.bulk)) := bulkN_take_succ hd
      have hdb : d.bulk ≤ 1048576 := by have := bulkN_mem (List.mem_of_getElem? hd); omega
      have hge := bulk_ge d
      have hXs : i * 5 + 5 ≤ X.size := by omega
      obtain ⟨y0, e0⟩ := cell_blk' kX (i * 5) (by omega)
      obtain ⟨y1, e1⟩ := cell_blk' kX (i * 5 + 1) (by omega)
      have f0 := frozen_blk kX (i * 5)
      have f1 := frozen_blk kX (i * 5 + 1)
      have hgl := (Array.getElem?_eq_some_iff.1 kX).1
      have HT : Hid (∀ w, Calls Try.prog 29 #[.int .i64 ((m : Int) + 1 + 1)] w fun e w' => Ans w (.string (mtx (m + 2))) e w') := fun w => by
        have := markText_any (m + 2) w (by omega) (by omega)
        rw [show (((m + 2 : Nat)) : Int) = (m : Int) + 1 + 1 by omega] at this
        exact this
      have HD : Hid (cs[i]? = some d) := hd
      clear kX hhd hchg hm2 hd
      go_wp2_with fail
      refine (HT.out _).mono ?_
      rintro e w2 ⟨rfl, hb2⟩
      clear e0 e1 f0 f1
      have c2 : Chg B C wr w2 := ((Chg.set wr hB hgC _ _).trans (Chg.set _ hB hgC _ _)).trans (Chg.of_below hb2)
      have hbg := hb2.block g (by simpa using hgl)
      have q2 : ∀ o, o ≠ i * 5 → o ≠ i * 5 + 1 → w2.cell? ⟨g, o, none⟩ = wr.cell? ⟨g, o, none⟩ := fun o h1 h2 => (World.cell?_of_block (a := ⟨g, o, none⟩) hbg).trans ((cell_set_ne _ _ _ _ _ (by omega)).trans (cell_set_ne _ _ _ _ _ (by omega)))
      obtain ⟨X2, k2, s2⟩ := c2.shape g X 48 KX.out
      obtain ⟨y2, e2⟩ := cell_blk' k2 (i * 5 + 2) (by omega)
      have f2 := frozen_blk k2 (i * 5 + 2)
      have HH2 : Hid (∀ (j : Nat) (d : Nod), i ≤ j → cs[j]? = some d → Hdr B C w2 g j d) := fun j d' hj hd' => (HHD.out j d' hj hd').keep c2 (q2 _ (by omega) (by omega)) (q2 _ (by omega) (by omega))
      have K2 : Hid (w2.heap[g]? = some (.cells X2 48 (0, 0))) := k2
      have HG2 : Hid (Chg B C w w2) := HG.out.trans c2
      clear c2 hbg q2 hb2 k2
      -- the third cell
      obtain ⟨w3, hw3⟩ : ∃ w3, w3 = w2.setCell ⟨g, i * 5 + 2, none⟩ (.string (mtx (m + 2))) := ⟨_, rfl⟩
      have c3 : Chg B C w2 w3 := by rw [hw3]; exact Chg.set _ hB hgC _ _
      have q3 : ∀ o, o ≠ i * 5 + 2 → w3.cell? ⟨g, o, none⟩ = w2.cell? ⟨g, o, none⟩ := fun o h => by rw [hw3]; exact cell_set_ne _ _ _ _ _ (by omega)
      have HH3 : Hid (∀ (j : Nat) (d : Nod), i ≤ j → cs[j]? = some d → Hdr B C w3 g j d) := fun j d' hj hd' => (HH2.out j d' hj hd').keep c3 (q3 _ (by omega)) (q3 _ (by omega))
      obtain ⟨X3, k3, s3⟩ := c3.shape g X2 48 K2.out
      have K3 : Hid (w3.heap[g]? = some (.cells X3 48 (0, 0))) := k3
      have HG3 : Hid (Chg B C w w3) := HG2.out.trans c3
      obtain ⟨an, cn, aa, ca, v3, v4, r3, r4⟩ := HH3.out i d (Nat.le_refl _) HD.out
      have HW3 : Hid (w3 = w2.setCell ⟨g, i * 5 + 2, none⟩ (.string (mtx (m + 2)))) := hw3
      have hC3 : C ≤ w3.heap.size := Nat.le_trans hC HG3.out.size
      have HMS : Hid (Calls Try.prog 13 #[.slice an d.names.length cn, .int .i64 ((m : Int) + 1 + 1 + 1)] w3 fun e w' => e = .returned (.int .i64 ((m + 3 + d.names.length : Nat) : Int)) ∧ Chg B C w3 w' ∧ OnlyAt w3 w' an d.names.length ∧ RowM w' an (m + 3) d.names.length) := by
        have := markStringS_U B C an d.names.length cn (m + 3) w3 r3 hC3 (by omega) (by omega) (by omega)
        rw [show (((m + 3 : Nat)) : Int) = (m : Int) + 1 + 1 + 1 by omega] at this
        exact this
      have V4 : Hid (w3.cell? ⟨g, i * 5 + 4, none⟩ = some (.slice aa d.args.length ca)) := v4
      have R3 : Hid (RowU B C w3 an d.names.length) := r3
      have R4 : Hid (RowU B C w3 aa d.args.length) := r4
      have hgl3 : g < w3.heap.size := by omega
      rw [hw3] at v3 v4
      clear c3 q3 k3 HH2 HG2 hw3 r3 r4
      go_wp2_with fail
      rw [← HW3.out]
      refine HMS.out.mono ?_
      rintro e w4 ⟨rfl, c4, on4, _⟩
      have k4 := (on4 g hgl3 (row_not R3.out K3.out)).trans K3.out
      have HH4 : Hid (∀ (j : Nat) (d : Nod), i ≤ j → cs[j]? = some d → Hdr B C w4 g j d) := fun j d' hj hd' => (HH3.out j d' hj hd').blk c4 (on4 g hgl3 (row_not R3.out K3.out))
      have v5 : w4.cell? ⟨g, i * 5 + 4, none⟩ = some (.slice aa d.args.length ca) := (World.cell?_of_block (w := w3) (a := ⟨g, _, none⟩) (on4 g hgl3 (row_not R3.out K3.out))).trans V4.out
      have K4 : Hid (w4.heap[g]? = some (.cells X3 48 (0, 0))) := k4
      have HG4 : Hid (Chg B C w w4) := HG3.out.trans c4
      have R5 : Hid (RowU B C w4 aa d.args.length) := R4.out.chg c4
      have hC4 : C ≤ w4.heap.size := Nat.le_trans hC HG4.out.size
      have HMI : Hid (Calls Try.prog 41 #[.slice aa d.args.length ca, .int .i64 ((m + 3 + d.names.length : Nat) : Int)] w4 fun e w' => e = .returned (.int .i64 ((m + 3 + d.names.length + d.args.length : Nat) : Int)) ∧ Chg B C w4 w' ∧ OnlyAt w4 w' aa d.args.length) := markIntS_U B C aa d.args.length ca (m + 3 + d.names.length) w4 R5.out hC4 (by omega) (by omega) (by omega)
      have hgl4 : g < w4.heap.size := by omega
      clear c4 on4 k4 HH3 HG3 HMS v3 v4 V4 R3 R4 K3
      obtain ⟨m4, hm4⟩ : ∃ m4, m4 = m + 3 + d.names.length := ⟨_, rfl⟩
      have HE4 : Hid (m4 = m + 3 + d.names.length) := hm4
      rw [← hm4] at HMI ⊢
      clear hm4
      have HM4 : Hid (m4 + d.args.length ≤ 1 + 3 * bulkN (cs.take (i + 1))) := by
        have h1 := HBT.out
        have h2 := HM.out
        have h3 := HE4.out
        show _ ≤ _
        omega
      go_wp2_with fail
      refine HMI.out.mono ?_
      rintro e w5 ⟨rfl, c5, on5⟩
      have hk5 := on5 g hgl4 (row_not R5.out K4.out)
      have HK5 : Hid (w5.heap[g]? = some (.cells X3 48 (0, 0))) := hk5.trans K4.out
      have HH5 : Hid (∀ (j : Nat) (d : Nod), i ≤ j → cs[j]? = some d → Hdr B C w5 g j d) := fun j d' hj hd' => (HH4.out j d' hj hd').blk c5 hk5
      have HG5 : Hid (Chg B C w w5) := HG4.out.trans c5
      have hm5 : 1 ≤ m4 + d.args.length := by have := HE4.out; omega
      clear c5 on5 hk5 HMI v5 HH4 HG4 K4 R5
      generalize m4 + d.args.length = m5 at *
      go_wp2
      go_roundw
      case rel => exact ⟨i + 1, m5, X3, by omega, hm5, HM4.out, by go_num, by go_num, HK5.out, by omega, fun j d' hj hd' => HH5.out j d' (by omega) hd', HG5.out⟩
      case measure => simp [intOf]; omega
    · have hlt' : decide ((i : Int) < (cs.length : Int)) = false := by simp; omega
      obtain rfl : i = cs.length := by omega
      clear hlt kX hhd hchg hm2
      go_wp2
      go_ret
      exact ⟨m, rfl, HG.out⟩
set_option maxRecDepth 100000 in
theorem markProg_U (B C g cap : Nat) (cs : List Nod) (root : Int) (w : World) (hB : B ≤ g) (hgC : g < C) (hC : C ≤ w.heap.size) (hbk : bulkN cs ≤ 1048576) (hg : ∃ cur : Array Value, w.heap[g]? = some (.cells cur 48 (0, 0)) ∧ cur.size = cs.length * 5) (hh : ∀ (j : Nat) (d : Nod), cs[j]? = some d → Hdr B C w g j d) :
    Calls Try.prog 12 #[.agg #[.slice (some ⟨g, 0, none⟩) cs.length cap, .int .i64 root], .int .i64 1] w fun e w' => ∃ m : Nat, e = .returned (.int .i64 (m : Int)) ∧ Chg B C w w' := by
  obtain ⟨w0, hw0⟩ : ∃ w0, w0 = w.alloc (Obj.cells #[.slice (some ⟨g, 0, none⟩) cs.length cap, .int .i64 root] 30) := ⟨_, rfl⟩
  have hb0 : Below w.heap.size w w0 := by rw [hw0]; exact (Below.refl _ _).alloc (Nat.le_refl _) _
  obtain ⟨cur, hg1, hg2⟩ := hg
  have hgl := (Array.getElem?_eq_some_iff.1 hg1).1
  have HMN : Hid (Calls Try.prog 28 #[.slice (some ⟨g, 0, none⟩) cs.length cap, .int .i64 1] w0 fun e w' => ∃ m : Nat, e = .returned (.int .i64 (m : Int)) ∧ Chg B C w0 w') := markNodeS_U B C g cap cs w0 hB hgC (Nat.le_trans hC hb0.size) hbk ⟨cur, (hb0.block g hgl).trans hg1, hg2⟩ (fun j d hd => (hh j d hd).blk (Chg.of_below (B := B) (C := C) hb0) (hb0.block g hgl))
  have HW0 : Hid (w0 = w.alloc (Obj.cells #[.slice (some ⟨g, 0, none⟩) cs.length cap, .int .i64 root] 30)) := hw0
  have HB0 : Hid (Below w.heap.size w w0) := hb0
  clear hb0 hw0 hg1 hg2 hh
  go_enter Try.func12, Try.ntmps12
  go_wp2_with fail
  rw [← HW0.out]
  refine HMN.out.mono ?_
  rintro e w1 ⟨m, rfl, hc⟩
  have HC : Hid (Chg B C w w1) := (Chg.of_below HB0.out).trans hc
  clear hc
  go_wp2
  go_ret
  exact ⟨m, rfl, HC.out⟩
end Go.Proofs.Ytjdlohjhfcmicaa
