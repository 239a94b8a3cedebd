/- Draws: a primitive's heap, word and arguments. -/
import Derived.Test.YtngelfohpkpekaaDvd
import Derived.Test.YtngelfohpkpekaaAra
import Derived.Test.YtngelfohpkpekaaNax
set_option linter.unusedVariables false
namespace Go.Proofs.Ytngelfohpkpekaa
open Go.ChangeShapes Go.WideShapes Go.ChangeAt Go.RowKit
open Cu (Cw Code1 CurS CodeAt)
theorem pick_mem (L : List ByteArray) (w : World) (c : Nat) (d : Code1) (g cap : Nat) (W : World) (h : Cw w c d W) (hg : g = W.heap.size) (hL : 0 < L.length) (hL2 : L.length ≤ 256) (arr : Array Value) (harr : arr = (L.map Value.string).toArray) : Calls Try.prog 14 #[.pointer (some ⟨c, 0, none⟩), .slice (some ⟨g, 0, none⟩) L.length cap] (W.alloc (.cells arr 9)) fun e W' => ∃ t, e = .returned (.string t) ∧ t ∈ L ∧ Cw w c d W' := by
  obtain ⟨⟨s, hs⟩, hg2, hl⟩ := h.alloc (.cells arr 9)
  refine (Cu.pickS_st c g cap d s L _ hs ?_ hL hL2 ?_).mono ?_
  · have := h.lt
    omega
  · intro j x hx
    subst hg
    rw [World.cell?_alloc_mark, harr]
    simp [hx]
  · rintro e W' ⟨t, s', rfl, ht, h1, h2⟩
    exact ⟨t, rfl, ht, ⟨s', h1⟩, Cu.grownBy_trans hg2 h2, hl⟩
set_option maxRecDepth 100000 in
theorem size_pos (a : Option Addr) (n cap : Nat) (m : Nat) (w : World) (hn : n ≤ 1048576) (hm : 2 ≤ m) (hm2 : m ≤ 100) : Calls Try.prog 13 #[.slice a n cap, .int .i64 (m : Int)] w fun e w' => ∃ k : Nat, e = .returned (.int .i64 (k : Int)) ∧ 0 < k ∧ k ≤ m ∧ w' = w := by
  by_cases h : m < 2 + n / 20
  · have hd : decide ((m : Int) < 2 + (n : Int) / 20) = true := by simp; omega
    have hd' : (m : Int) < 2 + (n : Int) / 20 := by omega
    go_enter Try.func13, Try.ntmps13
    go_wp2
    go_ret
    exact ⟨m, rfl, by omega, Nat.le_refl _, rfl⟩
  · have hd : decide ((m : Int) < 2 + (n : Int) / 20) = false := by simp; omega
    go_enter Try.func13, Try.ntmps13
    go_wp2
    go_ret
    exact ⟨2 + n / 20, by go_num, by omega, by omega, rfl⟩
theorem cw_below {w w1 W : World} {d : Code1} (hb : Below w.heap.size w w1) (h : Cw w1 w.heap.size d W) : Below w.heap.size w W :=
  ⟨h.2.1.os.trans hb.os, h.2.1.tape.trans hb.tape, h.2.1.output.trans hb.output, Nat.le_trans hb.size h.2.1.size, fun b hlt => (h.2.1.block b (Nat.lt_of_lt_of_le hlt hb.size) fun e => by have := Option.some.inj e; omega).trans (hb.block b hlt)⟩
/-- What DrawPrim leaves. -/
def DpPost (w : World) (e : Ending) (W : World) : Prop := ∃ (h : List Cel) (ah : Option Addr) (ch : Nat) (s : ByteArray) (vs : List Val) (av : Option Addr) (cv : Nat),
  e = .returned (.tuple #[.slice ah h.length ch, .string s, .slice av vs.length cv]) ∧ h.length ≤ 20 ∧ h.length ≤ ch ∧ (∀ x ∈ h, x.tiny) ∧ s.size ≤ 40 ∧ vs.length ≤ 3 ∧ vs.length ≤ cv ∧ (∀ v ∈ vs, v.tiny) ∧
  RowC W W.heap.size ah h ∧ RowV W W.heap.size av vs ∧ Below w.heap.size w W
set_option maxRecDepth 100000 in
set_option maxHeartbeats 4000000 in
theorem drawPrim_any (d : Code1) (w : World) (hc : CodeAt w w.heap.size d) : Calls Try.prog 5 #[.slice d.a d.len d.cap] w fun e W => DpPost w e W := by
  obtain ⟨i29, hi29, hz290, hz291, hz292⟩ := info_parts info29
  have hl : d.len ≤ 1048576 := hc.1
  have HN : Hid (Calls Try.prog 11 #[.slice d.a d.len d.cap] w fun e w' => e = .returned (.pointer (some ⟨w.heap.size, 0, none⟩)) ∧ CurS w' w.heap.size d (Cu.newS d) ∧ Below w.heap.size w w') := Cu.new_st d w hc
  clear hc
  go_enter Try.func5, Try.ntmps5
  go_wp2_with fail
  refine HN.out.mono ?_
  rintro e w1 ⟨rfl, hcur, hb1⟩
  have HB1 : Hid (Below w.heap.size w w1) := hb1
  have h1 : Cw w1 w.heap.size d w1 := Cw_self ⟨_, hcur⟩ (Cu.cur_lt hcur)
  have H1 : Hid (Cw w1 w.heap.size d w1) := h1
  have hlt1 : w.heap.size < w1.heap.size := Cu.cur_lt hcur
  have HS : Hid (Calls Try.prog 13 #[.slice d.a d.len d.cap, .int .i64 (10 : Nat)] w1 fun e w' => ∃ k : Nat, e = .returned (.int .i64 (k : Int)) ∧ 0 < k ∧ k ≤ 10 ∧ w' = w1) := size_pos d.a d.len d.cap 10 w1 hl (by decide) (by decide)
  clear HN hcur hb1 h1
  go_wp2_with fail
  refine HS.out.mono ?_
  rintro e W2 ⟨k, rfl, hk0, hk, rfl⟩
  clear HS
  have HH : Hid (Calls Try.prog 12 #[.pointer (some ⟨w.heap.size, 0, none⟩), .int .i64 (k : Int)] W2 fun e W' => HdPost W2 w.heap.size d e W') := l6Heap_any w.heap.size d k W2 H1.out hk0 (by omega)
  go_wp2_with fail
  refine HH.out.mono ?_
  rintro e w3 ⟨h, ah, ch, rfl, hhl, hhc, hht, hrow, hc3⟩
  have HR3 : Hid (RowCc w3 w.heap.size ah h) := hrow
  have HT3 : Hid (∀ x ∈ h, x.tiny) := hht
  have HC3 : Hid (Cw W2 w.heap.size d w3) := hc3
  have hs3 : W2.heap.size ≤ w3.heap.size := hc3.2.1.size
  have HP : Hid (Calls Try.prog 14 #[.pointer (some ⟨w.heap.size, 0, none⟩), .slice (some ⟨w3.heap.size, 0, none⟩) 15 15] (w3.alloc (.cells #[.string ⟨#[43]⟩, .string ⟨#[45]⟩, .string ⟨#[42]⟩, .string ⟨#[60]⟩, .string ⟨#[61]⟩, .string ⟨#[99, 111, 110, 115]⟩, .string ⟨#[99, 97, 114]⟩, .string ⟨#[99, 100, 114]⟩, .string ⟨#[110, 117, 108, 108, 63]⟩, .string ⟨#[112, 97, 105, 114, 63]⟩, .string ⟨#[110, 111, 116]⟩, .string ⟨#[101, 113, 63]⟩, .string ⟨#[112, 114, 105, 110, 116]⟩, .string ⟨#[109, 97, 107, 101]⟩, .string ⟨#[120]⟩] 9)) fun e W' => ∃ t, e = .returned (.string t) ∧ t ∈ ([⟨#[43]⟩, ⟨#[45]⟩, ⟨#[42]⟩, ⟨#[60]⟩, ⟨#[61]⟩, ⟨#[99, 111, 110, 115]⟩, ⟨#[99, 97, 114]⟩, ⟨#[99, 100, 114]⟩, ⟨#[110, 117, 108, 108, 63]⟩, ⟨#[112, 97, 105, 114, 63]⟩, ⟨#[110, 111, 116]⟩, ⟨#[101, 113, 63]⟩, ⟨#[112, 114, 105, 110, 116]⟩, ⟨#[109, 97, 107, 101]⟩, ⟨#[120]⟩] : List ByteArray) ∧ Cw w3 w.heap.size d W') := pick_mem [⟨#[43]⟩, ⟨#[45]⟩, ⟨#[42]⟩, ⟨#[60]⟩, ⟨#[61]⟩, ⟨#[99, 111, 110, 115]⟩, ⟨#[99, 97, 114]⟩, ⟨#[99, 100, 114]⟩, ⟨#[110, 117, 108, 108, 63]⟩, ⟨#[112, 97, 105, 114, 63]⟩, ⟨#[110, 111, 116]⟩, ⟨#[101, 113, 63]⟩, ⟨#[112, 114, 105, 110, 116]⟩, ⟨#[109, 97, 107, 101]⟩, ⟨#[120]⟩] w3 _ d _ 15 w3 (Cw_self hc3.1 (by omega)) rfl (by simp) (by simp) _ rfl
  clear HH hrow hht hc3
  go_wp2_with fail
  refine HP.out.mono ?_
  rintro e w4 ⟨s, rfl, hs, hc4⟩
  have hsz : 1 ≤ s.size ∧ s.size ≤ 40 := by
    have : ∀ t ∈ ([⟨#[43]⟩, ⟨#[45]⟩, ⟨#[42]⟩, ⟨#[60]⟩, ⟨#[61]⟩, ⟨#[99, 111, 110, 115]⟩, ⟨#[99, 97, 114]⟩, ⟨#[99, 100, 114]⟩, ⟨#[110, 117, 108, 108, 63]⟩, ⟨#[112, 97, 105, 114, 63]⟩, ⟨#[110, 111, 116]⟩, ⟨#[101, 113, 63]⟩, ⟨#[112, 114, 105, 110, 116]⟩, ⟨#[109, 97, 107, 101]⟩, ⟨#[120]⟩] : List ByteArray), 1 ≤ t.size ∧ t.size ≤ 40 := by decide
    exact this s hs
  obtain ⟨hsz1, hsz2⟩ := hsz
  have HC4 : Hid (Cw w3 w.heap.size d w4) := hc4
  have hs4 : w3.heap.size ≤ w4.heap.size := hc4.2.1.size
  have HAR : Hid (Calls Try.prog 15 #[.string s] w4 fun e w' => e = .returned (.int .i64 (arL s.toList)) ∧ w' = w4) := specAr_any s w4
  have HA3 : Hid (arL s.toList ≤ 3) := by show _ ≤ _; have := so_ar s; omega
  have HON : Hid (Calls Try.prog 16 #[.pointer (some ⟨w.heap.size, 0, none⟩), .int .i64 (12 : Nat)] w4 fun e W' => ∃ b : Bool, e = .returned (.bool b) ∧ Cw w4 w.heap.size d W') := Cu.once_cw _ _ d 12 _ (Cw_self hc4.1 (by omega)) (by omega) (by omega)
  clear hc4 HP hs
  generalize arL s.toList = ar at *
  go_wp2_with fail
  refine HAR.out.mono ?_
  rintro e w' ⟨rfl, rfl⟩
  have har := HA3.out
  clear HAR HA3
  go_wp2_with fail
  refine HON.out.mono ?_
  rintro e w5 ⟨b, rfl, hc5⟩
  have HC5 : Hid (Cw w3 w.heap.size d w5) := Cw_trans HC4.out hc5
  have hs5 : w3.heap.size ≤ w5.heap.size := HC5.out.2.1.size
  clear HON HC4
  cases b with
  | false =>
    obtain ⟨wb, rfl⟩ : ∃ wb, wb = w5 := ⟨_, rfl⟩
    have HRH : Hid (RowCc wb w.heap.size ah h) := HR3.out.keep HC5.out
    have HCB : Hid (Cw wb w.heap.size d wb) := Cw_self HC5.out.1 (by omega)
    have HCW : Hid (Cw W2 w.heap.size d wb) := Cw_trans HC3.out HC5.out
    clear HC5 HR3 hc5 HC3
    have HB0 : Hid (Cw wb w.heap.size d (wb.alloc (Obj.cells #[] 29))) := HCB.out.alloc _
    have HO0 : Hid (OwnV (wb.alloc (Obj.cells #[] 29)) wb.heap.size (.slice (some ⟨wb.heap.size, 0, none⟩) 0 0) []) := ⟨[], own_empty (blk_at _ _ _ rfl) (Nat.le_refl _), by simp⟩
    go_wp2
    go_loopw [9, 10] (fun o iv wr => ∃ vs : List Val, vs.length ≤ 3 ∧ iv = .int .i64 (vs.length : Nat) ∧ OwnV wr wb.heap.size o vs ∧ (∀ v ∈ vs, v.tiny) ∧ Cw wb w.heap.size d wr)
      (fun _ iv _ => 4 - (intOf iv).toNat)
    case atStart => exact ⟨[], by simp, rfl, HO0.out, (fun x hx => by simp at hx), HB0.out⟩
    case round =>
      clear HB0 HO0
      obtain ⟨vs, hvl, rfl, hov, htv, hcr⟩ := hrel
      obtain ⟨oa, oc, rfl, hoc⟩ := hov.slice
      have HTV : Hid (∀ v ∈ vs, v.tiny) := htv
      have HCR : Hid (Cw wb w.heap.size d wr) := hcr
      have HOV : Hid (OwnV wr wb.heap.size (.slice oa vs.length oc) vs) := hov
      have hsr : wb.heap.size ≤ wr.heap.size := hcr.2.1.size
      obtain ⟨xs, hxs, hxv⟩ := hov
      have hxl : xs.length = vs.length * 3 := hxs.1
      have HXV : Hid (∀ j d, vs[j]? = some d → xs[j * 3]? = some (.int .i64 d.k) ∧ xs[j * 3 + 1]? = some (.int .i64 d.n) ∧ xs[j * 3 + 2]? = some (.string d.s)) := hxv
      have HXR : Hid (wr.ownsRow wb.heap.size 29 3 (.slice oa vs.length oc) vs.length xs) := hxs
      clear htv hcr hxs hxv
      by_cases hlt : (vs.length : Int) < ar
      · by_cases hi1 : vs.length ≤ 1
        · have HI : Hid (∀ w, Calls Try.prog 18 #[.int .i64 (vs.length : Nat), .int .i64 0, .int .i64 1] w fun e w' => e = .returned (.bool true) ∧ w' = w) := fun w => by
            have := l1In_any (vs.length : Nat) 0 1 w
            rwa [show (decide ((0 : Int) ≤ (vs.length : Nat)) && decide (((vs.length : Nat) : Int) ≤ 1)) = true by simp; omega] at this
          have HIN : Hid (∀ w, Calls Try.prog 19 #[.int .u8 s[0].toNat, .string ⟨#[43, 45, 42, 60, 61]⟩] w fun e w' => e = .returned (.bool (hasB [43, 45, 42, 60, 61] s[0])) ∧ w' = w) := fun w => l2In_any s[0] _ w (by decide)
          cases hb5 : hasB [43, 45, 42, 60, 61] s[0]
          · rw [hb5] at HIN
            clear hb5
            go_wp2_with fail
            refine (HI.out _).mono ?_
            rintro e w' ⟨rfl, rfl⟩
            go_wp2_with fail
            refine (HIN.out _).mono ?_
            rintro e w'' ⟨rfl, rfl⟩
            clear HI HIN
            have HCA : Hid (Calls Try.prog 21 #[.pointer (some ⟨w.heap.size, 0, none⟩), .slice ah h.length ch] w'' fun e W' => VdPost w'' w.heap.size d e W') := l6AnyVal_any _ d ah ch h _ (Cw_self HCR.out.1 (by have := HCR.out.2.1.size; omega)) (by omega) (HRH.out.keep HCR.out).kinds
            go_wp2_with fail
            refine HCA.out.mono ?_
            rintro e wp ⟨v, rfl, hv, hcp⟩
            have HTI : Hid v.tiny := hv
            have HCP : Hid (Cw wb w.heap.size d wp) := Cw_trans HCR.out hcp
            have HXP : Hid (wp.ownsRow wb.heap.size 29 3 (.slice oa vs.length oc) vs.length xs) := own_keep HXR.out fun b hb => hcp.2.1.block b (own_blk HXR.out hb).2.1 fun e => by have : b = w.heap.size := Option.some.inj e; have := (own_blk HXR.out hb).1; omega
            have hsp : wb.heap.size ≤ wp.heap.size := HCP.out.2.1.size
            clear hv hcp HCA
            have HC5 : Hid (Cw wb w.heap.size d (wp.alloc (Obj.cells #[.int .i64 v.k, .int .i64 v.n, .string v.s] 29))) := HCP.out.alloc _
            have ke5 : (wp.alloc (Obj.cells #[.int .i64 v.k, .int .i64 v.n, .string v.s] 29)).heap[wp.heap.size]? = some (Obj.cells #[.int .i64 v.k, .int .i64 v.n, .string v.s] 29) := blk_at _ _ _ rfl
            have hs5 : (wp.alloc (Obj.cells #[.int .i64 v.k, .int .i64 v.n, .string v.s] 29)).heap.size = wp.heap.size + 1 := by simp
            have hxs5 : (wp.alloc (Obj.cells #[.int .i64 v.k, .int .i64 v.n, .string v.s] 29)).ownsRow wb.heap.size 29 3 (.slice oa vs.length oc) vs.length xs := own_keep HXP.out fun b hb => al_same _ _ (own_blk HXP.out hb).2.1
            have hone : ∀ u ∈ ([.int .i64 v.k, .int .i64 v.n, .string v.s] : List Value), u.oneCell' = true := by
              intro u hu
              simp at hu
              rcases hu with rfl | rfl | rfl <;> rfl
            go_wp2_with (at_builtin; go_loud (refine wpList_append_row rfl _ _ 25 rfl wb.heap.size 29 i29 _ 3 32 Try.underlying25 hi29 hz290 hz291 hz292 rfl (by omega) (.slice oa vs.length oc) vs.length xs rfl hxs5 (some ⟨wp.heap.size, 0, none⟩) 1 1 [.int .i64 v.k, .int .i64 v.n, .string v.s] rfl rfl (fun _ => ⟨_, rfl, World.news_of_block ke5⟩) hone (by unfold maxLen; omega) (by omega) (by omega) ?_; intro v4 w4 hown4 hgr4 hat4))
            have HV4 : Hid (OwnV w4 wb.heap.size v4 (vs ++ [v])) := OwnV.push (w := w4) hxl HXV.out hown4
            have HC4 : Hid (Cw wb w.heap.size d w4) := Cw_grow HC5.out hgr4 fun k hk => (own_blk HXP.out hk).1
            clear hown4 hgr4 hat4 hxs5 ke5
            go_roundw
            case rel => exact ⟨vs ++ [v], by simp; omega, by simp, HV4.out, (fun u hu => by rcases List.mem_append.1 hu with hu | hu; exact HTV.out u hu; simp at hu; subst hu; exact HTI.out), HC4.out⟩
            case measure => simp [intOf]; omega
          · rw [hb5] at HIN
            clear hb5
            have HON : Hid (Calls Try.prog 16 #[.pointer (some ⟨w.heap.size, 0, none⟩), .int .i64 (6 : Nat)] wr fun e W' => ∃ b : Bool, e = .returned (.bool b) ∧ Cw wr w.heap.size d W') := Cu.once_cw _ _ d 6 _ (Cw_self HCR.out.1 (by omega)) (by omega) (by omega)
            go_wp2_with fail
            refine (HI.out _).mono ?_
            rintro e w' ⟨rfl, rfl⟩
            go_wp2_with fail
            refine (HIN.out _).mono ?_
            rintro e w'' ⟨rfl, rfl⟩
            go_wp2_with fail
            refine HON.out.mono ?_
            rintro e wq ⟨ob, rfl, hcq⟩
            have HCQ : Hid (Cw wb w.heap.size d wq) := Cw_trans HCR.out hcq
            have HXQ : Hid (wq.ownsRow wb.heap.size 29 3 (.slice oa vs.length oc) vs.length xs) := own_keep HXR.out fun b hb => hcq.2.1.block b (own_blk HXR.out hb).2.1 fun e => by have : b = w.heap.size := Option.some.inj e; have := (own_blk HXR.out hb).1; omega
            have hsq : wb.heap.size ≤ wq.heap.size := HCQ.out.2.1.size
            clear HI HIN HON hcq
            cases ob with
            | true =>
              have HCA : Hid (Calls Try.prog 21 #[.pointer (some ⟨w.heap.size, 0, none⟩), .slice ah h.length ch] wq fun e W' => VdPost wq w.heap.size d e W') := l6AnyVal_any _ d ah ch h _ (Cw_self HCQ.out.1 (by have := HCQ.out.2.1.size; omega)) (by omega) (HRH.out.keep HCQ.out).kinds
              go_wp2_with fail
              refine HCA.out.mono ?_
              rintro e wp ⟨v, rfl, hv, hcp⟩
              have HTI : Hid v.tiny := hv
              have HCP : Hid (Cw wb w.heap.size d wp) := Cw_trans HCQ.out hcp
              have HXP : Hid (wp.ownsRow wb.heap.size 29 3 (.slice oa vs.length oc) vs.length xs) := own_keep HXQ.out fun b hb => hcp.2.1.block b (own_blk HXQ.out hb).2.1 fun e => by have : b = w.heap.size := Option.some.inj e; have := (own_blk HXQ.out hb).1; omega
              have hsp : wb.heap.size ≤ wp.heap.size := HCP.out.2.1.size
              clear hv hcp HCA
              have HC5 : Hid (Cw wb w.heap.size d (wp.alloc (Obj.cells #[.int .i64 v.k, .int .i64 v.n, .string v.s] 29))) := HCP.out.alloc _
              have ke5 : (wp.alloc (Obj.cells #[.int .i64 v.k, .int .i64 v.n, .string v.s] 29)).heap[wp.heap.size]? = some (Obj.cells #[.int .i64 v.k, .int .i64 v.n, .string v.s] 29) := blk_at _ _ _ rfl
              have hs5 : (wp.alloc (Obj.cells #[.int .i64 v.k, .int .i64 v.n, .string v.s] 29)).heap.size = wp.heap.size + 1 := by simp
              have hxs5 : (wp.alloc (Obj.cells #[.int .i64 v.k, .int .i64 v.n, .string v.s] 29)).ownsRow wb.heap.size 29 3 (.slice oa vs.length oc) vs.length xs := own_keep HXP.out fun b hb => al_same _ _ (own_blk HXP.out hb).2.1
              have hone : ∀ u ∈ ([.int .i64 v.k, .int .i64 v.n, .string v.s] : List Value), u.oneCell' = true := by
                intro u hu
                simp at hu
                rcases hu with rfl | rfl | rfl <;> rfl
              go_wp2_with (at_builtin; go_loud (refine wpList_append_row rfl _ _ 25 rfl wb.heap.size 29 i29 _ 3 32 Try.underlying25 hi29 hz290 hz291 hz292 rfl (by omega) (.slice oa vs.length oc) vs.length xs rfl hxs5 (some ⟨wp.heap.size, 0, none⟩) 1 1 [.int .i64 v.k, .int .i64 v.n, .string v.s] rfl rfl (fun _ => ⟨_, rfl, World.news_of_block ke5⟩) hone (by unfold maxLen; omega) (by omega) (by omega) ?_; intro v4 w4 hown4 hgr4 hat4))
              have HV4 : Hid (OwnV w4 wb.heap.size v4 (vs ++ [v])) := OwnV.push (w := w4) hxl HXV.out hown4
              have HC4 : Hid (Cw wb w.heap.size d w4) := Cw_grow HC5.out hgr4 fun k hk => (own_blk HXP.out hk).1
              clear hown4 hgr4 hat4 hxs5 ke5
              go_roundw
              case rel => exact ⟨vs ++ [v], by simp; omega, by simp, HV4.out, (fun u hu => by rcases List.mem_append.1 hu with hu | hu; exact HTV.out u hu; simp at hu; subst hu; exact HTI.out), HC4.out⟩
              case measure => simp [intOf]; omega
            | false =>
              have HCA : Hid (Calls Try.prog 20 #[.pointer (some ⟨w.heap.size, 0, none⟩), .slice (some ⟨wq.heap.size, 0, none⟩) 5 5] (wq.alloc (.cells #[.int .i64 0, .int .i64 3, .int .i64 (-5), .int .i64 1000, .int .i64 1000000] 3)) fun e W' => ∃ x, e = .returned (.int .i64 x) ∧ x ∈ [(0 : Int), 3, -5, 1000, 1000000] ∧ Cw wq w.heap.size d W') := pickI_cw [0, 3, -5, 1000, 1000000] wq _ d _ 5 wq (Cw_self HCQ.out.1 (by have := HCQ.out.2.1.size; omega)) rfl (by simp) (by simp) _ rfl
              go_wp2_with fail
              refine HCA.out.mono ?_
              rintro e wp ⟨i5, rfl, hi5, hcp⟩
              have hi6 : -1000000 ≤ i5 ∧ i5 ≤ 1000001 := by simp at hi5; omega
              have HTI : Hid ((⟨1, i5, ⟨#[]⟩⟩ : Val).tiny) := ⟨by show (-10 : Int) ≤ 1; omega, by show (1 : Int) ≤ 20; omega, hi6.1, hi6.2, by show (0 : Nat) ≤ 40; omega⟩
              have HCP : Hid (Cw wb w.heap.size d wp) := Cw_trans HCQ.out hcp
              have HXP : Hid (wp.ownsRow wb.heap.size 29 3 (.slice oa vs.length oc) vs.length xs) := own_keep HXQ.out fun b hb => hcp.2.1.block b (own_blk HXQ.out hb).2.1 fun e => by have : b = w.heap.size := Option.some.inj e; have := (own_blk HXQ.out hb).1; omega
              have hsp : wb.heap.size ≤ wp.heap.size := HCP.out.2.1.size
              clear hi5 hi6 hcp HCA
              have HC5 : Hid (Cw wb w.heap.size d (wp.alloc (Obj.cells #[.int .i64 1, .int .i64 i5, .string ⟨#[]⟩] 29))) := HCP.out.alloc _
              have ke5 : (wp.alloc (Obj.cells #[.int .i64 1, .int .i64 i5, .string ⟨#[]⟩] 29)).heap[wp.heap.size]? = some (Obj.cells #[.int .i64 1, .int .i64 i5, .string ⟨#[]⟩] 29) := blk_at _ _ _ rfl
              have hs5 : (wp.alloc (Obj.cells #[.int .i64 1, .int .i64 i5, .string ⟨#[]⟩] 29)).heap.size = wp.heap.size + 1 := by simp
              have hxs5 : (wp.alloc (Obj.cells #[.int .i64 1, .int .i64 i5, .string ⟨#[]⟩] 29)).ownsRow wb.heap.size 29 3 (.slice oa vs.length oc) vs.length xs := own_keep HXP.out fun b hb => al_same _ _ (own_blk HXP.out hb).2.1
              have hone : ∀ u ∈ ([.int .i64 1, .int .i64 i5, .string ⟨#[]⟩] : List Value), u.oneCell' = true := by
                intro u hu
                simp at hu
                rcases hu with rfl | rfl | rfl <;> rfl
              go_wp2_with (at_builtin; go_loud (refine wpList_append_row rfl _ _ 25 rfl wb.heap.size 29 i29 _ 3 32 Try.underlying25 hi29 hz290 hz291 hz292 rfl (by omega) (.slice oa vs.length oc) vs.length xs rfl hxs5 (some ⟨wp.heap.size, 0, none⟩) 1 1 [.int .i64 1, .int .i64 i5, .string ⟨#[]⟩] rfl rfl (fun _ => ⟨_, rfl, World.news_of_block ke5⟩) hone (by unfold maxLen; omega) (by omega) (by omega) ?_; intro v4 w4 hown4 hgr4 hat4))
              have HV4 : Hid (OwnV w4 wb.heap.size v4 (vs ++ [(⟨1, i5, ⟨#[]⟩⟩ : Val)])) := OwnV.push (w := w4) hxl HXV.out hown4
              have HC4 : Hid (Cw wb w.heap.size d w4) := Cw_grow HC5.out hgr4 fun k hk => (own_blk HXP.out hk).1
              clear hown4 hgr4 hat4 hxs5 ke5
              go_roundw
              case rel => exact ⟨vs ++ [(⟨1, i5, ⟨#[]⟩⟩ : Val)], by simp; omega, by simp, HV4.out, (fun u hu => by rcases List.mem_append.1 hu with hu | hu; exact HTV.out u hu; simp at hu; subst hu; exact HTI.out), HC4.out⟩
              case measure => simp [intOf]; omega
        · have HI : Hid (∀ w, Calls Try.prog 18 #[.int .i64 (vs.length : Nat), .int .i64 0, .int .i64 1] w fun e w' => e = .returned (.bool false) ∧ w' = w) := fun w => by
            have := l1In_any (vs.length : Nat) 0 1 w
            rwa [show (decide ((0 : Int) ≤ (vs.length : Nat)) && decide (((vs.length : Nat) : Int) ≤ 1)) = false by simp; omega] at this
          go_wp2_with fail
          refine (HI.out _).mono ?_
          rintro e w' ⟨rfl, rfl⟩
          clear HI
          have HCA : Hid (Calls Try.prog 21 #[.pointer (some ⟨w.heap.size, 0, none⟩), .slice ah h.length ch] w' fun e W' => VdPost w' w.heap.size d e W') := l6AnyVal_any _ d ah ch h _ (Cw_self HCR.out.1 (by have := HCR.out.2.1.size; omega)) (by omega) (HRH.out.keep HCR.out).kinds
          go_wp2_with fail
          refine HCA.out.mono ?_
          rintro e wp ⟨v, rfl, hv, hcp⟩
          have HTI : Hid v.tiny := hv
          have HCP : Hid (Cw wb w.heap.size d wp) := Cw_trans HCR.out hcp
          have HXP : Hid (wp.ownsRow wb.heap.size 29 3 (.slice oa vs.length oc) vs.length xs) := own_keep HXR.out fun b hb => hcp.2.1.block b (own_blk HXR.out hb).2.1 fun e => by have : b = w.heap.size := Option.some.inj e; have := (own_blk HXR.out hb).1; omega
          have hsp : wb.heap.size ≤ wp.heap.size := HCP.out.2.1.size
          clear hv hcp HCA
          have HC5 : Hid (Cw wb w.heap.size d (wp.alloc (Obj.cells #[.int .i64 v.k, .int .i64 v.n, .string v.s] 29))) := HCP.out.alloc _
          have ke5 : (wp.alloc (Obj.cells #[.int .i64 v.k, .int .i64 v.n, .string v.s] 29)).heap[wp.heap.size]? = some (Obj.cells #[.int .i64 v.k, .int .i64 v.n, .string v.s] 29) := blk_at _ _ _ rfl
          have hs5 : (wp.alloc (Obj.cells #[.int .i64 v.k, .int .i64 v.n, .string v.s] 29)).heap.size = wp.heap.size + 1 := by simp
          have hxs5 : (wp.alloc (Obj.cells #[.int .i64 v.k, .int .i64 v.n, .string v.s] 29)).ownsRow wb.heap.size 29 3 (.slice oa vs.length oc) vs.length xs := own_keep HXP.out fun b hb => al_same _ _ (own_blk HXP.out hb).2.1
          have hone : ∀ u ∈ ([.int .i64 v.k, .int .i64 v.n, .string v.s] : List Value), u.oneCell' = true := by
            intro u hu
            simp at hu
            rcases hu with rfl | rfl | rfl <;> rfl
          go_wp2_with (at_builtin; go_loud (refine wpList_append_row rfl _ _ 25 rfl wb.heap.size 29 i29 _ 3 32 Try.underlying25 hi29 hz290 hz291 hz292 rfl (by omega) (.slice oa vs.length oc) vs.length xs rfl hxs5 (some ⟨wp.heap.size, 0, none⟩) 1 1 [.int .i64 v.k, .int .i64 v.n, .string v.s] rfl rfl (fun _ => ⟨_, rfl, World.news_of_block ke5⟩) hone (by unfold maxLen; omega) (by omega) (by omega) ?_; intro v4 w4 hown4 hgr4 hat4))
          have HV4 : Hid (OwnV w4 wb.heap.size v4 (vs ++ [v])) := OwnV.push (w := w4) hxl HXV.out hown4
          have HC4 : Hid (Cw wb w.heap.size d w4) := Cw_grow HC5.out hgr4 fun k hk => (own_blk HXP.out hk).1
          clear hown4 hgr4 hat4 hxs5 ke5
          go_roundw
          case rel => exact ⟨vs ++ [v], by simp; omega, by simp, HV4.out, (fun u hu => by rcases List.mem_append.1 hu with hu | hu; exact HTV.out u hu; simp at hu; subst hu; exact HTI.out), HC4.out⟩
          case measure => simp [intOf]; omega
      · have HFIN : Hid (DpPost w (.returned (.tuple #[.slice ah h.length ch, .string s, .slice oa vs.length oc])) wr) := ⟨h, ah, ch, s, vs, oa, oc, rfl, hhl, hhc, HT3.out, hsz2, hvl, hoc, HTV.out, (HRH.out.keep HCR.out).row, HOV.out.row.keep fun b hb => ⟨(HOV.out.blk hb).2.1, rfl⟩, cw_below HB1.out (Cw_trans HCW.out HCR.out)⟩
        go_wp2
        go_ret3
        exact HFIN.out
  | true =>
    have HBE : Hid (Calls Try.prog 17 #[.pointer (some ⟨w.heap.size, 0, none⟩), .int .i64 (4 : Nat)] w5 fun e W' => ∃ k : Nat, e = .returned (.int .i64 (k : Int)) ∧ k < 4 ∧ Cw w5 w.heap.size d W') := Cu.below_cw _ _ d 4 w5 (Cw_self HC5.out.1 (by omega)) (by omega) (by omega)
    go_wp2_with fail
    refine HBE.out.mono ?_
    rintro e wb ⟨k6, rfl, hk6, hc6⟩
    have HRH : Hid (RowCc wb w.heap.size ah h) := (HR3.out.keep HC5.out).keep hc6
    have hsb : w5.heap.size ≤ wb.heap.size := hc6.2.1.size
    have HCB : Hid (Cw wb w.heap.size d wb) := Cw_self hc6.1 (by omega)
    have HCW : Hid (Cw W2 w.heap.size d wb) := Cw_trans HC3.out (Cw_trans HC5.out hc6)
    clear HC5 HR3 hc5 HC3 hc6 HBE
    have HB0 : Hid (Cw wb w.heap.size d (wb.alloc (Obj.cells #[] 29))) := HCB.out.alloc _
    have HO0 : Hid (OwnV (wb.alloc (Obj.cells #[] 29)) wb.heap.size (.slice (some ⟨wb.heap.size, 0, none⟩) 0 0) []) := ⟨[], own_empty (blk_at _ _ _ rfl) (Nat.le_refl _), by simp⟩
    go_wp2
    go_loopw [9, 10] (fun o iv wr => ∃ vs : List Val, vs.length ≤ 3 ∧ iv = .int .i64 (vs.length : Nat) ∧ OwnV wr wb.heap.size o vs ∧ (∀ v ∈ vs, v.tiny) ∧ Cw wb w.heap.size d wr)
      (fun _ iv _ => 4 - (intOf iv).toNat)
    case atStart => exact ⟨[], by simp, rfl, HO0.out, (fun x hx => by simp at hx), HB0.out⟩
    case round =>
      clear HB0 HO0
      obtain ⟨vs, hvl, rfl, hov, htv, hcr⟩ := hrel
      obtain ⟨oa, oc, rfl, hoc⟩ := hov.slice
      have HTV : Hid (∀ v ∈ vs, v.tiny) := htv
      have HCR : Hid (Cw wb w.heap.size d wr) := hcr
      have HOV : Hid (OwnV wr wb.heap.size (.slice oa vs.length oc) vs) := hov
      have hsr : wb.heap.size ≤ wr.heap.size := hcr.2.1.size
      obtain ⟨xs, hxs, hxv⟩ := hov
      have hxl : xs.length = vs.length * 3 := hxs.1
      have HXV : Hid (∀ j d, vs[j]? = some d → xs[j * 3]? = some (.int .i64 d.k) ∧ xs[j * 3 + 1]? = some (.int .i64 d.n) ∧ xs[j * 3 + 2]? = some (.string d.s)) := hxv
      have HXR : Hid (wr.ownsRow wb.heap.size 29 3 (.slice oa vs.length oc) vs.length xs) := hxs
      clear htv hcr hxs hxv
      by_cases hlt : (vs.length : Int) < (k6 : Int)
      · by_cases hi1 : vs.length ≤ 1
        · have HI : Hid (∀ w, Calls Try.prog 18 #[.int .i64 (vs.length : Nat), .int .i64 0, .int .i64 1] w fun e w' => e = .returned (.bool true) ∧ w' = w) := fun w => by
            have := l1In_any (vs.length : Nat) 0 1 w
            rwa [show (decide ((0 : Int) ≤ (vs.length : Nat)) && decide (((vs.length : Nat) : Int) ≤ 1)) = true by simp; omega] at this
          have HIN : Hid (∀ w, Calls Try.prog 19 #[.int .u8 s[0].toNat, .string ⟨#[43, 45, 42, 60, 61]⟩] w fun e w' => e = .returned (.bool (hasB [43, 45, 42, 60, 61] s[0])) ∧ w' = w) := fun w => l2In_any s[0] _ w (by decide)
          cases hb5 : hasB [43, 45, 42, 60, 61] s[0]
          · rw [hb5] at HIN
            clear hb5
            go_wp2_with fail
            refine (HI.out _).mono ?_
            rintro e w' ⟨rfl, rfl⟩
            go_wp2_with fail
            refine (HIN.out _).mono ?_
            rintro e w'' ⟨rfl, rfl⟩
            clear HI HIN
            have HCA : Hid (Calls Try.prog 21 #[.pointer (some ⟨w.heap.size, 0, none⟩), .slice ah h.length ch] w'' fun e W' => VdPost w'' w.heap.size d e W') := l6AnyVal_any _ d ah ch h _ (Cw_self HCR.out.1 (by have := HCR.out.2.1.size; omega)) (by omega) (HRH.out.keep HCR.out).kinds
            go_wp2_with fail
            refine HCA.out.mono ?_
            rintro e wp ⟨v, rfl, hv, hcp⟩
            have HTI : Hid v.tiny := hv
            have HCP : Hid (Cw wb w.heap.size d wp) := Cw_trans HCR.out hcp
            have HXP : Hid (wp.ownsRow wb.heap.size 29 3 (.slice oa vs.length oc) vs.length xs) := own_keep HXR.out fun b hb => hcp.2.1.block b (own_blk HXR.out hb).2.1 fun e => by have : b = w.heap.size := Option.some.inj e; have := (own_blk HXR.out hb).1; omega
            have hsp : wb.heap.size ≤ wp.heap.size := HCP.out.2.1.size
            clear hv hcp HCA
            have HC5 : Hid (Cw wb w.heap.size d (wp.alloc (Obj.cells #[.int .i64 v.k, .int .i64 v.n, .string v.s] 29))) := HCP.out.alloc _
            have ke5 : (wp.alloc (Obj.cells #[.int .i64 v.k, .int .i64 v.n, .string v.s] 29)).heap[wp.heap.size]? = some (Obj.cells #[.int .i64 v.k, .int .i64 v.n, .string v.s] 29) := blk_at _ _ _ rfl
            have hs5 : (wp.alloc (Obj.cells #[.int .i64 v.k, .int .i64 v.n, .string v.s] 29)).heap.size = wp.heap.size + 1 := by simp
            have hxs5 : (wp.alloc (Obj.cells #[.int .i64 v.k, .int .i64 v.n, .string v.s] 29)).ownsRow wb.heap.size 29 3 (.slice oa vs.length oc) vs.length xs := own_keep HXP.out fun b hb => al_same _ _ (own_blk HXP.out hb).2.1
            have hone : ∀ u ∈ ([.int .i64 v.k, .int .i64 v.n, .string v.s] : List Value), u.oneCell' = true := by
              intro u hu
              simp at hu
              rcases hu with rfl | rfl | rfl <;> rfl
            go_wp2_with (at_builtin; go_loud (refine wpList_append_row rfl _ _ 25 rfl wb.heap.size 29 i29 _ 3 32 Try.underlying25 hi29 hz290 hz291 hz292 rfl (by omega) (.slice oa vs.length oc) vs.length xs rfl hxs5 (some ⟨wp.heap.size, 0, none⟩) 1 1 [.int .i64 v.k, .int .i64 v.n, .string v.s] rfl rfl (fun _ => ⟨_, rfl, World.news_of_block ke5⟩) hone (by unfold maxLen; omega) (by omega) (by omega) ?_; intro v4 w4 hown4 hgr4 hat4))
            have HV4 : Hid (OwnV w4 wb.heap.size v4 (vs ++ [v])) := OwnV.push (w := w4) hxl HXV.out hown4
            have HC4 : Hid (Cw wb w.heap.size d w4) := Cw_grow HC5.out hgr4 fun k hk => (own_blk HXP.out hk).1
            clear hown4 hgr4 hat4 hxs5 ke5
            go_roundw
            case rel => exact ⟨vs ++ [v], by simp; omega, by simp, HV4.out, (fun u hu => by rcases List.mem_append.1 hu with hu | hu; exact HTV.out u hu; simp at hu; subst hu; exact HTI.out), HC4.out⟩
            case measure => simp [intOf]; omega
          · rw [hb5] at HIN
            clear hb5
            have HON : Hid (Calls Try.prog 16 #[.pointer (some ⟨w.heap.size, 0, none⟩), .int .i64 (6 : Nat)] wr fun e W' => ∃ b : Bool, e = .returned (.bool b) ∧ Cw wr w.heap.size d W') := Cu.once_cw _ _ d 6 _ (Cw_self HCR.out.1 (by omega)) (by omega) (by omega)
            go_wp2_with fail
            refine (HI.out _).mono ?_
            rintro e w' ⟨rfl, rfl⟩
            go_wp2_with fail
            refine (HIN.out _).mono ?_
            rintro e w'' ⟨rfl, rfl⟩
            go_wp2_with fail
            refine HON.out.mono ?_
            rintro e wq ⟨ob, rfl, hcq⟩
            have HCQ : Hid (Cw wb w.heap.size d wq) := Cw_trans HCR.out hcq
            have HXQ : Hid (wq.ownsRow wb.heap.size 29 3 (.slice oa vs.length oc) vs.length xs) := own_keep HXR.out fun b hb => hcq.2.1.block b (own_blk HXR.out hb).2.1 fun e => by have : b = w.heap.size := Option.some.inj e; have := (own_blk HXR.out hb).1; omega
            have hsq : wb.heap.size ≤ wq.heap.size := HCQ.out.2.1.size
            clear HI HIN HON hcq
            cases ob with
            | true =>
              have HCA : Hid (Calls Try.prog 21 #[.pointer (some ⟨w.heap.size, 0, none⟩), .slice ah h.length ch] wq fun e W' => VdPost wq w.heap.size d e W') := l6AnyVal_any _ d ah ch h _ (Cw_self HCQ.out.1 (by have := HCQ.out.2.1.size; omega)) (by omega) (HRH.out.keep HCQ.out).kinds
              go_wp2_with fail
              refine HCA.out.mono ?_
              rintro e wp ⟨v, rfl, hv, hcp⟩
              have HTI : Hid v.tiny := hv
              have HCP : Hid (Cw wb w.heap.size d wp) := Cw_trans HCQ.out hcp
              have HXP : Hid (wp.ownsRow wb.heap.size 29 3 (.slice oa vs.length oc) vs.length xs) := own_keep HXQ.out fun b hb => hcp.2.1.block b (own_blk HXQ.out hb).2.1 fun e => by have : b = w.heap.size := Option.some.inj e; have := (own_blk HXQ.out hb).1; omega
              have hsp : wb.heap.size ≤ wp.heap.size := HCP.out.2.1.size
              clear hv hcp HCA
              have HC5 : Hid (Cw wb w.heap.size d (wp.alloc (Obj.cells #[.int .i64 v.k, .int .i64 v.n, .string v.s] 29))) := HCP.out.alloc _
              have ke5 : (wp.alloc (Obj.cells #[.int .i64 v.k, .int .i64 v.n, .string v.s] 29)).heap[wp.heap.size]? = some (Obj.cells #[.int .i64 v.k, .int .i64 v.n, .string v.s] 29) := blk_at _ _ _ rfl
              have hs5 : (wp.alloc (Obj.cells #[.int .i64 v.k, .int .i64 v.n, .string v.s] 29)).heap.size = wp.heap.size + 1 := by simp
              have hxs5 : (wp.alloc (Obj.cells #[.int .i64 v.k, .int .i64 v.n, .string v.s] 29)).ownsRow wb.heap.size 29 3 (.slice oa vs.length oc) vs.length xs := own_keep HXP.out fun b hb => al_same _ _ (own_blk HXP.out hb).2.1
              have hone : ∀ u ∈ ([.int .i64 v.k, .int .i64 v.n, .string v.s] : List Value), u.oneCell' = true := by
                intro u hu
                simp at hu
                rcases hu with rfl | rfl | rfl <;> rfl
              go_wp2_with (at_builtin; go_loud (refine wpList_append_row rfl _ _ 25 rfl wb.heap.size 29 i29 _ 3 32 Try.underlying25 hi29 hz290 hz291 hz292 rfl (by omega) (.slice oa vs.length oc) vs.length xs rfl hxs5 (some ⟨wp.heap.size, 0, none⟩) 1 1 [.int .i64 v.k, .int .i64 v.n, .string v.s] rfl rfl (fun _ => ⟨_, rfl, World.news_of_block ke5⟩) hone (by unfold maxLen; omega) (by omega) (by omega) ?_; intro v4 w4 hown4 hgr4 hat4))
              have HV4 : Hid (OwnV w4 wb.heap.size v4 (vs ++ [v])) := OwnV.push (w := w4) hxl HXV.out hown4
              have HC4 : Hid (Cw wb w.heap.size d w4) := Cw_grow HC5.out hgr4 fun k hk => (own_blk HXP.out hk).1
              clear hown4 hgr4 hat4 hxs5 ke5
              go_roundw
              case rel => exact ⟨vs ++ [v], by simp; omega, by simp, HV4.out, (fun u hu => by rcases List.mem_append.1 hu with hu | hu; exact HTV.out u hu; simp at hu; subst hu; exact HTI.out), HC4.out⟩
              case measure => simp [intOf]; omega
            | false =>
              have HCA : Hid (Calls Try.prog 20 #[.pointer (some ⟨w.heap.size, 0, none⟩), .slice (some ⟨wq.heap.size, 0, none⟩) 5 5] (wq.alloc (.cells #[.int .i64 0, .int .i64 3, .int .i64 (-5), .int .i64 1000, .int .i64 1000000] 3)) fun e W' => ∃ x, e = .returned (.int .i64 x) ∧ x ∈ [(0 : Int), 3, -5, 1000, 1000000] ∧ Cw wq w.heap.size d W') := pickI_cw [0, 3, -5, 1000, 1000000] wq _ d _ 5 wq (Cw_self HCQ.out.1 (by have := HCQ.out.2.1.size; omega)) rfl (by simp) (by simp) _ rfl
              go_wp2_with fail
              refine HCA.out.mono ?_
              rintro e wp ⟨i5, rfl, hi5, hcp⟩
              have hi6 : -1000000 ≤ i5 ∧ i5 ≤ 1000001 := by simp at hi5; omega
              have HTI : Hid ((⟨1, i5, ⟨#[]⟩⟩ : Val).tiny) := ⟨by show (-10 : Int) ≤ 1; omega, by show (1 : Int) ≤ 20; omega, hi6.1, hi6.2, by show (0 : Nat) ≤ 40; omega⟩
              have HCP : Hid (Cw wb w.heap.size d wp) := Cw_trans HCQ.out hcp
              have HXP : Hid (wp.ownsRow wb.heap.size 29 3 (.slice oa vs.length oc) vs.length xs) := own_keep HXQ.out fun b hb => hcp.2.1.block b (own_blk HXQ.out hb).2.1 fun e => by have : b = w.heap.size := Option.some.inj e; have := (own_blk HXQ.out hb).1; omega
              have hsp : wb.heap.size ≤ wp.heap.size := HCP.out.2.1.size
              clear hi5 hi6 hcp HCA
              have HC5 : Hid (Cw wb w.heap.size d (wp.alloc (Obj.cells #[.int .i64 1, .int .i64 i5, .string ⟨#[]⟩] 29))) := HCP.out.alloc _
              have ke5 : (wp.alloc (Obj.cells #[.int .i64 1, .int .i64 i5, .string ⟨#[]⟩] 29)).heap[wp.heap.size]? = some (Obj.cells #[.int .i64 1, .int .i64 i5, .string ⟨#[]⟩] 29) := blk_at _ _ _ rfl
              have hs5 : (wp.alloc (Obj.cells #[.int .i64 1, .int .i64 i5, .string ⟨#[]⟩] 29)).heap.size = wp.heap.size + 1 := by simp
              have hxs5 : (wp.alloc (Obj.cells #[.int .i64 1, .int .i64 i5, .string ⟨#[]⟩] 29)).ownsRow wb.heap.size 29 3 (.slice oa vs.length oc) vs.length xs := own_keep HXP.out fun b hb => al_same _ _ (own_blk HXP.out hb).2.1
              have hone : ∀ u ∈ ([.int .i64 1, .int .i64 i5, .string ⟨#[]⟩] : List Value), u.oneCell' = true := by
                intro u hu
                simp at hu
                rcases hu with rfl | rfl | rfl <;> rfl
              go_wp2_with (at_builtin; go_loud (refine wpList_append_row rfl _ _ 25 rfl wb.heap.size 29 i29 _ 3 32 Try.underlying25 hi29 hz290 hz291 hz292 rfl (by omega) (.slice oa vs.length oc) vs.length xs rfl hxs5 (some ⟨wp.heap.size, 0, none⟩) 1 1 [.int .i64 1, .int .i64 i5, .string ⟨#[]⟩] rfl rfl (fun _ => ⟨_, rfl, World.news_of_block ke5⟩) hone (by unfold maxLen; omega) (by omega) (by omega) ?_; intro v4 w4 hown4 hgr4 hat4))
              have HV4 : Hid (OwnV w4 wb.heap.size v4 (vs ++ [(⟨1, i5, ⟨#[]⟩⟩ : Val)])) := OwnV.push (w := w4) hxl HXV.out hown4
              have HC4 : Hid (Cw wb w.heap.size d w4) := Cw_grow HC5.out hgr4 fun k hk => (own_blk HXP.out hk).1
              clear hown4 hgr4 hat4 hxs5 ke5
              go_roundw
              case rel => exact ⟨vs ++ [(⟨1, i5, ⟨#[]⟩⟩ : Val)], by simp; omega, by simp, HV4.out, (fun u hu => by rcases List.mem_append.1 hu with hu | hu; exact HTV.out u hu; simp at hu; subst hu; exact HTI.out), HC4.out⟩
              case measure => simp [intOf]; omega
        · have HI : Hid (∀ w, Calls Try.prog 18 #[.int .i64 (vs.length : Nat), .int .i64 0, .int .i64 1] w fun e w' => e = .returned (.bool false) ∧ w' = w) := fun w => by
            have := l1In_any (vs.length : Nat) 0 1 w
            rwa [show (decide ((0 : Int) ≤ (vs.length : Nat)) && decide (((vs.length : Nat) : Int) ≤ 1)) = false by simp; omega] at this
          go_wp2_with fail
          refine (HI.out _).mono ?_
          rintro e w' ⟨rfl, rfl⟩
          clear HI
          have HCA : Hid (Calls Try.prog 21 #[.pointer (some ⟨w.heap.size, 0, none⟩), .slice ah h.length ch] w' fun e W' => VdPost w' w.heap.size d e W') := l6AnyVal_any _ d ah ch h _ (Cw_self HCR.out.1 (by have := HCR.out.2.1.size; omega)) (by omega) (HRH.out.keep HCR.out).kinds
          go_wp2_with fail
          refine HCA.out.mono ?_
          rintro e wp ⟨v, rfl, hv, hcp⟩
          have HTI : Hid v.tiny := hv
          have HCP : Hid (Cw wb w.heap.size d wp) := Cw_trans HCR.out hcp
          have HXP : Hid (wp.ownsRow wb.heap.size 29 3 (.slice oa vs.length oc) vs.length xs) := own_keep HXR.out fun b hb => hcp.2.1.block b (own_blk HXR.out hb).2.1 fun e => by have : b = w.heap.size := Option.some.inj e; have := (own_blk HXR.out hb).1; omega
          have hsp : wb.heap.size ≤ wp.heap.size := HCP.out.2.1.size
          clear hv hcp HCA
          have HC5 : Hid (Cw wb w.heap.size d (wp.alloc (Obj.cells #[.int .i64 v.k, .int .i64 v.n, .string v.s] 29))) := HCP.out.alloc _
          have ke5 : (wp.alloc (Obj.cells #[.int .i64 v.k, .int .i64 v.n, .string v.s] 29)).heap[wp.heap.size]? = some (Obj.cells #[.int .i64 v.k, .int .i64 v.n, .string v.s] 29) := blk_at _ _ _ rfl
          have hs5 : (wp.alloc (Obj.cells #[.int .i64 v.k, .int .i64 v.n, .string v.s] 29)).heap.size = wp.heap.size + 1 := by simp
          have hxs5 : (wp.alloc (Obj.cells #[.int .i64 v.k, .int .i64 v.n, .string v.s] 29)).ownsRow wb.heap.size 29 3 (.slice oa vs.length oc) vs.length xs := own_keep HXP.out fun b hb => al_same _ _ (own_blk HXP.out hb).2.1
          have hone : ∀ u ∈ ([.int .i64 v.k, .int .i64 v.n, .string v.s] : List Value), u.oneCell' = true := by
            intro u hu
            simp at hu
            rcases hu with rfl | rfl | rfl <;> rfl
          go_wp2_with (at_builtin; go_loud (refine wpList_append_row rfl _ _ 25 rfl wb.heap.size 29 i29 _ 3 32 Try.underlying25 hi29 hz290 hz291 hz292 rfl (by omega) (.slice oa vs.length oc) vs.length xs rfl hxs5 (some ⟨wp.heap.size, 0, none⟩) 1 1 [.int .i64 v.k, .int .i64 v.n, .string v.s] rfl rfl (fun _ => ⟨_, rfl, World.news_of_block ke5⟩) hone (by unfold maxLen; omega) (by omega) (by omega) ?_; intro v4 w4 hown4 hgr4 hat4))
          have HV4 : Hid (OwnV w4 wb.heap.size v4 (vs ++ [v])) := OwnV.push (w := w4) hxl HXV.out hown4
          have HC4 : Hid (Cw wb w.heap.size d w4) := Cw_grow HC5.out hgr4 fun k hk => (own_blk HXP.out hk).1
          clear hown4 hgr4 hat4 hxs5 ke5
          go_roundw
          case rel => exact ⟨vs ++ [v], by simp; omega, by simp, HV4.out, (fun u hu => by rcases List.mem_append.1 hu with hu | hu; exact HTV.out u hu; simp at hu; subst hu; exact HTI.out), HC4.out⟩
          case measure => simp [intOf]; omega
      · have HFIN : Hid (DpPost w (.returned (.tuple #[.slice ah h.length ch, .string s, .slice oa vs.length oc])) wr) := ⟨h, ah, ch, s, vs, oa, oc, rfl, hhl, hhc, HT3.out, hsz2, hvl, hoc, HTV.out, (HRH.out.keep HCR.out).row, HOV.out.row.keep fun b hb => ⟨(HOV.out.blk hb).2.1, rfl⟩, cw_below HB1.out (Cw_trans HCW.out HCR.out)⟩
        go_wp2
        go_ret3
        exact HFIN.out
end Go.Proofs.Ytngelfohpkpekaa
