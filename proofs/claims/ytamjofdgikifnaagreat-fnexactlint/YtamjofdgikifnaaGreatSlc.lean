/- Loops over names: one is there twice, all are names, each is one of others; right types. The model: a name that is there twice; too many; alike names. -/
import Derived.Test.YtamjofdgikifnaaGreatSla
import Derived.Deep.RegionWith
set_option linter.unusedVariables false
namespace Go.Proofs.YtamjofdgikifnaaGreat
open Go.ChangeShapes Go.WideShapes Go.ChangeAt Go.RowKit
set_option maxRecDepth 100000 in
set_option maxHeartbeats 1000000 in
theorem l11All_any (a : Option Addr) (ts : List ByteArray) (cap : Nat) (w : World) (hn : ts.length ≤ 1048576) (hr : RowS w w.heap.size a ts) (hsz : ∀ x ∈ ts, x.size ≤ 1048576) :
  Calls Tryz.prog 55 #[.slice a ts.length cap] w fun e w' => Ans w (.bool (ts.all nB)) e w' := by
 have HR : Hid (RowS w w.heap.size a ts) := hr
 have HS : Hid (∀ x ∈ ts, x.size ≤ 1048576) := hsz
 clear hr hsz
 go_enter Tryz.func55, Tryz.ntmps55
 go_wp2
 go_loopw [3] (fun o wr => ∃ (i : Nat), i ≤ ts.length ∧ o = .int .i64 i ∧ (ts.take i).all nB = true ∧ Below w.heap.size w wr)
  (fun o _ => ts.length - (intOf o).toNat)
 case atStart => exact ⟨0, by omega, rfl, rfl, Below.refl _ _⟩
 case round =>
  obtain ⟨i, hi, rfl, hno, hb⟩ := hrel
  by_cases hlt : i < ts.length
  ·obtain ⟨d, hd⟩ : ∃ d, ts[i]? = some d := ⟨_, List.getElem?_eq_getElem hlt⟩
   obtain ⟨b1, o1, rfl, hbb, c0⟩ := (HR.out.below hb) i d hd
   have hsz0 := hb.size
   have HN : Hid (∀ w, Calls Tryz.prog 51 #[.string d] w fun e w' => Ans w (.bool (nB d)) e w') := fun w => specNa_any d w (HS.out d (List.mem_of_getElem? hd))
   cases hna : nB d
   ·have HQ : Hid (ts.all nB = false) := all_of_bad _ hd hna
    rw [hna] at HN
    clear hno hna
    go_wp2_with (go_at_call 51; refine (HN.out _).mono ?_; rintro e w2 ⟨rfl, hb2⟩)
    go_ret
    exact ⟨by rw [HQ.out]; rfl, hb.trans (hb2.mono hsz0)⟩
   ·have HQ : Hid ((ts.take (i + 1)).all nB = true) := by show _ = _; rw [all_take_succ _ hd, hno, hna]; rfl
    rw [hna] at HN
    clear hno hna
    go_wp2_with (go_at_call 51; refine (HN.out _).mono ?_; rintro e w2 ⟨rfl, hb2⟩)
    go_roundw
    case rel => exact ⟨i + 1, by omega, by go_num, HQ.out, hb.trans (hb2.mono hsz0)⟩
    case measure => simp [intOf]; omega
  ·have hlt' : decide ((i : Int) < (ts.length : Int)) = false := by simp; omega
   obtain rfl : i = ts.length := by omega
   rw [List.take_length] at hno
   have HQ : Hid (ts.all nB = true) := hno
   clear hno
   go_wp2
   go_ret
   exact ⟨by rw [HQ.out]; rfl, hb⟩
set_option maxRecDepth 100000 in
set_option maxHeartbeats 1000000 in
theorem amongAll_any (a c : Option Addr) (ts us : List ByteArray) (ca cc : Nat) (w : World) (hn : ts.length ≤ 1048576) (hr : RowS w w.heap.size a ts) (hm : us.length ≤ 1048576) (hu : RowS w w.heap.size c us) :
  Calls Tryz.prog 91 #[.slice a ts.length ca, .slice c us.length cc] w fun e w' => Ans w (.bool (ts.all (hasS us))) e w' := by
 have HR : Hid (RowS w w.heap.size a ts) := hr
 have HU : Hid (RowS w w.heap.size c us) := hu
 clear hr hu
 go_enter Tryz.func91, Tryz.ntmps91
 go_wp2
 go_loopw [9] (fun o wr => ∃ (i : Nat), i ≤ ts.length ∧ o = .int .i64 i ∧ (ts.take i).all (hasS us) = true ∧ Below w.heap.size w wr)
  (fun o _ => ts.length - (intOf o).toNat)
 case atStart => exact ⟨0, by omega, rfl, rfl, Below.refl _ _⟩
 case round =>
  obtain ⟨i, hi, rfl, hno, hb⟩ := hrel
  by_cases hlt : i < ts.length
  ·obtain ⟨d, hd⟩ : ∃ d, ts[i]? = some d := ⟨_, List.getElem?_eq_getElem hlt⟩
   obtain ⟨b1, o1, rfl, hbb, c0⟩ := (HR.out.below hb) i d hd
   have hsz0 := hb.size
   have HN : Hid (Calls Tryz.prog 71 #[.slice c us.length cc, .string d] wr fun e w' => Ans wr (.bool (hasS us d)) e w') := containsS_any c us cc d wr hm ((HU.out.below hb).mono hsz0)
   cases hna : hasS us d
   ·have HQ : Hid (ts.all (hasS us) = false) := all_of_bad _ hd hna
    rw [hna] at HN
    clear hno hna
    go_wp2_with (go_at_call 71; refine HN.out.mono ?_; rintro e w2 ⟨rfl, hb2⟩)
    go_ret
    exact ⟨by rw [HQ.out]; rfl, hb.trans (hb2.mono hsz0)⟩
   ·have HQ : Hid ((ts.take (i + 1)).all (hasS us) = true) := by show _ = _; rw [all_take_succ _ hd, hno, hna]; rfl
    rw [hna] at HN
    clear hno hna
    go_wp2_with (go_at_call 71; refine HN.out.mono ?_; rintro e w2 ⟨rfl, hb2⟩)
    go_roundw
    case rel => exact ⟨i + 1, by omega, by go_num, HQ.out, hb.trans (hb2.mono hsz0)⟩
    case measure => simp [intOf]; omega
  ·have hlt' : decide ((i : Int) < (ts.length : Int)) = false := by simp; omega
   obtain rfl : i = ts.length := by omega
   rw [List.take_length] at hno
   have HQ : Hid (ts.all (hasS us) = true) := hno
   clear hno
   go_wp2
   go_ret
   exact ⟨by rw [HQ.out]; rfl, hb⟩
set_option maxRecDepth 100000 in
set_option maxHeartbeats 1000000 in
theorem typesOk_any (a : Option Addr) (l : List Typ) (ca : Nat) (w : World) (hn : l.length ≤ 1048576) (hs : ∀ d ∈ l, Typ.small d) (hr : rgT.Row w (fun b => b < w.heap.size) a l) :
  Calls Tryz.prog 90 #[.slice a l.length ca] w fun e w' => Ans w (.bool (l.all Typ.ok && nmA (l.map (·.name)))) e w' := by
 have HR : Hid (rgT.Row w (fun b => b < w.heap.size) a l) := hr
 have HS : Hid (∀ d ∈ l, Typ.small d) := hs
 clear hr hs
 go_enter Tryz.func90, Tryz.ntmps90
 go_wp2
 go_loopw [7] (fun o wr => ∃ i : Nat, i ≤ l.length ∧ o = .int .i64 i ∧ (l.take i).all Typ.ok = true ∧ Below w.heap.size w wr)
  (fun o _ => l.length - (intOf o).toNat)
 case atStart => exact ⟨0, by omega, rfl, rfl, Below.refl _ _⟩
 case round =>
  obtain ⟨i, hi, rfl, hall, hb⟩ := hrel
  by_cases hlt : i < l.length
  ·obtain ⟨d, hd⟩ : ∃ d, l[i]? = some d := ⟨_, List.getElem?_eq_getElem hlt⟩
   obtain ⟨b1, o1, cs, rfl, hbb, rfl, hl⟩ := (HR.out.below hb) i d hd
   have y0 : wr.cell? ⟨b1, o1 + i * 2, none⟩ = some (.string d.name) := hl 0 _ rfl
   have y1 : wr.cell? ⟨b1, o1 + i * 2 + 1, none⟩ = some (.int .i64 d.size) := hl 1 _ rfl
   have hbA : Below w.heap.size w (wr.alloc (Obj.cells #[.string d.name, .int .i64 d.size] 77)) := hb.alloc hb.size _
   have HD : Hid (l[i]? = some d) := hd
   have HA : Hid ((l.take i).all Typ.ok = true) := hall
   clear hd hall hl
   have bad : d.ok = false → Hid ((l.all Typ.ok && nmA (l.map (·.name))) = false) := fun h => by show _ = _; rw [all_of_bad _ HD.out h]; rfl
   by_cases h1 : d.size < 0
   ·have HQ := bad (by unfold Typ.ok; simp; omega)
    have g1 : decide (d.size < 0) = true := decide_eq_true h1
    clear bad
    go_wp2
    go_ret
    exact ⟨by rw [HQ.out]; rfl, hbA⟩
   ·have g1 : decide (d.size < 0) = false := decide_eq_false h1
    by_cases h2 : 8 < d.size
    ·have HQ := bad (by unfold Typ.ok; simp; omega)
     have g2 : decide (8 < d.size) = true := decide_eq_true h2
     clear bad
     go_wp2
     go_ret
     exact ⟨by rw [HQ.out]; rfl, hbA⟩
    ·have g2 : decide (8 < d.size) = false := decide_eq_false h2
     have HQ : Hid ((l.take (i + 1)).all Typ.ok = true) := by
      show _ = _
      rw [all_take_succ _ HD.out, HA.out]
      unfold Typ.ok
      simp
      omega
     clear bad
     go_wp2
     go_roundw
     case rel => exact ⟨i + 1, by omega, by go_num, HQ.out, hbA⟩
     case measure => simp [intOf]; omega
  ·obtain rfl : i = l.length := by omega
   rw [List.take_length] at hall
   have hlt' : decide ((l.length : Int) < (l.length : Int)) = false := by simp
   have HQ : Hid ((l.all Typ.ok && nmA (l.map (·.name))) = nmA (l.map (·.name))) := by show _ = _; rw [hall]; rfl
   clear hall
   have HT : Hid (Calls Tryz.prog 77 #[.slice a l.length ca] wr fun e w' => NmPost (l.map (·.name)) wr e w') := typeNames_any a l ca wr hn (HR.out.now (B := 0) hb)
   have hsl : (l.map (fun t : Typ => t.name)).length ≤ 1048576 := by rw [List.length_map]; omega
   have hsm : ∀ x ∈ l.map (fun t : Typ => t.name), x.size ≤ 1048576 := fun x hx => by
    obtain ⟨t, ht, rfl⟩ := List.mem_map.1 hx
    exact (HS.out t ht).1
   go_wp2_with fail
   refine HT.out.mono ?_
   rintro e w1 ⟨oa, oc, rfl, hoc, hown, hb1⟩
   have HN : Hid (Calls Tryz.prog 89 #[.slice oa (l.map (·.name)).length oc] w1 fun e w' => Ans w1 (.bool (nmA (l.map (·.name)))) e w') := namesOk_any oa _ oc w1 hsl hoc hown.rowS hsm
   clear hown hsm hoc
   generalize hls : l.map (fun t : Typ => t.name) = ls at *
   have HLS : Hid (l.map (fun t : Typ => t.name) = ls) := hls
   clear hls
   go_wp2_with fail
   refine HN.out.mono ?_
   rintro e w2 ⟨rfl, hb2⟩
   go_wp2
   go_ret
   exact ⟨by rw [HLS.out, HQ.out]; rfl, (hb.trans (hb1.mono hb.size)).trans (hb2.mono (by have := hb.size; have := hb1.size; omega))⟩
end Go.Proofs.YtamjofdgikifnaaGreat
set_option linter.unusedVariables false
namespace Go.Proofs.YtamjofdgikifnaaGreat
open Go.ChangeShapes Go.WideShapes Go.ChangeAt Go.RowKit
set_option maxRecDepth 100000 in
set_option maxHeartbeats 1000000 in
theorem l11Twice_any (a : Option Addr) (ts : List ByteArray) (cap : Nat) (w : World) (hn : ts.length ≤ 1048576) (hcap : ts.length ≤ cap) (hr : RowS w w.heap.size a ts) :
  Calls Tryz.prog 83 #[.slice a ts.length cap] w fun e w' => Ans w (.bool (twA ts)) e w' := by
 have HR : Hid (RowS w w.heap.size a ts) := hr
 clear hr
 go_enter Tryz.func83, Tryz.ntmps83
 go_wp2
 go_loopw [3] (fun o wr => ∃ (i : Nat), i ≤ ts.length ∧ o = .int .i64 i ∧ twB ts i = false ∧ Below w.heap.size w wr)
  (fun o _ => ts.length - (intOf o).toNat)
 case atStart => exact ⟨0, by omega, rfl, rfl, Below.refl _ _⟩
 case round =>
  obtain ⟨i, hi, rfl, hno, hb⟩ := hrel
  by_cases hlt : i < ts.length
  ·obtain ⟨d, hd⟩ : ∃ d, ts[i]? = some d := ⟨_, List.getElem?_eq_getElem hlt⟩
   have hrow := (HR.out.below hb)
   obtain ⟨b1, o1, rfl, hbb, c0⟩ := hrow i d hd
   have hsz0 := hb.size
   have HI : Hid (∀ n, Calls Tryz.prog 27 #[.slice (some ⟨b1, o1, none⟩) i cap, .string d] (wr.drewN n) fun e w' => Ans (wr.drewN n) (.bool (hasS (ts.take i) d)) e w') := fun n => by
    have := l3In_any (some ⟨b1, o1, none⟩) (ts.take i) cap d (wr.drewN n) (by rw [List.length_take]; omega) ((hrow.take i).mono hsz0)
    rwa [List.length_take, Nat.min_eq_left (by omega)] at this
   clear hrow
   have hq : (i : Int) ≤ (cap : Int) := by omega
   have g1 : decide ((i : Int) < (ts.length : Int)) = true := by simp; omega
   cases hna : hasS (ts.take i) d
   ·have HQ : Hid (twB ts (i + 1) = false) := by show _ = _; rw [twB_step hd, hno, hna]; rfl
    rw [hna] at HI
    clear hno hna hd
    go_wp2_with fail
    go_region_with (go_at_call 27; refine (HI.out 1).mono ?_; rintro e w2 ⟨rfl, hb2⟩)
    all_goals
     have hb2 : Below wr.heap.size wr w2 := ⟨hb2.os, hb2.tape, hb2.output, hb2.size, hb2.block⟩
     go_wp2
     go_roundw
     case rel => exact ⟨i + 1, by omega, by go_num, HQ.out, hb.trans (hb2.mono hsz0)⟩
     case measure => simp [intOf]; omega
   ·have HQ : Hid (twA ts = true) := twA_true hd hna
    rw [hna] at HI
    clear hno hna hd
    go_wp2_with fail
    go_region_with (go_at_call 27; refine (HI.out 1).mono ?_; rintro e w2 ⟨rfl, hb2⟩)
    all_goals
     have hb2 : Below wr.heap.size wr w2 := ⟨hb2.os, hb2.tape, hb2.output, hb2.size, hb2.block⟩
     go_wp2
     go_ret
     exact ⟨by rw [HQ.out]; rfl, hb.trans (hb2.mono hsz0)⟩
  ·have hlt' : decide ((i : Int) < (ts.length : Int)) = false := by simp; omega
   obtain rfl : i = ts.length := by omega
   have HQ : Hid (twA ts = false) := hno
   clear hno
   go_wp2
   go_ret
   exact ⟨by rw [HQ.out]; rfl, hb⟩
end Go.Proofs.YtamjofdgikifnaaGreat
