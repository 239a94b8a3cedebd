/- Is a library right? The model's way. -/
import Derived.Test.YtlacidojljilaaaGreatDoorSsa
import Derived.Test.YtlacidojljilaaaGreatDoorHoy
import Derived.Deep.DeepCutAuto
set_option linter.unusedVariables false
set_option maxRecDepth 100000
set_option maxHeartbeats 8000000
namespace Go.Proofs.YtlacidojljilaaaGreatDoor
open Go.ChangeShapes Go.WideShapes Go.ChangeAt Go.RowKit
theorem Ins.ok_iff {h : List Cel} {ni i : Nat} {x : Ins} : x.ok h ni i = true ↔ (x.hd i = true ∧ (decide (x.names.length ≤ 30) && nmA x.names) = true ∧ x.vals.length = x.names.length ∧ x.links.length ≤ 30 ∧ x.types.length ≤ 8 ∧ x.vals.all (Val.okz h) = true ∧ nmA x.lns = true ∧ x.links.all (Lnk.ok ni) = true ∧ x.types.all Typ.ok = true ∧ nmA x.tns = true) := by
 have hp : nmA x.lns = true → nmA x.names = true := nmA_pre
 unfold Ins.ok Ins.cont Ins.vok
 simp only [Bool.and_eq_true, decide_eq_true_eq]
 constructor
 ·rintro ⟨h1, ⟨⟨⟨⟨⟨h2, h3⟩, h4⟩, h5⟩, h6, h7⟩, h8⟩, h9, h10⟩
  exact ⟨h1, ⟨h2, hp h5⟩, h6, h3, h4, h7, h5, h8, h9, h10⟩
 ·rintro ⟨h1, ⟨h2, _⟩, h6, h3, h4, h7, h5, h8, h9, h10⟩
  exact ⟨h1, ⟨⟨⟨⟨⟨h2, h3⟩, h4⟩, h5⟩, h6, h7⟩, h8⟩, h9, h10⟩
theorem Ins.ok_eq {h : List Cel} {ni i : Nat} {x : Ins} : x.ok h ni i = ((x.hd i && (decide (x.names.length ≤ 30) && nmA x.names) && decide (x.vals.length = x.names.length) && decide (x.links.length ≤ 30) && decide (x.types.length ≤ 8)) && x.vals.all (Val.okz h) && (nmA x.lns && x.links.all (Lnk.ok ni)) && (x.types.all Typ.ok && nmA x.tns)) := by
 rw [Bool.eq_iff_iff, Ins.ok_iff]
 simp only [Bool.and_eq_true, decide_eq_true_eq]
 constructor
 ·rintro ⟨h1, h2, h3, h4, h5, h6, h7, h8, h9, h10⟩
  exact ⟨⟨⟨⟨⟨⟨⟨h1, h2⟩, h3⟩, h4⟩, h5⟩, h6⟩, h7, h8⟩, h9, h10⟩
 ·rintro ⟨⟨⟨⟨⟨⟨⟨h1, h2⟩, h3⟩, h4⟩, h5⟩, h6⟩, h7, h8⟩, h9, h10⟩
  exact ⟨h1, h2, h3, h4, h5, h6, h7, h8, h9, h10⟩
theorem neq_zero39 {v : Val} (h : v.zero = false) (w : World) : (binOp .neq 44 (.agg #[.int .i64 v.k, .int .i64 v.n, .string v.s]) (.agg #[.int .i64 0, .int .i64 0, .string ⟨#[]⟩])).run Tryz.prog w = .ok (.bool true) w := by
 unfold Val.zero at h
 simp only [Bool.and_eq_false_iff, decide_eq_false_iff_not] at h
 simp [go_sem]
 intro h1 h2 h3
 simp [h1, h2, h3] at h
theorem eq_zero39 {v : Val} (h : v.zero = true) (w : World) : (binOp .neq 44 (.agg #[.int .i64 v.k, .int .i64 v.n, .string v.s]) (.agg #[.int .i64 0, .int .i64 0, .string ⟨#[]⟩])).run Tryz.prog w = .ok (.bool false) w := by
 unfold Val.zero at h
 simp at h
 obtain ⟨⟨h1, h2⟩, h3⟩ := h
 simp [go_sem, h1, h2, h3]
theorem specInst_any (y : Sy) (y1 y2 y3 y4 : Option Addr) (d1 d2 d3 d4 : Nat) (i : Nat) (x : Ins) (w : World) (hx : y.insts[i]? = some x) (hs : y.small) (hr : SyRows w (fun b => b < w.heap.size) y1 y2 y3 y4 d1 d2 d3 d4 y) :
  Calls Tryz.prog 71 #[.agg #[.slice y1 y.heap.length d1, .slice y2 y.insts.length d2, .slice y3 y.units.length d3, .slice y4 y.out.length d4], .int .i64 i] w fun e w' => Ans w (.bool (x.ok y.heap y.insts.length i)) e w' := by
 have hlt : i < y.insts.length := (List.getElem?_eq_some_iff.1 hx).1
 obtain ⟨⟨s1, s1'⟩, ⟨s2, s2'⟩, _⟩ := hs
 obtain ⟨⟨r1, t1⟩, ⟨r2, t2⟩, _⟩ := hr
 obtain ⟨b1, o1, cs, rfl, hbb, ⟨a1, a2, a3, a4, c1, c2, c3, c4, rfl, hrows⟩, hl⟩ := r2 i x hx
 have x0 : w.cell? ⟨b1, o1 + i * 6, none⟩ = some (.string x.lib) := hl 0 _ rfl
 have x1 : w.cell? ⟨b1, o1 + i * 6 + 1, none⟩ = some (.int .i64 x.ver) := hl 1 _ rfl
 have x2 : w.cell? ⟨b1, o1 + i * 6 + 2, none⟩ = some (.slice a1 x.names.length c1) := hl 2 _ rfl
 have x3 : w.cell? ⟨b1, o1 + i * 6 + 3, none⟩ = some (.slice a2 x.vals.length c2) := hl 3 _ rfl
 have x4 : w.cell? ⟨b1, o1 + i * 6 + 4, none⟩ = some (.slice a3 x.links.length c3) := hl 4 _ rfl
 have x5 : w.cell? ⟨b1, o1 + i * 6 + 5, none⟩ = some (.slice a4 x.types.length c4) := hl 5 _ rfl
 obtain ⟨n0, n1, ⟨n2, n2'⟩, ⟨n3, n3'⟩, ⟨n4, n4'⟩, ⟨n5, n5'⟩⟩ := s2' x (List.mem_of_getElem? hx)
 obtain ⟨⟨q1, u1⟩, ⟨q2, u2⟩, ⟨q3, u3⟩, ⟨q4, u4⟩⟩ := hrows
 have HN : Hid (∀ w1, Calls Tryz.prog 73 #[.string x.lib] w1 fun e w' => Ans w1 (.bool (naL x.lib.toList)) e w') := fun w1 => specNa_any x.lib w1 n0
 have HL3 : Hid (∀ w1, Below w.heap.size w w1 → Calls Tryz.prog 102 #[.slice a1 x.names.length c1, .int .i64 30] w1 fun e w' => Ans w1 (.bool (decide (x.names.length ≤ 30) && nmA x.names)) e w') := fun w1 h1 => l3Names30_any a1 x.names c1 w1 n2 u1 (rowS_iff.1 (q1.now (B := 0) h1)) n2'
 have HVAL : Hid (∀ (v : Val) (w1 : World), v ∈ x.vals → Below w.heap.size w w1 → Calls Tryz.prog 48 #[.slice y1 y.heap.length d1, .agg #[.int .i64 v.k, .int .i64 v.n, .string v.s]] w1 fun e w' => Ans w1 (.bool (v.ok y.heap)) e w') := fun v w1 hv h1 => specVal_any v y1 y.heap d1 w1 s1 (n3' v hv).2.2 (rowC_iff.1 (r1.now (B := 0) h1))
 have HNA : Hid (∀ (s : ByteArray) (w1 : World), s.size ≤ 1048576 → Calls Tryz.prog 73 #[.string s] w1 fun e w' => Ans w1 (.bool (naL s.toList)) e w') := fun s w1 h => specNa_any s w1 h
 have H21 : Hid (∀ (z lo hi : Int) (w1 : World), Calls Tryz.prog 44 #[.int .i64 z, .int .i64 lo, .int .i64 hi] w1 fun e w' => e = .returned (.bool (decide (lo ≤ z) && decide (z ≤ hi))) ∧ w' = w1) := fun z lo hi w1 => l1In_any z lo hi w1
 have RN : Hid (rgS.Row w (fun b => b < w.heap.size) a1 x.names) := q1
 have RV : Hid (rgV.Row w (fun b => b < w.heap.size) a2 x.vals) := q2
 have RL : Hid (rgL.Row w (fun b => b < w.heap.size) a3 x.links) := q3
 have RT : Hid (rgT.Row w (fun b => b < w.heap.size) a4 x.types) := q4
 have SL : Hid (∀ d ∈ x.links, Lnk.small d) := n4'
 have STy : Hid (∀ d ∈ x.types, Typ.small d) := n5'
 have hb0 : Below w.heap.size w ((w.alloc (Obj.cells #[.slice y1 y.heap.length d1, .slice (some ⟨b1, o1, none⟩) y.insts.length d2, .slice y3 y.units.length d3, .slice y4 y.out.length d4] 41)).alloc (Obj.cells #[.string x.lib, .int .i64 x.ver, .slice a1 x.names.length c1, .slice a2 x.vals.length c2, .slice a3 x.links.length c3, .slice a4 x.types.length c4] 112)) := (bR _ _).alloc (by simp) _
 have kY : ((w.alloc (Obj.cells #[.slice y1 y.heap.length d1, .slice (some ⟨b1, o1, none⟩) y.insts.length d2, .slice y3 y.units.length d3, .slice y4 y.out.length d4] 41)).alloc (Obj.cells #[.string x.lib, .int .i64 x.ver, .slice a1 x.names.length c1, .slice a2 x.vals.length c2, .slice a3 x.links.length c3, .slice a4 x.types.length c4] 112)).heap[w.heap.size]? = some (Obj.cells #[.slice y1 y.heap.length d1, .slice (some ⟨b1, o1, none⟩) y.insts.length d2, .slice y3 y.units.length d3, .slice y4 y.out.length d4] 41) := blk_past (blk_at _ _ _ rfl)
 have kX : ((w.alloc (Obj.cells #[.slice y1 y.heap.length d1, .slice (some ⟨b1, o1, none⟩) y.insts.length d2, .slice y3 y.units.length d3, .slice y4 y.out.length d4] 41)).alloc (Obj.cells #[.string x.lib, .int .i64 x.ver, .slice a1 x.names.length c1, .slice a2 x.vals.length c2, .slice a3 x.links.length c3, .slice a4 x.types.length c4] 112)).heap[w.heap.size + 1]? = some (Obj.cells #[.string x.lib, .int .i64 x.ver, .slice a1 x.names.length c1, .slice a2 x.vals.length c2, .slice a3 x.links.length c3, .slice a4 x.types.length c4] 112) := blk_at _ _ _ (by simp)
 obtain ⟨i9, hi9, hz90, hz91, hz92⟩ := info_parts Tryz.inf9
 clear hl q1 q2 q3 q4 r1 r2 s1' s2' n2' n3' n4' n5' hx
 go_enter Tryz.func71, Tryz.ntmps71
 go_upto_region 2 with fail
 go_cut [71] (fun c wx => c = .bool (!(x.hd i && (decide (x.names.length ≤ 30) && nmA x.names) && decide (x.vals.length = x.names.length) && decide (x.links.length ≤ 30) && decide (x.types.length ≤ 8))) ∧ Below w.heap.size w wx ∧ wx.heap[w.heap.size]? = some (Obj.cells #[.slice y1 y.heap.length d1, .slice (some ⟨b1, o1, none⟩) y.insts.length d2, .slice y3 y.units.length d3, .slice y4 y.out.length d4] 41) ∧ wx.heap[w.heap.size + 1]? = some (Obj.cells #[.string x.lib, .int .i64 x.ver, .slice a1 x.names.length c1, .slice a2 x.vals.length c2, .slice a3 x.links.length c3, .slice a4 x.types.length c4] 112))
 case first =>
  by_cases hi0 : i = 0
  ·subst hi0
   have HH : Hid (x.hd 0 = ((x.lib.toList == []) && decide (x.ver = 0))) := rfl
   cases h1 : (x.lib.toList == [])
   ·have HM : Hid ((x.hd 0 && (decide (x.names.length ≤ 30) && nmA x.names) && decide (x.vals.length = x.names.length) && decide (x.links.length ≤ 30) && decide (x.types.length ≤ 8)) = false) := by show _ = _; rw [HH.out, h1]; rfl
    go_wp2
    go_meet
    exact ⟨by rw [HM.out]; rfl, hb0, kY, kX⟩
   ·by_cases h2 : x.ver = 0
    ·obtain ⟨lib, ver, names, vals, links, types⟩ := x
     simp only at h2
     subst h2
     have HHD : Hid (Ins.hd 0 ⟨lib, 0, names, vals, links, types⟩ = true) := by show _ = _; rw [HH.out, h1]; rfl
     simp only at *
     go_wp2_with fail
     refine (HL3.out _ hb0).mono ?_
     rintro e v9 ⟨rfl, hv⟩
     have hb9 : Below w.heap.size w v9 := bT hb0 hv
     have kY9 := bK kY hv
     have kX9 := bK kX hv
     clear hv
     obtain ⟨z0, z1, z2, z3, z4, z5⟩ := zn6 kX9 rfl rfl rfl rfl rfl rfl
     have KY9 : Hid (v9.heap[w.heap.size]? = some (Obj.cells #[.slice y1 y.heap.length d1, .slice (some ⟨b1, o1, none⟩) y.insts.length d2, .slice y3 y.units.length d3, .slice y4 y.out.length d4] 41)) := kY9
     have KX9 : Hid (v9.heap[w.heap.size + 1]? = some (Obj.cells #[.string lib, .int .i64 0, .slice a1 names.length c1, .slice a2 vals.length c2, .slice a3 links.length c3, .slice a4 types.length c4] 112)) := kX9
     have HB9 : Hid (Below w.heap.size w v9) := hb9
     clear kY9 kX9 hb9 hb0 kX kY HL3 x0 x1 x2 x3 x4 x5
     cases hnm : (decide (names.length ≤ 30) && nmA names)
     ·have HM : Hid ((Ins.hd 0 ⟨lib, 0, names, vals, links, types⟩ && (decide (names.length ≤ 30) && nmA names) && decide (vals.length = names.length) && decide (links.length ≤ 30) && decide (types.length ≤ 8)) = false) := by show _ = _; rw [HHD.out, hnm]; rfl
      clear hnm
      go_wp2
      go_meet
      exact ⟨by rw [HM.out]; rfl, HB9.out, KY9.out, KX9.out⟩
     ·by_cases h3 : vals.length = names.length
      ·have g3 : ((vals.length : Int) == (names.length : Int)) = true := beq_iff_eq.2 (by omega)
       have g3n : ((vals.length : Int) != (names.length : Int)) = false := by simp [bne, g3]
       have HM : Hid ((Ins.hd 0 ⟨lib, 0, names, vals, links, types⟩ && (decide (names.length ≤ 30) && nmA names) && decide (vals.length = names.length) && decide (links.length ≤ 30) && decide (types.length ≤ 8)) = (decide (links.length ≤ 30) && decide (types.length ≤ 8))) := by show _ = _; rw [HHD.out, hnm, decide_eq_true h3]; rfl
       clear hnm h3
       by_cases h4 : links.length ≤ 30
       ·have g4 : decide ((30 : Int) < (links.length : Int)) = false := by simp; omega
        by_cases h5 : types.length ≤ 8
        ·have g5 : decide ((8 : Int) < (types.length : Int)) = false := by simp; omega
         go_wp2
         go_meet
         exact ⟨by rw [HM.out, decide_eq_true h4, decide_eq_true h5]; rfl, HB9.out, KY9.out, KX9.out⟩
        ·have g5 : decide ((8 : Int) < (types.length : Int)) = true := by simp; omega
         go_wp2
         go_meet
         exact ⟨by rw [HM.out, decide_eq_true h4, decide_eq_false h5]; rfl, HB9.out, KY9.out, KX9.out⟩
       ·have g4 : decide ((30 : Int) < (links.length : Int)) = true := by simp; omega
        go_wp2
        go_meet
        exact ⟨by rw [HM.out, decide_eq_false h4]; rfl, HB9.out, KY9.out, KX9.out⟩
      ·have g3 : ((vals.length : Int) == (names.length : Int)) = false := beq_eq_false_iff_ne.2 (by omega)
       have g3n : ((vals.length : Int) != (names.length : Int)) = true := by simp [bne, g3]
       have HM : Hid ((Ins.hd 0 ⟨lib, 0, names, vals, links, types⟩ && (decide (names.length ≤ 30) && nmA names) && decide (vals.length = names.length) && decide (links.length ≤ 30) && decide (types.length ≤ 8)) = false) := by show _ = _; rw [HHD.out, hnm, decide_eq_false h3]; rfl
       clear hnm
       go_wp2
       go_meet
       exact ⟨by rw [HM.out]; rfl, HB9.out, KY9.out, KX9.out⟩
    ·have g2 : (x.ver == 0) = false := beq_eq_false_iff_ne.2 h2
     have HM : Hid ((x.hd 0 && (decide (x.names.length ≤ 30) && nmA x.names) && decide (x.vals.length = x.names.length) && decide (x.links.length ≤ 30) && decide (x.types.length ≤ 8)) = false) := by show _ = _; rw [HH.out, h1, decide_eq_false h2]; rfl
     go_wp2
     go_meet
     exact ⟨by rw [HM.out]; rfl, hb0, kY, kX⟩
  ·have hp : 0 < i := by omega
   have gp : decide (0 < i) = true := decide_eq_true hp
   have gz : ((i : Int) == 0) = false := beq_eq_false_iff_ne.2 (by omega)
   have HH : Hid (x.hd i = (naL x.lib.toList && decide (1 ≤ x.ver) && decide (x.ver ≤ 1000))) := if_neg hi0
   go_wp2_with fail
   refine (HN.out _).mono ?_
   rintro e v1 ⟨rfl, hv⟩
   have hb1 : Below w.heap.size w v1 := bT hb0 hv
   have kY := bK kY hv
   have kX := bK kX hv
   clear hv hb0
   cases h1 : naL x.lib.toList
   ·have HM : Hid ((x.hd i && (decide (x.names.length ≤ 30) && nmA x.names) && decide (x.vals.length = x.names.length) && decide (x.links.length ≤ 30) && decide (x.types.length ≤ 8)) = false) := by show _ = _; rw [HH.out, h1]; rfl
    clear h1
    go_wp2
    go_meet
    exact ⟨by rw [HM.out]; rfl, hb1, kY, kX⟩
   ·obtain ⟨q1, q2⟩ := zj2 1 2 kX rfl rfl
    have hb0 := hb1
    go_wp2_with fail
    refine (H21.out _ _ _ _).mono ?_
    rintro e v2 ⟨rfl, rfl⟩
    cases h2 : (decide (1 ≤ x.ver) && decide (x.ver ≤ 1000))
    ·have HM : Hid ((x.hd i && (decide (x.names.length ≤ 30) && nmA x.names) && decide (x.vals.length = x.names.length) && decide (x.links.length ≤ 30) && decide (x.types.length ≤ 8)) = false) := by show _ = _; rw [HH.out, h1, Bool.true_and, h2]; rfl
     clear h1 h2
     go_wp2
     go_meet
     exact ⟨by rw [HM.out]; rfl, hb1, kY, kX⟩
    ·have HHD : Hid (x.hd i = true) := by show _ = _; rw [HH.out, h1, Bool.true_and, h2]
     clear h1 h2 HH
     go_wp2_with fail
     refine (HL3.out _ hb1).mono ?_
     rintro e v9 ⟨rfl, hv⟩
     have hb9 : Below w.heap.size w v9 := bT hb1 hv
     have kY9 := bK kY hv
     have kX9 := bK kX hv
     clear hv
     obtain ⟨z0, z1, z2, z3, z4, z5⟩ := zn6 kX9 rfl rfl rfl rfl rfl rfl
     have KY9 : Hid (v9.heap[w.heap.size]? = some (Obj.cells #[.slice y1 y.heap.length d1, .slice (some ⟨b1, o1, none⟩) y.insts.length d2, .slice y3 y.units.length d3, .slice y4 y.out.length d4] 41)) := kY9
     have KX9 : Hid (v9.heap[w.heap.size + 1]? = some (Obj.cells #[.string x.lib, .int .i64 x.ver, .slice a1 x.names.length c1, .slice a2 x.vals.length c2, .slice a3 x.links.length c3, .slice a4 x.types.length c4] 112)) := kX9
     have HB9 : Hid (Below w.heap.size w v9) := hb9
     clear kY9 kX9 hb9 hb0 kX kY HL3 x0 x1 x2 x3 x4 x5
     cases hnm : (decide (x.names.length ≤ 30) && nmA x.names)
     ·have HM : Hid ((x.hd i && (decide (x.names.length ≤ 30) && nmA x.names) && decide (x.vals.length = x.names.length) && decide (x.links.length ≤ 30) && decide (x.types.length ≤ 8)) = false) := by show _ = _; rw [HHD.out, hnm]; rfl
      clear hnm
      go_wp2
      go_meet
      exact ⟨by rw [HM.out]; rfl, HB9.out, KY9.out, KX9.out⟩
     ·by_cases h3 : x.vals.length = x.names.length
      ·have g3 : ((x.vals.length : Int) == (x.names.length : Int)) = true := beq_iff_eq.2 (by omega)
       have g3n : ((x.vals.length : Int) != (x.names.length : Int)) = false := by simp [bne, g3]
       have HM : Hid ((x.hd i && (decide (x.names.length ≤ 30) && nmA x.names) && decide (x.vals.length = x.names.length) && decide (x.links.length ≤ 30) && decide (x.types.length ≤ 8)) = (decide (x.links.length ≤ 30) && decide (x.types.length ≤ 8))) := by show _ = _; rw [HHD.out, hnm, decide_eq_true h3]; rfl
       clear hnm h3
       by_cases h4 : x.links.length ≤ 30
       ·have g4 : decide ((30 : Int) < (x.links.length : Int)) = false := by simp; omega
        by_cases h5 : x.types.length ≤ 8
        ·have g5 : decide ((8 : Int) < (x.types.length : Int)) = false := by simp; omega
         go_wp2
         go_meet
         exact ⟨by rw [HM.out, decide_eq_true h4, decide_eq_true h5]; rfl, HB9.out, KY9.out, KX9.out⟩
        ·have g5 : decide ((8 : Int) < (x.types.length : Int)) = true := by simp; omega
         go_wp2
         go_meet
         exact ⟨by rw [HM.out, decide_eq_true h4, decide_eq_false h5]; rfl, HB9.out, KY9.out, KX9.out⟩
       ·have g4 : decide ((30 : Int) < (x.links.length : Int)) = true := by simp; omega
        go_wp2
        go_meet
        exact ⟨by rw [HM.out, decide_eq_false h4]; rfl, HB9.out, KY9.out, KX9.out⟩
      ·have g3 : ((x.vals.length : Int) == (x.names.length : Int)) = false := beq_eq_false_iff_ne.2 (by omega)
       have g3n : ((x.vals.length : Int) != (x.names.length : Int)) = true := by simp [bne, g3]
       have HM : Hid ((x.hd i && (decide (x.names.length ≤ 30) && nmA x.names) && decide (x.vals.length = x.names.length) && decide (x.links.length ≤ 30) && decide (x.types.length ≤ 8)) = false) := by show _ = _; rw [HHD.out, hnm, decide_eq_false h3]; rfl
       clear hnm
       go_wp2
       go_meet
       exact ⟨by rw [HM.out]; rfl, HB9.out, KY9.out, KX9.out⟩
 case rest =>
  clear kX kY
  obtain ⟨rfl, hb1, kY, kX⟩ := hcut
  obtain ⟨wd, rfl⟩ : ∃ wd, wd = wc := ⟨_, rfl⟩
  have HI : Hid (x.ok y.heap y.insts.length i = ((x.hd i && (decide (x.names.length ≤ 30) && nmA x.names) && decide (x.vals.length = x.names.length) && decide (x.links.length ≤ 30) && decide (x.types.length ≤ 8)) && x.vals.all (Val.okz y.heap) && (nmA x.lns && x.links.all (Lnk.ok y.insts.length)) && (x.types.all Typ.ok && nmA x.tns))) := Ins.ok_eq
  clear hb0 x0 x1 x2 x3 x4 x5 HN HL3
  cases hhb : (x.hd i && (decide (x.names.length ≤ 30) && nmA x.names) && decide (x.vals.length = x.names.length) && decide (x.links.length ≤ 30) && decide (x.types.length ≤ 8))
  ·have HQ : Hid (x.ok y.heap y.insts.length i = false) := by show _ = _; rw [HI.out, hhb]; rfl
   clear hhb
   go_wp2
   go_ret
   exact ⟨by rw [HQ.out]; rfl, hb1⟩
  have HHB : Hid ((x.hd i && (decide (x.names.length ≤ 30) && nmA x.names) && decide (x.vals.length = x.names.length) && decide (x.links.length ≤ 30) && decide (x.types.length ≤ 8)) = true) := hhb
  have hl30 : x.links.length ≤ 30 := by
   simp only [Bool.and_eq_true, decide_eq_true_eq] at hhb
   omega
  have ht8 : x.types.length ≤ 8 := by
   simp only [Bool.and_eq_true, decide_eq_true_eq] at hhb
   omega
  have hn30 : x.names.length ≤ 30 := by
   simp only [Bool.and_eq_true, decide_eq_true_eq] at hhb
   omega
  have HNN : Hid (nmA x.names = true) := by
   simp only [Bool.and_eq_true, decide_eq_true_eq] at hhb
   exact hhb.1.1.1.2.2
  clear hhb
  have KY : Hid (wd.heap[w.heap.size]? = some (Obj.cells #[.slice y1 y.heap.length d1, .slice (some ⟨b1, o1, none⟩) y.insts.length d2, .slice y3 y.units.length d3, .slice y4 y.out.length d4] 41)) := kY
  have KX : Hid (wd.heap[w.heap.size + 1]? = some (Obj.cells #[.string x.lib, .int .i64 x.ver, .slice a1 x.names.length c1, .slice a2 x.vals.length c2, .slice a3 x.links.length c3, .slice a4 x.types.length c4] 112)) := kX
  have hX1 : w.heap.size + 1 < wd.heap.size := (Array.getElem?_eq_some_iff.1 kX).1
  have HB1 : Hid (Below w.heap.size w wd) := hb1
  clear kX kY hb1
  go_wp2
  go_loopw [6] (fun o wr => ∃ k : Nat, k ≤ x.vals.length ∧ o = .int .i64 k ∧ (x.vals.take k).all (Val.okz y.heap) = true ∧ Below wd.heap.size wd wr)
   (fun o _ => x.vals.length - (intOf o).toNat)
  case atStart => exact ⟨0, by omega, rfl, by simp, Below.refl _ _⟩
  case round =>
   obtain ⟨k, hk, rfl, hall, hbW⟩ := hrel
   have hbw : Below w.heap.size w wr := bT HB1.out hbW
   have kX := blk_keep KX.out hbW hX1
   have kY := blk_keep KY.out hbW (by omega)
   have z3 := zB 3 kX rfl
   have s0 := zB 0 kY rfl
   by_cases hltk : k < x.vals.length
   ·obtain ⟨v, hv⟩ : ∃ v, x.vals[k]? = some v := ⟨_, List.getElem?_eq_getElem hltk⟩
    obtain ⟨b2, o2, cs, rfl, hbb2, rfl, hlies⟩ := (RV.out.below hbw) k v hv
    have e0 : wr.cell? ⟨b2, o2 + k * 3, none⟩ = some (.int .i64 v.k) := hlies 0 _ rfl
    have e1 : wr.cell? ⟨b2, o2 + k * 3 + 1, none⟩ = some (.int .i64 v.n) := hlies 1 _ rfl
    have e2 : wr.cell? ⟨b2, o2 + k * 3 + 2, none⟩ = some (.string v.s) := hlies 2 _ rfl
    have HV2 : Hid (∀ w1, Below w.heap.size w w1 → Calls Tryz.prog 48 #[.slice y1 y.heap.length d1, .agg #[.int .i64 v.k, .int .i64 v.n, .string v.s]] w1 fun e w' => Ans w1 (.bool (v.ok y.heap)) e w') := fun w1 h1 => HVAL.out v w1 (List.mem_of_getElem? hv) h1
    have good : v.okz y.heap = true → Hid ((x.vals.take (k + 1)).all (Val.okz y.heap) = true) := fun q => by show _ = _; rw [all_take_succ _ hv, hall, q]; rfl
    have bad : v.okz y.heap = false → Hid (x.ok y.heap y.insts.length i = false) := fun q => by show _ = _; rw [HI.out, all_of_bad _ hv q, Bool.and_false]; rfl
    clear hv hlies kX kY hall
    go_upto_region 7 with fail
    go_cut [96] (fun c wx => c = .bool (!v.okz y.heap) ∧ Below wr.heap.size wr wx)
    case first =>
     cases hz : v.zero
     ·have hcmp : ∀ w1 : World, (binOp .neq 44 (.agg #[.int .i64 v.k, .int .i64 v.n, .string v.s]) (.agg #[.int .i64 0, .int .i64 0, .string ⟨#[]⟩])).run Tryz.prog w1 = .ok (.bool true) w1 := fun w1 => neq_zero39 hz w1
      have HZ : Hid (v.okz y.heap = v.ok y.heap) := by show _ = _; unfold Val.okz; rw [hz, Bool.false_or]
      clear hz good bad
      go_region_with (go_at_call 48; refine (HV2.out _ (below_drewN hbw 1)).mono ?_; rintro e w2 ⟨rfl, hb2⟩)
      all_goals
       go_wp2_with fail
       go_meet
       exact ⟨by rw [HZ.out], (below_drewN (Below.refl _ _) _).trans hb2⟩
     ·have hcmp : ∀ w1 : World, (binOp .neq 44 (.agg #[.int .i64 v.k, .int .i64 v.n, .string v.s]) (.agg #[.int .i64 0, .int .i64 0, .string ⟨#[]⟩])).run Tryz.prog w1 = .ok (.bool false) w1 := fun w1 => eq_zero39 hz w1
      have HZ : Hid (v.okz y.heap = true) := by show _ = _; unfold Val.okz; rw [hz, Bool.true_or]
      clear hz good bad
      go_quiet (fail)
      go_wp2
      go_meet
      exact ⟨by rw [HZ.out]; rfl, below_drewN (Below.refl _ _) _⟩
    case rest =>
     obtain ⟨rfl, hbx⟩ := hcut
     have hby : Below w.heap.size w wc := bT hbw hbx
     have hbz : Below wd.heap.size wd wc := bT hbW hbx
     cases hz : v.okz y.heap
     ·have HQ := bad hz
      clear good bad hz
      go_wp2
      go_ret
      exact ⟨by rw [HQ.out]; rfl, hby⟩
     ·have HQ := good hz
      clear good bad hz
      go_wp2
      go_roundw
      case rel => exact ⟨k + 1, by omega, by go_num, HQ.out, hbz⟩
      case measure => simp [intOf]; omega
   ·obtain rfl : k = x.vals.length := by omega
    rw [List.take_length] at hall
    have HV : Hid (x.vals.all (Val.okz y.heap) = true) := hall
    have hlt' : decide ((x.vals.length : Int) < (x.vals.length : Int)) = false := by simp
    have z2 := zB 2 kX rfl
    have HKX : Hid (wr.heap[w.heap.size + 1]? = some (Obj.cells #[.string x.lib, .int .i64 x.ver, .slice a1 x.names.length c1, .slice a2 x.vals.length c2, .slice a3 x.links.length c3, .slice a4 x.types.length c4] 112)) := kX
    have HKY : Hid (wr.heap[w.heap.size]? = some (Obj.cells #[.slice y1 y.heap.length d1, .slice (some ⟨b1, o1, none⟩) y.insts.length d2, .slice y3 y.units.length d3, .slice y4 y.out.length d4] 41)) := kY
    have hXw : w.heap.size + 1 < wr.heap.size := (Array.getElem?_eq_some_iff.1 kX).1
    have HBw : Hid (Below w.heap.size w wr) := hbw
    have hbE : Below w.heap.size w (wr.alloc (Obj.cells #[] 9)) := hbw.alloc hbw.size _
    have hn1 := news_S (w := wr.alloc (Obj.cells #[] 9)) (p := fun b => b < w.heap.size) (RowSP.keep (rowSP_iff.1 RN.out) fun b hb' => ⟨hb', hbE.block b hb'⟩)
    have ho1 : (wr.alloc (Obj.cells #[] 9)).ownsRow wr.heap.size 9 1 (.slice (some ⟨wr.heap.size, 0, none⟩) 0 0) 0 [] := own_empty (blk_at _ _ _ rfl) (Nat.le_refl _)
    clear hall HVAL KX KY HB1 hX1 kX kY hbW hbw s0 hk hltk
    go_wp2_with (at_builtin; go_loud (refine wpList_append_row rfl _ _ 25 rfl wr.heap.size 9 i9 _ 1 16 Tryz.underlying25 hi9 hz90 hz91 hz92 rfl (by omega) (.slice (some ⟨wr.heap.size, 0, none⟩) 0 0) 0 [] rfl ho1 a1 x.names.length c1 (x.names.map Value.string) rfl (by simp) hn1 (by intro u hu; obtain ⟨z, _, rfl⟩ := List.mem_map.1 hu; rfl) (by unfold maxLen; omega) (by omega) (by simp) ?_; intro v' w4 hown hgrow hat; refine stop ?_))
    rw [Nat.zero_add, List.nil_append] at hown
    have HO4 : Hid (OwnS w4 wr.heap.size v' x.names) := hown
    have HB4 : Hid (Below wr.heap.size wr w4) := ⟨hgrow.os, hgrow.tape, hgrow.output, Nat.le_trans (by simp) hgrow.size, fun b hb => (hgrow.block b (by simp; omega) (by intro e; simp [Value.ownBlock] at e; omega)).trans (((Below.refl wr.heap.size wr).alloc (Nat.le_refl _) _).block b hb)⟩
    unfold Hid
    clear hown hgrow hat hn1 ho1 hbE z2
    obtain ⟨wR, rfl⟩ : ∃ wR, wR = wr := ⟨_, rfl⟩
    go_wp2
    clear z3
    have HLN : Hid (x.lns = x.names ++ x.links.map (fun t : Lnk => t.name)) := rfl
    have hXR : w.heap.size + 1 < wR.heap.size := hXw
    clear hXw
    go_loopw [7, 8] (fun sv o wr => ∃ k : Nat, k ≤ x.links.length ∧ o = .int .i64 k ∧ OwnS wr wR.heap.size sv (x.names ++ (x.links.take k).map (fun t : Lnk => t.name)) ∧ nmB x.lns (x.names.length + k) = true ∧ (x.links.take k).all (Lnk.ok y.insts.length) = true ∧ Below wR.heap.size wR wr)
     (fun _ o _ => x.links.length - (intOf o).toNat)
    case atStart => exact ⟨0, by omega, rfl, by simpa using HO4.out, by rw [HLN.out, Nat.add_zero, nmB_pre _ _ _ (Nat.le_refl _)]; exact HNN.out, by simp, HB4.out⟩
    case round =>
     clear HO4 HB4
     obtain ⟨k, hk, rfl, hown, hnm, hall, hbW⟩ := hrel
     obtain ⟨oa, oc, rfl, hoc⟩ := hown.slice
     have hbw : Below w.heap.size w wr := bT HBw.out hbW
     have kX := blk_keep HKX.out hbW hXR
     have kY := blk_keep HKY.out hbW (by omega)
     have z4 := zB 4 kX rfl
     have HOW : Hid (OwnS wr wR.heap.size (.slice oa (x.names ++ (x.links.take k).map (fun t : Lnk => t.name)).length oc) (x.names ++ (x.links.take k).map (fun t : Lnk => t.name))) := hown
     have hsl : (x.names ++ (x.links.take k).map (fun t : Lnk => t.name)).length ≤ 60 := by rw [List.length_append, List.length_map, List.length_take]; omega
     have hwRr : wR.heap.size ≤ wr.heap.size := hbW.size
     clear hown
     by_cases hltk : k < x.links.length
     ·obtain ⟨d, hd⟩ : ∃ d, x.links[k]? = some d := ⟨_, List.getElem?_eq_getElem hltk⟩
      obtain ⟨b3, o3, cs, rfl, hbb3, rfl, hl⟩ := (RL.out.below hbw) k d hd
      have e0 : wr.cell? ⟨b3, o3 + k * 3, none⟩ = some (.string d.name) := hl 0 _ rfl
      have e1 : wr.cell? ⟨b3, o3 + k * 3 + 1, none⟩ = some (.int .i64 d.inst) := hl 1 _ rfl
      have e2 : wr.cell? ⟨b3, o3 + k * 3 + 2, none⟩ = some (.string d.at_) := hl 2 _ rfl
      obtain ⟨m1, m2, m3⟩ := SL.out d (List.mem_of_getElem? hd)
      have HMT : Hid (x.names ++ (x.links.take (k + 1)).map (fun t : Lnk => t.name) = x.names ++ (x.links.take k).map (fun t : Lnk => t.name) ++ [d.name]) := by show _ = _; rw [map_take _ hd, List.append_assoc]
      have hln : x.lns[x.names.length + k]? = some d.name := by
       rw [HLN.out, List.getElem?_append_right (by omega), Nat.add_sub_cancel_left, List.getElem?_map, hd]
       rfl
      have hlt2 : x.lns.take (x.names.length + k) = x.names ++ (x.links.take k).map (fun t : Lnk => t.name) := by
       rw [HLN.out, List.take_length_add_append, List.map_take]
      have HST : Hid (nmB x.lns (x.names.length + (k + 1)) = (naL d.name.toList && !hasS (x.names ++ (x.links.take k).map (fun t : Lnk => t.name)) d.name)) := by
       show _ = _
       rw [← Nat.add_assoc, nmB_step hln, hnm, Bool.true_and, hlt2]
      have badN : (naL d.name.toList && !hasS (x.names ++ (x.links.take k).map (fun t : Lnk => t.name)) d.name) = false → Hid (x.ok y.heap y.insts.length i = false) := fun q => by
       show _ = _
       have q1 : nmA x.lns = false := nmB_false (k := x.names.length + (k + 1)) (by rw [HST.out, q]) _ (by rw [HLN.out, List.length_append, List.length_map]; omega)
       rw [HI.out, q1, Bool.false_and, Bool.and_false]; rfl
      have badL : d.ok y.insts.length = false → Hid (x.ok y.heap y.insts.length i = false) := fun q => by
       show _ = _
       rw [HI.out, all_of_bad _ hd q, Bool.and_false, Bool.and_false]; rfl
      have HA2 : Hid ((x.links.take (k + 1)).all (Lnk.ok y.insts.length) = d.ok y.insts.length) := by show _ = _; rw [all_take_succ _ hd, hall, Bool.true_and]
      have kX2 : (wr.alloc (Obj.cells #[.string d.name, .int .i64 d.inst, .string d.at_] 184)).heap[w.heap.size + 1]? = some (Obj.cells #[.string x.lib, .int .i64 x.ver, .slice a1 x.names.length c1, .slice a2 x.vals.length c2, .slice (some ⟨b3, o3, none⟩) x.links.length c3, .slice a4 x.types.length c4] 112) := blk_past kX
      have kY2 : (wr.alloc (Obj.cells #[.string d.name, .int .i64 d.inst, .string d.at_] 184)).heap[w.heap.size]? = some (Obj.cells #[.slice y1 y.heap.length d1, .slice (some ⟨b1, o1, none⟩) y.insts.length d2, .slice y3 y.units.length d3, .slice y4 y.out.length d4] 41) := blk_past kY
      have kL2 : (wr.alloc (Obj.cells #[.string d.name, .int .i64 d.inst, .string d.at_] 184)).heap[wr.heap.size]? = some (Obj.cells #[.string d.name, .int .i64 d.inst, .string d.at_] 184) := blk_at _ _ _ rfl
      have hbA : Below w.heap.size w (wr.alloc (Obj.cells #[.string d.name, .int .i64 d.inst, .string d.at_] 184)) := hbw.alloc hbw.size _
      have hbR : Below wR.heap.size wR (wr.alloc (Obj.cells #[.string d.name, .int .i64 d.inst, .string d.at_] 184)) := hbW.alloc hbW.size _
      have hoA : OwnS (wr.alloc (Obj.cells #[.string d.name, .int .i64 d.inst, .string d.at_] 184)) wR.heap.size (.slice oa (x.names ++ (x.links.take k).map (fun t : Lnk => t.name)).length oc) (x.names ++ (x.links.take k).map (fun t : Lnk => t.name)) := World.ownsRow.alloc HOW.out _
      clear hl hd hnm hall hln hlt2 HOW kX kY
      generalize hls : x.names ++ (x.links.take k).map (fun t : Lnk => t.name) = ls at *
      clear hls
      go_wp2_with fail
      refine (HNA.out d.name _ m1).mono ?_
      rintro e p1 ⟨rfl, hv⟩
      have hp1 : Below w.heap.size w p1 := bT hbA hv
      have hr1 : Below wR.heap.size wR p1 := bT hbR hv
      have kX3 := bK kX2 hv
      have kY3 := bK kY2 hv
      have kL3 := bK kL2 hv
      have ho3 := hoA.keep (w' := p1) fun b hb => hv.block b (hoA.blk hb).2.1
      clear kX2 kY2 kL2 hv hoA
      have l0 := zB 0 kL3 rfl
      cases hn : naL d.name.toList
      ·have HQ := badN (by rw [hn]; rfl)
       clear badN badL hn
       go_wp2
       go_ret
       exact ⟨by rw [HQ.out]; rfl, hp1⟩
      have HIN : Hid (Calls Tryz.prog 103 #[.slice oa ls.length oc, .string d.name] p1 fun e w' => Ans p1 (.bool (hasS ls d.name)) e w') := l3In_any oa ls oc d.name p1 (by omega) ho3.rowS
      go_wp2_with fail
      refine HIN.out.mono ?_
      rintro e p2 ⟨rfl, hv⟩
      have hp2 : Below w.heap.size w p2 := bT hp1 hv
      have hr2 : Below wR.heap.size wR p2 := bT hr1 hv
      have kX4 := bK kX3 hv
      have kY4 := bK kY3 hv
      have kL4 := bK kL3 hv
      have ho4 := ho3.keep (w' := p2) fun b hb => hv.block b (ho3.blk hb).2.1
      clear kX3 kY3 kL3 hv ho3 l0 HIN hp1 hr1
      obtain ⟨l0, l1, l2⟩ := zn3 kL4 rfl rfl rfl
      have s1' := cell_blk (j := 1) kY4 rfl
      cases hh : hasS ls d.name
      ·have HNB : Hid (nmB x.lns (x.names.length + (k + 1)) = true) := by show _ = _; rw [HST.out, hn, hh]; rfl
       clear badN hn hh HST
       by_cases h1 : d.inst < 0
       ·have g1 : decide (d.inst < 0) = true := decide_eq_true h1
        have HQ := badL (by unfold Lnk.ok; simp; omega)
        clear badL
        go_wp2
        go_ret
        exact ⟨by rw [HQ.out]; rfl, hp2⟩
       have g1 : decide (d.inst < 0) = false := decide_eq_false h1
       by_cases h2 : (y.insts.length : Int) ≤ d.inst
       ·have g2 : decide ((y.insts.length : Int) ≤ d.inst) = true := decide_eq_true h2
        have HQ := badL (by unfold Lnk.ok; simp; omega)
        clear badL
        go_wp2
        go_ret
        exact ⟨by rw [HQ.out]; rfl, hp2⟩
       have g2 : decide ((y.insts.length : Int) ≤ d.inst) = false := decide_eq_false h2
       have HLK : Hid (d.ok y.insts.length = naL d.at_.toList) := by show _ = _; unfold Lnk.ok; rw [decide_eq_true (by omega), decide_eq_true (by omega)]; rfl
       go_wp2_with fail
       refine (HNA.out d.at_ _ m3).mono ?_
       rintro e p3 ⟨rfl, hv⟩
       have hp3 : Below w.heap.size w p3 := bT hp2 hv
       have hr3 : Below wR.heap.size wR p3 := bT hr2 hv
       have kL5 := bK kL4 hv
       have ho5 := ho4.keep (w' := p3) fun b hb => hv.block b (ho4.blk hb).2.1
       clear kX4 kY4 kL4 hv ho4 l0 l1 l2 s1' hp2 hr2
       have l0 := zB 0 kL5 rfl
       cases ha : naL d.at_.toList
       ·have HQ := badL (by rw [HLK.out, ha])
        clear badL ha
        go_wp2
        go_ret
        exact ⟨by rw [HQ.out]; rfl, hp3⟩
       have HAL : Hid ((x.links.take (k + 1)).all (Lnk.ok y.insts.length) = true) := by show _ = _; rw [HA2.out, HLK.out, ha]
       clear badL ha HA2 HLK
       have hnews : ∀ j u, [Value.string d.name][j]? = some u → (p3.alloc (Obj.cells #[.string d.name] 9)).cell? ((⟨p3.heap.size, 0, none⟩ : Addr).add j) = some u := by
        intro j u hj
        rw [add_lit, Nat.zero_add]
        exact cell_blk (blk_at _ _ _ rfl) (by simpa using hj)
       have HO1 : Hid ((p3.alloc (Obj.cells #[.string d.name] 9)).ownsRow wR.heap.size 9 1 (.slice oa ls.length oc) ls.length (ls.map Value.string)) := World.ownsRow.alloc ho5 _
       have HB1 : Hid (Below wR.heap.size wR (p3.alloc (Obj.cells #[.string d.name] 9))) := hr3.alloc hr3.size _
       have hsb : wR.heap.size ≤ (p3.alloc (Obj.cells #[.string d.name] 9)).heap.size := HB1.out.size
       clear ho5 kL5
       go_wp2_with (at_builtin; go_loud (refine wpList_append_row rfl _ _ 25 rfl wR.heap.size 9 i9 _ 1 16 Tryz.underlying25 hi9 hz90 hz91 hz92 rfl (by omega) (.slice oa ls.length oc) ls.length (ls.map Value.string) rfl HO1.out (some ⟨p3.heap.size, 0, none⟩) 1 1 [.string d.name] rfl rfl (fun _ => ⟨_, rfl, hnews⟩) (by intro u hu; simp at hu; subst hu; rfl) (by unfold maxLen; omega) (by omega) hsb ?_; intro v' w4 hown hgrow hat; refine stop ?_))
       have HO4 : Hid (OwnS w4 wR.heap.size v' (ls ++ [d.name])) := OwnS.snoc hown
       have HB4 : Hid (Below wR.heap.size wR w4) := app_below HB1.out hsb HO1.out hgrow
       unfold Hid
       clear hown hgrow hat hnews hsb
       go_wp2
       go_roundw
       case rel => exact ⟨k + 1, by omega, by go_num, by rw [HMT.out]; exact HO4.out, HNB.out, HAL.out, HB4.out⟩
       case measure => simp [intOf]; omega
      ·have HQ := badN (by rw [hn, hh]; rfl)
       clear badN badL hn hh
       go_wp2
       go_ret
       exact ⟨by rw [HQ.out]; rfl, hp2⟩
     ·obtain rfl : k = x.links.length := by omega
      rw [List.take_length] at hall
      have hlt' : decide ((x.links.length : Int) < (x.links.length : Int)) = false := by simp
      have HLL : Hid ((nmA x.lns && x.links.all (Lnk.ok y.insts.length)) = true) := by
       show _ = _
       rw [hall, Bool.and_true]
       unfold nmA
       rw [show x.lns.length = x.names.length + x.links.length by rw [HLN.out, List.length_append, List.length_map]]
       exact hnm
      have HKX5 : Hid (wr.heap[w.heap.size + 1]? = some (Obj.cells #[.string x.lib, .int .i64 x.ver, .slice a1 x.names.length c1, .slice a2 x.vals.length c2, .slice a3 x.links.length c3, .slice a4 x.types.length c4] 112)) := kX
      have hXS : w.heap.size + 1 < wr.heap.size := (Array.getElem?_eq_some_iff.1 kX).1
      have HBS : Hid (Below w.heap.size w wr) := hbw
      obtain ⟨wS, rfl⟩ : ∃ wS, wS = wr := ⟨_, rfl⟩
      clear hall hnm HNN kX kY hbW hbw hsl hoc HOW hltk hk hwRr
      generalize (x.names ++ (x.links.take x.links.length).map (fun t : Lnk => t.name)).length = nl
      go_wp2
      clear z4
      have HTN : Hid (x.tns = x.types.map (fun t : Typ => t.name)) := rfl
      go_loopw [10, 11] (fun sv o wr => ∃ k : Nat, k ≤ x.types.length ∧ o = .int .i64 k ∧ OwnS wr wS.heap.size sv ((x.types.take k).map (fun t : Typ => t.name)) ∧ nmB x.tns k = true ∧ (x.types.take k).all Typ.ok = true ∧ Below wS.heap.size wS wr)
       (fun _ o _ => x.types.length - (intOf o).toNat)
      case atStart => exact ⟨0, by omega, rfl, own_empty (blk_at _ _ _ rfl) (Nat.le_refl _), rfl, by simp, bR _ _⟩
      case round =>
       obtain ⟨k, hk, rfl, hown, hnm, hall, hbW⟩ := hrel
       obtain ⟨oa, oc, rfl, hoc⟩ := hown.slice
       have hbw : Below w.heap.size w wr := bT HBS.out hbW
       have kX := blk_keep HKX5.out hbW hXS
       have z5 := zB 5 kX rfl
       have HOW : Hid (OwnS wr wS.heap.size (.slice oa ((x.types.take k).map (fun t : Typ => t.name)).length oc) ((x.types.take k).map (fun t : Typ => t.name))) := hown
       have hsl : ((x.types.take k).map (fun t : Typ => t.name)).length ≤ 8 := by rw [List.length_map, List.length_take]; omega
       clear hown
       by_cases hltk : k < x.types.length
       ·obtain ⟨d, hd⟩ : ∃ d, x.types[k]? = some d := ⟨_, List.getElem?_eq_getElem hltk⟩
        obtain ⟨b3, o3, cs, rfl, hbb3, rfl, hl⟩ := (RT.out.below hbw) k d hd
        have EC : Hid (∀ w1, Below w.heap.size wr w1 → w1.cell? ⟨b3, o3 + k * 2, none⟩ = some (.string d.name) ∧ w1.cell? ⟨b3, o3 + k * 2 + 1, none⟩ = some (.int .i64 d.size)) := fun w1 h1 => ⟨cell_keep (hl 0 _ rfl) h1 hbb3, cell_keep (hl 1 _ rfl) h1 hbb3⟩
        obtain ⟨e0, e1⟩ := EC.out wr (Below.refl _ _)
        obtain ⟨m1, m2⟩ := STy.out d (List.mem_of_getElem? hd)
        have HMT : Hid ((x.types.take (k + 1)).map (fun t : Typ => t.name) = (x.types.take k).map (fun t : Typ => t.name) ++ [d.name]) := map_take _ hd
        have hln : x.tns[k]? = some d.name := by
         rw [HTN.out, List.getElem?_map, hd]
         rfl
        have hlt2 : x.tns.take k = (x.types.take k).map (fun t : Typ => t.name) := by
         rw [HTN.out, List.map_take]
        have HST : Hid (nmB x.tns (k + 1) = (naL d.name.toList && !hasS ((x.types.take k).map (fun t : Typ => t.name)) d.name)) := by
         show _ = _
         rw [nmB_step hln, hnm, Bool.true_and, hlt2]
        have badN : (naL d.name.toList && !hasS ((x.types.take k).map (fun t : Typ => t.name)) d.name) = false → Hid (x.ok y.heap y.insts.length i = false) := fun q => by
         show _ = _
         have q1 : nmA x.tns = false := nmB_false (k := k + 1) (by rw [HST.out, q]) _ (by rw [HTN.out, List.length_map]; omega)
         rw [HI.out, q1, Bool.and_false, Bool.and_false]
        have badL : d.ok = false → Hid (x.ok y.heap y.insts.length i = false) := fun q => by
         show _ = _
         rw [HI.out, all_of_bad _ hd q, Bool.false_and, Bool.and_false]
        have HA2 : Hid ((x.types.take (k + 1)).all Typ.ok = d.ok) := by show _ = _; rw [all_take_succ _ hd, hall, Bool.true_and]
        have ho3 := HOW.out
        clear hl hd hnm hall hln hlt2 HOW
        generalize hls : (x.types.take k).map (fun t : Typ => t.name) = ls at *
        clear hls
        go_wp2_with fail
        refine (HNA.out d.name _ m1).mono ?_
        rintro e p1 ⟨rfl, hv⟩
        have hp1 : Below w.heap.size w p1 := bT hbw hv
        have hq1 : Below w.heap.size wr p1 := hv.mono hbw.size
        have hr1 : Below wS.heap.size wS p1 := bT hbW hv
        have kX3 := bK kX hv
        have ho4 := ho3.keep (w' := p1) fun b hb => hv.block b (ho3.blk hb).2.1
        clear hv ho3 kX z5 e0 e1
        have z5 := zB 5 kX3 rfl
        obtain ⟨e0, e1⟩ := EC.out p1 hq1
        cases hn : naL d.name.toList
        ·have HQ := badN (by rw [hn]; rfl)
         clear badN badL hn
         go_wp2
         go_ret
         exact ⟨by rw [HQ.out]; rfl, hp1⟩
        have HIN : Hid (Calls Tryz.prog 103 #[.slice oa ls.length oc, .string d.name] p1 fun e w' => Ans p1 (.bool (hasS ls d.name)) e w') := l3In_any oa ls oc d.name p1 (by omega) ho4.rowS
        go_wp2_with fail
        refine HIN.out.mono ?_
        rintro e p2 ⟨rfl, hv⟩
        have hp2 : Below w.heap.size w p2 := bT hp1 hv
        have hq2 : Below w.heap.size wr p2 := hq1.trans (hv.mono hp1.size)
        have hr2 : Below wS.heap.size wS p2 := bT hr1 hv
        have kX4 := bK kX3 hv
        have ho5 := ho4.keep (w' := p2) fun b hb => hv.block b (ho4.blk hb).2.1
        clear kX3 hv ho4 HIN hp1 hr1 hq1 z5 e0 e1
        have z5 := zB 5 kX4 rfl
        obtain ⟨e0, e1⟩ := EC.out p2 hq2
        cases hh : hasS ls d.name
        ·have HNB : Hid (nmB x.tns (k + 1) = true) := by show _ = _; rw [HST.out, hn, hh]; rfl
         clear badN hn hh HST
         have HT21 : Hid (∀ w1, Calls Tryz.prog 44 #[.int .i64 d.size, .int .i64 0, .int .i64 8] w1 fun e w' => e = .returned (.bool d.ok) ∧ w' = w1) := fun w1 => l1In_any d.size 0 8 w1
         go_wp2_with fail
         refine (HT21.out _).mono ?_
         rintro e p3 ⟨rfl, rfl⟩
         cases ht : d.ok
         ·have HQ := badL ht
          clear badL ht
          go_wp2
          go_ret
          exact ⟨by rw [HQ.out]; rfl, hp2⟩
         have HAL : Hid ((x.types.take (k + 1)).all Typ.ok = true) := by show _ = _; rw [HA2.out, ht]
         clear badL ht HA2 HT21
         have hnews : ∀ j u, [Value.string d.name][j]? = some u → (p3.alloc (Obj.cells #[.string d.name] 9)).cell? ((⟨p3.heap.size, 0, none⟩ : Addr).add j) = some u := by
          intro j u hj
          rw [add_lit, Nat.zero_add]
          exact cell_blk (blk_at _ _ _ rfl) (by simpa using hj)
         have HO1 : Hid ((p3.alloc (Obj.cells #[.string d.name] 9)).ownsRow wS.heap.size 9 1 (.slice oa ls.length oc) ls.length (ls.map Value.string)) := World.ownsRow.alloc ho5 _
         have HB1 : Hid (Below wS.heap.size wS (p3.alloc (Obj.cells #[.string d.name] 9))) := hr2.alloc hr2.size _
         have hsb : wS.heap.size ≤ (p3.alloc (Obj.cells #[.string d.name] 9)).heap.size := HB1.out.size
         clear ho5 kX4
         go_wp2_with (at_builtin; go_loud (refine wpList_append_row rfl _ _ 25 rfl wS.heap.size 9 i9 _ 1 16 Tryz.underlying25 hi9 hz90 hz91 hz92 rfl (by omega) (.slice oa ls.length oc) ls.length (ls.map Value.string) rfl HO1.out (some ⟨p3.heap.size, 0, none⟩) 1 1 [.string d.name] rfl rfl (fun _ => ⟨_, rfl, hnews⟩) (by intro u hu; simp at hu; subst hu; rfl) (by unfold maxLen; omega) (by omega) hsb ?_; intro v' w4 hown hgrow hat; refine stop ?_))
         have HO4 : Hid (OwnS w4 wS.heap.size v' (ls ++ [d.name])) := OwnS.snoc hown
         have HB4 : Hid (Below wS.heap.size wS w4) := app_below HB1.out hsb HO1.out hgrow
         unfold Hid
         clear hown hgrow hat hnews hsb
         go_wp2
         go_roundw
         case rel => exact ⟨k + 1, by omega, by go_num, by rw [HMT.out]; exact HO4.out, HNB.out, HAL.out, HB4.out⟩
         case measure => simp [intOf]; omega
        ·have HQ := badN (by rw [hn, hh]; rfl)
         clear badN badL hn hh
         go_wp2
         go_ret
         exact ⟨by rw [HQ.out]; rfl, hp2⟩
       ·obtain rfl : k = x.types.length := by omega
        rw [List.take_length] at hall
        have hlt' : decide ((x.types.length : Int) < (x.types.length : Int)) = false := by simp
        have HQ : Hid (x.ok y.heap y.insts.length i = true) := by
         show _ = _
         have q1 : nmA x.tns = true := by
          unfold nmA
          rw [show x.tns.length = x.types.length by rw [HTN.out, List.length_map]]
          exact hnm
         rw [HI.out, HHB.out, HV.out, HLL.out, hall, q1]
         rfl
        clear hall hnm kX
        go_wp2
        go_ret
        exact ⟨by rw [HQ.out]; rfl, hbw⟩
end Go.Proofs.YtlacidojljilaaaGreatDoor
