/- The model's question of one library. -/
import Derived.Test.YtlacidojljilaaaGreatDoorSib
set_option linter.unusedVariables false
set_option maxRecDepth 100000
set_option maxHeartbeats 8000000
namespace Go.Proofs.YtlacidojljilaaaGreatDoor
open Go.ChangeShapes Go.WideShapes Go.ChangeAt Go.RowKit
theorem l3Names30_any (a : Option Addr) (ts : List ByteArray) (cap : Nat) (w : World) (hn : ts.length ≤ 1048576) (hcap : ts.length ≤ cap) (hr : RowS w w.heap.size a ts) (hsz : ∀ x ∈ ts, x.size ≤ 1048576) :
  Calls Tryz.prog 102 #[.slice a ts.length cap, .int .i64 30] w fun e w' => Ans w (.bool (decide (ts.length ≤ 30) && nmA ts)) e w' := by
 by_cases h8 : ts.length ≤ 30
 ·have HD : Hid ((decide (ts.length ≤ 30) && nmA ts) = nmA ts) := by show _ = _; simp [h8]
  have h8' : decide ((30 : Int) < (ts.length : Int)) = false := by simp; omega
  rw [HD.out]
  clear HD
  have HR : Hid (RowS w w.heap.size a ts) := hr
  have HS : Hid (∀ x ∈ ts, x.size ≤ 1048576) := hsz
  clear hr hsz
  go_enter Tryz.func102, Tryz.ntmps102
  go_wp2
  go_loopw [5] (fun o wr => ∃ (i : Nat), i ≤ ts.length ∧ o = .int .i64 i ∧ nmB ts i = true ∧ Below w.heap.size w wr)
   (fun o _ => ts.length - (intOf o).toNat)
  case atStart => exact ⟨0, by omega, rfl, rfl, Below.refl _ _⟩
  case round =>
   obtain ⟨i, hi, rfl, hno, hb⟩ := hrel
   by_cases hlt : i < ts.length
   ·obtain ⟨d, hd⟩ : ∃ d, ts[i]? = some d := ⟨_, List.getElem?_eq_getElem hlt⟩
    have hrow := (HR.out.below hb)
    obtain ⟨b1, o1, rfl, hbb, c0⟩ := hrow i d hd
    have hsz0 := hb.size
    have HRT : Hid (∀ w2, Below wr.heap.size wr w2 → RowS w2 w2.heap.size (some ⟨b1, o1, none⟩) (ts.take i)) := fun w2 h2 => ((hrow.take i).keep (fun b hb' => h2.block b (by omega))).mono (by have := h2.size; omega)
    have HN : Hid (∀ w, Calls Tryz.prog 73 #[.string d] w fun e w' => Ans w (.bool (naL d.toList)) e w') := fun w => specNa_any d w (HS.out d (List.mem_of_getElem? hd))
    have HI : Hid (∀ w2, Below wr.heap.size wr w2 → Calls Tryz.prog 103 #[.slice (some ⟨b1, o1, none⟩) i cap, .string d] w2 fun e w' => Ans w2 (.bool (hasS (ts.take i) d)) e w') := fun w2 h2 => by
     have := l3In_any (some ⟨b1, o1, none⟩) (ts.take i) cap d w2 (by rw [List.length_take]; omega) (HRT.out w2 h2)
     rwa [List.length_take, Nat.min_eq_left (by omega)] at this
    have hix : ∀ w, (Instr.indexAt 25 (.slice (some ⟨b1, o1, none⟩) ts.length cap) (.int .i64 i)).run Tryz.prog w = .ok (.pointer (some ⟨b1, o1 + i, none⟩)) w := by
     intro w
     simp [go_sem]
     omega
    have hsl : ∀ w, (Instr.sliceAt 25 (.slice (some ⟨b1, o1, none⟩) ts.length cap) none (some (.int .i64 i)) none).run Tryz.prog w = .ok (.slice (some ⟨b1, o1, none⟩) i cap) w := by
     intro w
     simp [go_sem]
     intro h
     exact absurd h (by omega)
    have hld : ∀ w : World, w.cell? ⟨b1, o1 + i, none⟩ = some (.string d) → (Instr.loadAt 9 (.pointer (some ⟨b1, o1 + i, none⟩))).run Tryz.prog w = .ok (.string d) w := by
     intro w hc
     simp [go_sem, hc]
    have HX : Hid _ := hix
    have HSL : Hid _ := hsl
    have HLD : Hid _ := hld
    clear hix hsl hld
    clear hrow HRT
    cases hna : naL d.toList
    ·have HQ : Hid (nmA ts = false) := nmA_false hd (.inl hna)
     rw [hna] at HN
     clear hno hna HI
     go_wp2_with fail
     refine wp_region_any (by kernel_rfl) ?_
     refine sK 0 (vS b1 o1 ts.length cap) rfl (by kernel_rfl) (fun _ _ _ h => h) (fun w => by kernel_rfl) ?_
     refine eA (bb 16 1) ⟨#[vS b1 o1 ts.length cap,vI 30,vU,vU,u4,vI i,vS b1 o1 ts.length cap,vI ts.length,vI 30,vF,vI i,vS b1 o1 ts.length cap,vI ts.length,vT,u14,u15,vS b1 o1 ts.length cap,u17,u18,u19,u20,u21,u22,u23,u24,u25,u26,u27,u28,u29,u30,u31], []⟩ (by kernel_rfl) (by kernel_rfl) ?_
     refine sK 1 (vI i) rfl (by kernel_rfl) (fun _ _ _ h => h) (fun w => by kernel_rfl) ?_
     refine eA (bb 16 3) ⟨#[vS b1 o1 ts.length cap,vI 30,vU,vU,u4,vI i,vS b1 o1 ts.length cap,vI ts.length,vI 30,vF,vI i,vS b1 o1 ts.length cap,vI ts.length,vT,u14,u15,vS b1 o1 ts.length cap,vI i,u18,u19,u20,u21,u22,u23,u24,u25,u26,u27,u28,u29,u30,u31], []⟩ (by kernel_rfl) (by kernel_rfl) ?_
     refine sK 2 (.pointer (some ⟨b1, o1 + i, none⟩)) rfl (by kernel_rfl) (fun _ _ _ h => h) (fun w => run_vN (HX.out w)) ?_
     refine eA (bb 16 7) ⟨#[vS b1 o1 ts.length cap,vI 30,vU,vU,u4,vI i,vS b1 o1 ts.length cap,vI ts.length,vI 30,vF,vI i,vS b1 o1 ts.length cap,vI ts.length,vT,u14,u15,vS b1 o1 ts.length cap,vI i,vP b1 (o1 + i),u19,u20,u21,u22,u23,u24,u25,u26,u27,u28,u29,u30,u31], []⟩ (by kernel_rfl) (by kernel_rfl) ?_
     refine any_one (i := 3) (by kernel_rfl) rfl (opw_value (v := .string d) rfl (by kernel_rfl) (run_vN (HLD.out _ c0)) ?_)
     refine eA (bb 16 15) ⟨#[vS b1 o1 ts.length cap,vI 30,vU,vU,u4,vI i,vS b1 o1 ts.length cap,vI ts.length,vI 30,vF,vI i,vS b1 o1 ts.length cap,vI ts.length,vT,u14,u15,vS b1 o1 ts.length cap,vI i,vP b1 (o1 + i),.string d,u20,u21,u22,u23,u24,u25,u26,u27,u28,u29,u30,u31], []⟩ (by kernel_rfl) (by kernel_rfl) ?_
     refine any_one (i := 4) (by kernel_rfl) rfl (opw_callN (f := 73) (args := #[.string d]) rfl (by kernel_rfl) (by kernel_rfl) ((HN.out _).mono ?_))
     rintro e w2 ⟨rfl, hb2⟩
     refine ⟨_, rfl, ?_⟩
     refine eA (bb 16 31) ⟨#[vS b1 o1 ts.length cap,vI 30,vU,vU,u4,vI i,vS b1 o1 ts.length cap,vI ts.length,vI 30,vF,vI i,vS b1 o1 ts.length cap,vI ts.length,vT,u14,u15,vS b1 o1 ts.length cap,vI i,vP b1 (o1 + i),.string d,vF,u21,u22,u23,u24,u25,u26,u27,u28,u29,u30,u31], []⟩ (by kernel_rfl) (by kernel_rfl) ?_
     have hb2 : Below wr.heap.size wr w2 := ((Below.refl wr.heap.size wr).drew).trans hb2
     refine sK 5 (vT) rfl (by kernel_rfl) (fun _ _ _ h => h) (fun w => by kernel_rfl) ?_
     refine eA (bb 16 63) ⟨#[vS b1 o1 ts.length cap,vI 30,vU,vU,u4,vI i,vS b1 o1 ts.length cap,vI ts.length,vI 30,vF,vI i,vS b1 o1 ts.length cap,vI ts.length,vT,u14,u15,vS b1 o1 ts.length cap,vI i,vP b1 (o1 + i),.string d,vF,vT,u22,u23,u24,u25,u26,u27,u28,u29,u30,u31], []⟩ (by kernel_rfl) (by kernel_rfl) ?_
     refine sK 6 (vT) rfl (by kernel_rfl) (fun _ _ _ h => h) (fun w => by kernel_rfl) ?_
     refine eA (bb 16 127) ⟨#[vS b1 o1 ts.length cap,vI 30,vU,vU,u4,vI i,vS b1 o1 ts.length cap,vI ts.length,vI 30,vF,vI i,vS b1 o1 ts.length cap,vI ts.length,vT,u14,u15,vS b1 o1 ts.length cap,vI i,vP b1 (o1 + i),.string d,vF,vT,vT,u23,u24,u25,u26,u27,u28,u29,u30,u31], []⟩ (by kernel_rfl) (by kernel_rfl) ?_
     refine sU 7 rfl (by kernel_rfl) (fun _ _ _ h => h) ?_
     refine eA (bb 16 255) ⟨#[vS b1 o1 ts.length cap,vI 30,vU,vU,u4,vI i,vS b1 o1 ts.length cap,vI ts.length,vI 30,vF,vI i,vS b1 o1 ts.length cap,vI ts.length,vT,u14,u15,vS b1 o1 ts.length cap,vI i,vP b1 (o1 + i),.string d,vF,vT,vT,vU,u24,u25,u26,u27,u28,u29,u30,u31], []⟩ (by kernel_rfl) (by kernel_rfl) ?_
     refine sU 8 rfl (by kernel_rfl) (fun _ _ _ h => h) ?_
     refine eA (bb 16 511) ⟨#[vS b1 o1 ts.length cap,vI 30,vU,vU,u4,vI i,vS b1 o1 ts.length cap,vI ts.length,vI 30,vF,vI i,vS b1 o1 ts.length cap,vI ts.length,vT,u14,u15,vS b1 o1 ts.length cap,vI i,vP b1 (o1 + i),.string d,vF,vT,vT,vU,vU,u25,u26,u27,u28,u29,u30,u31], []⟩ (by kernel_rfl) (by kernel_rfl) ?_
     refine sU 9 rfl (by kernel_rfl) (fun _ _ _ h => h) ?_
     refine eA (bb 16 1023) ⟨#[vS b1 o1 ts.length cap,vI 30,vU,vU,u4,vI i,vS b1 o1 ts.length cap,vI ts.length,vI 30,vF,vI i,vS b1 o1 ts.length cap,vI ts.length,vT,u14,u15,vS b1 o1 ts.length cap,vI i,vP b1 (o1 + i),.string d,vF,vT,vT,vU,vU,vU,u26,u27,u28,u29,u30,u31], []⟩ (by kernel_rfl) (by kernel_rfl) ?_
     refine sU 10 rfl (by kernel_rfl) (fun _ _ _ h => h) ?_
     refine eA (bb 16 2047) ⟨#[vS b1 o1 ts.length cap,vI 30,vU,vU,u4,vI i,vS b1 o1 ts.length cap,vI ts.length,vI 30,vF,vI i,vS b1 o1 ts.length cap,vI ts.length,vT,u14,u15,vS b1 o1 ts.length cap,vI i,vP b1 (o1 + i),.string d,vF,vT,vT,vU,vU,vU,vU,u27,u28,u29,u30,u31], []⟩ (by kernel_rfl) (by kernel_rfl) ?_
     refine sU 11 rfl (by kernel_rfl) (fun _ _ _ h => h) ?_
     refine eA (bb 16 4095) ⟨#[vS b1 o1 ts.length cap,vI 30,vU,vU,u4,vI i,vS b1 o1 ts.length cap,vI ts.length,vI 30,vF,vI i,vS b1 o1 ts.length cap,vI ts.length,vT,u14,u15,vS b1 o1 ts.length cap,vI i,vP b1 (o1 + i),.string d,vF,vT,vT,vU,vU,vU,vU,vU,u28,u29,u30,u31], []⟩ (by kernel_rfl) (by kernel_rfl) ?_
     refine sU 12 rfl (by kernel_rfl) (fun _ _ _ h => h) ?_
     refine eA (bb 16 8191) ⟨#[vS b1 o1 ts.length cap,vI 30,vU,vU,u4,vI i,vS b1 o1 ts.length cap,vI ts.length,vI 30,vF,vI i,vS b1 o1 ts.length cap,vI ts.length,vT,u14,u15,vS b1 o1 ts.length cap,vI i,vP b1 (o1 + i),.string d,vF,vT,vT,vU,vU,vU,vU,vU,vU,u29,u30,u31], []⟩ (by kernel_rfl) (by kernel_rfl) ?_
     refine sU 13 rfl (by kernel_rfl) (fun _ _ _ h => h) ?_
     refine eA (bb 16 16383) ⟨#[vS b1 o1 ts.length cap,vI 30,vU,vU,u4,vI i,vS b1 o1 ts.length cap,vI ts.length,vI 30,vF,vI i,vS b1 o1 ts.length cap,vI ts.length,vT,u14,u15,vS b1 o1 ts.length cap,vI i,vP b1 (o1 + i),.string d,vF,vT,vT,vU,vU,vU,vU,vU,vU,vU,u30,u31], []⟩ (by kernel_rfl) (by kernel_rfl) ?_
     refine sU 14 rfl (by kernel_rfl) (fun _ _ _ h => h) ?_
     refine eA (bb 16 32767) ⟨#[vS b1 o1 ts.length cap,vI 30,vU,vU,u4,vI i,vS b1 o1 ts.length cap,vI ts.length,vI 30,vF,vI i,vS b1 o1 ts.length cap,vI ts.length,vT,u14,u15,vS b1 o1 ts.length cap,vI i,vP b1 (o1 + i),.string d,vF,vT,vT,vU,vU,vU,vU,vU,vU,vU,vU,u31], []⟩ (by kernel_rfl) (by kernel_rfl) ?_
     refine sK 15 (vT) rfl (by kernel_rfl) (fun _ _ _ h => h) (fun w => by kernel_rfl) ?_
     refine eA (bb 16 65535) ⟨#[.slice (some ⟨b1, o1, none⟩) ts.length cap, .int .i64 30, undef, undef, u4, .int .i64 i, .slice (some ⟨b1, o1, none⟩) ts.length cap, .int .i64 ts.length, .int .i64 30, .bool false, .int .i64 i, .slice (some ⟨b1, o1, none⟩) ts.length cap, .int .i64 ts.length, .bool true, u14, u15, .slice (some ⟨b1, o1, none⟩) ts.length cap, .int .i64 i, .pointer (some ⟨b1, o1 + i, none⟩), .string d, .bool false, .bool true, .bool true, undef, undef, undef, undef, undef, undef, undef, undef, .bool true], []⟩ (by kernel_rfl) (by kernel_rfl) ?_
     refine wpAny_done (by kernel_rfl) ?_ _
     all_goals
      go_wp2
      go_ret
      exact ⟨by rw [HQ.out]; rfl, hb.trans (hb2.mono hsz0)⟩
    ·rw [hna] at HN
     cases hha : hasS (ts.take i) d
     ·have HQ : Hid (nmB ts (i + 1) = true) := by show _ = _; rw [nmB_step hd, hno, hna, hha]; rfl
      rw [hha] at HI
      clear hno hna hha
      go_wp2_with fail
      refine wp_region_any (by kernel_rfl) ?_
      refine sK 0 (vS b1 o1 ts.length cap) rfl (by kernel_rfl) (fun _ _ _ h => h) (fun w => by kernel_rfl) ?_
      refine eA (bb 16 1) ⟨#[vS b1 o1 ts.length cap,vI 30,vU,vU,u4,vI i,vS b1 o1 ts.length cap,vI ts.length,vI 30,vF,vI i,vS b1 o1 ts.length cap,vI ts.length,vT,u14,u15,vS b1 o1 ts.length cap,u17,u18,u19,u20,u21,u22,u23,u24,u25,u26,u27,u28,u29,u30,u31], []⟩ (by kernel_rfl) (by kernel_rfl) ?_
      refine sK 1 (vI i) rfl (by kernel_rfl) (fun _ _ _ h => h) (fun w => by kernel_rfl) ?_
      refine eA (bb 16 3) ⟨#[vS b1 o1 ts.length cap,vI 30,vU,vU,u4,vI i,vS b1 o1 ts.length cap,vI ts.length,vI 30,vF,vI i,vS b1 o1 ts.length cap,vI ts.length,vT,u14,u15,vS b1 o1 ts.length cap,vI i,u18,u19,u20,u21,u22,u23,u24,u25,u26,u27,u28,u29,u30,u31], []⟩ (by kernel_rfl) (by kernel_rfl) ?_
      refine sK 2 (.pointer (some ⟨b1, o1 + i, none⟩)) rfl (by kernel_rfl) (fun _ _ _ h => h) (fun w => run_vN (HX.out w)) ?_
      refine eA (bb 16 7) ⟨#[vS b1 o1 ts.length cap,vI 30,vU,vU,u4,vI i,vS b1 o1 ts.length cap,vI ts.length,vI 30,vF,vI i,vS b1 o1 ts.length cap,vI ts.length,vT,u14,u15,vS b1 o1 ts.length cap,vI i,vP b1 (o1 + i),u19,u20,u21,u22,u23,u24,u25,u26,u27,u28,u29,u30,u31], []⟩ (by kernel_rfl) (by kernel_rfl) ?_
      refine any_one (i := 3) (by kernel_rfl) rfl (opw_value (v := .string d) rfl (by kernel_rfl) (run_vN (HLD.out _ c0)) ?_)
      refine eA (bb 16 15) ⟨#[vS b1 o1 ts.length cap,vI 30,vU,vU,u4,vI i,vS b1 o1 ts.length cap,vI ts.length,vI 30,vF,vI i,vS b1 o1 ts.length cap,vI ts.length,vT,u14,u15,vS b1 o1 ts.length cap,vI i,vP b1 (o1 + i),.string d,u20,u21,u22,u23,u24,u25,u26,u27,u28,u29,u30,u31], []⟩ (by kernel_rfl) (by kernel_rfl) ?_
      refine any_one (i := 4) (by kernel_rfl) rfl (opw_callN (f := 73) (args := #[.string d]) rfl (by kernel_rfl) (by kernel_rfl) ((HN.out _).mono ?_))
      rintro e w2 ⟨rfl, hb2⟩
      refine ⟨_, rfl, ?_⟩
      refine eA (bb 16 31) ⟨#[vS b1 o1 ts.length cap,vI 30,vU,vU,u4,vI i,vS b1 o1 ts.length cap,vI ts.length,vI 30,vF,vI i,vS b1 o1 ts.length cap,vI ts.length,vT,u14,u15,vS b1 o1 ts.length cap,vI i,vP b1 (o1 + i),.string d,vT,u21,u22,u23,u24,u25,u26,u27,u28,u29,u30,u31], []⟩ (by kernel_rfl) (by kernel_rfl) ?_
      have hb2 : Below wr.heap.size wr w2 := ((Below.refl wr.heap.size wr).drew).trans hb2
      refine sK 5 (vF) rfl (by kernel_rfl) (fun _ _ _ h => h) (fun w => by kernel_rfl) ?_
      refine eA (bb 16 63) ⟨#[vS b1 o1 ts.length cap,vI 30,vU,vU,u4,vI i,vS b1 o1 ts.length cap,vI ts.length,vI 30,vF,vI i,vS b1 o1 ts.length cap,vI ts.length,vT,u14,u15,vS b1 o1 ts.length cap,vI i,vP b1 (o1 + i),.string d,vT,vF,u22,u23,u24,u25,u26,u27,u28,u29,u30,u31], []⟩ (by kernel_rfl) (by kernel_rfl) ?_
      refine sK 6 (vF) rfl (by kernel_rfl) (fun _ _ _ h => h) (fun w => by kernel_rfl) ?_
      refine eA (bb 16 127) ⟨#[vS b1 o1 ts.length cap,vI 30,vU,vU,u4,vI i,vS b1 o1 ts.length cap,vI ts.length,vI 30,vF,vI i,vS b1 o1 ts.length cap,vI ts.length,vT,u14,u15,vS b1 o1 ts.length cap,vI i,vP b1 (o1 + i),.string d,vT,vF,vF,u23,u24,u25,u26,u27,u28,u29,u30,u31], []⟩ (by kernel_rfl) (by kernel_rfl) ?_
      refine sK 7 (vS b1 o1 ts.length cap) rfl (by kernel_rfl) (fun _ _ _ h => h) (fun w => by kernel_rfl) ?_
      refine eA (bb 16 255) ⟨#[vS b1 o1 ts.length cap,vI 30,vU,vU,u4,vI i,vS b1 o1 ts.length cap,vI ts.length,vI 30,vF,vI i,vS b1 o1 ts.length cap,vI ts.length,vT,u14,u15,vS b1 o1 ts.length cap,vI i,vP b1 (o1 + i),.string d,vT,vF,vF,vS b1 o1 ts.length cap,u24,u25,u26,u27,u28,u29,u30,u31], []⟩ (by kernel_rfl) (by kernel_rfl) ?_
      refine sK 8 (vI i) rfl (by kernel_rfl) (fun _ _ _ h => h) (fun w => by kernel_rfl) ?_
      refine eA (bb 16 511) ⟨#[vS b1 o1 ts.length cap,vI 30,vU,vU,u4,vI i,vS b1 o1 ts.length cap,vI ts.length,vI 30,vF,vI i,vS b1 o1 ts.length cap,vI ts.length,vT,u14,u15,vS b1 o1 ts.length cap,vI i,vP b1 (o1 + i),.string d,vT,vF,vF,vS b1 o1 ts.length cap,vI i,u25,u26,u27,u28,u29,u30,u31], []⟩ (by kernel_rfl) (by kernel_rfl) ?_
      refine sK 9 (.slice (some ⟨b1, o1, none⟩) i cap) rfl (by kernel_rfl) (fun _ _ _ h => h) (fun w => run_vN (HSL.out w)) ?_
      refine eA (bb 16 1023) ⟨#[vS b1 o1 ts.length cap,vI 30,vU,vU,u4,vI i,vS b1 o1 ts.length cap,vI ts.length,vI 30,vF,vI i,vS b1 o1 ts.length cap,vI ts.length,vT,u14,u15,vS b1 o1 ts.length cap,vI i,vP b1 (o1 + i),.string d,vT,vF,vF,vS b1 o1 ts.length cap,vI i,vS b1 o1 i cap,u26,u27,u28,u29,u30,u31], []⟩ (by kernel_rfl) (by kernel_rfl) ?_
      refine sK 10 (vS b1 o1 ts.length cap) rfl (by kernel_rfl) (fun _ _ _ h => h) (fun w => by kernel_rfl) ?_
      refine eA (bb 16 2047) ⟨#[vS b1 o1 ts.length cap,vI 30,vU,vU,u4,vI i,vS b1 o1 ts.length cap,vI ts.length,vI 30,vF,vI i,vS b1 o1 ts.length cap,vI ts.length,vT,u14,u15,vS b1 o1 ts.length cap,vI i,vP b1 (o1 + i),.string d,vT,vF,vF,vS b1 o1 ts.length cap,vI i,vS b1 o1 i cap,vS b1 o1 ts.length cap,u27,u28,u29,u30,u31], []⟩ (by kernel_rfl) (by kernel_rfl) ?_
      refine sK 11 (vI i) rfl (by kernel_rfl) (fun _ _ _ h => h) (fun w => by kernel_rfl) ?_
      refine eA (bb 16 4095) ⟨#[vS b1 o1 ts.length cap,vI 30,vU,vU,u4,vI i,vS b1 o1 ts.length cap,vI ts.length,vI 30,vF,vI i,vS b1 o1 ts.length cap,vI ts.length,vT,u14,u15,vS b1 o1 ts.length cap,vI i,vP b1 (o1 + i),.string d,vT,vF,vF,vS b1 o1 ts.length cap,vI i,vS b1 o1 i cap,vS b1 o1 ts.length cap,vI i,u28,u29,u30,u31], []⟩ (by kernel_rfl) (by kernel_rfl) ?_
      refine sK 12 (.pointer (some ⟨b1, o1 + i, none⟩)) rfl (by kernel_rfl) (fun _ _ _ h => h) (fun w => run_vN (HX.out w)) ?_
      refine eA (bb 16 8191) ⟨#[vS b1 o1 ts.length cap,vI 30,vU,vU,u4,vI i,vS b1 o1 ts.length cap,vI ts.length,vI 30,vF,vI i,vS b1 o1 ts.length cap,vI ts.length,vT,u14,u15,vS b1 o1 ts.length cap,vI i,vP b1 (o1 + i),.string d,vT,vF,vF,vS b1 o1 ts.length cap,vI i,vS b1 o1 i cap,vS b1 o1 ts.length cap,vI i,vP b1 (o1 + i),u29,u30,u31], []⟩ (by kernel_rfl) (by kernel_rfl) ?_
      refine any_one (i := 13) (by kernel_rfl) rfl (opw_value (v := .string d) rfl (by kernel_rfl) (run_vN (HLD.out _ (cell_keepN c0 hb2 (by omega)))) ?_)
      refine eA (bb 16 16383) ⟨#[vS b1 o1 ts.length cap,vI 30,vU,vU,u4,vI i,vS b1 o1 ts.length cap,vI ts.length,vI 30,vF,vI i,vS b1 o1 ts.length cap,vI ts.length,vT,u14,u15,vS b1 o1 ts.length cap,vI i,vP b1 (o1 + i),.string d,vT,vF,vF,vS b1 o1 ts.length cap,vI i,vS b1 o1 i cap,vS b1 o1 ts.length cap,vI i,vP b1 (o1 + i),.string d,u30,u31], []⟩ (by kernel_rfl) (by kernel_rfl) ?_
      refine any_one (i := 14) (by kernel_rfl) rfl (opw_callN (f := 103) (args := #[.slice (some ⟨b1, o1, none⟩) i cap, .string d]) rfl (by kernel_rfl) (by kernel_rfl) ((HI.out _ hb2).mono ?_))
      rintro e w3 ⟨rfl, hb3⟩
      refine ⟨_, rfl, ?_⟩
      refine eA (bb 16 32767) ⟨#[vS b1 o1 ts.length cap,vI 30,vU,vU,u4,vI i,vS b1 o1 ts.length cap,vI ts.length,vI 30,vF,vI i,vS b1 o1 ts.length cap,vI ts.length,vT,u14,u15,vS b1 o1 ts.length cap,vI i,vP b1 (o1 + i),.string d,vT,vF,vF,vS b1 o1 ts.length cap,vI i,vS b1 o1 i cap,vS b1 o1 ts.length cap,vI i,vP b1 (o1 + i),.string d,vF,u31], []⟩ (by kernel_rfl) (by kernel_rfl) ?_
      refine sK 15 (vF) rfl (by kernel_rfl) (fun _ _ _ h => h) (fun w => by kernel_rfl) ?_
      refine eA (bb 16 65535) ⟨#[.slice (some ⟨b1, o1, none⟩) ts.length cap, .int .i64 30, undef, undef, u4, .int .i64 i, .slice (some ⟨b1, o1, none⟩) ts.length cap, .int .i64 ts.length, .int .i64 30, .bool false, .int .i64 i, .slice (some ⟨b1, o1, none⟩) ts.length cap, .int .i64 ts.length, .bool true, u14, u15, .slice (some ⟨b1, o1, none⟩) ts.length cap, .int .i64 i, .pointer (some ⟨b1, o1 + i, none⟩), .string d, .bool true, .bool false, .bool false, .slice (some ⟨b1, o1, none⟩) ts.length cap, .int .i64 i, .slice (some ⟨b1, o1, none⟩) i cap, .slice (some ⟨b1, o1, none⟩) ts.length cap, .int .i64 i, .pointer (some ⟨b1, o1 + i, none⟩), .string d, .bool false, .bool false], []⟩ (by kernel_rfl) (by kernel_rfl) ?_
      refine wpAny_done (by kernel_rfl) ?_ _
      all_goals
       go_wp2
       go_roundw
       case rel => exact ⟨i + 1, by omega, by go_num, HQ.out, (hb.trans (hb2.mono hsz0)).trans (hb3.mono (by have := hb2.size; omega))⟩
       case measure => simp [intOf]; omega
     ·have HQ : Hid (nmA ts = false) := nmA_false hd (.inr hha)
      rw [hha] at HI
      clear hno hna hha
      go_wp2_with fail
      refine wp_region_any (by kernel_rfl) ?_
      refine sK 0 (vS b1 o1 ts.length cap) rfl (by kernel_rfl) (fun _ _ _ h => h) (fun w => by kernel_rfl) ?_
      refine eA (bb 16 1) ⟨#[vS b1 o1 ts.length cap,vI 30,vU,vU,u4,vI i,vS b1 o1 ts.length cap,vI ts.length,vI 30,vF,vI i,vS b1 o1 ts.length cap,vI ts.length,vT,u14,u15,vS b1 o1 ts.length cap,u17,u18,u19,u20,u21,u22,u23,u24,u25,u26,u27,u28,u29,u30,u31], []⟩ (by kernel_rfl) (by kernel_rfl) ?_
      refine sK 1 (vI i) rfl (by kernel_rfl) (fun _ _ _ h => h) (fun w => by kernel_rfl) ?_
      refine eA (bb 16 3) ⟨#[vS b1 o1 ts.length cap,vI 30,vU,vU,u4,vI i,vS b1 o1 ts.length cap,vI ts.length,vI 30,vF,vI i,vS b1 o1 ts.length cap,vI ts.length,vT,u14,u15,vS b1 o1 ts.length cap,vI i,u18,u19,u20,u21,u22,u23,u24,u25,u26,u27,u28,u29,u30,u31], []⟩ (by kernel_rfl) (by kernel_rfl) ?_
      refine sK 2 (.pointer (some ⟨b1, o1 + i, none⟩)) rfl (by kernel_rfl) (fun _ _ _ h => h) (fun w => run_vN (HX.out w)) ?_
      refine eA (bb 16 7) ⟨#[vS b1 o1 ts.length cap,vI 30,vU,vU,u4,vI i,vS b1 o1 ts.length cap,vI ts.length,vI 30,vF,vI i,vS b1 o1 ts.length cap,vI ts.length,vT,u14,u15,vS b1 o1 ts.length cap,vI i,vP b1 (o1 + i),u19,u20,u21,u22,u23,u24,u25,u26,u27,u28,u29,u30,u31], []⟩ (by kernel_rfl) (by kernel_rfl) ?_
      refine any_one (i := 3) (by kernel_rfl) rfl (opw_value (v := .string d) rfl (by kernel_rfl) (run_vN (HLD.out _ c0)) ?_)
      refine eA (bb 16 15) ⟨#[vS b1 o1 ts.length cap,vI 30,vU,vU,u4,vI i,vS b1 o1 ts.length cap,vI ts.length,vI 30,vF,vI i,vS b1 o1 ts.length cap,vI ts.length,vT,u14,u15,vS b1 o1 ts.length cap,vI i,vP b1 (o1 + i),.string d,u20,u21,u22,u23,u24,u25,u26,u27,u28,u29,u30,u31], []⟩ (by kernel_rfl) (by kernel_rfl) ?_
      refine any_one (i := 4) (by kernel_rfl) rfl (opw_callN (f := 73) (args := #[.string d]) rfl (by kernel_rfl) (by kernel_rfl) ((HN.out _).mono ?_))
      rintro e w2 ⟨rfl, hb2⟩
      refine ⟨_, rfl, ?_⟩
      refine eA (bb 16 31) ⟨#[vS b1 o1 ts.length cap,vI 30,vU,vU,u4,vI i,vS b1 o1 ts.length cap,vI ts.length,vI 30,vF,vI i,vS b1 o1 ts.length cap,vI ts.length,vT,u14,u15,vS b1 o1 ts.length cap,vI i,vP b1 (o1 + i),.string d,vT,u21,u22,u23,u24,u25,u26,u27,u28,u29,u30,u31], []⟩ (by kernel_rfl) (by kernel_rfl) ?_
      have hb2 : Below wr.heap.size wr w2 := ((Below.refl wr.heap.size wr).drew).trans hb2
      refine sK 5 (vF) rfl (by kernel_rfl) (fun _ _ _ h => h) (fun w => by kernel_rfl) ?_
      refine eA (bb 16 63) ⟨#[vS b1 o1 ts.length cap,vI 30,vU,vU,u4,vI i,vS b1 o1 ts.length cap,vI ts.length,vI 30,vF,vI i,vS b1 o1 ts.length cap,vI ts.length,vT,u14,u15,vS b1 o1 ts.length cap,vI i,vP b1 (o1 + i),.string d,vT,vF,u22,u23,u24,u25,u26,u27,u28,u29,u30,u31], []⟩ (by kernel_rfl) (by kernel_rfl) ?_
      refine sK 6 (vF) rfl (by kernel_rfl) (fun _ _ _ h => h) (fun w => by kernel_rfl) ?_
      refine eA (bb 16 127) ⟨#[vS b1 o1 ts.length cap,vI 30,vU,vU,u4,vI i,vS b1 o1 ts.length cap,vI ts.length,vI 30,vF,vI i,vS b1 o1 ts.length cap,vI ts.length,vT,u14,u15,vS b1 o1 ts.length cap,vI i,vP b1 (o1 + i),.string d,vT,vF,vF,u23,u24,u25,u26,u27,u28,u29,u30,u31], []⟩ (by kernel_rfl) (by kernel_rfl) ?_
      refine sK 7 (vS b1 o1 ts.length cap) rfl (by kernel_rfl) (fun _ _ _ h => h) (fun w => by kernel_rfl) ?_
      refine eA (bb 16 255) ⟨#[vS b1 o1 ts.length cap,vI 30,vU,vU,u4,vI i,vS b1 o1 ts.length cap,vI ts.length,vI 30,vF,vI i,vS b1 o1 ts.length cap,vI ts.length,vT,u14,u15,vS b1 o1 ts.length cap,vI i,vP b1 (o1 + i),.string d,vT,vF,vF,vS b1 o1 ts.length cap,u24,u25,u26,u27,u28,u29,u30,u31], []⟩ (by kernel_rfl) (by kernel_rfl) ?_
      refine sK 8 (vI i) rfl (by kernel_rfl) (fun _ _ _ h => h) (fun w => by kernel_rfl) ?_
      refine eA (bb 16 511) ⟨#[vS b1 o1 ts.length cap,vI 30,vU,vU,u4,vI i,vS b1 o1 ts.length cap,vI ts.length,vI 30,vF,vI i,vS b1 o1 ts.length cap,vI ts.length,vT,u14,u15,vS b1 o1 ts.length cap,vI i,vP b1 (o1 + i),.string d,vT,vF,vF,vS b1 o1 ts.length cap,vI i,u25,u26,u27,u28,u29,u30,u31], []⟩ (by kernel_rfl) (by kernel_rfl) ?_
      refine sK 9 (.slice (some ⟨b1, o1, none⟩) i cap) rfl (by kernel_rfl) (fun _ _ _ h => h) (fun w => run_vN (HSL.out w)) ?_
      refine eA (bb 16 1023) ⟨#[vS b1 o1 ts.length cap,vI 30,vU,vU,u4,vI i,vS b1 o1 ts.length cap,vI ts.length,vI 30,vF,vI i,vS b1 o1 ts.length cap,vI ts.length,vT,u14,u15,vS b1 o1 ts.length cap,vI i,vP b1 (o1 + i),.string d,vT,vF,vF,vS b1 o1 ts.length cap,vI i,vS b1 o1 i cap,u26,u27,u28,u29,u30,u31], []⟩ (by kernel_rfl) (by kernel_rfl) ?_
      refine sK 10 (vS b1 o1 ts.length cap) rfl (by kernel_rfl) (fun _ _ _ h => h) (fun w => by kernel_rfl) ?_
      refine eA (bb 16 2047) ⟨#[vS b1 o1 ts.length cap,vI 30,vU,vU,u4,vI i,vS b1 o1 ts.length cap,vI ts.length,vI 30,vF,vI i,vS b1 o1 ts.length cap,vI ts.length,vT,u14,u15,vS b1 o1 ts.length cap,vI i,vP b1 (o1 + i),.string d,vT,vF,vF,vS b1 o1 ts.length cap,vI i,vS b1 o1 i cap,vS b1 o1 ts.length cap,u27,u28,u29,u30,u31], []⟩ (by kernel_rfl) (by kernel_rfl) ?_
      refine sK 11 (vI i) rfl (by kernel_rfl) (fun _ _ _ h => h) (fun w => by kernel_rfl) ?_
      refine eA (bb 16 4095) ⟨#[vS b1 o1 ts.length cap,vI 30,vU,vU,u4,vI i,vS b1 o1 ts.length cap,vI ts.length,vI 30,vF,vI i,vS b1 o1 ts.length cap,vI ts.length,vT,u14,u15,vS b1 o1 ts.length cap,vI i,vP b1 (o1 + i),.string d,vT,vF,vF,vS b1 o1 ts.length cap,vI i,vS b1 o1 i cap,vS b1 o1 ts.length cap,vI i,u28,u29,u30,u31], []⟩ (by kernel_rfl) (by kernel_rfl) ?_
      refine sK 12 (.pointer (some ⟨b1, o1 + i, none⟩)) rfl (by kernel_rfl) (fun _ _ _ h => h) (fun w => run_vN (HX.out w)) ?_
      refine eA (bb 16 8191) ⟨#[vS b1 o1 ts.length cap,vI 30,vU,vU,u4,vI i,vS b1 o1 ts.length cap,vI ts.length,vI 30,vF,vI i,vS b1 o1 ts.length cap,vI ts.length,vT,u14,u15,vS b1 o1 ts.length cap,vI i,vP b1 (o1 + i),.string d,vT,vF,vF,vS b1 o1 ts.length cap,vI i,vS b1 o1 i cap,vS b1 o1 ts.length cap,vI i,vP b1 (o1 + i),u29,u30,u31], []⟩ (by kernel_rfl) (by kernel_rfl) ?_
      refine any_one (i := 13) (by kernel_rfl) rfl (opw_value (v := .string d) rfl (by kernel_rfl) (run_vN (HLD.out _ (cell_keepN c0 hb2 (by omega)))) ?_)
      refine eA (bb 16 16383) ⟨#[vS b1 o1 ts.length cap,vI 30,vU,vU,u4,vI i,vS b1 o1 ts.length cap,vI ts.length,vI 30,vF,vI i,vS b1 o1 ts.length cap,vI ts.length,vT,u14,u15,vS b1 o1 ts.length cap,vI i,vP b1 (o1 + i),.string d,vT,vF,vF,vS b1 o1 ts.length cap,vI i,vS b1 o1 i cap,vS b1 o1 ts.length cap,vI i,vP b1 (o1 + i),.string d,u30,u31], []⟩ (by kernel_rfl) (by kernel_rfl) ?_
      refine any_one (i := 14) (by kernel_rfl) rfl (opw_callN (f := 103) (args := #[.slice (some ⟨b1, o1, none⟩) i cap, .string d]) rfl (by kernel_rfl) (by kernel_rfl) ((HI.out _ hb2).mono ?_))
      rintro e w3 ⟨rfl, hb3⟩
      refine ⟨_, rfl, ?_⟩
      refine eA (bb 16 32767) ⟨#[vS b1 o1 ts.length cap,vI 30,vU,vU,u4,vI i,vS b1 o1 ts.length cap,vI ts.length,vI 30,vF,vI i,vS b1 o1 ts.length cap,vI ts.length,vT,u14,u15,vS b1 o1 ts.length cap,vI i,vP b1 (o1 + i),.string d,vT,vF,vF,vS b1 o1 ts.length cap,vI i,vS b1 o1 i cap,vS b1 o1 ts.length cap,vI i,vP b1 (o1 + i),.string d,vT,u31], []⟩ (by kernel_rfl) (by kernel_rfl) ?_
      refine sK 15 (vT) rfl (by kernel_rfl) (fun _ _ _ h => h) (fun w => by kernel_rfl) ?_
      refine eA (bb 16 65535) ⟨#[.slice (some ⟨b1, o1, none⟩) ts.length cap, .int .i64 30, undef, undef, u4, .int .i64 i, .slice (some ⟨b1, o1, none⟩) ts.length cap, .int .i64 ts.length, .int .i64 30, .bool false, .int .i64 i, .slice (some ⟨b1, o1, none⟩) ts.length cap, .int .i64 ts.length, .bool true, u14, u15, .slice (some ⟨b1, o1, none⟩) ts.length cap, .int .i64 i, .pointer (some ⟨b1, o1 + i, none⟩), .string d, .bool true, .bool false, .bool false, .slice (some ⟨b1, o1, none⟩) ts.length cap, .int .i64 i, .slice (some ⟨b1, o1, none⟩) i cap, .slice (some ⟨b1, o1, none⟩) ts.length cap, .int .i64 i, .pointer (some ⟨b1, o1 + i, none⟩), .string d, .bool true, .bool true], []⟩ (by kernel_rfl) (by kernel_rfl) ?_
      refine wpAny_done (by kernel_rfl) ?_ _
      all_goals
       go_wp2
       go_ret
       exact ⟨by rw [HQ.out]; rfl, (hb.trans (hb2.mono hsz0)).trans (hb3.mono (by have := hb2.size; omega))⟩
   ·have hlt' : decide ((i : Int) < (ts.length : Int)) = false := by simp; omega
    obtain rfl : i = ts.length := by omega
    have HQ : Hid (nmA ts = true) := hno
    clear hno
    go_wp2
    go_ret
    exact ⟨by rw [HQ.out]; rfl, hb⟩
 ·have HD : Hid ((decide (ts.length ≤ 30) && nmA ts) = false) := by show _ = _; simp [h8]
  have h8' : decide ((30 : Int) < (ts.length : Int)) = true := by simp; omega
  rw [HD.out]
  go_enter Tryz.func102, Tryz.ntmps102
  go_wp2
  go_ret
  exact ⟨rfl, Below.refl _ _⟩
end Go.Proofs.YtlacidojljilaaaGreatDoor
