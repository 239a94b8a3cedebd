/- The law on numbers: its ways joined. -/
import Derived.Test.YtdbfifgblcmckacDoorNumd0
import Derived.Test.YtdbfifgblcmckacDoorNumd1
namespace Go.Proofs.YtdbfifgblcmckacDoor
open Go.ChangeShapes Go.WideShapes Go.ChangeAt Go.RowKit
theorem ext_size (t : ByteArray) (a b : Nat) : (t.extract a b).size ≤ t.size := by simp; omega
theorem spX_size (d : Code1) (t : ByteArray) (s : St) : (spX d t s).size ≤ 2 * t.size + 1 := by
  have h1 := ext_size t 0 (belX d t.size s).toNat
  have h2 := ext_size t ((belX d t.size s).toNat + 1) t.size
  have h3 := ext_size t (belX d t.size s).toNat t.size
  have h4 : ∀ x, (oneB x).size = 1 := fun x => rfl
  unfold spX
  simp only
  split
  · rw [ByteArray.size_append]; omega
  · split
    · rw [ByteArray.size_append, ByteArray.size_append, h4]; omega
    · split
      · omega
      · rw [ByteArray.size_append, ByteArray.size_append, h4]; omega
theorem drX_size (d : Code1) : (drX d).size ≤ 100 := by
  have h1 := drT_size d
  unfold drX
  split
  · split
    · rw [size_mk]
      have := textL_length d 3 (belS d 4 (textS d 4 (numS d (newS d)))) (by omega)
      omega
    · have := spX_size d (drT d) (belS d 4 (textS d 4 (numS d (newS d))))
      omega
  · omega
theorem kc_of_same {f : Nat} {args : Array Value} {v : Value} (h : ∀ w, Calls Tryd.prog f args w fun e w' => e = .returned v ∧ w' = w) : KC f args v :=
  fun w => (h w).mono fun _ _ ⟨he, hw⟩ => ⟨he, hw ▸ Below.refl _ _⟩
theorem app_mk (a b : List UInt8) : (ByteArray.mk a.toArray ++ ByteArray.mk b.toArray) = ByteArray.mk (a ++ b).toArray := ByteArray.mk_append_mk a b
theorem readFixed_total (l : List UInt8) (hl : l.length ≤ 1000) : ∃ (y : Int) (is : Bool), KC 10 #[.string ⟨l.toArray⟩, .int .i64 7] (.tuple #[.int .i64 y, .bool is]) := by
  by_cases h : l.length < 7
  · exact ⟨0, false, kc_of_same fun w => implRf_short ⟨l.toArray⟩ 7 w (by omega) (by omega) (by rw [size_mk]; exact h)⟩
  · exact ⟨_, true, kc_of_same fun w => implRf_yes ⟨l.toArray⟩ 7 w (by rw [size_mk]; unfold maxLen; omega) (by omega) (by omega) (by rw [size_mk]; omega)⟩
theorem readFixed_fix (n : Nat) (tl : List UInt8) (hl : tl.length ≤ 1000) (hn : n < 72057594037927936) : KC 10 #[.string (⟨(fixL n 7).toArray⟩ ++ ⟨tl.toArray⟩), .int .i64 7] (.tuple #[.int .i64 n, .bool true]) := by
  refine kc_of_same fun w => ?_
  rw [app_mk]
  have h := implRf_yes ⟨(fixL n 7 ++ tl).toArray⟩ 7 w (by rw [size_mk, List.length_append, fixL_length]; unfold maxLen; omega) (by omega) (by omega) (by rw [size_mk, List.length_append, fixL_length]; omega)
  rw [rf_of_fix n 7 tl, show n % 256 ^ 7 = n by omega] at h
  exact h
theorem lawN (d : Code1) (w : World) (hinv : Inv d w) (hlen : d.len ≤ 1048576) :
    Calls Tryd.prog 3 #[.slice d.a d.len d.cap] w fun e w' => e = .returned (.bool true) ∧ Below w.heap.size w w' := by
  have K4 : KC 4 #[.slice d.a d.len d.cap] (.bool false) := kc_of_same fun w => big_no d.a d.len d.cap w hlen
  have K5 := drawVar_st d
  have K6 := drawHex_st d
  have K15 := drawReadVar_st d
  have hnb := numX_bd d (newS d)
  have l2 : (textL d 40 (newS d)).length ≤ 40 := by have := textL_length d 40 (newS d) (by omega); omega
  have hdx := drX_size d
  generalize numX d (newS d) = n at *
  generalize textL d 40 (newS d) = tl at *
  generalize drX d = dx at *
  have K14 : KC 14 #[.string ⟨tl.toArray⟩] (.string ⟨(hexL tl).toArray⟩) := fun w => hex_K tl (by omega) w
  have K13 : KC 13 #[.string ⟨(hexL tl).toArray⟩] (.tuple #[.string ⟨tl.toArray⟩, .bool true]) := fun w => unhex_K tl (by omega) w
  have K12 : KT 12 #[.int .i64 n] (.string ⟨(decL n).toArray⟩) := fun w ht => implDec_any n w hnb.1 hnb.2 ht
  have K7 : KC 7 #[.int .i64 n] (.string ⟨(varR n).toArray⟩) := fun w => implVar_R n w
  have l1 := varR_length n
  have hdl := decL_len n
  obtain ⟨z, j, hzj⟩ := rv_total dx.data.toList
  have K8b : KC 8 #[.string dx] (.tuple #[.int .i64 z, .int .i64 j]) := kc_of_same fun w => readVar_K dx z j (by omega) hzj w
  have K11i : -1000000000 < n → n < 1000000000 → KC 11 #[.string ⟨(decL n).toArray⟩] (.tuple #[.int .i64 n, .bool true]) := fun a b w => readDec_K _ n true (by omega) (rd_in n a b) w
  have K11o : n ≤ -1000000000 ∨ 1000000000 ≤ n → KC 11 #[.string ⟨(decL n).toArray⟩] (.tuple #[.int .i64 0, .bool false]) := fun a w => readDec_K _ 0 false (by omega) (rd_out n hnb.1 hnb.2 a) w
  have hJ : j = 0 ∨ (1 ≤ j ∧ j ≤ dx.size ∧ KC 7 #[.int .i64 z] (.string ⟨(varR z).toArray⟩) ∧ (varR z == (dx.extract 0 j).toList) = true) := by
    rcases hzj with ⟨a1, a2, a3, a4, a5⟩ | ⟨rfl, rfl, _⟩
    · right
      have hsz : dx.data.toList.length = dx.size := by simp
      refine ⟨a1, by omega, fun w => implVar_R z w, ?_⟩
      have hl7 : (dx.data.toList.take j).length ≤ 7 := by rw [List.length_take]; omega
      have hne : dx.data.toList.take j ≠ [] := by
        intro h0
        have := congrArg List.length h0
        rw [List.length_take, List.length_nil] at this
        omega
      have hz7 := rvL_seven _ hl7
      have hv : varR z = varL 7 z := if_pos (by rw [a5]; omega)
      rw [hv, extract_front, a5, (canon _ 7 hl7 hne).2 a4]
      simp
    · exact .inl rfl
  by_cases hneg : n < 0
  · have hv : varR n = [] := if_neg (by omega)
    rw [hv] at K7 l1
    obtain ⟨x, k, hxk⟩ := rv_total ([] ++ tl)
    have K8 : KC 8 #[.string (⟨([] : List UInt8).toArray⟩ ++ ⟨tl.toArray⟩)] (.tuple #[.int .i64 (x : Nat), .int .i64 (k : Nat)]) := by
      rw [app_mk]
      exact kc_of_same fun w => readVar_K _ x k (by rw [size_mk]; simp; omega) (by rw [list_mk]; exact hxk) w
    have K9 : KC 9 #[.int .i64 n, .int .i64 7] (.string ⟨([] : List UInt8).toArray⟩) := kc_of_same fun w => implFix_neg n 7 w (by omega) (by omega) hneg
    obtain ⟨y, is, hyi⟩ := readFixed_total ([] ++ tl) (by simp; omega)
    have K10 : KC 10 #[.string (⟨([] : List UInt8).toArray⟩ ++ ⟨tl.toArray⟩), .int .i64 7] (.tuple #[.int .i64 y, .bool is]) := by rw [app_mk]; exact hyi
    by_cases h9 : -1000000000 < n
    · rcases hJ with rfl | ⟨j1, j2, K7b, jv⟩
      · exact core_D10 d n [] [] tl (decL n) (hexL tl) x k y is dx z w hinv K4 K5 K6 K7 K8 K9 K10 K12 (K11i h9 (by omega)) K14 K13 K15 K8b (by simp) l2 (by simp) rfl rfl hneg h9
      · exact core_D11 d n [] [] tl (decL n) (hexL tl) x k y is (varR z) dx z j w hinv K4 K5 K6 K7 K8 K9 K10 K12 (K11i h9 (by omega)) K14 K13 K15 K8b K7b j1 j2 jv (by simp) l2 (by simp) rfl rfl hneg h9
    · rcases hJ with rfl | ⟨j1, j2, K7b, jv⟩
      · exact core_D20 d n [] [] tl (decL n) (hexL tl) x k y is dx z w hinv K4 K5 K6 K7 K8 K9 K10 K12 (K11o (by omega)) K14 K13 K15 K8b (by simp) l2 (by simp) rfl rfl (by omega)
      · exact core_D21 d n [] [] tl (decL n) (hexL tl) x k y is (varR z) dx z j w hinv K4 K5 K6 K7 K8 K9 K10 K12 (K11o (by omega)) K14 K13 K15 K8b K7b j1 j2 jv (by simp) l2 (by simp) rfl rfl (by omega)
  · obtain ⟨m, hm⟩ := Int.eq_ofNat_of_zero_le (show 0 ≤ n by omega)
    by_cases hbig : 72057594037927936 ≤ n
    · have hv : varR n = [] := if_neg (by omega)
      rw [hv] at K7 l1
      obtain ⟨x, k, hxk⟩ := rv_total ([] ++ tl)
      have K8 : KC 8 #[.string (⟨([] : List UInt8).toArray⟩ ++ ⟨tl.toArray⟩)] (.tuple #[.int .i64 (x : Nat), .int .i64 (k : Nat)]) := by
        rw [app_mk]
        exact kc_of_same fun w => readVar_K _ x k (by rw [size_mk]; simp; omega) (by rw [list_mk]; exact hxk) w
      have K9 : KC 9 #[.int .i64 n, .int .i64 7] (.string ⟨([] : List UInt8).toArray⟩) := by
        rw [hm]
        exact kc_of_same fun w => implFix_big m 7 w (by omega) (by omega) (by omega) (by omega)
      obtain ⟨y, is, hyi⟩ := readFixed_total ([] ++ tl) (by simp; omega)
      have K10 : KC 10 #[.string (⟨([] : List UInt8).toArray⟩ ++ ⟨tl.toArray⟩), .int .i64 7] (.tuple #[.int .i64 y, .bool is]) := by rw [app_mk]; exact hyi
      rcases hJ with rfl | ⟨j1, j2, K7b, jv⟩
      · exact core_C0 d n [] [] tl (decL n) (hexL tl) x k y is dx z w hinv K4 K5 K6 K7 K8 K9 K10 K12 (K11o (by omega)) K14 K13 K15 K8b (by simp) l2 (by simp) rfl rfl hbig
      · exact core_C1 d n [] [] tl (decL n) (hexL tl) x k y is (varR z) dx z j w hinv K4 K5 K6 K7 K8 K9 K10 K12 (K11o (by omega)) K14 K13 K15 K8b K7b j1 j2 jv (by simp) l2 (by simp) rfl rfl hbig
    · have K9 : KC 9 #[.int .i64 n, .int .i64 7] (.string ⟨(fixL m 7).toArray⟩) := by
        rw [hm]
        exact fun w => implFix_yes m 7 w (by omega) (by omega) (by omega) (by omega)
      have K10 : KC 10 #[.string (⟨(fixL m 7).toArray⟩ ++ ⟨tl.toArray⟩), .int .i64 7] (.tuple #[.int .i64 n, .bool true]) := by
        rw [hm]
        exact readFixed_fix m tl (by omega) (by omega)
      have l3 := fixL_length m 7
      have e2 : (fixL m 7).isEmpty = false := by
        rw [List.isEmpty_eq_false_iff]
        intro h
        rw [h] at l3
        simp at l3
      by_cases hmax : n ≤ 562949953421311
      · have hv : varR n = varL 7 m := by
          have : varR n = varL 7 n.toNat := if_pos (by omega)
          rw [this, hm, Int.toNat_natCast]
        rw [hv] at K7 l1
        have K8 : KC 8 #[.string (⟨(varL 7 m).toArray⟩ ++ ⟨tl.toArray⟩)] (.tuple #[.int .i64 n, .int .i64 ((varL 7 m).length : Nat)]) := by
          rw [app_mk, hm]
          exact kc_of_same fun w => readVar_K _ m _ (by rw [size_mk, List.length_append]; omega) (by rw [list_mk]; exact rv_of_var m tl (by omega)) w
        have e1 : (varL 7 m).isEmpty = false := by
          rw [List.isEmpty_eq_false_iff]
          exact (varL_back 6 m (by omega)).2.2
        by_cases h9 : n < 1000000000
        · rcases hJ with rfl | ⟨j1, j2, K7b, jv⟩
          · exact core_A10 d n (varL 7 m) (fixL m 7) tl (decL n) (hexL tl) dx z w hinv K4 K5 K6 K7 K8 K9 K10 K12 (K11i (by omega) h9) K14 K13 K15 K8b l1 l2 l3 e1 e2 (by omega) hmax h9
          · exact core_A11 d n (varL 7 m) (fixL m 7) tl (decL n) (hexL tl) (varR z) dx z j w hinv K4 K5 K6 K7 K8 K9 K10 K12 (K11i (by omega) h9) K14 K13 K15 K8b K7b j1 j2 jv l1 l2 l3 e1 e2 (by omega) hmax h9
        · rcases hJ with rfl | ⟨j1, j2, K7b, jv⟩
          · exact core_A20 d n (varL 7 m) (fixL m 7) tl (decL n) (hexL tl) dx z w hinv K4 K5 K6 K7 K8 K9 K10 K12 (K11o (by omega)) K14 K13 K15 K8b l1 l2 l3 e1 e2 (by omega) hmax (by omega)
          · exact core_A21 d n (varL 7 m) (fixL m 7) tl (decL n) (hexL tl) (varR z) dx z j w hinv K4 K5 K6 K7 K8 K9 K10 K12 (K11o (by omega)) K14 K13 K15 K8b K7b j1 j2 jv l1 l2 l3 e1 e2 (by omega) hmax (by omega)
      · have hv : varR n = [] := if_neg (by omega)
        rw [hv] at K7 l1
        obtain ⟨x, k, hxk⟩ := rv_total ([] ++ tl)
        have K8 : KC 8 #[.string (⟨([] : List UInt8).toArray⟩ ++ ⟨tl.toArray⟩)] (.tuple #[.int .i64 (x : Nat), .int .i64 (k : Nat)]) := by
          rw [app_mk]
          exact kc_of_same fun w => readVar_K _ x k (by rw [size_mk]; simp; omega) (by rw [list_mk]; exact hxk) w
        rcases hJ with rfl | ⟨j1, j2, K7b, jv⟩
        · exact core_B0 d n [] (fixL m 7) tl (decL n) (hexL tl) x k dx z w hinv K4 K5 K6 K7 K8 K9 K10 K12 (K11o (by omega)) K14 K13 K15 K8b (by simp) l2 l3 rfl e2 (by omega) (by omega)
        · exact core_B1 d n [] (fixL m 7) tl (decL n) (hexL tl) x k (varR z) dx z j w hinv K4 K5 K6 K7 K8 K9 K10 K12 (K11o (by omega)) K14 K13 K15 K8b K7b j1 j2 jv (by simp) l2 l3 rfl e2 (by omega) (by omega)
end Go.Proofs.YtdbfifgblcmckacDoor
