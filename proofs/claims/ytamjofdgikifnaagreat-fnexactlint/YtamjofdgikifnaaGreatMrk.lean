/- The law's marks, into rows of structs. -/
import Derived.Test.YtamjofdgikifnaaGreatMrt
import Derived.Test.YtamjofdgikifnaaGreatApw
set_option linter.unusedVariables false
namespace Go.Proofs.YtamjofdgikifnaaGreat
open Go.ChangeShapes Go.WideShapes Go.ChangeAt Go.RowKit
def cnt {α : Type} (f : α → Nat) (l : List α) : Nat := (l.map f).sum
theorem cnt_take_succ {α : Type} (f : α → Nat) {l : List α} {i : Nat} {x : α} (h : l[i]? = some x) : cnt f (l.take (i + 1)) = cnt f (l.take i) + f x := by
 unfold cnt
 rw [List.take_add_one, h]
 simp
theorem cnt_append {α : Type} (f : α → Nat) (a b : List α) : cnt f (a ++ b) = cnt f a + cnt f b := by simp [cnt]
theorem cnt_take_le {α : Type} (f : α → Nat) (l : List α) (i : Nat) : cnt f (l.take i) ≤ cnt f l := by
 have h : cnt f l = cnt f (l.take i ++ l.drop i) := by rw [List.take_append_drop]
 rw [h, cnt_append]
 omega
theorem Like.int_of {n : Int} {v : Value} (h : Like (.int .i64 n) v) : ∃ m, v = .int .i64 m := by cases h <;> exact ⟨_, rfl⟩
theorem Like.str_of {t : ByteArray} {v : Value} (h : Like (.string t) v) : ∃ u, v = .string u := by cases h <;> exact ⟨_, rfl⟩
theorem Ks.put {B C : Nat} {w W : World} {b o : Nat} {X : Array Value} {t : TypeId} {v v' : Value} (hk : Ks B C w W) (hX : w.heap[b]? = some (.cells X t (0, 0))) (h1 : B ≤ b) (h2 : b < C) (hv : X[o]? = some v) (hl : ∀ u, Like v u → Like u v') : Ks B C w (W.setCell ⟨b, o, none⟩ v') := by
 obtain ⟨X', e', _, c'⟩ := hk.cells b X t hX
 obtain ⟨u, hu, lu⟩ := c' o v hv
 exact hk.trans (Ks.set h1 h2 e' hu (hl u lu))
theorem like_i {n m : Int} : ∀ u, Like (.int .i64 n) u → Like u (.int .i64 m) := fun u h => by
 obtain ⟨p, rfl⟩ := h.int_of
 exact .int _ _
theorem like_s {s t : ByteArray} : ∀ u, Like (.string s) u → Like u (.string t) := fun u h => by
 obtain ⟨p, rfl⟩ := h.str_of
 exact .str _ _
def Mk (B C : Nat) (w : World) (k n : Nat) (e : Ending) (w' : World) : Prop := e = .returned (.int .i64 ((k + n : Nat) : Int)) ∧ Ks B C w w'
theorem map_at {α β : Type} (f : α → β) {l : List α} {i : Nat} {x : α} (h : l[i]? = some x) : (l.map f)[i]? = some (f x) := by simp [h]
def sh_string (x : ByteArray) : List Sh := [.s]
def c_string (x : ByteArray) : Nat := 1
set_option maxRecDepth 100000 in
set_option maxHeartbeats 2000000 in
theorem mark_string (B C : Nat) (a : Option Addr) (l : List ByteArray) (cap k : Nat) (w : World) (h : Fits B C w (.r 1 (l.map sh_string)) (.slice a l.length cap)) (hn : l.length ≤ 1048576) (hk1 : 1 ≤ k) (hk : k + cnt c_string l ≤ 9000000) :
  Calls Tryz.prog 15 #[.slice a l.length cap, .int .i64 (k : Int)] w fun e w' => Mk B C w k (cnt c_string l) e w' := by
 have HF : Hid (Fits B C w (.r 1 (l.map sh_string)) (.slice a l.length cap)) := h
 clear h
 go_enter Tryz.func15, Tryz.ntmps15
 go_wp2
 go_loopw [1, 5] (fun kv iv wr => ∃ (i kk : Nat), i ≤ l.length ∧ kk = k + cnt c_string (l.take i) ∧ kv = .int .i64 kk ∧ iv = .int .i64 i ∧ Ks B C w wr)
  (fun kv iv _ => l.length - (intOf iv).toNat)
 case atStart => exact ⟨0, k, Nat.zero_le _, by simp [cnt], rfl, rfl, Ks.refl _ _ _⟩
 case round =>
  obtain ⟨i, kk, hi, hkk, rfl, rfl, hks⟩ := hrel
  have HKK : Hid (kk = k + cnt c_string (l.take i)) := hkk
  have hle := cnt_take_le c_string l (i + 1)
  by_cases hlt : i < l.length
  ·obtain ⟨x, hx⟩ : ∃ x, l[i]? = some x := ⟨_, List.getElem?_eq_getElem hlt⟩
   have hcs := cnt_take_succ c_string hx
   obtain ⟨b, o, X, t, rfl, hB, hC, hX, hfl⟩ := (HF.out.ks hks _ (.same _)).row (map_at sh_string hx)
   have hil : (i : Int) < (l.length : Int) := by omega
   have hcx : c_string x = 1 := rfl
   have hkb : kk + (1) ≤ 9000000 := by omega
   have hkp : 1 ≤ kk := by omega
   have HKN : Hid (kk + (1) = k + cnt c_string (l.take (i + 1))) := by show _ = _; omega
   clear hcx
   have HX : Hid (wr.heap[b]? = some (.cells X t (0, 0))) := hX
   have HB : Hid (B ≤ b) := hB
   have HC : Hid (b < C) := hC
   have HKS : Hid (Ks B C w wr) := hks
   clear hle hcs hkk
   obtain ⟨u0, w0, f0⟩ := hfl 0 (.s) rfl
   obtain ⟨n0_wr, rfl⟩ := f0.text
   have v0_wr : X[o + i]? = some (.string n0_wr) := by simpa using w0
   have V0 : Hid (X[o + i]? = some (.string n0_wr)) := v0_wr
   have HT : Hid (∀ (m : Nat) (w1 : World), 1 ≤ m → m ≤ 9000000 → Calls Tryz.prog 44 #[.int .i64 (m : Int)] w1 fun e w' => Ans w1 (.string (mtx m)) e w') := fun m w1 h1 h2 => markText_any m w1 (by omega) (by omega)
   have x0 : wr.cell? ⟨b, o + i, none⟩ = some (.string n0_wr) := cell_blk hX v0_wr
   have z0 := frozen_blk hX (o + i)
   clear hfl hX hB hC hks w0 v0_wr f0
   go_wp2_with fail
   refine (HT.out (kk) _ (by omega) (by omega)).mono ?_
   rintro e w1x ⟨rfl, hb1⟩
   have q1 : Ks B C wr w1x := (Ks.refl B C wr).trans (Ks.of_below hb1)
   clear hb1
   clear x0 z0
   obtain ⟨X1, hX1, -, hc1⟩ := q1.cells b X t HX.out
   obtain ⟨u0, v0_w1x, l0⟩ := hc1 _ _ V0.out
   obtain ⟨n0_w1x, rfl⟩ := l0.str_of
   have x0 : w1x.cell? ⟨b, o + i, none⟩ = some (.string n0_w1x) := cell_blk hX1 v0_w1x
   have z0 := frozen_blk hX1 (o + i)
   have HQ1 : Hid (Ks B C wr w1x) := q1
   clear q1 hc1 hX1 v0_w1x l0
   go_wp2
   go_roundw
   case rel => exact ⟨i + 1, kk + 1, by omega, by have := HKN.out; omega, by go_num, by go_num, HKS.out.trans (HQ1.out.put HX.out HB.out HC.out V0.out like_s)⟩
   case measure => simp [intOf]; omega
  ·have hlt' : decide ((i : Int) < (l.length : Int)) = false := by simp; omega
   obtain rfl : i = l.length := by omega
   rw [List.take_length] at HKK
   have HQ : Hid (kk = k + cnt c_string l) := HKK.out
   have HKS : Hid (Ks B C w wr) := hks
   clear hkk HKK hle hks
   go_wp2
   go_ret
   exact ⟨by rw [HQ.out]; rfl, HKS.out⟩
def sh_int (x : Int) : List Sh := [.i]
def c_int (x : Int) : Nat := 1
set_option maxRecDepth 100000 in
set_option maxHeartbeats 2000000 in
theorem mark_int (B C : Nat) (a : Option Addr) (l : List Int) (cap k : Nat) (w : World) (h : Fits B C w (.r 1 (l.map sh_int)) (.slice a l.length cap)) (hn : l.length ≤ 1048576) (hk1 : 1 ≤ k) (hk : k + cnt c_int l ≤ 9000000) :
  Calls Tryz.prog 97 #[.slice a l.length cap, .int .i64 (k : Int)] w fun e w' => Mk B C w k (cnt c_int l) e w' := by
 have HF : Hid (Fits B C w (.r 1 (l.map sh_int)) (.slice a l.length cap)) := h
 clear h
 go_enter Tryz.func97, Tryz.ntmps97
 go_wp2
 go_loopw [1, 5] (fun kv iv wr => ∃ (i kk : Nat), i ≤ l.length ∧ kk = k + cnt c_int (l.take i) ∧ kv = .int .i64 kk ∧ iv = .int .i64 i ∧ Ks B C w wr)
  (fun kv iv _ => l.length - (intOf iv).toNat)
 case atStart => exact ⟨0, k, Nat.zero_le _, by simp [cnt], rfl, rfl, Ks.refl _ _ _⟩
 case round =>
  obtain ⟨i, kk, hi, hkk, rfl, rfl, hks⟩ := hrel
  have HKK : Hid (kk = k + cnt c_int (l.take i)) := hkk
  have hle := cnt_take_le c_int l (i + 1)
  by_cases hlt : i < l.length
  ·obtain ⟨x, hx⟩ : ∃ x, l[i]? = some x := ⟨_, List.getElem?_eq_getElem hlt⟩
   have hcs := cnt_take_succ c_int hx
   obtain ⟨b, o, X, t, rfl, hB, hC, hX, hfl⟩ := (HF.out.ks hks _ (.same _)).row (map_at sh_int hx)
   have hil : (i : Int) < (l.length : Int) := by omega
   have hcx : c_int x = 1 := rfl
   have hkb : kk + (1) ≤ 9000000 := by omega
   have hkp : 1 ≤ kk := by omega
   have HKN : Hid (kk + (1) = k + cnt c_int (l.take (i + 1))) := by show _ = _; omega
   clear hcx
   have HX : Hid (wr.heap[b]? = some (.cells X t (0, 0))) := hX
   have HB : Hid (B ≤ b) := hB
   have HC : Hid (b < C) := hC
   have HKS : Hid (Ks B C w wr) := hks
   clear hle hcs hkk
   obtain ⟨u0, w0, f0⟩ := hfl 0 (.i) rfl
   obtain ⟨n0_wr, rfl⟩ := f0.int
   have v0_wr : X[o + i]? = some (.int .i64 n0_wr) := by simpa using w0
   have V0 : Hid (X[o + i]? = some (.int .i64 n0_wr)) := v0_wr
   have x0 : wr.cell? ⟨b, o + i, none⟩ = some (.int .i64 n0_wr) := cell_blk hX v0_wr
   have z0 := frozen_blk hX (o + i)
   clear hfl hX hB hC hks w0 v0_wr f0
   go_wp2
   go_roundw
   case rel => exact ⟨i + 1, kk + 1, by omega, by have := HKN.out; omega, by go_num, by go_num, HKS.out.trans ((Ks.refl B C wr).put HX.out HB.out HC.out V0.out like_i)⟩
   case measure => simp [intOf]; omega
  ·have hlt' : decide ((i : Int) < (l.length : Int)) = false := by simp; omega
   obtain rfl : i = l.length := by omega
   rw [List.take_length] at HKK
   have HQ : Hid (kk = k + cnt c_int l) := HKK.out
   have HKS : Hid (Ks B C w wr) := hks
   clear hkk HKK hle hks
   go_wp2
   go_ret
   exact ⟨by rw [HQ.out]; rfl, HKS.out⟩
def sh_Type (x : Typ) : List Sh := [.s, .i]
def c_Type (x : Typ) : Nat := 2
set_option maxRecDepth 100000 in
set_option maxHeartbeats 2000000 in
theorem mark_Type (B C : Nat) (a : Option Addr) (l : List Typ) (cap k : Nat) (w : World) (h : Fits B C w (.r 2 (l.map sh_Type)) (.slice a l.length cap)) (hn : l.length ≤ 1048576) (hk1 : 1 ≤ k) (hk : k + cnt c_Type l ≤ 9000000) :
  Calls Tryz.prog 42 #[.slice a l.length cap, .int .i64 (k : Int)] w fun e w' => Mk B C w k (cnt c_Type l) e w' := by
 have HF : Hid (Fits B C w (.r 2 (l.map sh_Type)) (.slice a l.length cap)) := h
 clear h
 go_enter Tryz.func42, Tryz.ntmps42
 go_wp2
 go_loopw [1, 5] (fun kv iv wr => ∃ (i kk : Nat), i ≤ l.length ∧ kk = k + cnt c_Type (l.take i) ∧ kv = .int .i64 kk ∧ iv = .int .i64 i ∧ Ks B C w wr)
  (fun kv iv _ => l.length - (intOf iv).toNat)
 case atStart => exact ⟨0, k, Nat.zero_le _, by simp [cnt], rfl, rfl, Ks.refl _ _ _⟩
 case round =>
  obtain ⟨i, kk, hi, hkk, rfl, rfl, hks⟩ := hrel
  have HKK : Hid (kk = k + cnt c_Type (l.take i)) := hkk
  have hle := cnt_take_le c_Type l (i + 1)
  by_cases hlt : i < l.length
  ·obtain ⟨x, hx⟩ : ∃ x, l[i]? = some x := ⟨_, List.getElem?_eq_getElem hlt⟩
   have hcs := cnt_take_succ c_Type hx
   obtain ⟨b, o, X, t, rfl, hB, hC, hX, hfl⟩ := (HF.out.ks hks _ (.same _)).row (map_at sh_Type hx)
   have hil : (i : Int) < (l.length : Int) := by omega
   have hcx : c_Type x = 2 := rfl
   have hkb : kk + (2) ≤ 9000000 := by omega
   have hkp : 1 ≤ kk := by omega
   have HKN : Hid (kk + (2) = k + cnt c_Type (l.take (i + 1))) := by show _ = _; omega
   clear hcx
   have HX : Hid (wr.heap[b]? = some (.cells X t (0, 0))) := hX
   have HB : Hid (B ≤ b) := hB
   have HC : Hid (b < C) := hC
   have HKS : Hid (Ks B C w wr) := hks
   clear hle hcs hkk
   obtain ⟨u0, w0, f0⟩ := hfl 0 (.s) rfl
   obtain ⟨n0_wr, rfl⟩ := f0.text
   have v0_wr : X[o + i * 2]? = some (.string n0_wr) := by simpa using w0
   have V0 : Hid (X[o + i * 2]? = some (.string n0_wr)) := v0_wr
   obtain ⟨u1, w1, f1⟩ := hfl 1 (.i) rfl
   obtain ⟨n1_wr, rfl⟩ := f1.int
   have v1_wr : X[o + i * 2 + 1]? = some (.int .i64 n1_wr) := by simpa using w1
   have V1 : Hid (X[o + i * 2 + 1]? = some (.int .i64 n1_wr)) := v1_wr
   have HT : Hid (∀ (m : Nat) (w1 : World), 1 ≤ m → m ≤ 9000000 → Calls Tryz.prog 44 #[.int .i64 (m : Int)] w1 fun e w' => Ans w1 (.string (mtx m)) e w') := fun m w1 h1 h2 => markText_any m w1 (by omega) (by omega)
   have x0 : wr.cell? ⟨b, o + i * 2, none⟩ = some (.string n0_wr) := cell_blk hX v0_wr
   have z0 := frozen_blk hX (o + i * 2)
   have x1 : wr.cell? ⟨b, o + i * 2 + 1, none⟩ = some (.int .i64 n1_wr) := cell_blk hX v1_wr
   have z1 := frozen_blk hX (o + i * 2 + 1)
   clear hfl hX hB hC hks w0 v0_wr w1 v1_wr f0 f1
   go_wp2_with fail
   refine (HT.out (kk) _ (by omega) (by omega)).mono ?_
   rintro e w1x ⟨rfl, hb1⟩
   have q1 : Ks B C wr w1x := (Ks.refl B C wr).trans (Ks.of_below hb1)
   clear hb1
   clear x0 z0 x1 z1
   obtain ⟨X1, hX1, -, hc1⟩ := q1.cells b X t HX.out
   obtain ⟨u0, v0_w1x, l0⟩ := hc1 _ _ V0.out
   obtain ⟨n0_w1x, rfl⟩ := l0.str_of
   obtain ⟨u1, v1_w1x, l1⟩ := hc1 _ _ V1.out
   obtain ⟨n1_w1x, rfl⟩ := l1.int_of
   have x0 : w1x.cell? ⟨b, o + i * 2, none⟩ = some (.string n0_w1x) := cell_blk hX1 v0_w1x
   have z0 := frozen_blk hX1 (o + i * 2)
   have x1 : w1x.cell? ⟨b, o + i * 2 + 1, none⟩ = some (.int .i64 n1_w1x) := cell_blk hX1 v1_w1x
   have z1 := frozen_blk hX1 (o + i * 2 + 1)
   have HQ1 : Hid (Ks B C wr w1x) := q1
   clear q1 hc1 hX1 v0_w1x l0 v1_w1x l1
   go_wp2
   go_roundw
   case rel => exact ⟨i + 1, kk + 1 + 1, by omega, by have := HKN.out; omega, by go_num, by go_num, HKS.out.trans ((HQ1.out.put HX.out HB.out HC.out V0.out like_s).put HX.out HB.out HC.out V1.out like_i)⟩
   case measure => simp [intOf]; omega
  ·have hlt' : decide ((i : Int) < (l.length : Int)) = false := by simp; omega
   obtain rfl : i = l.length := by omega
   rw [List.take_length] at HKK
   have HQ : Hid (kk = k + cnt c_Type l) := HKK.out
   have HKS : Hid (Ks B C w wr) := hks
   clear hkk HKK hle hks
   go_wp2
   go_ret
   exact ⟨by rw [HQ.out]; rfl, HKS.out⟩
def sh_Node (x : Nod) : List Sh := [.i, .i, .s, .r 1 (x.names.map sh_string), .r 1 (x.args.map sh_int)]
def c_Node (x : Nod) : Nat := 3 + cnt c_string x.names + cnt c_int x.args
set_option maxRecDepth 100000 in
set_option maxHeartbeats 2000000 in
theorem mark_Node (B C : Nat) (a : Option Addr) (l : List Nod) (cap k : Nat) (w : World) (h : Fits B C w (.r 5 (l.map sh_Node)) (.slice a l.length cap)) (hn : l.length ≤ 1048576) (hin : ∀ x ∈ l, x.small) (hk1 : 1 ≤ k) (hk : k + cnt c_Node l ≤ 9000000) :
  Calls Tryz.prog 75 #[.slice a l.length cap, .int .i64 (k : Int)] w fun e w' => Mk B C w k (cnt c_Node l) e w' := by
 have HF : Hid (Fits B C w (.r 5 (l.map sh_Node)) (.slice a l.length cap)) := h
 clear h
 go_enter Tryz.func75, Tryz.ntmps75
 go_wp2
 go_loopw [1, 5] (fun kv iv wr => ∃ (i kk : Nat), i ≤ l.length ∧ kk = k + cnt c_Node (l.take i) ∧ kv = .int .i64 kk ∧ iv = .int .i64 i ∧ Ks B C w wr)
  (fun kv iv _ => l.length - (intOf iv).toNat)
 case atStart => exact ⟨0, k, Nat.zero_le _, by simp [cnt], rfl, rfl, Ks.refl _ _ _⟩
 case round =>
  obtain ⟨i, kk, hi, hkk, rfl, rfl, hks⟩ := hrel
  have HKK : Hid (kk = k + cnt c_Node (l.take i)) := hkk
  have hle := cnt_take_le c_Node l (i + 1)
  by_cases hlt : i < l.length
  ·obtain ⟨x, hx⟩ : ∃ x, l[i]? = some x := ⟨_, List.getElem?_eq_getElem hlt⟩
   have hcs := cnt_take_succ c_Node hx
   obtain ⟨b, o, X, t, rfl, hB, hC, hX, hfl⟩ := (HF.out.ks hks _ (.same _)).row (map_at sh_Node hx)
   have hil : (i : Int) < (l.length : Int) := by omega
   have hcx : c_Node x = 3 + cnt c_string x.names + cnt c_int x.args := rfl
   have hkb : kk + (3 + cnt c_string x.names + cnt c_int x.args) ≤ 9000000 := by omega
   have hkp : 1 ≤ kk := by omega
   have HKN : Hid (kk + (3 + cnt c_string x.names + cnt c_int x.args) = k + cnt c_Node (l.take (i + 1))) := by show _ = _; omega
   clear hcx
   have HX : Hid (wr.heap[b]? = some (.cells X t (0, 0))) := hX
   have HB : Hid (B ≤ b) := hB
   have HC : Hid (b < C) := hC
   have HKS : Hid (Ks B C w wr) := hks
   clear hle hcs hkk
   obtain ⟨u0, w0, f0⟩ := hfl 0 (.i) rfl
   obtain ⟨n0_wr, rfl⟩ := f0.int
   have v0_wr : X[o + i * 5]? = some (.int .i64 n0_wr) := by simpa using w0
   have V0 : Hid (X[o + i * 5]? = some (.int .i64 n0_wr)) := v0_wr
   obtain ⟨u1, w1, f1⟩ := hfl 1 (.i) rfl
   obtain ⟨n1_wr, rfl⟩ := f1.int
   have v1_wr : X[o + i * 5 + 1]? = some (.int .i64 n1_wr) := by simpa using w1
   have V1 : Hid (X[o + i * 5 + 1]? = some (.int .i64 n1_wr)) := v1_wr
   obtain ⟨u2, w2, f2⟩ := hfl 2 (.s) rfl
   obtain ⟨n2_wr, rfl⟩ := f2.text
   have v2_wr : X[o + i * 5 + 2]? = some (.string n2_wr) := by simpa using w2
   have V2 : Hid (X[o + i * 5 + 2]? = some (.string n2_wr)) := v2_wr
   obtain ⟨u3, w3, f3⟩ := hfl 3 (.r 1 (x.names.map sh_string)) rfl
   obtain ⟨a3, c3, rfl⟩ := f3.slice
   rw [List.length_map] at w3 f3
   have v3_wr : X[o + i * 5 + 3]? = some (.slice a3 x.names.length c3) := by simpa using w3
   have V3 : Hid (X[o + i * 5 + 3]? = some (.slice a3 x.names.length c3)) := v3_wr
   have HLN3 : Hid (x.names.length ≤ 1048576) := (hin x (List.mem_of_getElem? hx)).2.2.2.1
   have HY3 : Hid (∀ (w1 : World) (k1 : Nat), Ks B C wr w1 → 1 ≤ k1 → k1 + cnt c_string x.names ≤ 9000000 → Calls Tryz.prog 15 #[.slice a3 x.names.length c3, .int .i64 (k1 : Int)] w1 fun e w' => Mk B C w1 k1 (cnt c_string x.names) e w') := fun w1 k1 hq h1 h2 => mark_string B C a3 x.names c3 k1 w1 (f3.ks hq _ (.same _)) (HLN3.out) h1 h2
   obtain ⟨u4, w4, f4⟩ := hfl 4 (.r 1 (x.args.map sh_int)) rfl
   obtain ⟨a4, c4, rfl⟩ := f4.slice
   rw [List.length_map] at w4 f4
   have v4_wr : X[o + i * 5 + 4]? = some (.slice a4 x.args.length c4) := by simpa using w4
   have V4 : Hid (X[o + i * 5 + 4]? = some (.slice a4 x.args.length c4)) := v4_wr
   have HLN4 : Hid (x.args.length ≤ 1048576) := (hin x (List.mem_of_getElem? hx)).2.2.2.2.1
   have HY4 : Hid (∀ (w1 : World) (k1 : Nat), Ks B C wr w1 → 1 ≤ k1 → k1 + cnt c_int x.args ≤ 9000000 → Calls Tryz.prog 97 #[.slice a4 x.args.length c4, .int .i64 (k1 : Int)] w1 fun e w' => Mk B C w1 k1 (cnt c_int x.args) e w') := fun w1 k1 hq h1 h2 => mark_int B C a4 x.args c4 k1 w1 (f4.ks hq _ (.same _)) (HLN4.out) h1 h2
   have HT : Hid (∀ (m : Nat) (w1 : World), 1 ≤ m → m ≤ 9000000 → Calls Tryz.prog 44 #[.int .i64 (m : Int)] w1 fun e w' => Ans w1 (.string (mtx m)) e w') := fun m w1 h1 h2 => markText_any m w1 (by omega) (by omega)
   have x0 : wr.cell? ⟨b, o + i * 5, none⟩ = some (.int .i64 n0_wr) := cell_blk hX v0_wr
   have z0 := frozen_blk hX (o + i * 5)
   have x1 : wr.cell? ⟨b, o + i * 5 + 1, none⟩ = some (.int .i64 n1_wr) := cell_blk hX v1_wr
   have z1 := frozen_blk hX (o + i * 5 + 1)
   have x2 : wr.cell? ⟨b, o + i * 5 + 2, none⟩ = some (.string n2_wr) := cell_blk hX v2_wr
   have z2 := frozen_blk hX (o + i * 5 + 2)
   have x3 : wr.cell? ⟨b, o + i * 5 + 3, none⟩ = some (.slice a3 x.names.length c3) := cell_blk hX v3_wr
   have z3 := frozen_blk hX (o + i * 5 + 3)
   have x4 : wr.cell? ⟨b, o + i * 5 + 4, none⟩ = some (.slice a4 x.args.length c4) := cell_blk hX v4_wr
   have z4 := frozen_blk hX (o + i * 5 + 4)
   clear hfl hX hB hC hks w0 v0_wr w1 v1_wr w2 v2_wr w3 v3_wr w4 v4_wr f0 f1 f2 f3 f4
   go_wp2_with fail
   refine (HT.out (kk + 1 + 1) _ (by omega) (by omega)).mono ?_
   rintro e w1x ⟨rfl, hb1⟩
   have q1 : Ks B C wr w1x := (((Ks.refl B C wr).put HX.out HB.out HC.out V0.out like_i).put HX.out HB.out HC.out V1.out like_i).trans (Ks.of_below hb1)
   clear hb1
   clear x0 z0 x1 z1 x2 z2 x3 z3 x4 z4
   obtain ⟨X1, hX1, -, hc1⟩ := q1.cells b X t HX.out
   obtain ⟨u0, v0_w1x, l0⟩ := hc1 _ _ V0.out
   obtain ⟨n0_w1x, rfl⟩ := l0.int_of
   obtain ⟨u1, v1_w1x, l1⟩ := hc1 _ _ V1.out
   obtain ⟨n1_w1x, rfl⟩ := l1.int_of
   obtain ⟨u2, v2_w1x, l2⟩ := hc1 _ _ V2.out
   obtain ⟨n2_w1x, rfl⟩ := l2.str_of
   obtain ⟨u3, v3_w1x, l3⟩ := hc1 _ _ V3.out
   obtain rfl := l3.slice
   obtain ⟨u4, v4_w1x, l4⟩ := hc1 _ _ V4.out
   obtain rfl := l4.slice
   have x0 : w1x.cell? ⟨b, o + i * 5, none⟩ = some (.int .i64 n0_w1x) := cell_blk hX1 v0_w1x
   have z0 := frozen_blk hX1 (o + i * 5)
   have x1 : w1x.cell? ⟨b, o + i * 5 + 1, none⟩ = some (.int .i64 n1_w1x) := cell_blk hX1 v1_w1x
   have z1 := frozen_blk hX1 (o + i * 5 + 1)
   have x2 : w1x.cell? ⟨b, o + i * 5 + 2, none⟩ = some (.string n2_w1x) := cell_blk hX1 v2_w1x
   have z2 := frozen_blk hX1 (o + i * 5 + 2)
   have x3 : w1x.cell? ⟨b, o + i * 5 + 3, none⟩ = some (.slice a3 x.names.length c3) := cell_blk hX1 v3_w1x
   have z3 := frozen_blk hX1 (o + i * 5 + 3)
   have x4 : w1x.cell? ⟨b, o + i * 5 + 4, none⟩ = some (.slice a4 x.args.length c4) := cell_blk hX1 v4_w1x
   have z4 := frozen_blk hX1 (o + i * 5 + 4)
   have HQ1 : Hid (Ks B C wr w1x) := q1
   clear q1 hc1 hX1 v0_w1x l0 v1_w1x l1 v2_w1x l2 v3_w1x l3 v4_w1x l4
   go_wp2_with fail
   refine (HY3.out _ (kk + 1 + 1 + 1) (HQ1.out.put HX.out HB.out HC.out V2.out like_s) (by omega) (by omega)).mono ?_
   rintro e w2x ⟨rfl, hb2⟩
   have q2 : Ks B C wr w2x := (HQ1.out.put HX.out HB.out HC.out V2.out like_s).trans hb2
   clear hb2
   clear x0 z0 x1 z1 x2 z2 x3 z3 x4 z4
   obtain ⟨X2, hX2, -, hc2⟩ := q2.cells b X t HX.out
   obtain ⟨u0, v0_w2x, l0⟩ := hc2 _ _ V0.out
   obtain ⟨n0_w2x, rfl⟩ := l0.int_of
   obtain ⟨u1, v1_w2x, l1⟩ := hc2 _ _ V1.out
   obtain ⟨n1_w2x, rfl⟩ := l1.int_of
   obtain ⟨u2, v2_w2x, l2⟩ := hc2 _ _ V2.out
   obtain ⟨n2_w2x, rfl⟩ := l2.str_of
   obtain ⟨u3, v3_w2x, l3⟩ := hc2 _ _ V3.out
   obtain rfl := l3.slice
   obtain ⟨u4, v4_w2x, l4⟩ := hc2 _ _ V4.out
   obtain rfl := l4.slice
   have x0 : w2x.cell? ⟨b, o + i * 5, none⟩ = some (.int .i64 n0_w2x) := cell_blk hX2 v0_w2x
   have z0 := frozen_blk hX2 (o + i * 5)
   have x1 : w2x.cell? ⟨b, o + i * 5 + 1, none⟩ = some (.int .i64 n1_w2x) := cell_blk hX2 v1_w2x
   have z1 := frozen_blk hX2 (o + i * 5 + 1)
   have x2 : w2x.cell? ⟨b, o + i * 5 + 2, none⟩ = some (.string n2_w2x) := cell_blk hX2 v2_w2x
   have z2 := frozen_blk hX2 (o + i * 5 + 2)
   have x3 : w2x.cell? ⟨b, o + i * 5 + 3, none⟩ = some (.slice a3 x.names.length c3) := cell_blk hX2 v3_w2x
   have z3 := frozen_blk hX2 (o + i * 5 + 3)
   have x4 : w2x.cell? ⟨b, o + i * 5 + 4, none⟩ = some (.slice a4 x.args.length c4) := cell_blk hX2 v4_w2x
   have z4 := frozen_blk hX2 (o + i * 5 + 4)
   have HQ2 : Hid (Ks B C wr w2x) := q2
   clear q2 hc2 hX2 v0_w2x l0 v1_w2x l1 v2_w2x l2 v3_w2x l3 v4_w2x l4
   go_wp2_with fail
   refine (HY4.out _ (kk + 1 + 1 + 1 + cnt c_string x.names) HQ2.out (by omega) (by omega)).mono ?_
   rintro e w3x ⟨rfl, hb3⟩
   have q3 : Ks B C wr w3x := HQ2.out.trans hb3
   clear hb3
   clear x0 z0 x1 z1 x2 z2 x3 z3 x4 z4
   obtain ⟨X3, hX3, -, hc3⟩ := q3.cells b X t HX.out
   obtain ⟨u0, v0_w3x, l0⟩ := hc3 _ _ V0.out
   obtain ⟨n0_w3x, rfl⟩ := l0.int_of
   obtain ⟨u1, v1_w3x, l1⟩ := hc3 _ _ V1.out
   obtain ⟨n1_w3x, rfl⟩ := l1.int_of
   obtain ⟨u2, v2_w3x, l2⟩ := hc3 _ _ V2.out
   obtain ⟨n2_w3x, rfl⟩ := l2.str_of
   obtain ⟨u3, v3_w3x, l3⟩ := hc3 _ _ V3.out
   obtain rfl := l3.slice
   obtain ⟨u4, v4_w3x, l4⟩ := hc3 _ _ V4.out
   obtain rfl := l4.slice
   have x0 : w3x.cell? ⟨b, o + i * 5, none⟩ = some (.int .i64 n0_w3x) := cell_blk hX3 v0_w3x
   have z0 := frozen_blk hX3 (o + i * 5)
   have x1 : w3x.cell? ⟨b, o + i * 5 + 1, none⟩ = some (.int .i64 n1_w3x) := cell_blk hX3 v1_w3x
   have z1 := frozen_blk hX3 (o + i * 5 + 1)
   have x2 : w3x.cell? ⟨b, o + i * 5 + 2, none⟩ = some (.string n2_w3x) := cell_blk hX3 v2_w3x
   have z2 := frozen_blk hX3 (o + i * 5 + 2)
   have x3 : w3x.cell? ⟨b, o + i * 5 + 3, none⟩ = some (.slice a3 x.names.length c3) := cell_blk hX3 v3_w3x
   have z3 := frozen_blk hX3 (o + i * 5 + 3)
   have x4 : w3x.cell? ⟨b, o + i * 5 + 4, none⟩ = some (.slice a4 x.args.length c4) := cell_blk hX3 v4_w3x
   have z4 := frozen_blk hX3 (o + i * 5 + 4)
   have HQ3 : Hid (Ks B C wr w3x) := q3
   clear q3 hc3 hX3 v0_w3x l0 v1_w3x l1 v2_w3x l2 v3_w3x l3 v4_w3x l4
   go_wp2
   go_roundw
   case rel => exact ⟨i + 1, kk + 1 + 1 + 1 + cnt c_string x.names + cnt c_int x.args, by omega, by have := HKN.out; omega, by go_num, by go_num, HKS.out.trans HQ3.out⟩
   case measure => simp [intOf]; omega
  ·have hlt' : decide ((i : Int) < (l.length : Int)) = false := by simp; omega
   obtain rfl : i = l.length := by omega
   rw [List.take_length] at HKK
   have HQ : Hid (kk = k + cnt c_Node l) := HKK.out
   have HKS : Hid (Ks B C w wr) := hks
   clear hkk HKK hle hks
   go_wp2
   go_ret
   exact ⟨by rw [HQ.out]; rfl, HKS.out⟩
def sh_Def (x : Dfn) : List Sh := [.s, .r 5 (x.prog.nodes.map sh_Node), .i]
def c_Def (x : Dfn) : Nat := 2 + cnt c_Node x.prog.nodes
set_option maxRecDepth 100000 in
set_option maxHeartbeats 2000000 in
theorem mark_Def (B C : Nat) (a : Option Addr) (l : List Dfn) (cap k : Nat) (w : World) (h : Fits B C w (.r 3 (l.map sh_Def)) (.slice a l.length cap)) (hn : l.length ≤ 1048576) (hin : ∀ x ∈ l, x.small) (hk1 : 1 ≤ k) (hk : k + cnt c_Def l ≤ 9000000) :
  Calls Tryz.prog 43 #[.slice a l.length cap, .int .i64 (k : Int)] w fun e w' => Mk B C w k (cnt c_Def l) e w' := by
 have HF : Hid (Fits B C w (.r 3 (l.map sh_Def)) (.slice a l.length cap)) := h
 clear h
 go_enter Tryz.func43, Tryz.ntmps43
 go_wp2
 go_loopw [1, 5] (fun kv iv wr => ∃ (i kk : Nat), i ≤ l.length ∧ kk = k + cnt c_Def (l.take i) ∧ kv = .int .i64 kk ∧ iv = .int .i64 i ∧ Ks B C w wr)
  (fun kv iv _ => l.length - (intOf iv).toNat)
 case atStart => exact ⟨0, k, Nat.zero_le _, by simp [cnt], rfl, rfl, Ks.refl _ _ _⟩
 case round =>
  obtain ⟨i, kk, hi, hkk, rfl, rfl, hks⟩ := hrel
  have HKK : Hid (kk = k + cnt c_Def (l.take i)) := hkk
  have hle := cnt_take_le c_Def l (i + 1)
  by_cases hlt : i < l.length
  ·obtain ⟨x, hx⟩ : ∃ x, l[i]? = some x := ⟨_, List.getElem?_eq_getElem hlt⟩
   have hcs := cnt_take_succ c_Def hx
   obtain ⟨b, o, X, t, rfl, hB, hC, hX, hfl⟩ := (HF.out.ks hks _ (.same _)).row (map_at sh_Def hx)
   have hil : (i : Int) < (l.length : Int) := by omega
   have hcx : c_Def x = 2 + cnt c_Node x.prog.nodes := rfl
   have hkb : kk + (2 + cnt c_Node x.prog.nodes) ≤ 9000000 := by omega
   have hkp : 1 ≤ kk := by omega
   have HKN : Hid (kk + (2 + cnt c_Node x.prog.nodes) = k + cnt c_Def (l.take (i + 1))) := by show _ = _; omega
   clear hcx
   have HX : Hid (wr.heap[b]? = some (.cells X t (0, 0))) := hX
   have HB : Hid (B ≤ b) := hB
   have HC : Hid (b < C) := hC
   have HKS : Hid (Ks B C w wr) := hks
   clear hle hcs hkk
   obtain ⟨u0, w0, f0⟩ := hfl 0 (.s) rfl
   obtain ⟨n0_wr, rfl⟩ := f0.text
   have v0_wr : X[o + i * 3]? = some (.string n0_wr) := by simpa using w0
   have V0 : Hid (X[o + i * 3]? = some (.string n0_wr)) := v0_wr
   obtain ⟨u1, w1, f1⟩ := hfl 1 (.r 5 (x.prog.nodes.map sh_Node)) rfl
   obtain ⟨a1, c1, rfl⟩ := f1.slice
   rw [List.length_map] at w1 f1
   have v1_wr : X[o + i * 3 + 1]? = some (.slice a1 x.prog.nodes.length c1) := by simpa using w1
   have V1 : Hid (X[o + i * 3 + 1]? = some (.slice a1 x.prog.nodes.length c1)) := v1_wr
   have HLN1 : Hid (x.prog.nodes.length ≤ 1048576) := (hin x (List.mem_of_getElem? hx)).2.1.1
   have HLM1 : Hid (∀ d ∈ x.prog.nodes, d.small) := (hin x (List.mem_of_getElem? hx)).2.1.2
   have HY1 : Hid (∀ (w1 : World) (k1 : Nat), Ks B C wr w1 → 1 ≤ k1 → k1 + cnt c_Node x.prog.nodes ≤ 9000000 → Calls Tryz.prog 75 #[.slice a1 x.prog.nodes.length c1, .int .i64 (k1 : Int)] w1 fun e w' => Mk B C w1 k1 (cnt c_Node x.prog.nodes) e w') := fun w1 k1 hq h1 h2 => mark_Node B C a1 x.prog.nodes c1 k1 w1 (f1.ks hq _ (.same _)) (HLN1.out) (HLM1.out) h1 h2
   obtain ⟨u2, w2, f2⟩ := hfl 2 (.i) rfl
   obtain ⟨n2_wr, rfl⟩ := f2.int
   have v2_wr : X[o + i * 3 + 2]? = some (.int .i64 n2_wr) := by simpa using w2
   have V2 : Hid (X[o + i * 3 + 2]? = some (.int .i64 n2_wr)) := v2_wr
   have HT : Hid (∀ (m : Nat) (w1 : World), 1 ≤ m → m ≤ 9000000 → Calls Tryz.prog 44 #[.int .i64 (m : Int)] w1 fun e w' => Ans w1 (.string (mtx m)) e w') := fun m w1 h1 h2 => markText_any m w1 (by omega) (by omega)
   have x0 : wr.cell? ⟨b, o + i * 3, none⟩ = some (.string n0_wr) := cell_blk hX v0_wr
   have z0 := frozen_blk hX (o + i * 3)
   have x1 : wr.cell? ⟨b, o + i * 3 + 1, none⟩ = some (.slice a1 x.prog.nodes.length c1) := cell_blk hX v1_wr
   have z1 := frozen_blk hX (o + i * 3 + 1)
   have x2 : wr.cell? ⟨b, o + i * 3 + 2, none⟩ = some (.int .i64 n2_wr) := cell_blk hX v2_wr
   have z2 := frozen_blk hX (o + i * 3 + 2)
   clear hfl hX hB hC hks w0 v0_wr w1 v1_wr w2 v2_wr f0 f1 f2
   go_wp2_with fail
   refine (HT.out (kk) _ (by omega) (by omega)).mono ?_
   rintro e w1x ⟨rfl, hb1⟩
   have q1 : Ks B C wr w1x := (Ks.refl B C wr).trans (Ks.of_below hb1)
   clear hb1
   clear x0 z0 x1 z1 x2 z2
   obtain ⟨X1, hX1, -, hc1⟩ := q1.cells b X t HX.out
   obtain ⟨u0, v0_w1x, l0⟩ := hc1 _ _ V0.out
   obtain ⟨n0_w1x, rfl⟩ := l0.str_of
   obtain ⟨u1, v1_w1x, l1⟩ := hc1 _ _ V1.out
   obtain rfl := l1.slice
   obtain ⟨u2, v2_w1x, l2⟩ := hc1 _ _ V2.out
   obtain ⟨n2_w1x, rfl⟩ := l2.int_of
   have x0 : w1x.cell? ⟨b, o + i * 3, none⟩ = some (.string n0_w1x) := cell_blk hX1 v0_w1x
   have z0 := frozen_blk hX1 (o + i * 3)
   have x1 : w1x.cell? ⟨b, o + i * 3 + 1, none⟩ = some (.slice a1 x.prog.nodes.length c1) := cell_blk hX1 v1_w1x
   have z1 := frozen_blk hX1 (o + i * 3 + 1)
   have x2 : w1x.cell? ⟨b, o + i * 3 + 2, none⟩ = some (.int .i64 n2_w1x) := cell_blk hX1 v2_w1x
   have z2 := frozen_blk hX1 (o + i * 3 + 2)
   have HQ1 : Hid (Ks B C wr w1x) := q1
   clear q1 hc1 hX1 v0_w1x l0 v1_w1x l1 v2_w1x l2
   go_wp2_with fail
   refine (HY1.out _ (kk + 1) (HQ1.out.put HX.out HB.out HC.out V0.out like_s) (by omega) (by omega)).mono ?_
   rintro e w2x ⟨rfl, hb2⟩
   have q2 : Ks B C wr w2x := (HQ1.out.put HX.out HB.out HC.out V0.out like_s).trans hb2
   clear hb2
   clear x0 z0 x1 z1 x2 z2
   obtain ⟨X2, hX2, -, hc2⟩ := q2.cells b X t HX.out
   obtain ⟨u0, v0_w2x, l0⟩ := hc2 _ _ V0.out
   obtain ⟨n0_w2x, rfl⟩ := l0.str_of
   obtain ⟨u1, v1_w2x, l1⟩ := hc2 _ _ V1.out
   obtain rfl := l1.slice
   obtain ⟨u2, v2_w2x, l2⟩ := hc2 _ _ V2.out
   obtain ⟨n2_w2x, rfl⟩ := l2.int_of
   have x0 : w2x.cell? ⟨b, o + i * 3, none⟩ = some (.string n0_w2x) := cell_blk hX2 v0_w2x
   have z0 := frozen_blk hX2 (o + i * 3)
   have x1 : w2x.cell? ⟨b, o + i * 3 + 1, none⟩ = some (.slice a1 x.prog.nodes.length c1) := cell_blk hX2 v1_w2x
   have z1 := frozen_blk hX2 (o + i * 3 + 1)
   have x2 : w2x.cell? ⟨b, o + i * 3 + 2, none⟩ = some (.int .i64 n2_w2x) := cell_blk hX2 v2_w2x
   have z2 := frozen_blk hX2 (o + i * 3 + 2)
   have HQ2 : Hid (Ks B C wr w2x) := q2
   clear q2 hc2 hX2 v0_w2x l0 v1_w2x l1 v2_w2x l2
   go_wp2
   go_roundw
   case rel => exact ⟨i + 1, kk + 1 + cnt c_Node x.prog.nodes + 1, by omega, by have := HKN.out; omega, by go_num, by go_num, HKS.out.trans (HQ2.out.put HX.out HB.out HC.out V2.out like_i)⟩
   case measure => simp [intOf]; omega
  ·have hlt' : decide ((i : Int) < (l.length : Int)) = false := by simp; omega
   obtain rfl : i = l.length := by omega
   rw [List.take_length] at HKK
   have HQ : Hid (kk = k + cnt c_Def l) := HKK.out
   have HKS : Hid (Ks B C w wr) := hks
   clear hkk HKK hle hks
   go_wp2
   go_ret
   exact ⟨by rw [HQ.out]; rfl, HKS.out⟩
end Go.Proofs.YtamjofdgikifnaaGreat
