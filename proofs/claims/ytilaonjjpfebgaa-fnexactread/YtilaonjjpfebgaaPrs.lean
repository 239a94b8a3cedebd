/- Reading data, as a plain function of the bytes. -/
import Derived.Test.YtilaonjjpfebgaaNac
import Derived.Test.YtilaonjjpfebgaaPai
set_option linter.unusedVariables false
namespace Go.Proofs.Ytilaonjjpfebgaa
/-- How many bytes are passed over (rem: in a remark). -/
def skp : Bool → List UInt8 → Nat
  | _, [] => 0
  | rem, c :: r => if c.toNat = 10 then 1 + skp false r else if rem then 1 + skp true r else if c.toNat = 9 ∨ c.toNat = 32 then 1 + skp false r else if c.toNat = 59 then 1 + skp true r else 0
/-- What is left of a text. -/
def dr (s : ByteArray) (at_ : Nat) : List UInt8 := s.data.toList.drop at_
theorem dr_len (s : ByteArray) (i : Nat) : (dr s i).length = s.size - i := by simp [dr]
theorem dr_cons (s : ByteArray) (i : Nat) (h : i < s.size) : dr s i = s[i] :: dr s (i + 1) := by
  unfold dr
  rw [List.drop_eq_getElem_cons (by simpa using h)]
  rfl
theorem dr_end (s : ByteArray) (i : Nat) (h : s.size ≤ i) : dr s i = [] := List.eq_nil_of_length_eq_zero (by rw [dr_len]; omega)
theorem skp_le : ∀ (rem : Bool) (l : List UInt8), skp rem l ≤ l.length
  | _, [] => by simp [skp]
  | rem, c :: r => by
    have h1 := skp_le false r
    have h2 := skp_le true r
    simp only [skp, List.length_cons]
    split
    · omega
    · split
      · omega
      · split
        · omega
        · split <;> omega
theorem skp_idem : ∀ (rem : Bool) (l : List UInt8), skp false (l.drop (skp rem l)) = 0
  | _, [] => by simp [skp]
  | rem, c :: r => by
    have h1 := skp_idem false r
    have h2 := skp_idem true r
    simp only [skp]
    by_cases a1 : c.toNat = 10
    · rw [if_pos a1, Nat.add_comm 1, List.drop_succ_cons]; exact h1
    · rw [if_neg a1]
      by_cases a2 : rem = true
      · rw [if_pos a2, Nat.add_comm 1, List.drop_succ_cons]; exact h2
      · rw [if_neg a2]
        by_cases a3 : c.toNat = 9 ∨ c.toNat = 32
        · rw [if_pos a3, Nat.add_comm 1, List.drop_succ_cons]; exact h1
        · rw [if_neg a3]
          by_cases a4 : c.toNat = 59
          · rw [if_pos a4, Nat.add_comm 1, List.drop_succ_cons]; exact h2
          · rw [if_neg a4, List.drop_zero]
            simp only [skp]
            rw [if_neg a1, if_neg (by simp), if_neg a3, if_neg a4]
/-- Where the next token begins. -/
def skAt (s : ByteArray) (i : Nat) : Nat := i + skp false (dr s i)
theorem skAt_ge (s : ByteArray) (i : Nat) : i ≤ skAt s i := Nat.le_add_right _ _
theorem skAt_le (s : ByteArray) (i : Nat) (h : i ≤ s.size) : skAt s i ≤ s.size := by
  have := skp_le false (dr s i)
  rw [dr_len] at this
  unfold skAt
  omega
theorem skAt_idem (s : ByteArray) (i : Nat) : skAt s (skAt s i) = skAt s i := by
  have h := skp_idem false (dr s i)
  have e : dr s (i + skp false (dr s i)) = (dr s i).drop (skp false (dr s i)) := by unfold dr; rw [List.drop_drop]
  unfold skAt
  rw [e, h]
  rfl
/-- May the byte stand in a token of several bytes? -/
def wdB (c : UInt8) : Bool := sgB c || (decide (c.toNat = 35) || decide (c.toNat = 46))
def parB (c : UInt8) : Bool := hasB [40, 41, 39] c
def twl (l : List UInt8) : Nat := (l.takeWhile wdB).length
theorem twl_le (l : List UInt8) : twl l ≤ l.length := by
  unfold twl
  have := (List.takeWhile_prefix (p := wdB) (l := l)).length_le
  exact this
theorem twl_cons (c : UInt8) (l : List UInt8) : twl (c :: l) = if wdB c then 1 + twl l else 0 := by
  unfold twl
  rw [List.takeWhile_cons]
  split
  · simp; omega
  · rfl
/-- Where the token that begins at b ends: b itself where there is none. -/
def tkE (s : ByteArray) (b : Nat) : Nat :=
  match dr s b with
  | [] => b
  | c :: r => if parB c then b + 1 else b + twl (c :: r)
theorem tkE_ge (s : ByteArray) (b : Nat) : b ≤ tkE s b := by
  unfold tkE
  split
  · exact Nat.le_refl _
  · split <;> omega
theorem tkE_le (s : ByteArray) (b : Nat) (h : b ≤ s.size) : tkE s b ≤ s.size := by
  unfold tkE
  have hl := dr_len s b
  split
  · exact h
  · rename_i c r e
    rw [e] at hl
    have := twl_le (c :: r)
    simp only [List.length_cons] at hl this
    split <;> omega
/-- The token that begins at b. -/
def tk (s : ByteArray) (b : Nat) : ByteArray := s.extract b (tkE s b)
/-- Where the reading is. -/
structure St where
  nx : Nat
  la : Nat
  cs : List Dat
def numD (n : Int) : Dat := ⟨1, n, ⟨#[]⟩, 0, 0⟩
def boolD (n : Int) : Dat := ⟨2, n, ⟨#[]⟩, 0, 0⟩
def symD (s : ByteArray) : Dat := ⟨3, 0, s, 0, 0⟩
def nilD : Dat := ⟨4, 0, ⟨#[]⟩, 0, 0⟩
def quoD : Dat := symD ⟨#[113, 117, 111, 116, 101]⟩
/-- The datum of a token of several bytes. -/
def atomD (t : ByteArray) : Option Dat :=
  if deB t.data.toList = true ∧ -1000000 ≤ rdX t.data.toList ∧ rdX t.data.toList ≤ 1000000 then some (numD (rdX t.data.toList))
  else if (t.toList == [35, 116]) = true then some (boolD 1)
  else if (t.toList == [35, 102]) = true then some (boolD 0)
  else if syL t.data.toList = true then some (symD t)
  else none
/-- One cell more. -/
def putP (st : St) (d : Dat) : Except Nat St := if st.cs.length < 1000 then .ok ⟨st.nx, st.la, st.cs ++ [d]⟩ else .error st.la
/-- The pairs of a list, behind the cell that ends it. -/
def prsP (st : St) (ps : List Int) : Except Nat St := if st.cs.length + ps.length ≤ 1000 then .ok ⟨st.nx, st.la, (prS st.cs ps ((st.cs.length : Int) - 1) ps.length).1⟩ else .error st.la
def atomP (st : St) (t : ByteArray) : Except Nat St :=
  match atomD t with
  | some d => putP st d
  | none => .error st.la
/-- The number of the last cell. -/
def St.top (st : St) : Int := (st.cs.length : Int) - 1
/-- Reading: a datum whose token begins where st is (true), or what stands behind a ( and some of its parts (false). -/
def rdP (s : ByteArray) : Nat → Bool → Nat → List Int → St → Except Nat St
  | 0, _, _, _, st => .error st.nx
  | f + 1, true, deep, _, st =>
    if tkE s st.nx = st.nx then .error st.nx
    else if ((tk s st.nx).toList == [40]) = true then (if 24 ≤ deep then .error st.nx else rdP s f false (deep + 1) [] ⟨tkE s st.nx, st.nx, st.cs⟩)
    else if ((tk s st.nx).toList == [39]) = true then (if 24 ≤ deep then .error st.nx else
      (putP ⟨tkE s st.nx, st.nx, st.cs⟩ quoD).bind fun st1 => (rdP s f true (deep + 1) [] ⟨skAt s st1.nx, 0, st1.cs⟩).bind fun st2 => (putP st2 nilD).bind fun st3 => prsP st3 [st1.top, st2.top])
    else atomP ⟨tkE s st.nx, st.nx, st.cs⟩ (tk s st.nx)
  | f + 1, false, deep, ps, st =>
    if ((tk s (skAt s st.nx)).toList == [41]) = true then (putP ⟨tkE s (skAt s st.nx), skAt s st.nx, st.cs⟩ nilD).bind fun st2 => prsP st2 ps
    else if ((tk s (skAt s st.nx)).toList == [46]) = true ∧ ps ≠ [] then
      (rdP s f true deep [] ⟨skAt s (tkE s (skAt s st.nx)), 0, st.cs⟩).bind fun st2 =>
        if ((tk s (skAt s st2.nx)).toList == [41]) = true then prsP ⟨tkE s (skAt s st2.nx), skAt s st2.nx, st2.cs⟩ ps else .error (skAt s st2.nx)
    else (rdP s f true deep [] ⟨skAt s st.nx, 0, st.cs⟩).bind fun st2 => rdP s f false deep (ps ++ [st2.top]) st2
/-- The datum whose token begins at b, inside of deep. -/
def datP (s : ByteArray) (f deep b : Nat) (cs : List Dat) : Except Nat St := rdP s f true deep [] ⟨b, 0, cs⟩
/-- What stands behind a (, behind some of its parts. -/
def lstP (s : ByteArray) (f deep : Nat) (ps : List Int) (st : St) : Except Nat St := rdP s f false deep ps st
theorem datP_succ (s : ByteArray) (f deep b : Nat) (cs : List Dat) : datP s (f + 1) deep b cs =
    if tkE s b = b then .error b
    else if ((tk s b).toList == [40]) = true then (if 24 ≤ deep then .error b else lstP s f (deep + 1) [] ⟨tkE s b, b, cs⟩)
    else if ((tk s b).toList == [39]) = true then (if 24 ≤ deep then .error b else
      (putP ⟨tkE s b, b, cs⟩ quoD).bind fun st => (datP s f (deep + 1) (skAt s st.nx) st.cs).bind fun st2 => (putP st2 nilD).bind fun st3 => prsP st3 [st.top, st2.top])
    else atomP ⟨tkE s b, b, cs⟩ (tk s b) := rfl
theorem lstP_succ (s : ByteArray) (f deep : Nat) (ps : List Int) (st : St) : lstP s (f + 1) deep ps st =
    if ((tk s (skAt s st.nx)).toList == [41]) = true then (putP ⟨tkE s (skAt s st.nx), skAt s st.nx, st.cs⟩ nilD).bind fun st2 => prsP st2 ps
    else if ((tk s (skAt s st.nx)).toList == [46]) = true ∧ ps ≠ [] then
      (datP s f deep (skAt s (tkE s (skAt s st.nx))) st.cs).bind fun st2 =>
        if ((tk s (skAt s st2.nx)).toList == [41]) = true then prsP ⟨tkE s (skAt s st2.nx), skAt s st2.nx, st2.cs⟩ ps else .error (skAt s st2.nx)
    else (datP s f deep (skAt s st.nx) st.cs).bind fun st2 => lstP s f deep (ps ++ [st2.top]) st2 := rfl
/-- All data of a text. -/
def topP (s : ByteArray) (F : Nat) : Nat → List Int → St → Except Nat (St × List Int)
  | 0, _, st => .error st.nx
  | f + 1, ts, st =>
    if skAt s st.nx = s.size then .ok (st, ts)
    else (datP s F 0 (skAt s st.nx) st.cs).bind fun st2 => topP s F f (ts ++ [st2.top]) st2
end Go.Proofs.Ytilaonjjpfebgaa
