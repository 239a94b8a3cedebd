/- The model's expander: the knot. Reading: rows of data as they grow. Reading data, as a plain function of the bytes. -/
import Derived.Deep.DeepCutAuto
import Derived.Test.YtgjeefedcfakdaaYan
import Derived.Test.YtgjeefedcfakdaaYor
import Derived.Test.YtgjeefedcfakdaaYsm
import Derived.Test.YtgjeefedcfakdaaYsl
import Derived.Test.YtgjeefedcfakdaaYsk
import Derived.Test.YtgjeefedcfakdaaYcl
import Derived.Test.YtgjeefedcfakdaaYcr
import Derived.Test.YtgjeefedcfakdaaYrd
import Derived.Test.YtgjeefedcfakdaaYre
import Derived.Test.YtgjeefedcfakdaaYfb
import Derived.Test.YtgjeefedcfakdaaYkb
import Derived.Test.YtgjeefedcfakdaaXpp
import Derived.Lib.OthersKept
import Derived.Recover
import Derived.Deep.AppendLies
import Derived.Deep.RegionHeldLaw
import Derived.Deep.RegionLaw
import Derived.Deep.RegionHeld3
import Derived.Test.YtgjeefedcfakdaaNad
set_option linter.unusedVariables false
namespace Go.Proofs.Ytgjeefedcfakdaa
open Go.ChangeShapes Go.WideShapes Go.ChangeAt Go.RowKit
section
variable {B b o cc : Nat} {cs : List Dat} {a2 : Option Addr} {n2 c2 : Nat} {root : Int} {R : Int → Sx → Sx}
theorem cel_n {cs : List Dat} (hN : ∀ d ∈ cs, i64B d.n) (hz : ∀ d ∈ cs, d.s.size ≤ 1048576) (i : Int) : i64B (cel cs i).n ∧ (cel cs i).s.size ≤ 1048576 := by
 by_cases hi : i.toNat < cs.length
 ·have : cel cs i = cs[i.toNat] := by unfold cel; simp [List.getD, hi]
  rw [this]
  exact ⟨hN _ (List.getElem_mem hi), hz _ (List.getElem_mem hi)⟩
 ·have hd : cel cs i = default := by unfold cel; rw [List.getD_eq_getElem?_getD, List.getElem?_eq_none (by omega)]; rfl
  rw [hd]
  exact ⟨i64c rfl, by decide⟩
theorem lam_sm {cs : List Dat} {F : Sx → Sx} (hz : ∀ d ∈ cs, d.s.size ≤ 1048576) {i : Int} {ss : List ByteArray} (h : (lstOf cs i).bind (parsOf cs) = some ss) (hb : SmF F) : SmF (fun r => lamX ss (F r)) := by
 cases hl : lstOf cs i with
 | none => rw [hl] at h; cases h
 | some l =>
  rw [hl] at h
  obtain ⟨h1, h2⟩ := pars_ok hz h
  exact fun s hs => sm_lam (by omega) h2 _ (hb s hs)
theorem bndL_sm {cs : List Dat} (ha : Ahead cs) : ∀ (l : List Int) (k : Nat), k ≤ cs.length → (∀ x ∈ l, 0 ≤ x ∧ x < (k : Int)) → ∀ {ns fs : List Int}, bndL cs l = some (ns, fs) → fs.length = l.length ∧ ∀ e ∈ fs, 0 ≤ e ∧ e < (k : Int)
 | [], _, _, _, ns, fs, h => by
  injection Option.some.inj h with h1 h2
  subst h2
  simp
 | i :: l, k, hk, hl, ns, fs, h => by
  obtain ⟨h0, h1⟩ := hl i (by simp)
  obtain ⟨q, rfl⟩ := Int.eq_ofNat_of_zero_le h0
  simp only [bndL] at h
  cases hb : lstOf cs (q : Int) with
  | none => rw [hb] at h; cases h
  | some L =>
   rw [hb] at h
   have hlt := lst_lt ha q (by omega) hb
   match L, h, hlt with
   | [], h, _ => cases h
   | [_], h, _ => cases h
   | _ :: _ :: _ :: _, h, _ => cases h
   | [x, e], h, hlt =>
    simp only [Option.bind_some] at h
    cases hm : bndL cs l with
    | none => rw [hm] at h; cases h
    | some r =>
     rw [hm] at h
     injection Option.some.inj h with h2 h3
     subst h3
     obtain ⟨g1, g2⟩ := bndL_sm ha l k hk (fun x hx => hl x (by simp [hx])) (ns := r.1) (fs := r.2) hm
     refine ⟨by simp [g1], fun y hy => ?_⟩
     rcases List.mem_cons.1 hy with rfl | hy
     ·have := hlt y (by simp)
      omega
     ·exact g2 y hy
theorem bnd_sm {cs : List Dat} (ha : Ahead cs) {k : Nat} (hk : k < cs.length) {ns fs : List Int} (h : bndOf cs (k : Int) = some (ns, fs)) : fs.length ≤ k ∧ ∀ e ∈ fs, 0 ≤ e ∧ e < (k : Int) := by
 unfold bndOf at h
 cases hb : lstOf cs (k : Int) with
 | none => rw [hb] at h; cases h
 | some L =>
  rw [hb] at h
  have h1 := lst_len ha k hk hb
  obtain ⟨g1, g2⟩ := bndL_sm ha L k (by omega) (lst_lt ha k hk hb) (ns := ns) (fs := fs) h
  exact ⟨by omega, g2⟩
theorem l4Rec_some (hg : Good cs) (h3 : cs.length ≤ 1000) (sw : ByteArray) (hsw : sw.size ≤ 1048576) (hw : sw.toList = [109, 97, 107, 101] ∨ sw.toList = [102, 105, 101, 108, 100] ∨ sw.toList = [105, 115]) (m : Nat) (hm : m ≤ cs.length) (l : List Int) (hl : l.length ≤ 1048576) (hb : ∀ x ∈ l, 0 ≤ x ∧ x < (m : Int)) (hR : ∀ x : Int, 0 ≤ x → x < (m : Int) → FC B b o cc cs a2 n2 c2 root 70 x (R x)) (hS : ∀ x : Int, 0 ≤ x → x < (m : Int) → SmF (R x)) (hL : ∀ x : Int, 0 ≤ x → x < (m : Int) → LnF (R x)) (hN : ∀ d ∈ cs, i64B d.n) : ∃ F, RC B b o cc cs a2 n2 c2 root sw l F ∧ SmF F ∧ LnF F := by
 have hA : ∀ t : List Int, (∀ x ∈ t, x ∈ l) → t.length ≤ 1048576 → AC B b o cc cs a2 n2 c2 root R (t) := fun t ht hl => l4All_any t hg.n hl fun x hx => hR x (hb x (ht x hx)).1 (hb x (ht x hx)).2
 have hSm : ∀ t : List Int, (∀ x ∈ t, x ∈ l) → ∀ x ∈ t, SmF (R x) := fun t ht x hx => hS x (hb x (ht x hx)).1 (hb x (ht x hx)).2
 match l, hl, hb, hA, hSm with
 | [], _, _, _, _ =>
  rcases hw with hw | hw | hw
  ·exact ⟨_, l4Rec_short_make sw hw [] (by simp) (by simp), smF_fail, ln_fail⟩
  ·exact ⟨_, l4Rec_short_field sw hw [] (by simp) (by simp), smF_fail, ln_fail⟩
  ·exact ⟨_, l4Rec_short_is sw hw [] (by simp) (by simp), smF_fail, ln_fail⟩
 | x :: t, hl, hb, hA, hSm =>
  obtain ⟨h0, h1⟩ := hb x (by simp)
  obtain ⟨kx, rfl⟩ := Int.eq_ofNat_of_zero_le h0
  have hkx : kx < cs.length := by omega
  have hl' : t.length ≤ 1048576 := by simp at hl; omega
  rcases hw with hw | hw | hw
  ·cases hn : nmOf cs (kx : Int) with
   | none => exact ⟨_, l4Rec_noname_make hg sw hw kx hkx hn t hl', smF_fail, ln_fail⟩
   | some nm =>
    by_cases h8 : t.length ≤ 8
    ·exact ⟨_, l4Rec_ok_make hg sw hw kx hkx nm hn t h8 (hA t (fun x hx => by simp [hx]) hl'), sm_rec (by omega) (hSm t fun x hx => by simp [hx]) hsw (nm_size hg.sz hn) (i64c rfl), fun s => put_ln _ _⟩
    ·exact ⟨_, l4Rec_len_make hg sw hw kx hkx nm hn t hl' (by omega), smF_fail, ln_fail⟩
  ·match t, hl', hb, hA, hSm with
   | [], _, _, _, _ => exact ⟨_, l4Rec_short_field sw hw _ hl (by simp), smF_fail, ln_fail⟩
   | y :: t, hl', hb, hA, hSm =>
    obtain ⟨g0, g1⟩ := hb y (by simp)
    obtain ⟨ki, rfl⟩ := Int.eq_ofNat_of_zero_le g0
    obtain ⟨d, hd⟩ : ∃ d, cs[ki]? = some d := ⟨_, List.getElem?_eq_getElem (by omega)⟩
    have hl2 : t.length ≤ 1048576 := by simp at hl'; omega
    cases hn : nmOf cs (kx : Int) with
    | none => exact ⟨_, l4Rec_noname_field hg sw hw kx hkx hn ki d hd t hl2, smF_fail, ln_fail⟩
    | some nm =>
     by_cases hnn : d.k = 1 ∧ 0 ≤ d.n ∧ d.n ≤ 7
     ·by_cases h1 : t.length = 1
      ·obtain ⟨e9, rfl⟩ := List.length_eq_one_iff.1 h1
       exact ⟨_, l4Rec_ok_field hg sw hw kx hkx nm hn ki d hd hnn e9 (hA [e9] (fun x hx => by simp at hx; simp [hx]) (by simp)), sm_rec (by simp) (hSm [e9] fun x hx => by simp at hx; simp [hx]) hsw (nm_size hg.sz hn) (hN d (List.mem_of_getElem? hd)), fun s => put_ln _ _⟩
      ·exact ⟨_, l4Rec_len_field hg sw hw kx hkx nm hn ki d hd t hl2 hnn h1, smF_fail, ln_fail⟩
     ·exact ⟨_, l4Rec_num_field hg sw hw kx hkx nm hn ki d hd t hl2 hnn, smF_fail, ln_fail⟩
  ·cases hn : nmOf cs (kx : Int) with
   | none => exact ⟨_, l4Rec_noname_is hg sw hw kx hkx hn t hl', smF_fail, ln_fail⟩
   | some nm =>
    by_cases h1 : t.length = 1
    ·obtain ⟨e9, rfl⟩ := List.length_eq_one_iff.1 h1
     exact ⟨_, l4Rec_ok_is hg sw hw kx hkx nm hn e9 (hA [e9] (fun x hx => by simp at hx; simp [hx]) (by simp)), sm_rec (by simp) (hSm [e9] fun x hx => by simp at hx; simp [hx]) hsw (nm_size hg.sz hn) (i64c rfl), fun s => put_ln _ _⟩
    ·exact ⟨_, l4Rec_len_is hg sw hw kx hkx nm hn t hl' h1, smF_fail, ln_fail⟩
theorem l4Special_some (hg : Good cs) (h3 : cs.length ≤ 1000) (hN : ∀ d ∈ cs, i64B d.n) (sw : ByteArray) (hsw : sw.size ≤ 1048576) (m : Nat) (hm : m ≤ cs.length) (l : List Int) (hl3 : l.length ≤ 1000) (hb : ∀ x ∈ l, 0 ≤ x ∧ x < (m : Int)) (hR : ∀ x : Int, 0 ≤ x → x < (m : Int) → FC B b o cc cs a2 n2 c2 root 70 x (R x)) (hS : ∀ x : Int, 0 ≤ x → x < (m : Int) → SmF (R x)) (hL : ∀ x : Int, 0 ≤ x → x < (m : Int) → LnF (R x)) : ∃ F, WC B b o cc cs a2 n2 c2 root sw l F ∧ SmF F ∧ LnF F := by
 have hl : l.length ≤ 1048576 := by omega
 have hL2 : ∀ x ∈ l, LnF (R x) := fun x hx => hL x (hb x hx).1 (hb x hx).2
 have hLB : ∀ (y : Int) (t : List Int), (∀ x ∈ y :: t, x ∈ l) → LnF (bodyX R (y :: t)) := fun y t ht => ln_body fun x hx => hL2 x (ht x hx)
 have hS2 : ∀ x ∈ l, SmF (R x) := fun x hx => hS x (hb x hx).1 (hb x hx).2
 have hSB : ∀ (y : Int) (t : List Int), (∀ x ∈ y :: t, x ∈ l) → (y :: t).length ≤ l.length → SmF (bodyX R (y :: t)) := fun y t ht hl => sm_body (by omega) fun x hx => hS2 x (ht x hx)
 have hR2 : ∀ x ∈ l, FC B b o cc cs a2 n2 c2 root 70 x (R x) := fun x hx => hR x (hb x hx).1 (hb x hx).2
 have hBd : ∀ (y : Int) (t : List Int), (∀ x ∈ y :: t, x ∈ l) → (y :: t).length ≤ 1048576 → LC B b o cc cs a2 n2 c2 root 86 (y :: t) (bodyX R (y :: t)) := fun y t ht hl => l4Body_any hg.n _ hl fun x hx => hR2 x (ht x hx)
 by_cases w1 : sw.toList = [113, 117, 111, 116, 101]
 ·match l, hl, hb with
  | [], _, _ => exact ⟨_, l4Bad_quote sw w1 [] (by simp) (by simp), smF_fail, ln_fail⟩
  | [x], _, hb =>
   obtain ⟨h0, h1⟩ := hb x (by simp)
   obtain ⟨kx, rfl⟩ := Int.eq_ofNat_of_zero_le h0
   exact ⟨_, l4Sp_quote sw w1 _ _ (l4Quote_any hg (kx + 1) kx (by omega) (by omega)), sm_quote (cel_n hN hg.sz) _ _, ln_quote _ _⟩
  | x :: y :: t, hl, _ => exact ⟨_, l4Bad_quote sw w1 _ hl (by simp), smF_fail, ln_fail⟩
 by_cases w2 : sw.toList = [105, 102]
 ·by_cases h3 : l.length = 3
  ·exact ⟨_, l4Sp_if sw w2 l hg.n hl h3 (l4All_any l hg.n hl hR2), fun s h => sm_put (sm_all l hS2 s h) (ns_args (i64c rfl) (Nat.zero_le _) (by rw [all_len]; omega)), fun s => put_ln _ _⟩
  ·exact ⟨_, l4Bad_if sw w2 l hl h3, smF_fail, ln_fail⟩
 by_cases w3 : sw.toList = [98, 101, 103, 105, 110]
 ·exact ⟨_, l4Sp_86 _ sw w3 l hl (l4Body_any hg.n l hl hR2), sm_body hl3 hS2, ln_body hL2⟩
 by_cases w4 : sw.toList = [115, 101, 116, 33]
 ·match l, hl, hb, hR2, hS2 with
  | [], hl, _, _, _ => exact ⟨_, l4Bad_set sw w4 _ hl (by simp), smF_fail, ln_fail⟩
  | [x], hl, _, _, _ => exact ⟨_, l4Bad_set sw w4 _ hl (by simp), smF_fail, ln_fail⟩
  | [x, e], hl, hb, hR2, hS2 =>
   obtain ⟨h0, h1⟩ := hb x (by simp)
   obtain ⟨kx, rfl⟩ := Int.eq_ofNat_of_zero_le h0
   cases hn : nmOf cs (kx : Int) with
   | none => exact ⟨_, l4Sp_set_bad hg sw w4 kx e (by omega) hn, smF_fail, ln_fail⟩
   | some nm => exact ⟨_, l4Sp_set hg sw w4 kx e nm (by omega) hn (hR2 e (by simp)), fun s h => sm_put (hS2 e (by simp) s h) ⟨i64c rfl, i64c rfl, nm_size hg.sz hn, Nat.zero_le _, by simp [setN], fun x h => by cases h⟩, fun s => put_ln _ _⟩
  | x :: y :: z :: t, hl, _, _, _ => exact ⟨_, l4Bad_set sw w4 _ hl (by simp), smF_fail, ln_fail⟩
 by_cases w5 : sw.toList = [108, 97, 109, 98, 100, 97]
 ·match l, hl, hb, hBd, hSB, hLB with
  | [], hl, _, _, _, _ => exact ⟨_, l4Bad_lambda sw w5 _ hl (by simp), smF_fail, ln_fail⟩
  | [x], hl, _, _, _, _ => exact ⟨_, l4Bad_lambda sw w5 _ hl (by simp), smF_fail, ln_fail⟩
  | x :: y :: t, hl, hb, hBd, hSB, hLB =>
   obtain ⟨h0, h1⟩ := hb x (by simp)
   obtain ⟨kx, rfl⟩ := Int.eq_ofNat_of_zero_le h0
   have hl2 : t.length ≤ 1048576 := by simp at hl; omega
   have hy := hBd y t (fun x hx => by simp at hx ⊢; right; exact hx) (by simp at hl ⊢; omega)
   cases hv : (lstOf cs (kx : Int)).bind (parsOf cs) with
   | none => exact ⟨_, l4Sp_lambda_bad hg sw w5 kx y t hv (by omega) hl2 hy, smF_fail, ln_fail⟩
   | some ss => exact ⟨_, l4Sp_lambda_ok hg sw w5 kx y t ss hv (by omega) hl2 hy, lam_sm hg.sz hv (hSB y t (fun x hx => by simp at hx ⊢; right; exact hx) (by simp)), fun s => put_ln _ _⟩
 by_cases w6 : sw.toList = [108, 101, 116]
 ·match l, hl, hb, hBd, hSB, hLB with
  | [], hl, _, _, _, _ => exact ⟨_, l4Sp_89 _ sw w6 _ hl (l4Let_short _ hl (by simp)), smF_fail, ln_fail⟩
  | [x], hl, _, _, _, _ => exact ⟨_, l4Sp_89 _ sw w6 _ hl (l4Let_short _ hl (by simp)), smF_fail, ln_fail⟩
  | x :: y :: t, hl, hb, hBd, hSB, hLB =>
   obtain ⟨h0, h1⟩ := hb x (by simp)
   obtain ⟨kx, rfl⟩ := Int.eq_ofNat_of_zero_le h0
   exact ⟨_, l4Sp_89 _ sw w6 _ hl (l4Let_any hg kx y t (by omega) (by simp at hl; omega) (fun x h0 h1 => hR x h0 (by omega)) (hBd y t (fun x hx => by simp at hx ⊢; right; exact hx) (by simp at hl ⊢; omega))), sm_let hg.sz (hSB y t (fun x hx => by simp at hx ⊢; right; exact hx) (by simp)) fun ns fs hv => by obtain ⟨q1, q2⟩ := bnd_sm hg.ah (by omega) hv; exact ⟨by omega, fun x hx => hS x (q2 x hx).1 (by have := (q2 x hx).2; omega)⟩, ln_let⟩
 by_cases w7 : sw.toList = [108, 101, 116, 42]
 ·match l, hl, hb, hBd, hSB, hLB with
  | [], hl, _, _, _, _ => exact ⟨_, l4Bad_lets sw w7 _ hl (by simp), smF_fail, ln_fail⟩
  | [x], hl, _, _, _, _ => exact ⟨_, l4Bad_lets sw w7 _ hl (by simp), smF_fail, ln_fail⟩
  | x :: y :: t, hl, hb, hBd, hSB, hLB =>
   obtain ⟨h0, h1⟩ := hb x (by simp)
   obtain ⟨kx, rfl⟩ := Int.eq_ofNat_of_zero_le h0
   have hl2 : t.length ≤ 1048576 := by simp at hl; omega
   have hy := hBd y t (fun x hx => by simp at hx ⊢; right; exact hx) (by simp at hl ⊢; omega)
   cases hv : bndOf cs (kx : Int) with
   | none => exact ⟨_, l4Sp_lets_bad hg sw w7 kx y t hv (by omega) hl2 (fun x h0 h1 => hR x h0 (by omega)) hy, smF_fail, ln_fail⟩
   | some p => exact ⟨_, l4Sp_lets_ok hg sw w7 kx y t p.1 p.2 hv (by omega) hl2 (fun x h0 h1 => hR x h0 (by omega)) hy, sm_star hg.sz (hSB y t (fun x hx => by simp at hx ⊢; right; exact hx) (by simp)) p.1 p.2 fun x hx => by obtain ⟨q1, q2⟩ := bnd_sm hg.ah (by omega) (show bndOf cs (kx : Int) = some (p.1, p.2) from hv); exact hS x (q2 x hx).1 (by have := (q2 x hx).2; omega), ln_star (hLB y t (fun x hx => by simp at hx ⊢; right; exact hx)) p.1 p.2⟩
 by_cases w8 : sw.toList = [99, 111, 110, 100]
 ·exact ⟨_, l4Sp_92 _ sw w8 l hl (l4Cond_any hg l hl fun c hc => ⟨(hb c hc).1, by have := (hb c hc).2; omega, fun x h0 h1 => hR x h0 (by have := (hb c hc).2; omega)⟩), sm_cond l fun c hc L hL => by obtain ⟨kc, rfl⟩ := Int.eq_ofNat_of_zero_le (hb c hc).1; have hkc := (hb _ hc).2; have q1 := lst_len hg.ah kc (by omega) hL; have q2 := lst_lt hg.ah kc (by omega) hL; exact ⟨by omega, fun x hx => hS x (q2 x hx).1 (by have := (q2 x hx).2; omega)⟩, ln_cond l fun c hc L hL9 => by obtain ⟨kc, rfl⟩ := Int.eq_ofNat_of_zero_le (hb c hc).1; have hkc := (hb _ hc).2; have q2 := lst_lt hg.ah kc (by omega) hL9; exact fun x hx => hL x (q2 x hx).1 (by have := (q2 x hx).2; omega)⟩
 by_cases w9 : sw.toList = [97, 110, 100]
 ·exact ⟨_, l4Sp_93 _ sw w9 l hl (l4And_any hg.n l hl hR2), sm_and l hS2, ln_and l hL2⟩
 by_cases w10 : sw.toList = [111, 114]
 ·exact ⟨_, l4Sp_94 _ sw w10 l hl (l4Or_any hg.n l hl hR2), sm_or l hS2, ln_or l hL2⟩
 by_cases w11 : sw.toList = [119, 104, 101, 110]
 ·match l, hl, hR2, hBd, hS2, hSB with
  | [], hl, _, _, _, _ => exact ⟨_, l4Bad_when sw w11 _ hl (by simp), smF_fail, ln_fail⟩
  | [x], hl, _, _, _, _ => exact ⟨_, l4Bad_when sw w11 _ hl (by simp), smF_fail, ln_fail⟩
  | x :: y :: t, hl, hR2, hBd, hS2, hSB => exact ⟨_, l4Sp_when sw w11 x y t (by simp at hl; omega) (hR2 x (by simp)) (hBd y t (fun x hx => by simp at hx ⊢; right; exact hx) (by simp at hl ⊢; omega)), sm_when (hS2 x (by simp)) (hSB y t (fun x hx => by simp at hx ⊢; right; exact hx) (by simp)), fun s => put_ln _ _⟩
 by_cases w12 : sw.toList = [109, 97, 107, 101]
 ·obtain ⟨F, h, hF, hFl⟩ := l4Rec_some hg h3 sw hsw (.inl w12) m hm l hl hb hR hS hL hN
  exact ⟨F, l4Sp_rec_make F sw w12 l hl h, hF, hFl⟩
 by_cases w13 : sw.toList = [102, 105, 101, 108, 100]
 ·obtain ⟨F, h, hF, hFl⟩ := l4Rec_some hg h3 sw hsw (.inr (.inl w13)) m hm l hl hb hR hS hL hN
  exact ⟨F, l4Sp_rec_field F sw w13 l hl h, hF, hFl⟩
 by_cases w14 : sw.toList = [105, 115]
 ·obtain ⟨F, h, hF, hFl⟩ := l4Rec_some hg h3 sw hsw (.inr (.inr w14)) m hm l hl hb hR hS hL hN
  exact ⟨F, l4Sp_rec_is F sw w14 l hl h, hF, hFl⟩
 have hw : ∀ v ∈ wordsS, sw.toList ≠ v := by
  intro v hv
  simp only [wordsS, List.mem_cons, List.not_mem_nil, or_false] at hv
  rcases hv with rfl | rfl | rfl | rfl | rfl | rfl | rfl | rfl | rfl | rfl | rfl | rfl | rfl | rfl <;> assumption
 by_cases ha : arL sw.toList = (l.length : Int)
 ·exact ⟨_, l4Sp_prim_ok sw hw l hg.n hl ha (l4All_any l hg.n hl hR2), fun s h => sm_put (sm_all l hS2 s h) (ns_args (i64c rfl) hsw (by rw [all_len]; omega)), fun s => put_ln _ _⟩
 ·exact ⟨_, l4Sp_prim_bad sw hw l hg.n hl ha, smF_fail, ln_fail⟩
theorem l4Form_some (hg : Good cs) (h3 : cs.length ≤ 1000) (hN : ∀ d ∈ cs, i64B d.n) (m : Nat) (hm : m < cs.length) (hR : ∀ x : Int, 0 ≤ x → x < (m : Int) → FC B b o cc cs a2 n2 c2 root 70 x (R x)) (hS : ∀ x : Int, 0 ≤ x → x < (m : Int) → SmF (R x)) (hL : ∀ x : Int, 0 ≤ x → x < (m : Int) → LnF (R x)) : ∃ F, FC B b o cc cs a2 n2 c2 root 70 (m : Int) F ∧ SmF F ∧ LnF F := by
 suffices h : ∃ G, FP (fun r => r.2 = 0) B b o cc cs a2 n2 c2 root 70 (m : Int) G ∧ SmF G ∧ LnF G from h.elim fun G h => ⟨_, FC.of h.1 (l4Form_done _), fun s hs => by by_cases hz : s.2 = 0; (· simp only [if_pos hz]; exact h.2.1 s hs); (· simp only [if_neg hz]; exact hs), ln_if h.2.2⟩
 obtain ⟨d, hd⟩ : ∃ d, cs[m]? = some d := ⟨_, List.getElem?_eq_getElem hm⟩
 obtain ⟨h1, h5⟩ := hg.ks m d hd
 by_cases k1 : d.k = 1
 ·exact ⟨_, l4Form_flat1 hg m d hd k1 _ (l4Quote_any hg (m + 1) m (by omega) hm), sm_quote (cel_n hN hg.sz) _ _, ln_quote _ _⟩
 by_cases k2 : d.k = 2
 ·exact ⟨_, l4Form_flat2 hg m d hd k2 _ (l4Quote_any hg (m + 1) m (by omega) hm), sm_quote (cel_n hN hg.sz) _ _, ln_quote _ _⟩
 by_cases k3 : d.k = 3
 ·cases hn : naL d.s.toList with
  | true => exact ⟨_, l4Form_name hg m d hd k3 hn, fun s h => sm_put h ⟨i64c rfl, i64c rfl, hg.sz d (List.mem_of_getElem? hd), Nat.zero_le _, Nat.zero_le _, fun x h => by cases h⟩, fun s => put_ln _ _⟩
  | false => exact ⟨_, l4Form_word hg m d hd k3 hn, smF_fail, ln_fail⟩
 by_cases k4 : d.k = 4
 ·exact ⟨_, l4Form_nil hg m d hd k4, smF_fail, ln_fail⟩
 have k5 : d.k = 5 := by omega
 cases hl : lstOf cs (m : Int) with
 | none => exact ⟨_, l4Form_nolist hg m d hd k5 hl, smF_fail, ln_fail⟩
 | some L =>
  have hlen := lst_len hg.ah m hm hl
  have hn := hg.n
  have hlt := lst_lt hg.ah m hm hl
  match L, hl, hlen, hlt with
  | [], hl, _, _ =>
   exfalso
   obtain ⟨q1, q2, q3, q4⟩ := hg.ah m d hd k5
   obtain ⟨q, hq⟩ := Int.eq_ofNat_of_zero_le q3
   rw [lst_pair hg.ah hd k5 hq] at hl
   cases h : lstOf cs (q : Int) <;> rw [h] at hl <;> cases hl
  | x :: t, hl, hlen, hlt =>
   obtain ⟨h0, h1⟩ := hlt x (by simp)
   obtain ⟨kh, rfl⟩ := Int.eq_ofNat_of_zero_le h0
   obtain ⟨dh, hdh⟩ : ∃ d, cs[kh]? = some d := ⟨_, List.getElem?_eq_getElem (by omega)⟩
   have hl2 : t.length ≤ 1048576 := by simp at hlen; omega
   by_cases hs : dh.k = 3 ∧ naL dh.s.toList = false
   ·obtain ⟨F, hF, hFs, hFl⟩ := l4Special_some hg h3 hN dh.s (hg.sz dh (List.mem_of_getElem? hdh)) m (by omega) t (by simp at hlen; omega) (fun x hx => hlt x (by simp [hx])) hR hS hL
    exact ⟨_, l4Form_special hg m d hd k5 kh t hl dh hdh hs.1 hs.2 F hF, hFs, hFl⟩
   ·have hna : dh.k ≠ 3 ∨ naL dh.s.toList = true := by
     by_cases h3 : dh.k = 3
     ·cases hq : naL dh.s.toList with
      | true => exact .inr rfl
      | false => exact absurd ⟨h3, hq⟩ hs
     ·exact .inl h3
    by_cases h8 : t.length ≤ 8
    ·exact ⟨_, l4Form_call hg m d hd k5 kh t hl dh hdh hna h8 (l4All_any _ hg.n (by simp; omega) fun x hx => hR x (hlt x hx).1 (hlt x hx).2), fun s h => sm_put (sm_all _ (fun x hx => hS x (hlt x hx).1 (hlt x hx).2) s h) (ns_args (i64c rfl) (Nat.zero_le _) (by rw [all_len]; simp; omega)), fun s => put_ln _ _⟩
    ·exact ⟨_, l4Form_callbig hg m d hd k5 kh t hl dh hdh hna (by omega), smF_fail, ln_fail⟩
end
theorem l4Form_all {B b o cc : Nat} {cs : List Dat} {a2 : Option Addr} {n2 c2 : Nat} {root : Int} (hg : Good cs) (h3 : cs.length ≤ 1000) (hN : ∀ d ∈ cs, i64B d.n) : ∀ m : Nat, m ≤ cs.length → ∃ R : Int → Sx → Sx, ∀ x : Int, 0 ≤ x → x < (m : Int) → FC B b o cc cs a2 n2 c2 root 70 x (R x) ∧ SmF (R x) ∧ LnF (R x)
 | 0, _ => ⟨fun _ s => s, fun x h0 h1 => by omega⟩
 | m + 1, h => by
  obtain ⟨R, hR⟩ := l4Form_all (cc := cc) (a2 := a2) (n2 := n2) (c2 := c2) (root := root) (B := B) (b := b) (o := o) hg h3 hN m (by omega)
  obtain ⟨F, hF⟩ := l4Form_some hg h3 hN m (by omega) (fun x h0 h1 => (hR x h0 h1).1) (fun x h0 h1 => (hR x h0 h1).2.1) (fun x h0 h1 => (hR x h0 h1).2.2)
  refine ⟨fun x => if x = (m : Int) then F else R x, fun x h0 h1 => ?_⟩
  by_cases hx : x = (m : Int)
  ·subst hx
   simp only [if_true]
   exact hF
  ·simp only [if_neg hx]
   exact hR x h0 (by omega)
end Go.Proofs.Ytgjeefedcfakdaa
set_option linter.unusedVariables false
namespace Go.Proofs.Ytgjeefedcfakdaa.R2
open Go.ChangeShapes Go.WideShapes Go.ChangeAt Go.RowKit
def flatD (cs : List Dat) : List Value := cs.flatMap fun d => [.int .i64 d.k, .int .i64 d.n, .string d.s, .int .i64 d.l, .int .i64 d.r]
theorem flatD_snoc (cs : List Dat) (d : Dat) : flatD (cs ++ [d]) = flatD cs ++ [.int .i64 d.k, .int .i64 d.n, .string d.s, .int .i64 d.l, .int .i64 d.r] := by simp [flatD]
theorem bldInfo49 : (Try.prog.info? 98).map (fun i => (i.zero, i.size, i.bytes)) = some (some (.agg #[.int .i64 0, .int .i64 0, .string ⟨#[]⟩, .int .i64 0, .int .i64 0]), 5, 48) := by kernel_rfl
def prS (cs : List Dat) (ps : List Int) (e : Int) : Nat → List Dat × Int
 | 0 => (cs, e)
 | k + 1 => ((prS cs ps e k).1 ++ [⟨5, 0, ⟨#[]⟩, ps.getD (ps.length - 1 - k) 0, (prS cs ps e k).2⟩], ((prS cs ps e k).1.length : Int))
theorem prS_length (cs : List Dat) (ps : List Int) (e : Int) : ∀ k, (prS cs ps e k).1.length = cs.length + k
 | 0 => rfl
 | k + 1 => by simp [prS, prS_length cs ps e k]; omega
def PartsAt (w : World) (S : Nat) (a : Option Addr) (ps : List Int) : Prop :=
 ∀ (i : Nat) (x : Int), ps[i]? = some x → ∃ b o xs, a = some ⟨b, o, none⟩ ∧ b < S ∧ w.heap[b]? = some (.cells xs 3 (0, 0)) ∧ xs[o + i]? = some (.int .i64 x)
theorem PartsAt.keep {w w' : World} {S : Nat} {a : Option Addr} {ps : List Int} (h : PartsAt w S a ps) (hk : ∀ b xs, b < S → w.heap[b]? = some (.cells xs 3 (0, 0)) → w'.heap[b]? = w.heap[b]?) : PartsAt w' S a ps := by
 intro i x hx
 obtain ⟨b, o, xs, ha, hb, hw, hc⟩ := h i x hx
 exact ⟨b, o, xs, ha, hb, (hk b xs hb hw).trans hw, hc⟩
end Go.Proofs.Ytgjeefedcfakdaa.R2
set_option linter.unusedVariables false
namespace Go.Proofs.Ytgjeefedcfakdaa.R2
def skp : Bool → List UInt8 → Nat
 | _, [] => 0
 | rem, c :: r => if c.toNat = 10 then 1 + skp false r else if rem then 1 + skp true r else if c.toNat = 9 ∨ c.toNat = 32 then 1 + skp false r else if c.toNat = 59 then 1 + skp true r else 0
def dr (s : ByteArray) (at_ : Nat) : List UInt8 := s.data.toList.drop at_
theorem dr_len (s : ByteArray) (i : Nat) : (dr s i).length = s.size - i := by simp [dr]
theorem dr_cons (s : ByteArray) (i : Nat) (h : i < s.size) : dr s i = s[i] :: dr s (i + 1) := by
 unfold dr
 rw [List.drop_eq_getElem_cons (by simpa using h)]
 rfl
theorem dr_end (s : ByteArray) (i : Nat) (h : s.size ≤ i) : dr s i = [] := List.eq_nil_of_length_eq_zero (by rw [dr_len]; omega)
theorem skp_le : ∀ (rem : Bool) (l : List UInt8), skp rem l ≤ l.length
 | _, [] => by simp [skp]
 | rem, c :: r => by
  have h1 := skp_le false r
  have h2 := skp_le true r
  simp only [skp, List.length_cons]
  split
  ·omega
  ·split
   ·omega
   ·split
    ·omega
    ·split <;> omega
theorem skp_idem : ∀ (rem : Bool) (l : List UInt8), skp false (l.drop (skp rem l)) = 0
 | _, [] => by simp [skp]
 | rem, c :: r => by
  have h1 := skp_idem false r
  have h2 := skp_idem true r
  simp only [skp]
  by_cases a1 : c.toNat = 10
  ·rw [if_pos a1, Nat.add_comm 1, List.drop_succ_cons]; exact h1
  ·rw [if_neg a1]
   by_cases a2 : rem = true
   ·rw [if_pos a2, Nat.add_comm 1, List.drop_succ_cons]; exact h2
   ·rw [if_neg a2]
    by_cases a3 : c.toNat = 9 ∨ c.toNat = 32
    ·rw [if_pos a3, Nat.add_comm 1, List.drop_succ_cons]; exact h1
    ·rw [if_neg a3]
     by_cases a4 : c.toNat = 59
     ·rw [if_pos a4, Nat.add_comm 1, List.drop_succ_cons]; exact h2
     ·rw [if_neg a4, List.drop_zero]
      simp only [skp]
      rw [if_neg a1, if_neg (by simp), if_neg a3, if_neg a4]
def skAt (s : ByteArray) (i : Nat) : Nat := i + skp false (dr s i)
theorem skAt_ge (s : ByteArray) (i : Nat) : i ≤ skAt s i := Nat.le_add_right _ _
theorem skAt_le (s : ByteArray) (i : Nat) (h : i ≤ s.size) : skAt s i ≤ s.size := by
 have := skp_le false (dr s i)
 rw [dr_len] at this
 unfold skAt
 omega
theorem skAt_idem (s : ByteArray) (i : Nat) : skAt s (skAt s i) = skAt s i := by
 have h := skp_idem false (dr s i)
 have e : dr s (i + skp false (dr s i)) = (dr s i).drop (skp false (dr s i)) := by unfold dr; rw [List.drop_drop]
 unfold skAt
 rw [e, h]
 rfl
def wdB (c : UInt8) : Bool := sgB c || (decide (c.toNat = 35) || decide (c.toNat = 46))
def parB (c : UInt8) : Bool := hasB [40, 41, 39] c
def twl (l : List UInt8) : Nat := (l.takeWhile wdB).length
theorem twl_le (l : List UInt8) : twl l ≤ l.length := by
 unfold twl
 have := (List.takeWhile_prefix (p := wdB) (l := l)).length_le
 exact this
theorem twl_cons (c : UInt8) (l : List UInt8) : twl (c :: l) = if wdB c then 1 + twl l else 0 := by
 unfold twl
 rw [List.takeWhile_cons]
 split
 ·simp; omega
 ·rfl
def tkE (s : ByteArray) (b : Nat) : Nat :=
 match dr s b with
 | [] => b
 | c :: r => if parB c then b + 1 else b + twl (c :: r)
theorem tkE_ge (s : ByteArray) (b : Nat) : b ≤ tkE s b := by
 unfold tkE
 split
 ·exact Nat.le_refl _
 ·split <;> omega
theorem tkE_le (s : ByteArray) (b : Nat) (h : b ≤ s.size) : tkE s b ≤ s.size := by
 unfold tkE
 have hl := dr_len s b
 split
 ·exact h
 ·rename_i c r e
  rw [e] at hl
  have := twl_le (c :: r)
  simp only [List.length_cons] at hl this
  split <;> omega
def tk (s : ByteArray) (b : Nat) : ByteArray := s.extract b (tkE s b)
structure St where
 nx : Nat
 la : Nat
 cs : List Dat
def numD (n : Int) : Dat := ⟨1, n, ⟨#[]⟩, 0, 0⟩
def boolD (n : Int) : Dat := ⟨2, n, ⟨#[]⟩, 0, 0⟩
def symD (s : ByteArray) : Dat := ⟨3, 0, s, 0, 0⟩
def nilD : Dat := ⟨4, 0, ⟨#[]⟩, 0, 0⟩
def quoD : Dat := symD ⟨#[113, 117, 111, 116, 101]⟩
def atomD (t : ByteArray) : Option Dat :=
 if deB t.data.toList = true ∧ -1000000 ≤ rdX t.data.toList ∧ rdX t.data.toList ≤ 1000000 then some (numD (rdX t.data.toList))
 else if (t.toList == [35, 116]) = true then some (boolD 1)
 else if (t.toList == [35, 102]) = true then some (boolD 0)
 else if syL t.data.toList = true then some (symD t)
 else none
def putP (st : St) (d : Dat) : Except Nat St := if st.cs.length < 1000 then .ok ⟨st.nx, st.la, st.cs ++ [d]⟩ else .error st.la
def prsP (st : St) (ps : List Int) : Except Nat St := if st.cs.length + ps.length ≤ 1000 then .ok ⟨st.nx, st.la, (prS st.cs ps ((st.cs.length : Int) - 1) ps.length).1⟩ else .error st.la
def atomP (st : St) (t : ByteArray) : Except Nat St :=
 match atomD t with
 | some d => putP st d
 | none => .error st.la
def St.top (st : St) : Int := (st.cs.length : Int) - 1
def rdP (s : ByteArray) : Nat → Bool → Nat → List Int → St → Except Nat St
 | 0, _, _, _, st => .error st.nx
 | f + 1, true, deep, _, st =>
  if tkE s st.nx = st.nx then .error st.nx
  else if ((tk s st.nx).toList == [40]) = true then (if 24 ≤ deep then .error st.nx else rdP s f false (deep + 1) [] ⟨tkE s st.nx, st.nx, st.cs⟩)
  else if ((tk s st.nx).toList == [39]) = true then (if 24 ≤ deep then .error st.nx else
   (putP ⟨tkE s st.nx, st.nx, st.cs⟩ quoD).bind fun st1 => (rdP s f true (deep + 1) [] ⟨skAt s st1.nx, 0, st1.cs⟩).bind fun st2 => (putP st2 nilD).bind fun st3 => prsP st3 [st1.top, st2.top])
  else atomP ⟨tkE s st.nx, st.nx, st.cs⟩ (tk s st.nx)
 | f + 1, false, deep, ps, st =>
  if ((tk s (skAt s st.nx)).toList == [41]) = true then (putP ⟨tkE s (skAt s st.nx), skAt s st.nx, st.cs⟩ nilD).bind fun st2 => prsP st2 ps
  else if ((tk s (skAt s st.nx)).toList == [46]) = true ∧ ps ≠ [] then
   (rdP s f true deep [] ⟨skAt s (tkE s (skAt s st.nx)), 0, st.cs⟩).bind fun st2 =>
    if ((tk s (skAt s st2.nx)).toList == [41]) = true then prsP ⟨tkE s (skAt s st2.nx), skAt s st2.nx, st2.cs⟩ ps else .error (skAt s st2.nx)
  else (rdP s f true deep [] ⟨skAt s st.nx, 0, st.cs⟩).bind fun st2 => rdP s f false deep (ps ++ [st2.top]) st2
def datP (s : ByteArray) (f deep b : Nat) (cs : List Dat) : Except Nat St := rdP s f true deep [] ⟨b, 0, cs⟩
def lstP (s : ByteArray) (f deep : Nat) (ps : List Int) (st : St) : Except Nat St := rdP s f false deep ps st
theorem datP_succ (s : ByteArray) (f deep b : Nat) (cs : List Dat) : datP s (f + 1) deep b cs =
  if tkE s b = b then .error b
  else if ((tk s b).toList == [40]) = true then (if 24 ≤ deep then .error b else lstP s f (deep + 1) [] ⟨tkE s b, b, cs⟩)
  else if ((tk s b).toList == [39]) = true then (if 24 ≤ deep then .error b else
   (putP ⟨tkE s b, b, cs⟩ quoD).bind fun st => (datP s f (deep + 1) (skAt s st.nx) st.cs).bind fun st2 => (putP st2 nilD).bind fun st3 => prsP st3 [st.top, st2.top])
  else atomP ⟨tkE s b, b, cs⟩ (tk s b) := rfl
theorem lstP_succ (s : ByteArray) (f deep : Nat) (ps : List Int) (st : St) : lstP s (f + 1) deep ps st =
  if ((tk s (skAt s st.nx)).toList == [41]) = true then (putP ⟨tkE s (skAt s st.nx), skAt s st.nx, st.cs⟩ nilD).bind fun st2 => prsP st2 ps
  else if ((tk s (skAt s st.nx)).toList == [46]) = true ∧ ps ≠ [] then
   (datP s f deep (skAt s (tkE s (skAt s st.nx))) st.cs).bind fun st2 =>
    if ((tk s (skAt s st2.nx)).toList == [41]) = true then prsP ⟨tkE s (skAt s st2.nx), skAt s st2.nx, st2.cs⟩ ps else .error (skAt s st2.nx)
  else (datP s f deep (skAt s st.nx) st.cs).bind fun st2 => lstP s f deep (ps ++ [st2.top]) st2 := rfl
def topP (s : ByteArray) (F : Nat) : Nat → List Int → St → Except Nat (St × List Int)
 | 0, _, st => .error st.nx
 | f + 1, ts, st =>
  if skAt s st.nx = s.size then .ok (st, ts)
  else (datP s F 0 (skAt s st.nx) st.cs).bind fun st2 => topP s F f (ts ++ [st2.top]) st2
end Go.Proofs.Ytgjeefedcfakdaa.R2
