/- A mark ahead of each name. Which types have another size: the program's resized. -/
import Derived.Test.YtamjofdgikifnaaGreatApl
import Derived.Deep.RegionWith
import Derived.Test.YtamjofdgikifnaaGreatAps
import Derived.Test.YtamjofdgikifnaaGreatApt
set_option linter.unusedVariables false
namespace Go.Proofs.YtamjofdgikifnaaGreat
open Go.ChangeShapes Go.WideShapes Go.ChangeAt Go.RowKit
def mkd (t s : ByteArray) : ByteArray := t ++ s
set_option maxRecDepth 100000 in
set_option maxHeartbeats 1000000 in
theorem marked_any (t : ByteArray) (ht : t.size ≤ 16) (a : Option Addr) (l : List ByteArray) (ca : Nat) (w : World) (hn : l.length ≤ 1048576) (hs : ∀ x ∈ l, smS x) (hr : RowS w w.heap.size a l) :
  Calls Tryz.prog 47 #[.string t, .slice a l.length ca] w fun e w' => NmPost (l.map (mkd t)) w e w' := by
 have HR : Hid (RowS w w.heap.size a l) := hr
 have HS : Hid (∀ x ∈ l, smS x) := hs
 clear hr hs
 obtain ⟨i9, hi9, hz90, hz91, hz92⟩ := info_parts Tryz.inf9
 go_enter Tryz.func47, Tryz.ntmps47
 go_wp2
 go_loopw [5, 10] (fun v o wr => ∃ i : Nat, i ≤ l.length ∧ o = .int .i64 i ∧ OwnS wr w.heap.size v ((l.take i).map (mkd t)) ∧ Below w.heap.size w wr)
  (fun _ o _ => l.length - (intOf o).toNat)
 case atStart => exact ⟨0, by omega, rfl, ⟨rfl, .inl ⟨rfl, rfl⟩⟩, Below.refl _ _⟩
 case round =>
  obtain ⟨i, hi, rfl, hown, hb⟩ := hrel
  obtain ⟨oa, oc, rfl, hoc⟩ := hown.slice
  have HOW : Hid (OwnS wr w.heap.size (.slice oa ((l.take i).map (mkd t)).length oc) ((l.take i).map (mkd t))) := hown
  have hsl : ((l.take i).map (mkd t)).length ≤ 1048576 := by rw [List.length_map, List.length_take]; omega
  clear hown
  by_cases hlt : i < l.length
  ·obtain ⟨d, hd⟩ : ∃ d, l[i]? = some d := ⟨_, List.getElem?_eq_getElem hlt⟩
   obtain ⟨b1, o1, rfl, hbb, c0⟩ := (HR.out.below hb) i d hd
   have hds : d.size ≤ 1048576 := HS.out d (List.mem_of_getElem? hd)
   have HMT : Hid ((l.take (i + 1)).map (mkd t) = (l.take i).map (mkd t) ++ [mkd t d]) := map_take _ hd
   clear hd
   generalize hls : (l.take i).map (mkd t) = ls at *
   clear hls
   have hnews : ∀ j u, [Value.string (t ++ d)][j]? = some u → (wr.alloc (Obj.cells #[.string (t ++ d)] 9)).cell? ((⟨wr.heap.size, 0, none⟩ : Addr).add j) = some u := by
    intro j u hj
    rw [add_lit, Nat.zero_add]
    exact cell_blk (blk_at _ _ _ (by simp)) (by simpa using hj)
   have HO1 : Hid ((wr.alloc (Obj.cells #[.string (t ++ d)] 9)).ownsRow w.heap.size 9 1 (.slice oa ls.length oc) ls.length (ls.map Value.string)) := World.ownsRow.alloc HOW.out _
   have HB1 : Hid (Below w.heap.size w (wr.alloc (Obj.cells #[.string (t ++ d)] 9))) := hb.alloc hb.size _
   have hsz := hb.size
   go_wp2_with (at_builtin; go_loud (refine wpList_append_row rfl _ _ 22 rfl w.heap.size 9 i9 _ 1 16 Tryz.underlying22 hi9 hz90 hz91 hz92 rfl (by omega) (.slice oa ls.length oc) ls.length (ls.map Value.string) rfl HO1.out (some ⟨wr.heap.size, 0, none⟩) 1 1 [.string (t ++ d)] rfl rfl (fun _ => ⟨_, rfl, hnews⟩) (by intro u hu; simp at hu; subst hu; rfl) (by unfold maxLen; omega) (by omega) (by simp; omega) ?_; intro v' w4 hown hgrow hat; refine stop ?_))
   have HO4 : Hid (OwnS w4 w.heap.size v' (ls ++ [mkd t d])) := OwnS.snoc hown
   have HB4 : Hid (Below w.heap.size w w4) := app_below HB1.out HB1.out.size HO1.out hgrow
   unfold Hid
   clear hown hgrow hat hnews
   go_wp2
   go_roundw
   case rel => exact ⟨i + 1, by omega, by go_num, by rw [HMT.out]; exact HO4.out, HB4.out⟩
   case measure => simp [intOf]; omega
  ·obtain rfl : i = l.length := by omega
   rw [List.take_length] at HOW hoc ⊢
   have hlt' : decide ((l.length : Int) < (l.length : Int)) = false := by simp
   go_wp2
   go_ret
   exact ⟨oa, oc, by rw [List.length_map]; rfl, hoc, HOW.out, hb⟩
end Go.Proofs.YtamjofdgikifnaaGreat
set_option linter.unusedVariables false
namespace Go.Proofs.YtamjofdgikifnaaGreat
open Go.ChangeShapes Go.WideShapes Go.ChangeAt Go.RowKit
theorem rwS {w : World} {a : Option Addr} {l : List ByteArray} (c : Nat) (h : RowS w w.heap.size a l) : (⟨a, l.length, c, l.map Value.string⟩ : Rw).At 1 w where
 len := by simp
 one := fun x hx => by
  obtain ⟨s, _, rfl⟩ := List.mem_map.1 hx
  rfl
 cells := fun wr hb h0 => by
  have h0' : 0 < l.length := h0
  exact news_S (p := fun b => b < wr.heap.size) (RowSP.keep (w := w) (p := fun b => b < w.heap.size) h fun b hb' => ⟨Nat.lt_of_lt_of_le hb' hb.size, hb.block b hb'⟩) h0'
theorem rwT {w : World} {a : Option Addr} {l : List Typ} (c : Nat) (h : rgT.Row w (fun b => b < w.heap.size) a l) : (⟨a, l.length, c, l.flatMap tyC⟩ : Rw).At 2 w := by
 have hu : ∀ (l : List Typ) (u : List Value), RawOf rgT w (fun b => b < w.heap.size) u l → u = l.flatMap tyC := by
  intro l
  induction l with
  | nil => intro u h; exact h
  | cons t l ih =>
   intro u h
   obtain ⟨cs, rest, rfl, h1, h2⟩ := h
   have h1' : cs = [.string t.name, .int .i64 t.size] := h1
   rw [ih rest h2, h1']
   rfl
 obtain ⟨r, h1, h2, h3, h4, h5⟩ := h.rw_at c (fun b hb => hb) (fun u hr v hv => by rw [hu l u hr] at hv; exact flat_one l v hv)
 obtain ⟨ra, rn, rc, ru⟩ := r
 simp only at h1 h2 h3 h4
 subst h1 h2 h3
 rw [hu l ru h4] at h5
 exact h5
theorem rws_one {w : World} {g sz : Nat} {r : Rw} (h : w.cell? ⟨g, 0, none⟩ = some (.slice r.a r.n r.c)) (hr : r.At sz w) : RwsAt [r] sz g w := by
 intro i x hx
 match i, hx with
 | 0, hx =>
  obtain rfl : r = x := by simpa using hx
  exact ⟨h, hr⟩
 | i + 1, hx => simp at hx
theorem apS_one {n nL : Nat} (m : Nat) (L row : List ByteArray) (a b : Option Addr) (ca cb g : Nat) (w : World) (e1 : row.length = n) (e2 : L.length = nL) (hm : MapE w m) (hn : nL ≤ 1048576) (hsl : ∀ x ∈ L, smS x) (hg : g < w.heap.size)
  (h0 : w.cell? ⟨g, 0, none⟩ = some (.slice b nL cb)) (hl : RowS w w.heap.size b L) (hrn : n ≤ 1048576) (hrs : ∀ x ∈ row, smS x) (hrow : RowS w w.heap.size a row) :
  Calls Tryz.prog 38 #[.map (some m), .slice a n ca, .slice (some ⟨g, 0, none⟩) 1 1] w fun e w' => ApS m (apR L row) w e w' := by
 subst e1 e2
 exact apS_any m [⟨b, L.length, cb, L.map Value.string⟩] L row a ca g w hm (by simp) (by omega) hsl hg (rws_one h0 (rwS cb hl)) (by simp [sumN]) (by simp [catU]) hrn hrs hrow
theorem apT_one (m : Nat) (L row : List Typ) (a b : Option Addr) (ca cb g : Nat) (w : World) (hm : MapE w m) (hn : L.length ≤ 1048576) (hsl : ∀ x ∈ L, Typ.small x) (hg : g < w.heap.size)
  (h0 : w.cell? ⟨g, 0, none⟩ = some (.slice b L.length cb)) (hl : rgT.Row w (fun b => b < w.heap.size) b L) (hrn : row.length ≤ 1048576) (hrs : ∀ x ∈ row, Typ.small x) (hrow : rgT.Row w (fun b => b < w.heap.size) a row) :
  Calls Tryz.prog 78 #[.map (some m), .slice a row.length ca, .slice (some ⟨g, 0, none⟩) 1 1] w fun e w' => ApT m (apR L row) w e w' :=
 apT_any m [⟨b, L.length, cb, L.flatMap tyC⟩] L row a ca g w hm (by simp) (by omega) hsl hg (rws_one h0 (rwT cb hl)) (by simp [sumN]) (by simp [catU]) hrn hrs hrow
noncomputable def rszL (a b : List Typ) : List ByteArray := apR (apR (b.map (·.name)) (a.map (·.name))) ((apR b a).map (·.name))
theorem make116 (W : World) : (Instr.makeMap 116 none).run Tryz.prog W = .ok (.map (some W.heap.size)) (W.alloc (.map #[] 0)) := by
 rfl
theorem below_gby {w w0 w1 : World} {m : Nat} (h : Below w.heap.size w w0) (hm : w.heap.size ≤ m) (g : w0.grownBy w1 (some m)) : Below w.heap.size w w1 :=
 h.trans ⟨g.os, g.tape, g.output, g.size, fun k hk => g.block k (Nat.lt_of_lt_of_le hk h.size) (fun e => by have := Option.some.inj e; omega)⟩
theorem typ_names {l : List Typ} (h : ∀ x ∈ l, Typ.small x) : ∀ x ∈ l.map (·.name), smS x := fun x hx => by
 obtain ⟨t, ht, rfl⟩ := List.mem_map.1 hx
 exact (h t ht).1
set_option maxRecDepth 100000 in
set_option maxHeartbeats 1000000 in
theorem resized_any (m : Nat) (a b : Option Addr) (l k : List Typ) (ca cb : Nat) (w : World) (hm : MapE w m) (hn : l.length ≤ 1048576) (hk : k.length ≤ 1048576) (hsl : ∀ x ∈ l, Typ.small x) (hsk : ∀ x ∈ k, Typ.small x)
  (hl : rgT.Row w (fun b => b < w.heap.size) a l) (hkr : rgT.Row w (fun b => b < w.heap.size) b k) :
  Calls Tryz.prog 48 #[.map (some m), .slice a l.length ca, .slice b k.length cb] w fun e w' => ApS m (rszL l k) w e w' := by
 have HL : Hid (∀ w2, Below w.heap.size w w2 → rgT.Row w2 (fun b => b < w2.heap.size) a l) := fun w2 hb => hl.now (B := 0) hb
 have HK : Hid (∀ w2, Below w.heap.size w w2 → rgT.Row w2 (fun b => b < w2.heap.size) b k) := fun w2 hb => hkr.now (B := 0) hb
 have HSL : Hid (∀ x ∈ l, Typ.small x) := hsl
 have HSK : Hid (∀ x ∈ k, Typ.small x) := hsk
 have HM : Hid (MapE w m) := hm
 have hmw := hm.lt
 clear hl hkr hsl hsk hm
 have hmk := make116
 go_enter Tryz.func48, Tryz.ntmps48
 go_wp2_with fail
 have hb0 : Below w.heap.size w ((w.alloc (Obj.map #[] 0)).alloc (Obj.cells #[.slice b k.length cb] 31)) := ((Below.refl _ _).alloc (Nat.le_refl _) _).alloc (by simp) _
 have c0 : ((w.alloc (Obj.map #[] 0)).alloc (Obj.cells #[.slice b k.length cb] 31)).cell? ⟨w.heap.size + 1, 0, none⟩ = some (.slice b k.length cb) := cell_blk (j := 0) (blk_at _ _ _ (by simp)) rfl
 have hm0 : MapE ((w.alloc (Obj.map #[] 0)).alloc (Obj.cells #[.slice b k.length cb] 31)) w.heap.size := (MapE.made w).same (map_alloc _ (by simp))
 refine (apT_one w.heap.size k l a b ca cb (w.heap.size + 1) _ hm0 hk HSK.out (by simp) c0 (HK.out _ hb0) hn HSL.out (HL.out _ hb0)).mono ?_
 rintro e w1 ⟨v1, rfl, ho1, _, hg1⟩
 have hb1 : Below w.heap.size w w1 := below_gby hb0 (Nat.le_refl _) hg1
 have HS1 : Hid (∀ x ∈ apR k l, Typ.small x) := fun x hx => HSL.out x (apR_mem hx)
 have hn1 : (apR k l).length ≤ 1048576 := Nat.le_trans (apR_len _ _) hn
 obtain ⟨a1, k1, rfl, _⟩ := ho1.slice
 have HR1 : Hid (rgT.Row w1 (fun b => b < w1.heap.size) a1 (apR k l)) := ho1.row
 have HB1 : Hid (Below w.heap.size w w1) := hb1
 clear hb0 c0 hm0 hg1 ho1 hb1 hmk
 go_wp2_with fail
 refine (typeNames_any a1 (apR k l) k1 w1 hn1 HR1.out).mono ?_
 rintro e w2 ⟨a2, k2, rfl, hk2, ho2, hb2⟩
 have HB2 : Hid (Below w.heap.size w w2) := HB1.out.trans (hb2.mono HB1.out.size)
 have HO2 : Hid (OwnS w2 w.heap.size (.slice a2 ((apR k l).map (·.name)).length k2) ((apR k l).map (·.name))) := ho2.weak HB1.out.size
 clear ho2 hb2
 go_wp2_with fail
 refine (typeNames_any a l ca w2 hn (HL.out _ HB2.out)).mono ?_
 rintro e w3 ⟨a3, k3, rfl, hk3, ho3, hb3⟩
 have HB3 : Hid (Below w.heap.size w w3) := HB2.out.trans (hb3.mono HB2.out.size)
 have HO23 : Hid (OwnS w3 w.heap.size (.slice a2 ((apR k l).map (·.name)).length k2) ((apR k l).map (·.name))) := HO2.out.keep fun b hb => hb3.block b (HO2.out.blk hb).2.1
 have HO3 : Hid (OwnS w3 w2.heap.size (.slice a3 (l.map (·.name)).length k3) (l.map (·.name))) := ho3
 clear ho3 hb3
 go_wp2_with fail
 refine (typeNames_any b k cb w3 hk (HK.out _ HB3.out)).mono ?_
 rintro e w4 ⟨a4, k4, rfl, hk4, ho4, hb4⟩
 have HB4 : Hid (Below w.heap.size w w4) := HB3.out.trans (hb4.mono HB3.out.size)
 have HO24 : Hid (OwnS w4 w.heap.size (.slice a2 ((apR k l).map (·.name)).length k2) ((apR k l).map (·.name))) := HO23.out.keep fun b hb => hb4.block b (HO23.out.blk hb).2.1
 have HO34 : Hid (RowS w4 w4.heap.size a3 (l.map (·.name))) := (HO3.out.keep fun b hb => hb4.block b (HO3.out.blk hb).2.1).rowS
 have HO4 : Hid (RowS w4 w4.heap.size a4 (k.map (·.name))) := ho4.rowS
 clear ho4 hb4
 go_wp2_with fail
 have hs4 := HB4.out.size
 have hbA : Below w4.heap.size w4 (w4.alloc (Obj.cells #[.slice a4 k.length k4] 22)) := (Below.refl _ _).alloc (Nat.le_refl _) _
 have hbW := HB4.out.trans (hbA.mono hs4)
 have hmA : MapE (w4.alloc (Obj.cells #[.slice a4 k.length k4] 22)) m := HM.out.same (hbW.block m hmw)
 have HO2A : Hid (OwnS (w4.alloc (Obj.cells #[.slice a4 k.length k4] 22)) w.heap.size (.slice a2 ((apR k l).map (·.name)).length k2) ((apR k l).map (·.name))) := HO24.out.keep fun b hb => hbA.block b (HO24.out.blk hb).2.1
 refine (apS_one m (k.map (·.name)) (l.map (·.name)) a3 a4 k3 k4 w4.heap.size _ (by simp) (by simp) hmA hk (typ_names HSK.out) (by simp) (cell_blk (j := 0) (blk_at _ _ _ rfl) rfl) ((HO4.out.below hbA).mono hbA.size) hn (typ_names HSL.out) ((HO34.out.below hbA).mono hbA.size)).mono ?_
 rintro e w5 ⟨v5, rfl, ho5, hm5, hg5⟩
 have HG5 : Hid (w.grownBy w5 (some m)) := gby_wide (gby_of hbW) (hg5)
 have HO25 : Hid (OwnS w5 w.heap.size (.slice a2 ((apR k l).map (·.name)).length k2) ((apR k l).map (·.name))) := own_gby HO2A.out hg5 hmw
 have HM5 : Hid (MapE w5 m) := hm5
 have hn5 : (apR (k.map (·.name)) (l.map (·.name))).length ≤ 1048576 := by have := apR_len (k.map (·.name)) (l.map (·.name)); rw [List.length_map] at this; omega
 obtain ⟨a5, k5, rfl, hk5⟩ := ho5.slice
 have HO5 : Hid (RowS w5 w5.heap.size a5 (apR (k.map (·.name)) (l.map (·.name)))) := ho5.rowS
 have hs5 := HG5.out.size
 have hm5w : m < w.heap.size := hmw
 clear hm5 hg5 ho5 hbA hbW hmA
 go_wp2_with fail
 have hbB : Below w5.heap.size w5 (w5.alloc (Obj.cells #[.slice a5 (apR (k.map (·.name)) (l.map (·.name))).length k5] 22)) := (Below.refl _ _).alloc (Nat.le_refl _) _
 refine (apS_one m (apR (k.map (·.name)) (l.map (·.name))) ((apR k l).map (·.name)) a2 a5 k2 k5 w5.heap.size _ (by simp) rfl (HM5.out.same (hbB.block _ (by omega))) hn5 (fun x hx => typ_names HSL.out x (apR_mem hx)) (by simp) (cell_blk (j := 0) (blk_at _ _ _ rfl) rfl) ((HO5.out.below hbB).mono hbB.size) hn1 (typ_names HS1.out) ((HO25.out.rowS.below hbB).mono hbB.size)).mono ?_
 rintro e w6 ⟨v6, rfl, ho6, hm6, hg6⟩
 have HO6 : Hid (OwnS w6 w.heap.size v6 (rszL l k)) := ho6.weak (Nat.le_trans hs5 hbB.size)
 have HG6 : Hid (w.grownBy w6 (some m)) := gby_wide (gby_below HG5.out (hbB.mono hs5)) hg6
 have HM6 : Hid (MapE w6 m) := hm6
 clear hm6 hg6 ho6 hbB
 go_wp2
 go_ret
 exact ⟨_, rfl, HO6.out, HM6.out, HG6.out⟩
end Go.Proofs.YtamjofdgikifnaaGreat
