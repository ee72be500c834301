/-
  Several texts in one: what the proof leans on, part 3.
-/
import Derived.Test.YtciaidjmehelpaaGreatRb
import Derived.Test.YtciaidjmehelpaaGreatRa
import Derived.Test.YtciaidjmehelpaaGreatMa
import Derived.Test.YtciaidjmehelpaaGreatMb
import Derived.Test.YtciaidjmehelpaaGreatMc
import Derived.Test.YtciaidjmehelpaaGreatMd
import Derived.Test.YtciaidjmehelpaaGreatMe
set_option linter.unusedVariables false
set_option linter.unusedSimpArgs false
namespace Go.Proofs.YtciaidjmehelpaaGreat
open Go.RowKit Go.Maps
def headV (e : En) : Vl := (e.key[0]?).getD ⟨0, 0, ⟨#[]⟩⟩
def inR (lo hi : Vl) (e : En) : Bool := decide (0 ≤ ordX (headV e) lo) && decide (ordX (headV e) hi ≤ 0)
def rangeL (lo hi : Vl) (l : List En) : List Int := (l.filter (inR lo hi)).map En.id
def rangeOk (l : List En) (lo hi : Vl) : Bool := entriesB l && (lo.ok && hi.ok)
def rangeB (l : List En) (lo hi : Vl) : List Int := if rangeOk l lo hi then rangeL lo hi l else []
theorem rangeL_yes {lo hi : Vl} {l : List En} {k : Nat} (h : k < l.length) (hr : inR lo hi l[k] = true) : rangeL lo hi (l.take (k + 1)) = rangeL lo hi (l.take k) ++ [l[k].id] := by
 rw [List.take_succ_eq_append_getElem h]
 unfold rangeL
 rw [List.filter_append, List.map_append, List.filter_cons, if_pos hr]
 rfl
theorem rangeL_no {lo hi : Vl} {l : List En} {k : Nat} (h : k < l.length) (hr : inR lo hi l[k] = false) : rangeL lo hi (l.take (k + 1)) = rangeL lo hi (l.take k) := by
 rw [List.take_succ_eq_append_getElem h]
 unfold rangeL
 rw [List.filter_append, List.map_append, List.filter_cons, if_neg (by simp [hr])]
 simp
theorem rangeL_len (lo hi : Vl) (l : List En) : (rangeL lo hi l).length ≤ l.length := by
 unfold rangeL; rw [List.length_map]; exact List.length_filter_le _ _
theorem rangeB_len (l : List En) (lo hi : Vl) : (rangeB l lo hi).length ≤ l.length := by
 unfold rangeB; split
 ·exact rangeL_len lo hi l
 ·simp
theorem headV_at {e : En} (h : 0 < e.key.length) : e.key[0] = headV e := by
 unfold headV; rw [List.getElem?_eq_getElem h]; rfl
def MadeN (xs : List Int) (w : World) (e : Ending) (w' : World) : Prop := ∃ A c, e = .returned (.slice A xs.length c) ∧ xs.length ≤ c ∧ Sl IntR 1 (okF w.heap.size w') w' A xs.length xs ∧ Below w.heap.size w w'
theorem MadeN.empty {xs : List Int} {w w' : World} (h : xs = []) (hb : Below w.heap.size w w') : MadeN xs w (.returned (.slice none 0 0)) w' := by
 subst h
 exact ⟨none, 0, rfl, Nat.le_refl _, ⟨rfl, fun h => by simp at h⟩, hb⟩
theorem Row.lowE {w w' : World} {g B : Nat} {T : TypeId} {cs : Array Value} (h : Row w g T cs) (hb : Below B w w') (hg : g < B) : Row w' g T cs := (hb.block g hg).trans h
theorem ordX_turn {x y : Vl} (h : x.ok = true) (h' : y.ok = true) : ordY x y = -ordX y x := by
 rw [← ordX_right h h']; exact ordX_neg y x
theorem keepR10 {w w' : World} {p0 p1 p2 p3 p4 p5 p6 p7 p8 p9 : Addr} {v0 v1 v2 v3 v4 v5 v6 v7 v8 v9 : Value} (h : w.cell? p0 = some v0 ∧ w.cell? p1 = some v1 ∧ w.cell? p2 = some v2 ∧ w.cell? p3 = some v3 ∧ w.cell? p4 = some v4 ∧ w.cell? p5 = some v5 ∧ w.cell? p6 = some v6 ∧ w.cell? p7 = some v7 ∧ w.cell? p8 = some v8 ∧ w.cell? p9 = some v9) (hb : Below w.heap.size w w') : w'.cell? p0 = some v0 ∧ w'.cell? p1 = some v1 ∧ w'.cell? p2 = some v2 ∧ w'.cell? p3 = some v3 ∧ w'.cell? p4 = some v4 ∧ w'.cell? p5 = some v5 ∧ w'.cell? p6 = some v6 ∧ w'.cell? p7 = some v7 ∧ w'.cell? p8 = some v8 ∧ w'.cell? p9 = some v9 :=
 ⟨below_keep hb _ _ h.1, below_keep hb _ _ h.2.1, below_keep hb _ _ h.2.2.1, below_keep hb _ _ h.2.2.2.1, below_keep hb _ _ h.2.2.2.2.1, below_keep hb _ _ h.2.2.2.2.2.1, below_keep hb _ _ h.2.2.2.2.2.2.1, below_keep hb _ _ h.2.2.2.2.2.2.2.1, below_keep hb _ _ h.2.2.2.2.2.2.2.2.1, below_keep hb _ _ h.2.2.2.2.2.2.2.2.2⟩
set_option maxRecDepth 100000 in
set_option maxHeartbeats 8000000 in
theorem implRange (A : Option Addr) (n c : Nat) (l : List En) (lo hi : Vl) (ok : Nat → Prop) (w : World) (h : Sl EnR 2 ok w A n l) (hn : n ≤ 1048576) (hk : ∀ e ∈ l, e.key.length ≤ 1048576) :
  Calls Tryz.prog 15 #[.slice A n c, .agg #[.int .i64 lo.k, .int .i64 lo.n, .string lo.s], .agg #[.int .i64 hi.k, .int .i64 hi.n, .string hi.s]] w (MadeN (rangeB l lo hi) w) := by
 obtain rfl : l.length = n := h.1
 have HK := Lib.hid hk
 obtain ⟨i0, hi', hz0, hz1, hz2⟩ := info_parts infoIntI
 have H1 := Lib.hid hi'
 have H2 := Lib.hid hz0
 have H3 := Lib.hid hz1
 have H4 := Lib.hid hz2
 clear hk hi' hz0 hz1 hz2
 have hb0 := chain2 w (.cells #[.int .i64 lo.k, .int .i64 lo.n, .string lo.s] 34) (.cells #[.int .i64 hi.k, .int .i64 hi.n, .string hi.s] 34)
 have hr := two_rows w 34 #[.int .i64 lo.k, .int .i64 lo.n, .string lo.s] #[.int .i64 hi.k, .int .i64 hi.n, .string hi.s]
 have hx0 : ((w.alloc (.cells #[.int .i64 lo.k, .int .i64 lo.n, .string lo.s] 34)).alloc (.cells #[.int .i64 hi.k, .int .i64 hi.n, .string hi.s] 34)).heap.size = w.heap.size + 2 := by simp
 have HX0 := Lib.hid hx0
 have RL := Lib.hid hr.1
 have RH := Lib.hid hr.2
 clear hr hx0
 go_enter Tryz.func15, Tryz.ntmps15
 go_wp2_with fail
 generalize (w.alloc (.cells #[.int .i64 lo.k, .int .i64 lo.n, .string lo.s] 34)).alloc (.cells #[.int .i64 hi.k, .int .i64 hi.n, .string hi.s] 34) = z0 at *
 refine (implEntriesOk A l.length c l _ _ (h.below EnR.stays hb0) hn HK.out).mono ?_
 rintro e w1 ⟨rfl, hb1⟩
 have hbz1 := hb0.trans (hb1.mono hb0.size)
 have RL1 := Lib.hid (RL.out.below hb1)
 have RH1 := Lib.hid (RH.out.below hb1)
 have HSZ1 := Lib.hid (show w.heap.size + 2 ≤ w1.heap.size by rw [← HX0.out]; exact hb1.size)
 obtain ⟨⟨p0, p1, p2⟩, -⟩ := RL1.out.three
 obtain ⟨⟨s0, s1, s2⟩, -⟩ := RH1.out.three
 clear hb0 hb1
 cases he : entriesB l
 ·have HR := Lib.hid (show rangeB l lo hi = [] by unfold rangeB rangeOk; rw [he]; rfl)
  clear he
  go_wp2_with fail
  go_ret
  exact MadeN.empty HR.out hbz1
 have HE := Lib.hid he
 clear he
 go_wp2_with fail
 refine (implValOk lo.k lo.n lo.s _).mono ?_
 rintro e w2 ⟨rfl, hb2⟩
 have hbz2 := hbz1.trans (hb2.mono hbz1.size)
 have RL2 := Lib.hid (RL1.out.below hb2)
 have RH2 := Lib.hid (RH1.out.below hb2)
 have HSZ2 := Lib.hid (Nat.le_trans HSZ1.out hb2.size)
 clear p0 p1 p2 s0 s1 s2 hbz1 hb2
 obtain ⟨⟨p0, p1, p2⟩, -⟩ := RL2.out.three
 obtain ⟨⟨s0, s1, s2⟩, -⟩ := RH2.out.three
 cases hl : valOkB lo.k lo.n lo.s
 ·have HR := Lib.hid (show rangeB l lo hi = [] by unfold rangeB rangeOk Vl.ok; rw [HE.out, hl]; rfl)
  clear hl
  go_wp2_with fail
  go_ret
  exact MadeN.empty HR.out hbz2
 have HL := Lib.hid hl
 clear hl
 go_wp2_with fail
 refine (implValOk hi.k hi.n hi.s _).mono ?_
 rintro e w3 ⟨rfl, hb3⟩
 have hbz3 := hbz2.trans (hb3.mono hbz2.size)
 have RL3 := Lib.hid (RL2.out.below hb3)
 have RH3 := Lib.hid (RH2.out.below hb3)
 have HSZ3 := Lib.hid (Nat.le_trans HSZ2.out hb3.size)
 clear p0 p1 p2 s0 s1 s2 hbz2 hb3
 cases hh : valOkB hi.k hi.n hi.s
 ·have HR := Lib.hid (show rangeB l lo hi = [] by unfold rangeB rangeOk Vl.ok; rw [HE.out, HL.out, hh]; rfl)
  clear hh
  go_wp2_with fail
  go_ret
  exact MadeN.empty HR.out hbz3
 have HR := Lib.hid (show rangeB l lo hi = rangeL lo hi l by unfold rangeB rangeOk Vl.ok; rw [HE.out, HL.out, hh]; rfl)
 clear hh
 go_wp2_with fail
 go_loopw [7, 25] (fun v i wr => ∃ k : Nat, k ≤ l.length ∧ i = .int .i64 k ∧ Hid (OwnI wr (w.heap.size + 2) v (rangeL lo hi (l.take k))) ∧ Hid (Row wr w.heap.size 34 #[.int .i64 lo.k, .int .i64 lo.n, .string lo.s]) ∧ Hid (Row wr (w.heap.size + 1) 34 #[.int .i64 hi.k, .int .i64 hi.n, .string hi.s]) ∧ Hid (w.heap.size + 2 ≤ wr.heap.size) ∧ Below w.heap.size w wr) (fun _ i _ => l.length - (intOf i).toNat)
 case atStart => exact ⟨0, by omega, rfl, Lib.hid (OwnI.nil _ _), RL3, RH3, HSZ3, hbz3⟩
 case round =>
  clear hbz3
  obtain ⟨k, hk', rfl, hown, hrl, hrh, hszr, hb⟩ := hrel
  by_cases hlt : k < l.length
  case neg =>
   obtain rfl : k = l.length := by omega
   have ho := hown.out
   rw [List.take_of_length_le (Nat.le_refl _)] at ho
   obtain ⟨AO, cO, rfl, hcO, hcm, hsl⟩ := ho.sl
   have HS := Lib.hid (hsl.stays IntR.stays (ok' := okF w.heap.size wr) (fun b hb => hb.mono (by omega)) (fun p v _ hp => hp))
   clear hown hsl
   go_wp2_with fail
   go_ret
   exact ⟨AO, cO, by rw [HR.out]; rfl, by rw [HR.out]; exact hcO, by rw [HR.out]; exact HS.out, hb⟩
  have hsl := h.below EnR.stays hb
  obtain ⟨b1, o1, A1, n1, c1, -, rfl, q0, q1, s1, -⟩ := EnR.at_ hsl (i := k) hlt
  obtain rfl : l[k].key.length = n1 := s1.1
  have hpos : 0 < l[k].key.length := by
   have h1 := (entriesB_in HE.out).2.1 l[k] (List.getElem_mem hlt)
   have h2 := h1.1
   unfold entryB at h2
   simp only [Bool.and_eq_true, decide_eq_true_eq] at h2
   omega
  obtain ⟨b2, o2, -, rfl, g0, g1, g2⟩ := VlR.at_ s1 (i := 0) hpos
  have HIR := Lib.hid (show inR lo hi l[k] = (decide (0 ≤ ordX (headV l[k]) lo) && decide (ordX (headV l[k]) hi ≤ 0)) from rfl)
  have HYES := Lib.hid (show inR lo hi l[k] = true → rangeL lo hi (l.take (k + 1)) = rangeL lo hi (l.take k) ++ [l[k].id] from fun hh => rangeL_yes hlt hh)
  have HNO := Lib.hid (show inR lo hi l[k] = false → rangeL lo hi (l.take (k + 1)) = rangeL lo hi (l.take k) from fun hh => rangeL_no hlt hh)
  rw [headV_at hpos, Nat.zero_mul, Nat.add_zero] at g0 g1 g2
  have HLEN := Lib.hid (show (rangeL lo hi (l.take k)).length ≤ k by have := rangeL_len lo hi (l.take k); rw [List.length_take] at this; omega)
  generalize headV l[k] = hv at *
  have a0 : (0 : Int) ≤ k := by omega
  have a1 : (k : Int) < l.length := by omega
  have a2 : (0 : Int) < l[k].key.length := by omega
  have hlb := (Below.refl wr.heap.size wr).alloc (Nat.le_refl _) (.cells #[.slice (some ⟨b2, o2, none⟩) l[k].key.length c1, .int .i64 l[k].id] 44)
  have hbx := hb.trans (hlb.mono hb.size)
  have rx := Row.new wr 44 #[.slice (some ⟨b2, o2, none⟩) l[k].key.length c1, .int .i64 l[k].id]
  have x0 := below_keep hlb _ _ g0
  have x1 := below_keep hlb _ _ g1
  have x2 := below_keep hlb _ _ g2
  obtain ⟨⟨p0, p1, p2⟩, -⟩ := (hrl.out.below hlb).three
  obtain ⟨⟨s0', s1', s2'⟩, -⟩ := (hrh.out.below hlb).three
  obtain ⟨⟨y0, y1⟩, -⟩ := rx.all2
  have hszx : w.heap.size + 2 ≤ wr.heap.size := hszr.out
  have D := Lib.hid (show _ ∧ _ ∧ _ ∧ _ ∧ _ ∧ _ ∧ _ ∧ _ ∧ _ ∧ _ from ⟨y0, x0, x1, x2, p0, p1, p2, s0', s1', s2'⟩)
  have HOX := Lib.hid (hown.out.below hlb)
  have HRL := Lib.hid (hrl.out.below hlb)
  have HRH := Lib.hid (hrh.out.below hlb)
  have HRX := Lib.hid rx
  have hszz : wr.heap.size ≤ (wr.alloc (.cells #[.slice (some ⟨b2, o2, none⟩) l[k].key.length c1, .int .i64 l[k].id] 44)).heap.size := by simp
  have HSZZ := Lib.hid (Nat.le_trans hszx hszz)
  clear hszz hszr hsl s1 g0 g1 g2 x0 x1 x2 p0 p1 p2 s0' s1' s2' y1 hown hrl hrh rx hlb
  obtain ⟨v1, hv1⟩ : ∃ v, ordOk hv.k hv.n hv.s lo.k lo.n lo.s = v := ⟨_, rfl⟩
  obtain ⟨v2, hv2⟩ : ∃ v, ordOk hv.k hv.n hv.s hi.k hi.n hi.s = v := ⟨_, rfl⟩
  have HV1 := Lib.hid hv1
  have HV2 := Lib.hid hv2
  have HIV := Lib.hid (show inR lo hi l[k] = (decide (0 ≤ v1) && decide (v2 ≤ 0)) by rw [HIR.out, ← hv1, ← hv2]; rfl)
  clear hv1 hv2
  go_wp2_with fail
  generalize hgz : wr.alloc (.cells #[.slice (some ⟨b2, o2, none⟩) l[k].key.length c1, .int .i64 l[k].id] 44) = zx at *
  have HGZ := Lib.hid hgz
  clear hgz y0 q0 q1
  have hbd := hbx.drew
  by_cases h1 : 0 ≤ v1
  case neg =>
   have z1 : decide (0 ≤ v1) = false := decide_eq_false h1
   have HN := Lib.hid (HNO.out (by rw [HIV.out, z1]; rfl))
   clear h1
   refine wp_region_noPanic ?_
   refine wp_region_held_drew (S := fun w' => w'.cell? ⟨wr.heap.size, 0, none⟩ = some (.slice (some ⟨b2, o2, none⟩) l[k].key.length c1) ∧ w'.cell? ⟨b2, o2, none⟩ = some (.int .i64 hv.k) ∧ w'.cell? ⟨b2, o2 + 1, none⟩ = some (.int .i64 hv.n) ∧ w'.cell? ⟨b2, o2 + 2, none⟩ = some (.string hv.s) ∧ w'.cell? ⟨w.heap.size, 0, none⟩ = some (.int .i64 lo.k) ∧ w'.cell? ⟨w.heap.size, 1, none⟩ = some (.int .i64 lo.n) ∧ w'.cell? ⟨w.heap.size, 2, none⟩ = some (.string lo.s) ∧ w'.cell? ⟨w.heap.size + 1, 0, none⟩ = some (.int .i64 hi.k) ∧ w'.cell? ⟨w.heap.size + 1, 1, none⟩ = some (.int .i64 hi.n) ∧ w'.cell? ⟨w.heap.size + 1, 2, none⟩ = some (.string hi.s)) (by kernel_rfl) D.out (fun hHeld => ?_)
   refine tk 0 ?_
   refine tk 1 ?_
   refine tk 2 ?_
   refine tk 3 ?_
   refine tk 4 ?_
   refine wpAnyH_ready (rs := [5]) (by kernel_rfl) (by simp) ?_
   refine AllReadyH.cons rfl (fun K hK => ?_) AllReadyH.nil
   go_simp
   refine (implOrder hv.k hv.n hv.s lo.k lo.n lo.s _).mono ?_
   rintro e w9 ⟨rfl, hb9⟩
   rw [HV1.out]
   go_wp2_with fail
   refine hK.out _ _ (keepR10 hHeld hb9) (fun hHeld => ?_)
   clear hK K
   (try simp only [Act.put, pz0, pz1, pz2, pz3, pz4, pz5])
   refine tk 6 ?_
   refine tk 7 ?_
   refine tu 8 ?_
   refine tu 9 ?_
   refine tu 10 ?_
   refine tu 11 ?_
   refine tu 12 ?_
   refine tu 13 ?_
   refine tu 14 ?_
   refine tk 15 ?_
   refine wpAnyH_done (by kernel_rfl) ?_ _
   refine NoPanic.normal ?_
   clear hHeld
   have HO9 := Lib.hid (HOX.out.below (show Below zx.heap.size zx w9 from (Below.refl _ zx).drew.trans hb9))
   have RL9 := Lib.hid (HRL.out.below (show Below zx.heap.size zx w9 from (Below.refl _ zx).drew.trans hb9))
   have RH9 := Lib.hid (HRH.out.below (show Below zx.heap.size zx w9 from (Below.refl _ zx).drew.trans hb9))
   have HS9 := Lib.hid (Nat.le_trans HSZZ.out hb9.size)
   go_wp2_with fail
   go_roundw
   case rel => exact ⟨k + 1, by omega, by go_num, Lib.hid (by rw [HN.out]; exact HO9.out), RL9, RH9, HS9, hbd.trans (hb9.mono hbd.size)⟩
   case measure => simp [intOf]; omega
  have z1 : decide (0 ≤ v1) = true := decide_eq_true h1
  by_cases h2 : v2 ≤ 0
  case neg =>
   have z2 : decide (v2 ≤ 0) = false := decide_eq_false h2
   have HN := Lib.hid (HNO.out (by rw [HIV.out, z2]; simp))
   clear h1 h2
   refine wp_region_noPanic ?_
   refine wp_region_held_drew (S := fun w' => w'.cell? ⟨wr.heap.size, 0, none⟩ = some (.slice (some ⟨b2, o2, none⟩) l[k].key.length c1) ∧ w'.cell? ⟨b2, o2, none⟩ = some (.int .i64 hv.k) ∧ w'.cell? ⟨b2, o2 + 1, none⟩ = some (.int .i64 hv.n) ∧ w'.cell? ⟨b2, o2 + 2, none⟩ = some (.string hv.s) ∧ w'.cell? ⟨w.heap.size, 0, none⟩ = some (.int .i64 lo.k) ∧ w'.cell? ⟨w.heap.size, 1, none⟩ = some (.int .i64 lo.n) ∧ w'.cell? ⟨w.heap.size, 2, none⟩ = some (.string lo.s) ∧ w'.cell? ⟨w.heap.size + 1, 0, none⟩ = some (.int .i64 hi.k) ∧ w'.cell? ⟨w.heap.size + 1, 1, none⟩ = some (.int .i64 hi.n) ∧ w'.cell? ⟨w.heap.size + 1, 2, none⟩ = some (.string hi.s)) (by kernel_rfl) D.out (fun hHeld => ?_)
   refine tk 0 ?_
   refine tk 1 ?_
   refine tk 2 ?_
   refine tk 3 ?_
   refine tk 4 ?_
   refine wpAnyH_ready (rs := [5]) (by kernel_rfl) (by simp) ?_
   refine AllReadyH.cons rfl (fun K hK => ?_) AllReadyH.nil
   go_simp
   refine (implOrder hv.k hv.n hv.s lo.k lo.n lo.s _).mono ?_
   rintro e w9 ⟨rfl, hb9⟩
   rw [HV1.out]
   go_wp2_with fail
   refine hK.out _ _ (keepR10 hHeld hb9) (fun hHeld => ?_)
   clear hK K
   (try simp only [Act.put, pz0, pz1, pz2, pz3, pz4, pz5])
   refine tk 6 ?_
   refine tk 7 ?_
   refine tk 8 ?_
   refine tk 9 ?_
   refine tk 10 ?_
   refine tk 11 ?_
   refine tk 12 ?_
   refine wpAnyH_ready (rs := [13]) (by kernel_rfl) (by simp) ?_
   refine AllReadyH.cons rfl (fun K hK => ?_) AllReadyH.nil
   go_simp
   refine (implOrder hv.k hv.n hv.s hi.k hi.n hi.s _).mono ?_
   rintro e w8 ⟨rfl, hb8⟩
   rw [HV2.out]
   go_wp2_with fail
   refine hK.out _ _ (keepR10 hHeld hb8) (fun hHeld => ?_)
   clear hK K
   (try simp only [Act.put, pz0, pz1, pz2, pz3, pz4, pz5])
   refine tk 14 ?_
   refine tk 15 ?_
   refine wpAnyH_done (by kernel_rfl) ?_ _
   refine NoPanic.normal ?_
   clear hHeld
   have hbB : Below zx.heap.size zx w8 := (show Below zx.heap.size zx w9 from (Below.refl _ zx).drew.trans hb9).trans (hb8.mono hb9.size)
   have HO9 := Lib.hid (HOX.out.below hbB)
   have RL9 := Lib.hid (HRL.out.below hbB)
   have RH9 := Lib.hid (HRH.out.below hbB)
   have HS9 := Lib.hid (Nat.le_trans HSZZ.out hbB.size)
   have hbq := hbx.trans (hbB.mono hbx.size)
   go_wp2_with fail
   go_roundw
   case rel => exact ⟨k + 1, by omega, by go_num, Lib.hid (by rw [HN.out]; exact HO9.out), RL9, RH9, HS9, hbq⟩
   case measure => simp [intOf]; omega
  have z2 : decide (v2 ≤ 0) = true := decide_eq_true h2
  have HN := Lib.hid (HYES.out (by rw [HIV.out, z1, z2]; rfl))
  clear h1 h2
  refine wp_region_noPanic ?_
  refine wp_region_held_drew (S := fun w' => w'.cell? ⟨wr.heap.size, 0, none⟩ = some (.slice (some ⟨b2, o2, none⟩) l[k].key.length c1) ∧ w'.cell? ⟨b2, o2, none⟩ = some (.int .i64 hv.k) ∧ w'.cell? ⟨b2, o2 + 1, none⟩ = some (.int .i64 hv.n) ∧ w'.cell? ⟨b2, o2 + 2, none⟩ = some (.string hv.s) ∧ w'.cell? ⟨w.heap.size, 0, none⟩ = some (.int .i64 lo.k) ∧ w'.cell? ⟨w.heap.size, 1, none⟩ = some (.int .i64 lo.n) ∧ w'.cell? ⟨w.heap.size, 2, none⟩ = some (.string lo.s) ∧ w'.cell? ⟨w.heap.size + 1, 0, none⟩ = some (.int .i64 hi.k) ∧ w'.cell? ⟨w.heap.size + 1, 1, none⟩ = some (.int .i64 hi.n) ∧ w'.cell? ⟨w.heap.size + 1, 2, none⟩ = some (.string hi.s)) (by kernel_rfl) D.out (fun hHeld => ?_)
  refine tk 0 ?_
  refine tk 1 ?_
  refine tk 2 ?_
  refine tk 3 ?_
  refine tk 4 ?_
  refine wpAnyH_ready (rs := [5]) (by kernel_rfl) (by simp) ?_
  refine AllReadyH.cons rfl (fun K hK => ?_) AllReadyH.nil
  go_simp
  refine (implOrder hv.k hv.n hv.s lo.k lo.n lo.s _).mono ?_
  rintro e w9 ⟨rfl, hb9⟩
  rw [HV1.out]
  go_wp2_with fail
  refine hK.out _ _ (keepR10 hHeld hb9) (fun hHeld => ?_)
  clear hK K
  (try simp only [Act.put, pz0, pz1, pz2, pz3, pz4, pz5])
  refine tk 6 ?_
  refine tk 7 ?_
  refine tk 8 ?_
  refine tk 9 ?_
  refine tk 10 ?_
  refine tk 11 ?_
  refine tk 12 ?_
  refine wpAnyH_ready (rs := [13]) (by kernel_rfl) (by simp) ?_
  refine AllReadyH.cons rfl (fun K hK => ?_) AllReadyH.nil
  go_simp
  refine (implOrder hv.k hv.n hv.s hi.k hi.n hi.s _).mono ?_
  rintro e w8 ⟨rfl, hb8⟩
  rw [HV2.out]
  go_wp2_with fail
  refine hK.out _ _ (keepR10 hHeld hb8) (fun hHeld => ?_)
  clear hK K
  (try simp only [Act.put, pz0, pz1, pz2, pz3, pz4, pz5])
  refine tk 14 ?_
  refine tk 15 ?_
  refine wpAnyH_done (by kernel_rfl) ?_ _
  refine NoPanic.normal ?_
  clear hHeld
  have hbB : Below zx.heap.size zx w8 := (show Below zx.heap.size zx w9 from (Below.refl _ zx).drew.trans hb9).trans (hb8.mono hb9.size)
  have hoz := Lib.hid (HOX.out.below hbB)
  have RL9 := Lib.hid (HRL.out.below hbB)
  have RH9 := Lib.hid (HRH.out.below hbB)
  have HS9 := Lib.hid (Nat.le_trans HSZZ.out hbB.size)
  obtain ⟨⟨y0, y1⟩, -⟩ := (HRX.out.below hbB).all2
  have hbq := hbx.trans (hbB.mono hbx.size)
  clear hbB hb9 hb8 HOX HRL HRH
  generalize hgv : rangeL lo hi (l.take k) = xs at *
  have HGV := Lib.hid hgv
  clear hgv
  go_wp2_with (at_builtin; refine wpList_append_own _ rfl _ _ 29 rfl (w.heap.size + 2) 2 i0 (.int .i64 0) 1 8 Tryz.underlying29 H1.out H2.out H3.out H4.out rfl (by decide) _ _ _ rfl (World.ownsRow.alloc hoz.out _) ⟨w8.heap.size, 0, none⟩ 1 1 [.int .i64 l[k].id] rfl rfl ?c1 ?c2 ?c3 ?c4 ?c5 ?_)
  case c1 => exact cell_one_new _ _ _
  case c2 => intro u hu; simp at hu; subst hu; rfl
  case c3 => have := HLEN.out; unfold maxLen; omega
  case c4 => have := HLEN.out; omega
  case c5 => have := HS9.out; simp; omega
  intro v' w4 hown4 hgrow _
  have R := Lib.hid (OwnI.app hoz.out HS9.out hown4 hgrow)
  clear hown4 hgrow hoz
  have RL4 := Lib.hid (RL9.out.lowE R.out.2 (by omega))
  have RH4 := Lib.hid (RH9.out.lowE R.out.2 (by omega))
  have HS4 := Lib.hid (Nat.le_trans HS9.out R.out.2.size)
  go_wp2_with fail
  go_roundw
  case rel => exact ⟨k + 1, by omega, by go_num, Lib.hid (by rw [HN.out]; exact R.out.1), RL4, RH4, HS4, hbq.trans (R.out.2.mono (by omega))⟩
  case measure => simp [intOf]; omega
def rangeK (l : List En) (lo hi : Vl) (k : Nat) : List Int := if rangeOk l lo hi then rangeL lo hi (l.take k) else []
theorem headV_ok {l : List En} {k : Nat} (h : entriesB l = true) (hk : k < l.length) : (headV l[k]).ok = true ∧ 0 < l[k].key.length := by
 have h1 := ((entriesB_in h).2.1 l[k] (List.getElem_mem hk)).1
 have h2 := rowB_all (entryB_row h1)
 unfold entryB at h1
 simp only [Bool.and_eq_true, decide_eq_true_eq] at h1
 have hp : 0 < l[k].key.length := by omega
 exact ⟨by rw [← headV_at hp]; exact h2 _ (List.getElem_mem hp), hp⟩
set_option maxRecDepth 100000 in
set_option maxHeartbeats 8000000 in
theorem specRange (A : Option Addr) (n c : Nat) (l : List En) (lo hi : Vl) (ok : Nat → Prop) (w : World) (h : Sl EnR 2 ok w A n l) (hn : n ≤ 1048576) (hk : ∀ e ∈ l, e.key.length ≤ 1048576) :
  Calls Tryz.prog 16 #[.slice A n c, .agg #[.int .i64 lo.k, .int .i64 lo.n, .string lo.s], .agg #[.int .i64 hi.k, .int .i64 hi.n, .string hi.s]] w (MadeN (rangeB l lo hi) w) := by
 obtain rfl : l.length = n := h.1
 have HK := Lib.hid hk
 obtain ⟨i0, hi', hz0, hz1, hz2⟩ := info_parts infoIntI
 have H1 := Lib.hid hi'
 have H2 := Lib.hid hz0
 have H3 := Lib.hid hz1
 have H4 := Lib.hid hz2
 clear hk hi' hz0 hz1 hz2
 have hb0 := (chain2 w (.cells #[.int .i64 lo.k, .int .i64 lo.n, .string lo.s] 34) (.cells #[.int .i64 hi.k, .int .i64 hi.n, .string hi.s] 34)).alloc (by simp; omega) (.cells #[] 2)
 have hr := two_rows w 34 #[.int .i64 lo.k, .int .i64 lo.n, .string lo.s] #[.int .i64 hi.k, .int .i64 hi.n, .string hi.s]
 have RL := Lib.hid (hr.1.alloc (.cells #[] 2))
 have RH := Lib.hid (hr.2.alloc (.cells #[] 2))
 have ho0 : Hid (OwnI (((w.alloc (.cells #[.int .i64 lo.k, .int .i64 lo.n, .string lo.s] 34)).alloc (.cells #[.int .i64 hi.k, .int .i64 hi.n, .string hi.s] 34)).alloc (.cells #[] 2)) (w.heap.size + 2) (.slice (some ⟨w.heap.size + 2, 0, none⟩) 0 0) (rangeK l lo hi 0)) := by
  have h := OwnI.lit ((w.alloc (.cells #[.int .i64 lo.k, .int .i64 lo.n, .string lo.s] 34)).alloc (.cells #[.int .i64 hi.k, .int .i64 hi.n, .string hi.s] 34)) (base := w.heap.size + 2) (by simp)
  have e : ((w.alloc (.cells #[.int .i64 lo.k, .int .i64 lo.n, .string lo.s] 34)).alloc (.cells #[.int .i64 hi.k, .int .i64 hi.n, .string hi.s] 34)).heap.size = w.heap.size + 2 := by simp
  rw [e] at h
  have e2 : rangeK l lo hi 0 = [] := by unfold rangeK rangeL; split <;> simp
  rw [e2]
  exact Lib.hid h
 have hx0 : w.heap.size + 2 ≤ (((w.alloc (.cells #[.int .i64 lo.k, .int .i64 lo.n, .string lo.s] 34)).alloc (.cells #[.int .i64 hi.k, .int .i64 hi.n, .string hi.s] 34)).alloc (.cells #[] 2)).heap.size := by simp
 have HX0 := Lib.hid hx0
 clear hr hx0
 go_enter Tryz.func16, Tryz.ntmps16
 go_wp2_with fail
 generalize ((w.alloc (.cells #[.int .i64 lo.k, .int .i64 lo.n, .string lo.s] 34)).alloc (.cells #[.int .i64 hi.k, .int .i64 hi.n, .string hi.s] 34)).alloc (.cells #[] 2) = z0 at *
 go_loopw [7, 8] (fun v i wr => ∃ k : Nat, i = .int .i64 k ∧ Hid (k ≤ l.length) ∧ Hid (OwnI wr (w.heap.size + 2) v (rangeK l lo hi k)) ∧ Hid (Row wr w.heap.size 34 #[.int .i64 lo.k, .int .i64 lo.n, .string lo.s]) ∧ Hid (Row wr (w.heap.size + 1) 34 #[.int .i64 hi.k, .int .i64 hi.n, .string hi.s]) ∧ Hid (w.heap.size + 2 ≤ wr.heap.size) ∧ Below w.heap.size w wr) (fun _ i _ => l.length - (intOf i).toNat)
 case atStart => exact ⟨0, rfl, Lib.hid (by omega), ho0, RL, RH, HX0, hb0⟩
 case round =>
  clear hb0
  obtain ⟨k, rfl, hkl, hown, hrl, hrh, hszr, hb⟩ := hrel
  go_wp2_with fail
  refine (specL11Right A l.length c l _ _ (h.below EnR.stays hb) hn HK.out).mono ?_
  rintro e w1 ⟨rfl, hb1⟩
  have hbz1 := hb.trans (hb1.mono hb.size)
  have RL1 := Lib.hid (hrl.out.below hb1)
  have RH1 := Lib.hid (hrh.out.below hb1)
  have HSZ1 := Lib.hid (Nat.le_trans hszr.out hb1.size)
  have HOW1 := Lib.hid (hown.out.below hb1)
  obtain ⟨⟨p0, p1, p2⟩, -⟩ := RL1.out.three
  clear hb hb1 hrl hrh hszr hown
  cases he : entriesB l
  ·have HR := Lib.hid (show rangeB l lo hi = [] by unfold rangeB rangeOk; rw [he]; rfl)
   have HKN := Lib.hid (show rangeK l lo hi k = [] by unfold rangeK rangeOk; rw [he]; rfl)
   obtain ⟨AO, cO, rfl, hcO, hcm, hsl⟩ := HOW1.out.sl
   have HS := Lib.hid (hsl.stays IntR.stays (ok' := okF w.heap.size w1) (fun b hb => hb.mono (by omega)) (fun p v _ hp => hp))
   clear he HOW1 hsl
   go_wp2_with fail
   go_ret
   exact ⟨AO, cO, by rw [HR.out, HKN.out]; rfl, by rw [HR.out]; rw [HKN.out] at hcO; exact hcO, by rw [HR.out]; have := HS.out; rw [HKN.out] at this; exact this, hbz1⟩
  have HE := Lib.hid he
  clear he
  go_wp2_with fail
  refine (specValOk lo.k lo.n lo.s _).mono ?_
  rintro e w2 ⟨rfl, hb2⟩
  have hbz2 := hbz1.trans (hb2.mono hbz1.size)
  have RL2 := Lib.hid (RL1.out.below hb2)
  have RH2 := Lib.hid (RH1.out.below hb2)
  have HSZ2 := Lib.hid (Nat.le_trans HSZ1.out hb2.size)
  have HOW2 := Lib.hid (HOW1.out.below hb2)
  clear p0 p1 p2 hbz1 hb2 HOW1
  obtain ⟨⟨s0, s1, s2⟩, -⟩ := RH2.out.three
  cases hl : valOkB lo.k lo.n lo.s
  ·have HR := Lib.hid (show rangeB l lo hi = [] by unfold rangeB rangeOk Vl.ok; rw [hl]; simp)
   have HKN := Lib.hid (show rangeK l lo hi k = [] by unfold rangeK rangeOk Vl.ok; rw [hl]; simp)
   obtain ⟨AO, cO, rfl, hcO, hcm, hsl⟩ := HOW2.out.sl
   have HS := Lib.hid (hsl.stays IntR.stays (ok' := okF w.heap.size w2) (fun b hb => hb.mono (by omega)) (fun p v _ hp => hp))
   clear hl HOW2 hsl
   go_wp2_with fail
   go_ret
   exact ⟨AO, cO, by rw [HR.out, HKN.out]; rfl, by rw [HR.out]; rw [HKN.out] at hcO; exact hcO, by rw [HR.out]; have := HS.out; rw [HKN.out] at this; exact this, hbz2⟩
  have HL := Lib.hid hl
  clear hl
  go_wp2_with fail
  refine (specValOk hi.k hi.n hi.s _).mono ?_
  rintro e w3 ⟨rfl, hb3⟩
  have hbz3 := hbz2.trans (hb3.mono hbz2.size)
  have RL3 := Lib.hid (RL2.out.below hb3)
  have RH3 := Lib.hid (RH2.out.below hb3)
  have HSZ3 := Lib.hid (Nat.le_trans HSZ2.out hb3.size)
  have HOW3 := Lib.hid (HOW2.out.below hb3)
  clear s0 s1 s2 hbz2 hb3 HOW2
  cases hh : valOkB hi.k hi.n hi.s
  ·have HR := Lib.hid (show rangeB l lo hi = [] by unfold rangeB rangeOk Vl.ok; rw [hh]; simp)
   have HKN := Lib.hid (show rangeK l lo hi k = [] by unfold rangeK rangeOk Vl.ok; rw [hh]; simp)
   obtain ⟨AO, cO, rfl, hcO, hcm, hsl⟩ := HOW3.out.sl
   have HS := Lib.hid (hsl.stays IntR.stays (ok' := okF w.heap.size w3) (fun b hb => hb.mono (by omega)) (fun p v _ hp => hp))
   clear hh HOW3 hsl
   go_wp2_with fail
   go_ret
   exact ⟨AO, cO, by rw [HR.out, HKN.out]; rfl, by rw [HR.out]; rw [HKN.out] at hcO; exact hcO, by rw [HR.out]; have := HS.out; rw [HKN.out] at this; exact this, hbz3⟩
  have HROK := Lib.hid (show rangeOk l lo hi = true by unfold rangeOk Vl.ok; rw [HE.out, HL.out, hh]; rfl)
  have HHI := Lib.hid hh
  clear hh
  by_cases hlt : k < l.length
  case neg =>
   have z : decide (k < l.length) = false := decide_eq_false hlt
   have HKN := Lib.hid (show rangeK l lo hi k = rangeB l lo hi by
    unfold rangeK rangeB; rw [HROK.out, List.take_of_length_le (by omega)])
   obtain ⟨AO, cO, rfl, hcO, hcm, hsl⟩ := HOW3.out.sl
   have HS := Lib.hid (hsl.stays IntR.stays (ok' := okF w.heap.size w3) (fun b hb => hb.mono (by omega)) (fun p v _ hp => hp))
   clear HOW3 hsl
   go_wp2_with fail
   go_ret
   exact ⟨AO, cO, by rw [HKN.out]; rfl, by rw [HKN.out] at hcO; exact hcO, by have := HS.out; rw [HKN.out] at this; exact this, hbz3⟩
  have z : decide (k < l.length) = true := decide_eq_true hlt
  obtain ⟨b1, o1, A1, n1, c1, -, rfl, q0, q1, s1, -⟩ := EnR.at_ (h.below EnR.stays hbz3) (i := k) hlt
  have hl1 := s1.1
  obtain ⟨hvok, hpos⟩ := headV_ok HE.out hlt
  have hposn : 0 < n1 := by omega
  obtain ⟨b2, o2, -, rfl, g0, g1, g2⟩ := VlR.at_ s1 (i := 0) hpos
  have HIR := Lib.hid (show inR lo hi l[k] = (decide (0 ≤ ordX (headV l[k]) lo) && decide (ordX (headV l[k]) hi ≤ 0)) from rfl)
  have HYES := Lib.hid (show inR lo hi l[k] = true → rangeK l lo hi (k + 1) = rangeK l lo hi k ++ [l[k].id] from fun hh => by
   unfold rangeK; rw [HROK.out]; exact rangeL_yes hlt hh)
  have HNO := Lib.hid (show inR lo hi l[k] = false → rangeK l lo hi (k + 1) = rangeK l lo hi k from fun hh => by
   unfold rangeK; rw [HROK.out]; exact rangeL_no hlt hh)
  rw [headV_at hpos, Nat.zero_mul, Nat.add_zero] at g0 g1 g2
  have HLEN := Lib.hid (show (rangeK l lo hi k).length ≤ k by
   unfold rangeK; rw [HROK.out]; have := rangeL_len lo hi (l.take k); rw [List.length_take] at this; show (rangeL lo hi (l.take k)).length ≤ k; omega)
  generalize headV l[k] = hv at *
  have a0 : (0 : Int) ≤ k := by omega
  have a1 : (k : Int) < l.length := by omega
  have a2 : (0 : Int) < n1 := by omega
  have HVO := Lib.hid hvok
  clear hl1 hpos hvok
  obtain ⟨⟨p0, p1, p2⟩, -⟩ := RL3.out.three
  obtain ⟨⟨t0, t1, t2⟩, -⟩ := RH3.out.three
  have D := Lib.hid (show _ ∧ _ ∧ _ ∧ _ ∧ _ ∧ _ ∧ _ ∧ _ ∧ _ ∧ _ from ⟨q0, g0, g1, g2, p0, p1, p2, t0, t1, t2⟩)
  obtain ⟨v1, hv1⟩ : ∃ v, ordV lo.k lo.n lo.s hv.k hv.n hv.s = v := ⟨_, rfl⟩
  obtain ⟨v2, hv2⟩ : ∃ v, ordV hv.k hv.n hv.s hi.k hi.n hi.s = v := ⟨_, rfl⟩
  have HV1 := Lib.hid hv1
  have HV2 := Lib.hid hv2
  have HIV := Lib.hid (show inR lo hi l[k] = (decide (v1 ≤ 0) && decide (v2 ≤ 0)) by
   have e1 : v1 = -ordX hv lo := by rw [← hv1]; exact ordX_turn (x := lo) (y := hv) HL.out HVO.out
   have e2 : ordX hv hi = v2 := by rw [← hv2]; exact ordX_right HVO.out HHI.out
   rw [HIR.out, e2]
   congr 1
   rw [decide_eq_decide]; omega)
  have HQ1 := Lib.hid q1
  clear hv1 hv2 g0 g1 g2 p0 p1 p2 t0 t1 t2 s1 q0 q1
  go_wp2_with fail
  have hbd := hbz3.drew
  by_cases h1 : v1 ≤ 0
  case neg =>
   have z1 : decide (v1 ≤ 0) = false := decide_eq_false h1
   have HN := Lib.hid (HNO.out (by rw [HIV.out, z1]; rfl))
   have hkk := Lib.hid (show k + 1 ≤ l.length by omega)
   have hme : l.length - (k + 1) < l.length - k := by omega
   clear h1
   refine wp_region_noPanic ?_
   refine wp_region_held_drew (S := fun w' => w'.cell? ⟨b1, o1 + k * 2, none⟩ = some (.slice (some ⟨b2, o2, none⟩) n1 c1) ∧ w'.cell? ⟨b2, o2, none⟩ = some (.int .i64 hv.k) ∧ w'.cell? ⟨b2, o2 + 1, none⟩ = some (.int .i64 hv.n) ∧ w'.cell? ⟨b2, o2 + 2, none⟩ = some (.string hv.s) ∧ w'.cell? ⟨w.heap.size, 0, none⟩ = some (.int .i64 lo.k) ∧ w'.cell? ⟨w.heap.size, 1, none⟩ = some (.int .i64 lo.n) ∧ w'.cell? ⟨w.heap.size, 2, none⟩ = some (.string lo.s) ∧ w'.cell? ⟨w.heap.size + 1, 0, none⟩ = some (.int .i64 hi.k) ∧ w'.cell? ⟨w.heap.size + 1, 1, none⟩ = some (.int .i64 hi.n) ∧ w'.cell? ⟨w.heap.size + 1, 2, none⟩ = some (.string hi.s)) (by kernel_rfl) D.out (fun hHeld => ?_)
   refine tk 0 ?_
   refine tk 1 ?_
   refine tk 2 ?_
   refine tk 3 ?_
   refine tk 4 ?_
   refine tk 5 ?_
   refine tk 6 ?_
   refine tk 7 ?_
   refine wpAnyH_ready (rs := [8]) (by kernel_rfl) (by simp) ?_
   refine AllReadyH.cons rfl (fun K hK => ?_) AllReadyH.nil
   go_simp
   refine (specL1Order lo.k lo.n lo.s hv.k hv.n hv.s _).mono ?_
   rintro e w9 ⟨rfl, hb9⟩
   rw [HV1.out]
   go_wp2_with fail
   refine hK.out _ _ (keepR10 hHeld hb9) (fun hHeld => ?_)
   clear hK K
   (try simp only [Act.put, pz0, pz1, pz2, pz3, pz4, pz5])
   refine tk 9 ?_
   refine tk 10 ?_
   refine tu 11 ?_
   refine tu 12 ?_
   refine tu 13 ?_
   refine tu 14 ?_
   refine tu 15 ?_
   refine tu 16 ?_
   refine tu 17 ?_
   refine tu 18 ?_
   refine tu 19 ?_
   refine tu 20 ?_
   refine tk 21 ?_
   refine wpAnyH_done (by kernel_rfl) ?_ _
   refine NoPanic.normal ?_
   clear hHeld
   have hbB : Below w3.heap.size w3 w9 := (Below.refl _ w3).drew.trans hb9
   have HO9 := Lib.hid (HOW3.out.below hbB)
   have RL9 := Lib.hid (RL3.out.below hbB)
   have RH9 := Lib.hid (RH3.out.below hbB)
   have HS9 := Lib.hid (Nat.le_trans HSZ3.out hbB.size)
   have hbq := hbz3.trans (hbB.mono hbz3.size)
   go_wp2_with fail
   go_roundw
   case rel => exact ⟨k + 1, by go_num, hkk, Lib.hid (by rw [HN.out]; exact HO9.out), RL9, RH9, HS9, hbq⟩
   case measure => simp [intOf]; omega
  have z1 : decide (v1 ≤ 0) = true := decide_eq_true h1
  by_cases h2 : v2 ≤ 0
  case neg =>
   have z2 : decide (v2 ≤ 0) = false := decide_eq_false h2
   have HN := Lib.hid (HNO.out (by rw [HIV.out, z2]; simp))
   have hkk := Lib.hid (show k + 1 ≤ l.length by omega)
   have hme : l.length - (k + 1) < l.length - k := by omega
   clear h1 h2
   refine wp_region_noPanic ?_
   refine wp_region_held_drew (S := fun w' => w'.cell? ⟨b1, o1 + k * 2, none⟩ = some (.slice (some ⟨b2, o2, none⟩) n1 c1) ∧ w'.cell? ⟨b2, o2, none⟩ = some (.int .i64 hv.k) ∧ w'.cell? ⟨b2, o2 + 1, none⟩ = some (.int .i64 hv.n) ∧ w'.cell? ⟨b2, o2 + 2, none⟩ = some (.string hv.s) ∧ w'.cell? ⟨w.heap.size, 0, none⟩ = some (.int .i64 lo.k) ∧ w'.cell? ⟨w.heap.size, 1, none⟩ = some (.int .i64 lo.n) ∧ w'.cell? ⟨w.heap.size, 2, none⟩ = some (.string lo.s) ∧ w'.cell? ⟨w.heap.size + 1, 0, none⟩ = some (.int .i64 hi.k) ∧ w'.cell? ⟨w.heap.size + 1, 1, none⟩ = some (.int .i64 hi.n) ∧ w'.cell? ⟨w.heap.size + 1, 2, none⟩ = some (.string hi.s)) (by kernel_rfl) D.out (fun hHeld => ?_)
   refine tk 0 ?_
   refine tk 1 ?_
   refine tk 2 ?_
   refine tk 3 ?_
   refine tk 4 ?_
   refine tk 5 ?_
   refine tk 6 ?_
   refine tk 7 ?_
   refine wpAnyH_ready (rs := [8]) (by kernel_rfl) (by simp) ?_
   refine AllReadyH.cons rfl (fun K hK => ?_) AllReadyH.nil
   go_simp
   refine (specL1Order lo.k lo.n lo.s hv.k hv.n hv.s _).mono ?_
   rintro e w9 ⟨rfl, hb9⟩
   rw [HV1.out]
   go_wp2_with fail
   refine hK.out _ _ (keepR10 hHeld hb9) (fun hHeld => ?_)
   clear hK K
   (try simp only [Act.put, pz0, pz1, pz2, pz3, pz4, pz5])
   refine tk 9 ?_
   refine tk 10 ?_
   refine tk 11 ?_
   refine tk 12 ?_
   refine tk 13 ?_
   refine tk 14 ?_
   refine tk 15 ?_
   refine tk 16 ?_
   refine tk 17 ?_
   refine tk 18 ?_
   refine wpAnyH_ready (rs := [19]) (by kernel_rfl) (by simp) ?_
   refine AllReadyH.cons rfl (fun K hK => ?_) AllReadyH.nil
   go_simp
   refine (specL1Order hv.k hv.n hv.s hi.k hi.n hi.s _).mono ?_
   rintro e w8 ⟨rfl, hb8⟩
   rw [HV2.out]
   go_wp2_with fail
   refine hK.out _ _ (keepR10 hHeld hb8) (fun hHeld => ?_)
   clear hK K
   (try simp only [Act.put, pz0, pz1, pz2, pz3, pz4, pz5])
   refine tk 20 ?_
   refine tk 21 ?_
   refine wpAnyH_done (by kernel_rfl) ?_ _
   refine NoPanic.normal ?_
   clear hHeld
   have hbB : Below w3.heap.size w3 w8 := ((Below.refl _ w3).drew.trans hb9).trans (hb8.mono hb9.size)
   have HO9 := Lib.hid (HOW3.out.below hbB)
   have RL9 := Lib.hid (RL3.out.below hbB)
   have RH9 := Lib.hid (RH3.out.below hbB)
   have HS9 := Lib.hid (Nat.le_trans HSZ3.out hbB.size)
   have hbq := hbz3.trans (hbB.mono hbz3.size)
   go_wp2_with fail
   go_roundw
   case rel => exact ⟨k + 1, by go_num, hkk, Lib.hid (by rw [HN.out]; exact HO9.out), RL9, RH9, HS9, hbq⟩
   case measure => simp [intOf]; omega
  have z2 : decide (v2 ≤ 0) = true := decide_eq_true h2
  have HN := Lib.hid (HYES.out (by rw [HIV.out, z1, z2]; rfl))
  have hkk := Lib.hid (show k + 1 ≤ l.length by omega)
  have hme : l.length - (k + 1) < l.length - k := by omega
  clear h1 h2
  refine wp_region_noPanic ?_
  refine wp_region_held_drew (S := fun w' => w'.cell? ⟨b1, o1 + k * 2, none⟩ = some (.slice (some ⟨b2, o2, none⟩) n1 c1) ∧ w'.cell? ⟨b2, o2, none⟩ = some (.int .i64 hv.k) ∧ w'.cell? ⟨b2, o2 + 1, none⟩ = some (.int .i64 hv.n) ∧ w'.cell? ⟨b2, o2 + 2, none⟩ = some (.string hv.s) ∧ w'.cell? ⟨w.heap.size, 0, none⟩ = some (.int .i64 lo.k) ∧ w'.cell? ⟨w.heap.size, 1, none⟩ = some (.int .i64 lo.n) ∧ w'.cell? ⟨w.heap.size, 2, none⟩ = some (.string lo.s) ∧ w'.cell? ⟨w.heap.size + 1, 0, none⟩ = some (.int .i64 hi.k) ∧ w'.cell? ⟨w.heap.size + 1, 1, none⟩ = some (.int .i64 hi.n) ∧ w'.cell? ⟨w.heap.size + 1, 2, none⟩ = some (.string hi.s)) (by kernel_rfl) D.out (fun hHeld => ?_)
  refine tk 0 ?_
  refine tk 1 ?_
  refine tk 2 ?_
  refine tk 3 ?_
  refine tk 4 ?_
  refine tk 5 ?_
  refine tk 6 ?_
  refine tk 7 ?_
  refine wpAnyH_ready (rs := [8]) (by kernel_rfl) (by simp) ?_
  refine AllReadyH.cons rfl (fun K hK => ?_) AllReadyH.nil
  go_simp
  refine (specL1Order lo.k lo.n lo.s hv.k hv.n hv.s _).mono ?_
  rintro e w9 ⟨rfl, hb9⟩
  rw [HV1.out]
  go_wp2_with fail
  refine hK.out _ _ (keepR10 hHeld hb9) (fun hHeld => ?_)
  clear hK K
  (try simp only [Act.put, pz0, pz1, pz2, pz3, pz4, pz5])
  refine tk 9 ?_
  refine tk 10 ?_
  refine tk 11 ?_
  refine tk 12 ?_
  refine tk 13 ?_
  refine tk 14 ?_
  refine tk 15 ?_
  refine tk 16 ?_
  refine tk 17 ?_
  refine tk 18 ?_
  refine wpAnyH_ready (rs := [19]) (by kernel_rfl) (by simp) ?_
  refine AllReadyH.cons rfl (fun K hK => ?_) AllReadyH.nil
  go_simp
  refine (specL1Order hv.k hv.n hv.s hi.k hi.n hi.s _).mono ?_
  rintro e w8 ⟨rfl, hb8⟩
  rw [HV2.out]
  go_wp2_with fail
  refine hK.out _ _ (keepR10 hHeld hb8) (fun hHeld => ?_)
  clear hK K
  (try simp only [Act.put, pz0, pz1, pz2, pz3, pz4, pz5])
  refine tk 20 ?_
  refine tk 21 ?_
  refine wpAnyH_done (by kernel_rfl) ?_ _
  refine NoPanic.normal ?_
  clear hHeld
  have hbB : Below w3.heap.size w3 w8 := ((Below.refl _ w3).drew.trans hb9).trans (hb8.mono hb9.size)
  have hoz := Lib.hid (HOW3.out.below hbB)
  have RL9 := Lib.hid (RL3.out.below hbB)
  have RH9 := Lib.hid (RH3.out.below hbB)
  have HS9 := Lib.hid (Nat.le_trans HSZ3.out hbB.size)
  have y1 := below_keep hbB _ _ HQ1.out
  have hbq := hbz3.trans (hbB.mono hbz3.size)
  have HKL := Lib.hid (show (rangeK l lo hi k).length ≤ 1048576 by have := HLEN.out; omega)
  clear hbB hb9 hb8 HOW3
  generalize hgv : rangeK l lo hi k = xs at *
  have HGV := Lib.hid hgv
  clear hgv
  go_wp2_with (at_builtin; refine wpList_append_own _ rfl _ _ 29 rfl (w.heap.size + 2) 2 i0 (.int .i64 0) 1 8 Tryz.underlying29 H1.out H2.out H3.out H4.out rfl (by decide) _ _ _ rfl (World.ownsRow.alloc hoz.out _) ⟨w8.heap.size, 0, none⟩ 1 1 [.int .i64 l[k].id] rfl rfl ?c1 ?c2 ?c3 ?c4 ?c5 ?_)
  case c1 => exact cell_one_new _ _ _
  case c2 => intro u hu; simp at hu; subst hu; rfl
  case c3 => have := HKL.out; unfold maxLen; omega
  case c4 => have := HKL.out; omega
  case c5 => have := HS9.out; simp; omega
  intro v' w4 hown4 hgrow _
  have R := Lib.hid (OwnI.app hoz.out HS9.out hown4 hgrow)
  clear hown4 hgrow hoz
  have RL4 := Lib.hid (RL9.out.lowE R.out.2 (by omega))
  have RH4 := Lib.hid (RH9.out.lowE R.out.2 (by omega))
  have HS4 := Lib.hid (Nat.le_trans HS9.out R.out.2.size)
  go_wp2_with fail
  go_roundw
  case rel => exact ⟨k + 1, by go_num, hkk, Lib.hid (by rw [HN.out]; exact R.out.1), RL4, RH4, HS4, hbq.trans (R.out.2.mono (by omega))⟩
  case measure => simp [intOf]; omega
end Go.Proofs.YtciaidjmehelpaaGreat
namespace Go.Proofs.YtciaidjmehelpaaGreat
open Go.RowKit
def cntR (l : List En) (lo hi : Vl) (i : Nat) : Nat := if rangeOk l lo hi then (rangeL lo hi (l.take i)).length else 0
theorem cntR_le (l : List En) (lo hi : Vl) (i : Nat) : cntR l lo hi i ≤ l.length := by
 unfold cntR; split
 ·unfold rangeL
  rw [List.length_map]
  exact Nat.le_trans (List.length_filter_le _ _) (by rw [List.length_take]; omega)
 ·omega
theorem cntR_zero (l : List En) (lo hi : Vl) : cntR l lo hi 0 = 0 := by unfold cntR; split <;> rfl
theorem cntR_end (l : List En) (lo hi : Vl) : cntR l lo hi l.length = (rangeB l lo hi).length := by
 unfold cntR rangeB; split
 ·rw [List.take_length]
 ·rfl
theorem cntR_no {l : List En} {lo hi : Vl} {i : Nat} (h : i < l.length) (hr : inR lo hi l[i] = false ∨ rangeOk l lo hi = false) : cntR l lo hi (i + 1) = cntR l lo hi i := by
 unfold cntR
 split
 ·next hok =>
  rcases hr with hr | hr
  ·rw [rangeL_no h hr]
  ·rw [hr] at hok; cases hok
 ·rfl
theorem rangeL_app (lo hi : Vl) (a b : List En) : rangeL lo hi (a ++ b) = rangeL lo hi a ++ rangeL lo hi b := by
 unfold rangeL; rw [List.filter_append, List.map_append]
theorem cntR_yes {l : List En} {lo hi : Vl} {i : Nat} (h : i < l.length) (hr : inR lo hi l[i] = true) (hok : rangeOk l lo hi = true) : cntR l lo hi (i + 1) = cntR l lo hi i + 1 ∧ ∃ hk : cntR l lo hi i < (rangeB l lo hi).length, (rangeB l lo hi)[cntR l lo hi i] = l[i].id := by
 have e1 : rangeL lo hi (l.take (i + 1)) = rangeL lo hi (l.take i) ++ [l[i].id] := rangeL_yes h hr
 have e2 : rangeB l lo hi = (rangeL lo hi (l.take i) ++ [l[i].id]) ++ rangeL lo hi (l.drop (i + 1)) := by
  rw [← e1, ← rangeL_app, List.take_append_drop]
  unfold rangeB; rw [if_pos hok]
 have e3 : cntR l lo hi i = (rangeL lo hi (l.take i)).length := by unfold cntR; rw [if_pos hok]
 have e4 : cntR l lo hi (i + 1) = (rangeL lo hi (l.take (i + 1))).length := by unfold cntR; rw [if_pos hok]
 refine ⟨by rw [e4, e1, e3, List.length_append]; rfl, by rw [e2, e3]; simp, ?_⟩
 rw [← Option.some.injEq, ← List.getElem?_eq_getElem, e2, e3, List.append_assoc, List.getElem?_append_right (Nat.le_refl _), Nat.sub_self]
 rfl
theorem rangeB_bad {l : List En} {lo hi : Vl} (h : rangeOk l lo hi = false) (i : Nat) : rangeB l lo hi = [] ∧ cntR l lo hi i = 0 := by
 unfold rangeB cntR; rw [h]; exact ⟨rfl, rfl⟩
theorem inR_ord {lo hi : Vl} {e : En} : inR lo hi e = (decide (ordX lo (headV e) ≤ 0) && decide (ordX (headV e) hi ≤ 0)) := by
 unfold inR
 have := ordX_neg (headV e) lo
 congr 1
 rw [decide_eq_decide]
 omega
set_option maxRecDepth 100000 in
set_option maxHeartbeats 1000000 in
theorem lawsSameVals (A A' : Option Addr) (n c n' c' : Nat) (a b : List Vl) (ok ok' : Nat → Prop) (w : World) (h : Sl VlR 3 ok w A n a) (h' : Sl VlR 3 ok' w A' n' b) (hn : n ≤ 1048576) (hn' : n' ≤ 1048576) :
  Calls Tryz.prog 34 #[.slice A n c, .slice A' n' c'] w fun e w' => e = .returned (.bool (eqlL a b)) ∧ Below w.heap.size w w' := by
 obtain rfl : a.length = n := h.1
 obtain rfl : b.length = n' := h'.1
 by_cases hl : (a.length : Int) = b.length
 case neg =>
  have hl' : ((a.length : Int) == b.length) = false := by simpa using hl
  have HF := Lib.hid (show eqlL a b = false by unfold eqlL; rw [decide_eq_false (by omega)]; rfl)
  clear hl
  go_enter Tryz.func34, Tryz.ntmps34
  go_wp2_with fail
  go_ret
  exact ⟨retB HF.out.symm, Below.refl _ _⟩
 have hl' : ((a.length : Int) == b.length) = true := by simpa using hl
 have HL := Lib.hid (show a.length = b.length by omega)
 clear hl
 go_enter Tryz.func34, Tryz.ntmps34
 go_wp2_with fail
 clear hl'
 go_loopw [5] (fun i wr => ∃ k : Nat, k ≤ a.length ∧ i = .int .i64 k ∧ Hid (((a.zip b).take k).all eqlP = true) ∧ Below w.heap.size w wr) (fun i _ => a.length - (intOf i).toNat)
 case atStart => exact ⟨0, by omega, rfl, Lib.hid (by simp), Below.refl _ _⟩
 case round =>
  obtain ⟨k, hk, rfl, hall, hb⟩ := hrel
  by_cases hlt : k < a.length
  ·have hlt' : k < b.length := by have := HL.out; omega
   obtain ⟨b1, o1, -, rfl, q0, q1, q2⟩ := VlR.at_ (h.below VlR.stays hb) hlt
   obtain ⟨b2, o2, -, rfl, y0, y1, y2⟩ := VlR.at_ (h'.below VlR.stays hb) hlt'
   have i0 : (0 : Int) ≤ k := by omega
   have i1 : (k : Int) < a.length := by omega
   have i2 : (k : Int) < b.length := by omega
   have hst := zip_take a b k hlt hlt' eqlP
   rw [hall.out, Bool.true_and] at hst
   have hno := fun hf => zip_no (f := eqlP) hlt hlt' hf
   generalize a[k] = x at *
   generalize b[k] = y at *
   cases hs : eqlP (x, y)
   ·have HF := Lib.hid (show eqlL a b = false by unfold eqlL; rw [hno hs]; simp)
    have HS := Lib.hid hs
    clear hno hst hall hs
    cases e1 : (x.k == y.k)
    ·clear HS
     go_wp2_with fail
     go_quiet (fail)
     go_wp2_with fail
     go_ret
     exact ⟨retB HF.out.symm, below_dN hb _⟩
    ·cases e2 : (x.n == y.n)
     ·clear HS
      go_wp2_with fail
      go_quiet (fail)
      go_wp2_with fail
      go_ret
      exact ⟨retB HF.out.symm, below_dN hb _⟩
     ·have e3 : (x.s.toList == y.s.toList) = false := by have := HS.out; simp only [eqlP, eqlV, e1, e2, Bool.true_and] at this; exact this
      clear HS
      go_wp2_with fail
      go_quiet (fail)
      go_wp2_with fail
      go_ret
      exact ⟨retB HF.out.symm, below_dN hb _⟩
   ·rw [hs] at hst
    have HA := Lib.hid hst
    simp only [eqlP, eqlV, Bool.and_eq_true] at hs
    obtain ⟨e1, e2, e3⟩ := hs
    clear hno hst hall
    go_wp2_with fail
    go_quiet (fail)
    go_wp2_with fail
    go_roundw
    case rel => exact ⟨k + 1, by omega, by go_num, HA, below_dN hb _⟩
    case measure => simp [intOf]; omega
  ·have e : (a.zip b).take k = a.zip b := List.take_of_length_le (by rw [List.length_zip]; have := HL.out; omega)
   have h1 := hall.out
   rw [e] at h1
   have HA := Lib.hid (show eqlL a b = true by unfold eqlL; rw [decide_eq_true HL.out, h1]; rfl)
   clear e h1 hall
   go_wp2_with fail
   go_ret
   exact ⟨retB HA.out.symm, hb⟩
theorem eqlL_self (l : List Vl) : eqlL l l = true := by
 unfold eqlL
 rw [decide_eq_true rfl, Bool.true_and]
 induction l with
 | nil => rfl
 | cons x l ih =>
  rw [List.zip_cons_cons, List.all_cons, ih, Bool.and_true]
  simp [eqlP, eqlV]
theorem keepT4 {w w' : World} {p q r t : Addr} {a b c d : Value} (h : w.cell? p = some a ∧ w.cell? q = some b ∧ w.cell? r = some c ∧ w.cell? t = some d) (hb : Below w.heap.size w w') : w'.cell? p = some a ∧ w'.cell? q = some b ∧ w'.cell? r = some c ∧ w'.cell? t = some d :=
 ⟨below_keep hb _ _ h.1, below_keep hb _ _ h.2.1, below_keep hb _ _ h.2.2.1, below_keep hb _ _ h.2.2.2⟩
set_option maxRecDepth 100000 in
set_option maxHeartbeats 2000000 in
theorem lawsSameEntries (A A' : Option Addr) (n c c' : Nat) (l : List En) (ok ok' : Nat → Prop) (w : World) (h : Sl EnR 2 ok w A n l) (h' : Sl EnR 2 ok' w A' n l) (hs : l.length ≤ 1048576) (hk : ∀ e ∈ l, e.key.length ≤ 1048576) :
  Calls Tryz.prog 24 #[.slice A n c, .slice A' n c'] w fun e w' => e = .returned (.bool true) ∧ Below w.heap.size w w' := by
 obtain rfl : l.length = n := h.1
 have HK := Lib.hid hk
 clear hk
 have hll : ((l.length : Int) == l.length) = true := by simp
 go_enter Tryz.func24, Tryz.ntmps24
 go_wp2_with fail
 clear hll
 go_loopw [5] (fun i wr => ∃ k : Nat, k ≤ l.length ∧ i = .int .i64 k ∧ Below w.heap.size w wr) (fun i _ => l.length - (intOf i).toNat)
 case atStart => exact ⟨0, by omega, rfl, Below.refl _ _⟩
 case round =>
  obtain ⟨k, hk, rfl, hb⟩ := hrel
  by_cases hlt : k < l.length
  ·obtain ⟨b1, o1, A1, n1, c1, -, rfl, p0, p1, k1, -⟩ := EnR.at_ (h.below EnR.stays hb) hlt
   obtain ⟨b2, o2, A2, n2, c2, -, rfl, r0, r1, k2, -⟩ := EnR.at_ (h'.below EnR.stays hb) hlt
   have i0 : (0 : Int) ≤ k := by omega
   have i1 : (k : Int) < l.length := by omega
   have hkl := HK.out _ (List.getElem_mem hlt)
   obtain rfl : l[k].key.length = n1 := k1.1
   obtain rfl : l[k].key.length = n2 := k2.1
   have K1 := Lib.hid (Sl.drew VlR.stays k1)
   have K2 := Lib.hid (Sl.drew VlR.stays k2)
   have hz : (l[k].id == l[k].id) = true := by simp
   have KS := Lib.hid (And.intro p0 (And.intro p1 (And.intro r0 r1)))
   clear p0 p1 r0 r1 k1 k2
   have hbd := hb.drew
   go_wp2_with fail
   refine wp_region_noPanic ?_
   refine wp_region_held_drew (S := (fun w' => w'.cell? ⟨b1, o1 + k * 2, none⟩ = some (.slice A1 l[k].key.length c1) ∧ w'.cell? ⟨b1, o1 + k * 2 + 1, none⟩ = some (.int .i64 l[k].id) ∧ w'.cell? ⟨b2, o2 + k * 2, none⟩ = some (.slice A2 l[k].key.length c2) ∧ w'.cell? ⟨b2, o2 + k * 2 + 1, none⟩ = some (.int .i64 l[k].id))) (by kernel_rfl) KS.out (fun hHeld => ?_)
   refine tk 0 ?_
   refine tk 1 ?_
   refine tk 2 ?_
   refine tk 3 ?_
   refine tk 4 ?_
   refine tk 5 ?_
   refine tk 6 ?_
   refine tk 7 ?_
   refine tk 8 ?_
   refine tk 9 ?_
   refine tk 10 ?_
   refine tk 11 ?_
   refine tk 12 ?_
   refine tk 13 ?_
   refine tk 14 ?_
   refine tk 15 ?_
   refine tk 16 ?_
   refine tk 17 ?_
   refine tk 18 ?_
   refine tk 19 ?_
   refine tk 20 ?_
   refine tk 21 ?_
   refine wpAnyH_ready (rs := [22]) (by kernel_rfl) (by simp) ?_
   refine AllReadyH.cons rfl (fun K hK => ?_) AllReadyH.nil
   go_simp
   go_at_call 34
   refine (lawsSameVals A1 A2 _ c1 _ c2 _ _ _ _ _ K1.out K2.out hkl hkl).mono ?_
   rintro e w7 ⟨rfl, hq7⟩
   rw [eqlL_self]
   have KS7 := Lib.hid (keepT4 (w := wr.drew) (w' := w7) KS.out hq7)
   have hb7 := hbd.trans (hq7.mono hbd.size)
   clear hq7
   refine hK.out _ _ KS7.out (fun hHeld => ?_)
   clear hK K
   (try simp only [Act.put, pz0, pz1, pz2, pz3, pz4, pz5])
   refine tk 23 ?_
   refine tk 24 ?_
   refine wpAnyH_done (by kernel_rfl) ?_ _
   refine NoPanic.normal ?_
   clear hHeld
   go_wp2_with fail
   go_roundw
   case rel => exact ⟨k + 1, by omega, by go_num, hb7⟩
   case measure => simp [intOf]; omega
  ·have i1 : ¬ (k : Int) < l.length := by omega
   go_wp2_with fail
   go_ret
   exact ⟨rfl, hb⟩
theorem eqlV_eq {x y : Vl} (h : eqlV x y = true) : x = y := by
 simp only [eqlV, Bool.and_eq_true, beq_iff_eq] at h
 obtain ⟨h1, h2, h3⟩ := h
 rw [ByteArray.toList_eq, ByteArray.toList_eq] at h3
 have h4 : x.s = y.s := ByteArray.ext (Array.toList_inj.1 h3)
 cases x; cases y
 simp only at h1 h2 h4
 subst h1; subst h2; subst h4; rfl
theorem eqlL_eq : ∀ {a b : List Vl}, eqlL a b = true → a = b
 | [], [], _ => rfl
 | [], _ :: _, h => by simp [eqlL] at h
 | _ :: _, [], h => by simp [eqlL] at h
 | x :: a, y :: b, h => by
  unfold eqlL at h
  simp only [List.length_cons, List.zip_cons_cons, List.all_cons, eqlP, Bool.and_eq_true, decide_eq_true_eq] at h
  rw [eqlV_eq h.2.1, eqlL_eq (a := a) (b := b) (by unfold eqlL; rw [decide_eq_true (by omega), Bool.true_and]; exact h.2.2)]
theorem sameE_eq {a b : En} (h : sameE a b = true) : a = b := by
 unfold sameE at h
 rw [Bool.and_eq_true, decide_eq_true_eq] at h
 have := eqlL_eq h.2
 cases a; cases b
 simp only at h this
 rw [h.1, this]
theorem sameE_refl (a : En) : sameE a a = true := by unfold sameE; rw [decide_eq_true rfl, eqlL_self]; rfl
theorem ordE_self (a : En) : ordE a a = 0 := by have := ordE_neg a a; omega
theorem right_pair {l : List En} (h : entriesB l = true) : l.Pairwise (fun a b => ordE a b < 0) := by
 obtain ⟨h1, h2, h3⟩ := entriesB_in h
 exact List.pairwise_iff_getElem.2 fun i j hi hj hij => rises_lt' h3 (fun x hx => entryB_ok (h2 x hx).1) hij hj
theorem right_sub {l m : List En} (hs : m.Sublist l) (h : entriesB l = true) : entriesB m = true := by
 obtain ⟨h1, h2, h3⟩ := entriesB_in h
 have hp := List.Pairwise.sublist hs (right_pair h)
 have hl := hs.length_le
 unfold entriesB
 rw [Bool.and_eq_true, Bool.and_eq_true, decide_eq_true_eq, List.all_eq_true]
 refine ⟨by omega, fun x hx => ?_, ?_⟩
 ·have hx' := h2 x (hs.subset hx)
  have hw : wideOf m = x.key.length := by
   have h0 : 0 < m.length := List.length_pos_of_mem hx
   rw [wideOf_at h0, (h2 _ (hs.subset (List.getElem_mem h0))).2, hx'.2]
  unfold entW
  rw [hx'.1, hw]; simp
 ·unfold risesB
  rw [List.all_eq_true]
  intro i hi
  by_cases e : i + 1 < m.length
  ·rw [upB_at e]
   have := List.pairwise_iff_getElem.1 hp i (i + 1) (by omega) e (by omega)
   simpa using this
  ·exact upB_last (by omega)
theorem bs_uniq {l : List En} {e : En} {p : Nat} (h : entriesB l = true) (he : entryB e = true) (hp : p ≤ l.length) (h1 : ∀ k (hk : k < l.length), k < p → ordE l[k] e < 0) (h2 : ∀ k (hk : k < l.length), p ≤ k → ¬ ordE l[k] e < 0) : bs l e = p := by
 obtain ⟨-, g2, g3⟩ := entriesB_in h
 obtain ⟨b1, b2, b3⟩ := bs_ok g3 (fun x hx => entryB_ok (g2 x hx).1) (entryB_ok he)
 rcases Nat.lt_trichotomy (bs l e) p with hlt | heq | hgt
 ·exact absurd (h1 _ (by omega) hlt) (b3 _ (by omega) (Nat.le_refl _))
 ·exact heq
 ·exact absurd (b2 p (by omega) hgt) (h2 p (by omega) (Nat.le_refl _))
theorem drop_put {l : List En} {e : En} (h : droppedB l e = true) : puttedB (dropped l e) e = true ∧ putted (dropped l e) e = l := by
 unfold droppedB at h
 rw [Bool.and_eq_true] at h
 obtain ⟨hr, hn⟩ := h
 have hn : (dropE l e).length ≠ l.length := by simpa using hn
 have hD : dropped l e = dropE l e := by unfold dropped; rw [if_pos ⟨hr, hn⟩]
 have he : entryB e = true := by
  cases hc : entryB e
  ·exact absurd (congrArg List.length (dropE_none hr hc)) hn
  ·rfl
 obtain ⟨h1, h2, h3⟩ := entriesB_in hr
 have ho : ∀ x ∈ l, rgE x := fun x hx => entryB_ok (h2 x hx).1
 obtain ⟨d1, d2⟩ := bs_drop h3 ho (entryB_ok he)
 have hh : bsHit l e = true := by
  cases hc : bsHit l e
  ·exact absurd (congrArg List.length (d2 hc)) hn
  ·rfl
 obtain ⟨hp, hE⟩ := d1 hh
 obtain ⟨b1, b2, b3⟩ := bs_ok h3 ho (entryB_ok he)
 have hq : l[bs l e] = e := by
  unfold bsHit at hh
  rw [List.getElem?_eq_getElem hp] at hh
  have hz : ordE l[bs l e] e = 0 := by simpa using hh
  exact sameE_eq ((ordE_zero (ho _ (List.getElem_mem hp)) (entryB_ok he)).1 hz)
 have hd : entriesB (dropE l e) = true := right_sub List.filter_sublist hr
 have hlen : (l.eraseIdx (bs l e)).length = l.length - 1 := List.length_eraseIdx_of_lt hp
 have hw : ∀ x ∈ dropE l e, x.key.length = e.key.length := fun x hx => by
  have hx' := (List.filter_sublist (l := l)).subset hx
  rw [(h2 x hx').2, ← hq, (h2 _ (List.getElem_mem hp)).2]
 have hb : bs (dropE l e) e = bs l e := by
  refine bs_uniq hd he (by rw [hE]; omega) (fun k hk hlt => ?_) (fun k hk hge => ?_)
  ·have : (dropE l e)[k] = l[k]'(by omega) := by simp only [hE]; rw [List.getElem_eraseIdx_of_lt (h' := hlt)]
   rw [this]; exact b2 k (by omega) hlt
  ·have hk' : k + 1 < l.length := by rw [hE, hlen] at hk; omega
   have : (dropE l e)[k] = l[k + 1] := by simp only [hE]; rw [List.getElem_eraseIdx_of_ge (h' := hge)]
   rw [this]; exact b3 (k + 1) hk' (by omega)
 have hput : putL (dropE l e) e = l := by
  unfold putL
  rw [put_at hd he hw, hb, hE]
  unfold insAt
  rw [List.eraseIdx_eq_take_drop_succ, List.take_append_of_le_length (by rw [List.length_take]; omega), List.take_take, Nat.min_self, List.drop_append_of_le_length (by rw [List.length_take]; omega)]
  rw [show (l.take (bs l e)).drop (bs l e) = [] from List.drop_eq_nil_of_le (by rw [List.length_take]; omega), List.nil_append]
  conv => rhs; rw [← List.take_append_drop (bs l e) l, List.drop_eq_getElem_cons hp, hq]
 have hP : puttedB (dropE l e) e = true := by unfold puttedB; rw [hd, hput, hr]; rfl
 rw [hD]
 exact ⟨hP, by unfold putted; rw [if_pos hP]; exact hput⟩
theorem put_drop {l : List En} {e : En} (h : puttedB l e = true) : droppedB (putted l e) e = true ∧ dropped (putted l e) e = l := by
 have hD : putted l e = putL l e := by unfold putted; rw [if_pos h]
 unfold puttedB at h
 rw [Bool.and_eq_true] at h
 obtain ⟨hr, hm⟩ := h
 have hle := atP_le l e
 have hp := right_pair hm
 unfold putL insAt at hp
 rw [List.pairwise_append, List.pairwise_cons] at hp
 obtain ⟨-, ⟨p2, -⟩, p3⟩ := hp
 have n1 : ∀ x ∈ l.take (atP l e), sameE x e = false := fun x hx => by
  cases hs : sameE x e
  ·rfl
  ·have h5 := p3 x hx e (List.mem_cons_self ..)
   rw [sameE_eq hs, ordE_self] at h5; omega
 have n2 : ∀ x ∈ l.drop (atP l e), sameE x e = false := fun x hx => by
  cases hs : sameE x e
  ·rfl
  ·have h5 := p2 x hx
   rw [sameE_eq hs, ordE_self] at h5; omega
 have hf : ∀ (m : List En), (∀ x ∈ m, sameE x e = false) → m.filter (fun x => !sameE x e) = m := fun m hm => List.filter_eq_self.2 fun x hx => by rw [hm x hx]; rfl
 have hE : dropE (putL l e) e = l := by
  unfold dropE putL insAt
  rw [List.filter_append, hf _ n1, List.filter_cons_of_neg (by rw [sameE_refl]; simp), hf _ n2, List.take_append_drop]
 have hlen : (putL l e).length = l.length + 1 := insAt_len hle
 have hB : droppedB (putL l e) e = true := by unfold droppedB; rw [hm, hE, hlen]; simp
 rw [hD]
 exact ⟨hB, by unfold dropped; rw [if_pos ⟨hm, by rw [hE, hlen]; omega⟩]; exact hE⟩
theorem dropped_sub (l : List En) (e : En) : (dropped l e).Sublist l := by
 unfold dropped dropE
 split
 ·exact List.filter_sublist
 ·exact List.nil_sublist _
theorem putted_few (l : List En) (e : En) : (putted l e).length ≤ 1048576 ∧ ∀ x ∈ putted l e, x.key.length ≤ 1048576 := by
 have h := putted_sz l e
 refine ⟨by unfold szL at h; omega, fun x hx => ?_⟩
 have h1 := Nat.le_trans (szL_mem En.sz _ x hx) h
 have h4 : x.sz = szL (fun v : Vl => v.s.size) x.key := rfl
 have h2 : x.key.length ≤ szL (fun v : Vl => v.s.size) x.key := by unfold szL; omega
 omega
theorem put_keys {l : List En} {e : En} (h : ∀ x ∈ l, x.key.length ≤ 1048576) (he : e.key.length ≤ 1048576) : ∀ x ∈ putL l e, x.key.length ≤ 1048576 := fun x hx => by
 unfold putL at hx
 rcases insAt_mem.1 hx with rfl | hx
 ·exact he
 ·exact h x hx
theorem putL_len (l : List En) (e : En) : (putL l e).length = l.length + 1 := by
 unfold putL; exact insAt_len (atP_le l e)
theorem keepP2 {w w' : World} {p q : Addr} {a b : Value} (h : w.cell? p = some a ∧ w.cell? q = some b) (hb : Below w.heap.size w w') : w'.cell? p = some a ∧ w'.cell? q = some b := ⟨below_keep hb _ _ h.1, below_keep hb _ _ h.2⟩
set_option maxRecDepth 100000 in
set_option maxHeartbeats 2000000 in
theorem specIndexPut (A : Option Addr) (n c : Nat) (l : List En) (ok : Nat → Prop) (e : En) (B : Option Addr) (m d : Nat) (ok' : Nat → Prop) (w : World) (h : Sl EnR 2 ok w A n l) (hn : n ≤ 1048576) (hk : ∀ x ∈ l, x.key.length ≤ 1048576) (hE : Sl VlR 3 ok' w B m e.key) (hm : m ≤ 1048576) :
  Calls Tryz.prog 20 #[.slice A n c, .agg #[.slice B m d, .int .i64 e.id]] w fun r w' => ∃ v, r = .returned (.tuple #[v, .bool (puttedB l e)]) ∧ OwnE w' w.heap.size v (putted l e) ∧ Below w.heap.size w w' := by
 obtain rfl : l.length = n := h.1
 obtain rfl : e.key.length = m := hE.1
 have HK := Lib.hid hk
 clear hk
 have hb0 := (Below.refl w.heap.size w).alloc (Nat.le_refl _) (.cells #[.slice B e.key.length d, .int .i64 e.id] 44)
 have r0 := Row.new w 44 #[.slice B e.key.length d, .int .i64 e.id]
 have hx0 : (w.alloc (.cells #[.slice B e.key.length d, .int .i64 e.id] 44)).heap.size = w.heap.size + 1 := by simp
 go_enter Tryz.func20, Tryz.ntmps20
 go_wp2_with fail
 generalize w.alloc (.cells #[.slice B e.key.length d, .int .i64 e.id] 44) = z0 at *
 refine (specL11Right A l.length c l _ _ (h.below EnR.stays hb0) hn HK.out).mono ?_
 rintro r w1 ⟨rfl, hb1⟩
 have r1 := r0.below hb1
 have hb01 := hb0.trans (hb1.mono (by omega))
 have hs1 : w.heap.size + 1 ≤ w1.heap.size := by have := hb1.size; omega
 clear r0 hb0 hb1 hx0
 cases hr : entriesB l
 ·have HF := Lib.hid (show puttedB l e = false by unfold puttedB; rw [hr]; rfl)
  have HD := Lib.hid (show putted l e = [] by unfold putted; rw [HF.out]; simp)
  go_wp2_with fail
  go_ret2
  exact ⟨.slice none 0 0, by rw [HF.out]; rfl, by rw [HD.out]; exact OwnE.nil _ _, hb01⟩
 ·have hl120 : l.length ≤ 120 := (entriesB_in hr).1
  have HR := Lib.hid hr
  have HKX := Lib.hid (show ∀ x ∈ l, x.key.length ≤ 1073741824 from fun x hx => by have := HK.out x hx; omega)
  have hl1 : Sl EnR 2 ok w1.drew A l.length l := (h.below EnR.stays hb01).stays EnR.stays (fun _ h => h) (fun p v _ h => h)
  have he1 : Sl VlR 3 ok' w1.drew B e.key.length e.key := (hE.below VlR.stays hb01).stays VlR.stays (fun _ h => h) (fun p v _ h => h)
  obtain ⟨⟨p0, p1⟩, -⟩ := r1.all2
  clear hr
  go_wp2_with fail
  go_region_held3 (fun w' => w'.cell? ⟨w.heap.size, 0, none⟩ = some (.slice B e.key.length d) ∧ w'.cell? ⟨w.heap.size, 1, none⟩ = some (.int .i64 e.id))
   (first | go_keep | exact keepP2 (by assumption) hqc | exact keepP2 (by assumption) hqb | exact keepP2 (by assumption) hqa)
   (first
    | (go_at_call 65; refine (specL11Copy A l.length c l _ _ hl1 HKX.out (by omega)).mono ?_; rintro r2 w2 ⟨v2, rfl, ho2, hqa⟩; obtain ⟨vs2, hO2⟩ := ho2)
    | (go_at_call 66; refine (specCopyVals B e.key.length d e.key _ _ (he1.below VlR.stays hqa) (by omega)).mono ?_; rintro r3 w3 ⟨v3, rfl, hk3, hqb⟩; obtain ⟨B3, d3, rfl⟩ := hk3.shape)
    | (go_at_call 64; refine (specL11Put w1.heap.size v2 l e B3 e.key.length d3 vs2 _ (OwnE0.below hO2 hqb) (Nat.le_trans hqa.size hqb.size) hn HK.out (hk3.mono hqa.size) hm (hO2.fresh hk3 (Nat.le_refl _))).mono ?_; rintro r4 w4 ⟨v4, rfl, ho4, hqc⟩))
  have HB4 := Lib.hid (show Below w.heap.size w w4 from ((hb01.drew.trans (hqa.mono hb01.size)).trans (hqb.mono (Nat.le_trans hb01.size hqa.size))).trans (hqc.mono (Nat.le_trans (Nat.le_trans hb01.size hqa.size) hqb.size)))
  have HO4 := Lib.hid (ho4.mono hb01.size)
  have HPL := Lib.hid (putL_len l e)
  have HKP := Lib.hid (put_keys HK.out hm)
  obtain ⟨A4, c4, rfl, -, -, hsl4⟩ := ho4.sl
  clear ho4 hqa hqb hqc hl1 he1 hO2 hk3 p0 p1 r1 hb01
  go_wp2_with fail
  refine (specL11Right A4 (putL l e).length c4 (putL l e) _ _ hsl4 (by have := HPL.out; omega) HKP.out).mono ?_
  rintro r5 w5 ⟨rfl, hb5⟩
  have HB5 := Lib.hid (show Below w.heap.size w w5 from HB4.out.trans (hb5.mono HB4.out.size))
  have HO5 := Lib.hid (HO4.out.below hb5)
  clear hb5 hsl4
  cases hp : entriesB (putL l e)
  ·have HF := Lib.hid (show puttedB l e = false by unfold puttedB; rw [hp]; simp)
   have HD := Lib.hid (show putted l e = [] by unfold putted; rw [HF.out]; simp)
   go_wp2_with fail
   go_ret2
   exact ⟨.slice none 0 0, by rw [HF.out]; rfl, by rw [HD.out]; exact OwnE.nil _ _, HB5.out⟩
  ·have HF := Lib.hid (show puttedB l e = true by unfold puttedB; rw [HR.out, hp]; rfl)
   have HD := Lib.hid (show putted l e = putL l e by unfold putted; rw [if_pos HF.out])
   go_wp2_with fail
   go_ret2
   exact ⟨_, by rw [HF.out]; rfl, by rw [HD.out]; exact HO5.out, HB5.out⟩
end Go.Proofs.YtciaidjmehelpaaGreat
namespace Go.Proofs.YtciaidjmehelpaaGreat
open Go.RowKit
attribute [local go_sem] run_store_fnE
theorem ins_keys {l : List En} {e : En} (h : ∀ x ∈ l, x.key.length ≤ 1048576) (he : e.key.length ≤ 1048576) : ∀ x ∈ insL l e, x.key.length ≤ 1048576 := fun x hx => by
 unfold insL at hx
 rcases insAt_mem.1 hx with rfl | hx
 ·exact he
 ·exact h x hx
theorem insL_len (l : List En) (e : En) : (insL l e).length = l.length + 1 := by
 unfold insL; exact insAt_len (bs_le l e)
set_option maxRecDepth 100000 in
set_option maxHeartbeats 2000000 in
theorem implIndexPut (A : Option Addr) (n c : Nat) (l : List En) (ok : Nat → Prop) (e : En) (B : Option Addr) (m d : Nat) (ok' : Nat → Prop) (w : World) (h : Sl EnR 2 ok w A n l) (hn : n ≤ 1048576) (hk : ∀ x ∈ l, x.key.length ≤ 1048576) (hE : Sl VlR 3 ok' w B m e.key) (hm : m ≤ 1048576) :
  Calls Tryz.prog 19 #[.slice A n c, .agg #[.slice B m d, .int .i64 e.id]] w fun r w' => ∃ v, r = .returned (.tuple #[v, .bool (puttedB l e)]) ∧ OwnE w' w.heap.size v (putted l e) ∧ Below w.heap.size w w' := by
 obtain rfl : l.length = n := h.1
 obtain rfl : e.key.length = m := hE.1
 have hb0 := (Below.refl w.heap.size w).alloc (Nat.le_refl _) (.cells #[.slice B e.key.length d, .int .i64 e.id] 44)
 have r0 := Row.new w 44 #[.slice B e.key.length d, .int .i64 e.id]
 have hs0 : (w.alloc (.cells #[.slice B e.key.length d, .int .i64 e.id] 44)).heap.size = w.heap.size + 1 := by simp
 go_enter Tryz.func19, Tryz.ntmps19
 go_wp2_with fail
 generalize w.alloc (.cells #[.slice B e.key.length d, .int .i64 e.id] 44) = z1 at *
 have HE1 := Lib.hid (implEntriesOk A l.length c l ok z1 (h.below EnR.stays hb0) hn hk)
 have HB0 := Lib.hid hb0
 have HK := Lib.hid hk
 refine HE1.out.mono ?_
 rintro r w1 ⟨rfl, hb1⟩
 have HB1 := Lib.hid (HB0.out.trans (hb1.mono HB0.out.size))
 have HR1 := Lib.hid (r0.below hb1)
 have h1 := h.below EnR.stays HB1.out
 have hE1 := hE.below VlR.stays HB1.out
 have HS1 := Lib.hid (show w.heap.size + 1 ≤ w1.heap.size by have := hb1.size; omega)
 clear HE1 hb0 hb1 r0 hs0 hk
 cases hb : entriesB l
 ·have HF := Lib.hid (show puttedB l e = false by unfold puttedB; rw [hb]; rfl)
  have HD := Lib.hid (show putted l e = [] by unfold putted; rw [HF.out]; simp)
  clear hb
  go_wp2_with fail
  go_ret2
  exact ⟨_, by rw [HF.out]; rfl, by rw [HD.out]; exact OwnE.nil _ _, HB1.out⟩
 ·have HEB := Lib.hid (put_eq (e := e) hb)
  have HL := Lib.hid (entriesB_in hb).1
  have HSC := Lib.hid (implSortedCopy A l.length c l ok w1 h1 (by omega) (fun x hx => by have := HK.out x hx; omega))
  clear hb
  go_wp2_with fail
  refine HSC.out.mono ?_
  rintro r w3 ⟨v3, rfl, hO3, hb3⟩
  obtain ⟨A3, c3, e3, -, -, -⟩ := hO3.sl
  subst e3
  obtain ⟨vs, hO3⟩ := hO3
  have HB3 := Lib.hid hb3
  have hal := (Below.refl w3.heap.size w3).alloc (Nat.le_refl _) (.cells (boxS A3 l.length c3) 99)
  have rbx := Row.new w3 99 (boxS A3 l.length c3)
  have HO3 := Lib.hid (OwnE0.below hO3 hal)
  have HAL := Lib.hid hal
  have HRB := Lib.hid rbx
  have HR3 := Lib.hid ((HR1.out.below hb3).below hal)
  have HE3 := Lib.hid ((hE1.below VlR.stays hb3).below VlR.stays hal)
  have hb3s := hb3.size
  clear hO3 hb3 hal rbx HSC h1 hE1
  have hrr := HR3.out
  obtain ⟨⟨q0, q1⟩, -⟩ := hrr.all2
  have HCE := Lib.hid (implCopyEntry e B e.key.length d ok' _ HE3.out (by omega))
  clear hrr
  unfold boxS at HO3 HAL HRB HR3 HE3 q0 q1 HCE
  go_wp2_with fail
  generalize w3.alloc (.cells #[.slice A3 l.length c3, .func (.func 71) #[] #[]] 99) = z3 at *
  refine HCE.out.mono ?_
  rintro r w4 ⟨v4, rfl, hk4, hb4⟩
  obtain ⟨B4, d4, rfl⟩ := hk4.shape
  have hz3 : w1.heap.size ≤ z3.heap.size := by have := HAL.out.size; omega
  have HB4 := Lib.hid hb4
  have hE4 : Sl VlR 3 (okF w1.heap.size w4) w4 B4 e.key.length e.key := by
   obtain ⟨A9, c9, e9, -, -, k9⟩ := OwnG.sl (f := Vl.cells) (sz := 3) (fun _ => rfl) (hk4.mono hz3)
   cases e9
   exact k9
  have HPM := Lib.hid (implPutM w3.heap.size w1.heap.size A3 c3 l e B4 e.key.length d4 vs w4 (HRB.out.below hb4) hb3s (OwnE0.below HO3.out hb4) hn HK.out (hk4.mono hz3) hm hE4 (HO3.out.fresh hk4 (Nat.le_refl _)) (bs_le l e))
  clear HCE hk4 hb4 hE4 q0 q1
  go_wp2_with fail
  refine HPM.out.mono ?_
  rintro r w5 ⟨rfl, hres, hb5⟩
  have HB5 := Lib.hid (show Below w.heap.size w w5 from HB1.out.trans ((((HB3.out.trans (HAL.out.mono hb3s)).trans (HB4.out.mono hz3)).trans hb5).mono HB1.out.size))
  have HRS := Lib.hid hres
  clear HPM hres hb5
  cases hh : bsHit l e
  ·obtain ⟨A5, c5, hr5, ho5⟩ := HRS.out hh
   have HH := Lib.hid hh
   have p0 : w5.cell? ⟨w3.heap.size, 0, none⟩ = some (.slice A5 (l.length + 1) c5) := hr5.cell 0
   have HLN := Lib.hid (insL_len l e)
   have HKI := Lib.hid (ins_keys (e := e) HK.out hm)
   have HR5 := Lib.hid hr5
   have HO5 := Lib.hid ho5
   obtain ⟨A6, c6, e6, -, -, hsl⟩ := ho5.sl
   rw [HLN.out] at e6 hsl
   cases e6
   have HEO := Lib.hid (implEntriesOk A5 (l.length + 1) c5 (insL l e) _ w5 hsl (by have := HL.out; omega) HKI.out)
   clear hr5 ho5 hsl hh
   go_wp2_with fail
   refine HEO.out.mono ?_
   rintro r w6 ⟨rfl, hb6⟩
   have HB6 := Lib.hid (HB5.out.trans (hb6.mono HB5.out.size))
   have HR6 := Lib.hid (HR5.out.below hb6)
   have HO6 := Lib.hid ((HO5.out.below hb6).mono HB1.out.size)
   have p6 : w6.cell? ⟨w3.heap.size, 0, none⟩ = some (.slice A5 (l.length + 1) c5) := HR6.out.cell 0
   clear HEO hb6 p0
   cases hp : entriesB (insL l e)
   ·have HF := Lib.hid (show puttedB l e = false by rw [HEB.out.1, hp]; simp)
    have HD := Lib.hid (show putted l e = [] by unfold putted; rw [HF.out]; simp)
    clear hp
    go_wp2_with fail
    go_ret2
    exact ⟨_, by rw [HF.out]; rfl, by rw [HD.out]; exact OwnE.nil _ _, HB6.out⟩
   ·have HF := Lib.hid (show puttedB l e = true by rw [HEB.out.1, hp, HH.out]; rfl)
    have HD := Lib.hid (HEB.out.2 HF.out)
    clear hp
    go_wp2_with fail
    go_ret2
    exact ⟨_, by rw [HF.out]; rfl, by rw [HD.out]; exact HO6.out, HB6.out⟩
  ·have HF := Lib.hid (show puttedB l e = false by rw [HEB.out.1, hh]; simp)
   have HD := Lib.hid (show putted l e = [] by unfold putted; rw [HF.out]; simp)
   clear hh
   go_wp2_with fail
   go_ret2
   exact ⟨_, by rw [HF.out]; rfl, by rw [HD.out]; exact OwnE.nil _ _, HB5.out⟩
end Go.Proofs.YtciaidjmehelpaaGreat
namespace Go.Proofs.YtciaidjmehelpaaGreat
open Go.RowKit
set_option maxRecDepth 100000 in
set_option maxHeartbeats 2000000 in
theorem specIndexDrop (A : Option Addr) (n c : Nat) (l : List En) (ok : Nat → Prop) (e : En) (B : Option Addr) (m d : Nat) (ok' : Nat → Prop) (w : World) (h : Sl EnR 2 ok w A n l) (hn : n ≤ 1048576) (hk : ∀ x ∈ l, x.key.length ≤ 1048576) (hE : Sl VlR 3 ok' w B m e.key) (hm : m ≤ 1048576) :
  Calls Tryz.prog 23 #[.slice A n c, .agg #[.slice B m d, .int .i64 e.id]] w fun r w' => ∃ v, r = .returned (.tuple #[v, .bool (droppedB l e)]) ∧ OwnE w' w.heap.size v (dropped l e) ∧ Below w.heap.size w w' := by
 obtain ⟨i0, hi, hz0, hz1, hz2⟩ := info_parts infoEntC
 have H1 := Lib.hid hi
 have H2 := Lib.hid hz0
 have H3 := Lib.hid hz1
 have H4 := Lib.hid hz2
 clear hi hz0 hz1 hz2
 obtain rfl : l.length = n := h.1
 obtain rfl : e.key.length = m := hE.1
 have HK := Lib.hid hk
 clear hk
 have hb0 := (Below.refl w.heap.size w).alloc (Nat.le_refl _) (.cells #[.slice B e.key.length d, .int .i64 e.id] 44)
 have r0 := Row.new w 44 #[.slice B e.key.length d, .int .i64 e.id]
 have hx0 : (w.alloc (.cells #[.slice B e.key.length d, .int .i64 e.id] 44)).heap.size = w.heap.size + 1 := by simp
 go_enter Tryz.func23, Tryz.ntmps23
 go_wp2_with fail
 generalize w.alloc (.cells #[.slice B e.key.length d, .int .i64 e.id] 44) = z0 at *
 refine (specL11Right A l.length c l _ _ (h.below EnR.stays hb0) hn HK.out).mono ?_
 rintro r w1 ⟨rfl, hb1⟩
 have r1 := r0.below hb1
 have hb01 := hb0.trans (hb1.mono (by omega))
 have hs1 : w.heap.size + 1 ≤ w1.heap.size := by have := hb1.size; omega
 clear r0 hb0 hb1 hx0
 cases hr : entriesB l
 ·have HF := Lib.hid (show droppedB l e = false by unfold droppedB; rw [hr]; rfl)
  have HD := Lib.hid (show dropped l e = [] by unfold dropped; rw [hr]; simp)
  go_wp2_with fail
  go_ret2
  exact ⟨.slice none 0 0, by rw [HF.out]; rfl, by rw [HD.out]; exact OwnE.nil _ _, hb01⟩
 ·have HB1 := Lib.hid (hb01.alloc (by omega) (.cells #[] 44))
  have ho0 := Lib.hid (ShareE.lit ok w w1 (base := w.heap.size + 1) (by omega))
  have R1 := Lib.hid (r1.alloc (.cells #[] 44))
  have HS1 := Lib.hid (show w.heap.size + 1 ≤ (w1.alloc (.cells #[] 44)).heap.size by simp; omega)
  clear r1 hb01 hs1
  go_wp2_with fail
  generalize w1.alloc (.cells #[] 44) = z1 at *
  go_loopw [6, 7] (fun v i wr => ∃ (k : Nat), k ≤ l.length ∧ i = .int .i64 k ∧ Hid (ShareE ok w wr (w.heap.size + 1) v (dropE (l.take k) e)) ∧ Hid (Row wr w.heap.size 44 #[.slice B e.key.length d, .int .i64 e.id]) ∧ Hid (Below w.heap.size w wr)) (fun _ i _ => l.length - (intOf i).toNat)
  case atStart => exact ⟨0, by omega, rfl, ho0, R1, HB1⟩
  case round =>
   clear ho0 R1 HB1 HS1
   obtain ⟨k, hk, rfl, hown, hrow, hbh⟩ := hrel
   have hb := hbh.out
   clear hbh
   by_cases hlt : k < l.length
   ·obtain ⟨b, off, A1, n1, c1, -, rfl, q0', q1', hky', hc1⟩ := EnR.at_ h hlt
    have q0 := below_keep hb _ _ q0'
    have q1 := below_keep hb _ _ q1'
    have hky := hky'.below VlR.stays hb
    have i0' : (0 : Int) ≤ k := by omega
    have i1 : (k : Int) < l.length := by omega
    have HKL := Lib.hid (HK.out l[k] (List.getElem_mem hlt))
    have HTY := Lib.hid (fun hs => dropE_yes (e := e) hlt hs)
    have HTN := Lib.hid (fun hs => dropE_no (e := e) hlt hs)
    have HLK := Lib.hid (show (dropE (l.take k) e).length ≤ k by have := dropE_len (l.take k) e; rw [List.length_take] at this; omega)
    generalize hxs : dropE (l.take k) e = xs at hown HTY HTN HLK
    generalize hek : l[k] = x at q1 q1' hky hky' HKL HTY HTN
    have HKY := Lib.hid hky'
    obtain ⟨⟨p0, p1⟩, -⟩ := hrow.out.all2
    have hkd : Sl VlR 3 ok wr.drew A1 n1 x.key := hky.stays VlR.stays (fun _ h => h) (fun p v _ h => h)
    have hed : Sl VlR 3 ok' wr.drew B e.key.length e.key := (hE.below VlR.stays hb).stays VlR.stays (fun _ h => h) (fun p v _ h => h)
    have hn1 : n1 ≤ 1048576 := by have := hky.1; have := HKL.out; omega
    clear q0' q1' hky' hky hxs hek
    cases hsm : sameE x e
    ·have HT := Lib.hid (HTN.out hsm)
     clear HTY HTN
     go_wp2_with fail
     go_region_held3 (fun w' => w'.cell? ⟨b, off + k * 2, none⟩ = some (.slice A1 n1 c1) ∧ w'.cell? ⟨b, off + k * 2 + 1, none⟩ = some (.int .i64 x.id) ∧ w'.cell? ⟨w.heap.size, 0, none⟩ = some (.slice B e.key.length d) ∧ w'.cell? ⟨w.heap.size, 1, none⟩ = some (.int .i64 e.id))
      (first | go_keep | exact keepC4 (by assumption) hb1)
      (first | (go_at_call 69; refine (specL11Same x e A1 B n1 c1 e.key.length d _ _ _ hkd hed hn1 hm).mono ?_; rintro r1 w1 ⟨rfl, hb1⟩; rw [hsm]))
     have y0 : w1.cell? ⟨b, off + k * 2, none⟩ = some (.slice A1 n1 c1) := below_keep hb1 _ _ (show wr.drew.cell? _ = _ from q0)
     have y1 : w1.cell? ⟨b, off + k * 2 + 1, none⟩ = some (.int .i64 x.id) := below_keep hb1 _ _ (show wr.drew.cell? _ = _ from q1)
     obtain ⟨vs, hv1, hv2, hv3⟩ := hown.out.drew.below hb1
     have HV2 := Lib.hid hv2
     have HV3 := Lib.hid hv3
     have HB := Lib.hid (show Below w.heap.size w w1 from hb.drew.trans (hb1.mono hb.size))
     have HR := Lib.hid (show Row w1 w.heap.size 44 #[.slice B e.key.length d, .int .i64 e.id] from Row.below (w := wr.drew) hrow.out hb1)
     have HNE := Lib.hid (show ∀ g, Value.ownBlock _ = some g → w.heap.size + 1 ≤ g from fun g hg => (World.ownsRow.lt hv2 g hg).1)
     clear hv2 hv3 hown hrow hb hb1 q0 q1 p0 p1
     go_wp2_with (at_builtin; refine wpList_append_own _ rfl _ _ 37 rfl (w.heap.size + 1) 44 i0 (.agg #[.slice none 0 0, .int .i64 0]) 2 32 Tryz.underlying37 H1.out H2.out H3.out H4.out rfl (by decide) _ _ _ rfl (World.ownsRow.alloc HV2.out _) ⟨_, 0, none⟩ 1 1 [.slice A1 n1 c1, .int .i64 x.id] rfl rfl ?c1 ?c2 ?c3 ?c4 ?c5 ?_)
     case c1 => exact cells_newAt _ [.slice A1 n1 c1, .int .i64 x.id] _ (by simp)
     case c2 => intro u hu; simp at hu; rcases hu with rfl | rfl <;> rfl
     case c3 => have := HLK.out; unfold maxLen; omega
     case c4 => have := HLK.out; omega
     case c5 => have := lt_of_block HR.out; simp; omega
     intro v9 w9 hown9 hgrow9 _
     have HE9 := Lib.hid (show ShareE ok w w9 (w.heap.size + 1) v9 (dropE (l.take (k + 1)) e) by rw [HT.out]; exact ShareE.app hv1 HV3.out hc1 HKY.out hown9)
     have HB9 := Lib.hid (show Below w.heap.size w w9 from (HB.out.alloc HB.out.size _).grown hgrow9 (by have := HB.out.size; simp; omega) fun g hg => by have := HNE.out g hg; omega)
     have HR9 := Lib.hid (grown_rowK hgrow9 (HR.out.alloc _) fun g hg => by have := HNE.out g hg; omega)
     clear hown9 hgrow9 HV2 HV3 HB HR y0 y1
     go_wp2_with fail
     go_roundw
     case rel => exact ⟨k + 1, by omega, by go_num, HE9, HR9, HB9⟩
     case measure => simp [intOf]; omega
    ·have HT := Lib.hid (HTY.out hsm)
     clear HTY HTN
     go_wp2_with fail
     go_region_held3 (fun w' => w'.cell? ⟨b, off + k * 2, none⟩ = some (.slice A1 n1 c1) ∧ w'.cell? ⟨b, off + k * 2 + 1, none⟩ = some (.int .i64 x.id) ∧ w'.cell? ⟨w.heap.size, 0, none⟩ = some (.slice B e.key.length d) ∧ w'.cell? ⟨w.heap.size, 1, none⟩ = some (.int .i64 e.id))
      (first | go_keep | exact keepC4 (by assumption) hb1)
      (first | (go_at_call 69; refine (specL11Same x e A1 B n1 c1 e.key.length d _ _ _ hkd hed hn1 hm).mono ?_; rintro r1 w1 ⟨rfl, hb1⟩; rw [hsm]))
     have HN := Lib.hid (show ShareE ok w w1 (w.heap.size + 1) _ (dropE (l.take (k + 1)) e) by rw [HT.out]; exact hown.out.drew.below hb1)
     have HB := Lib.hid (show Below w.heap.size w w1 from hb.drew.trans (hb1.mono hb.size))
     have HR := Lib.hid (show Row w1 w.heap.size 44 #[.slice B e.key.length d, .int .i64 e.id] from Row.below (w := wr.drew) hrow.out hb1)
     clear hown hrow hb hb1
     go_wp2_with fail
     go_roundw
     case rel => exact ⟨k + 1, by omega, by go_num, HN, HR, HB⟩
     case measure => simp [intOf]; omega
   ·obtain rfl : k = l.length := by omega
    rw [List.take_length] at hown
    have hlen := dropE_len l e
    have HKX := Lib.hid (show ∀ x ∈ dropE l e, x.key.length ≤ 1073741824 from fun x hx => by have := HK.out x (List.mem_filter.1 hx).1; omega)
    obtain ⟨A9, c9, rfl, hsl⟩ := hown.out.sl hb
    by_cases hle : (dropE l e).length = l.length
    ·have z : (((dropE l e).length : Int) == (l.length : Int)) = true := by simp [hle]
     have z2 : decide (((dropE l e).length : Int) = (l.length : Int)) = true := by simp [hle]
     have HF := Lib.hid (show droppedB l e = false by unfold droppedB; rw [hr, decide_eq_true hle]; rfl)
     have HD := Lib.hid (show dropped l e = [] by unfold dropped; rw [if_neg (by simp [hle])])
     go_wp2_with fail
     go_ret2
     exact ⟨.slice none 0 0, by rw [HF.out]; rfl, by rw [HD.out]; exact OwnE.nil _ _, hb⟩
    ·have z : (((dropE l e).length : Int) == (l.length : Int)) = false := by simp; omega
     have z2 : decide (((dropE l e).length : Int) = (l.length : Int)) = false := by simp; omega
     have HF := Lib.hid (show droppedB l e = true by unfold droppedB; rw [hr, decide_eq_false hle]; rfl)
     have HD := Lib.hid (show dropped l e = dropE l e by unfold dropped; rw [if_pos ⟨hr, hle⟩])
     go_wp2_with fail
     refine (specL11Copy A9 _ c9 (dropE l e) _ _ hsl HKX.out (by omega)).mono ?_
     rintro r9 w9 ⟨v9, rfl, hO9, hb9⟩
     go_wp2_with fail
     go_ret2
     exact ⟨v9, by rw [HF.out]; rfl, by rw [HD.out]; exact hO9.mono hb.size, hb.trans (hb9.mono hb.size)⟩
end Go.Proofs.YtciaidjmehelpaaGreat
