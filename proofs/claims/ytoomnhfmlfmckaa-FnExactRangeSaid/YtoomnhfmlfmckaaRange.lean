/-
  What lies between two values in an index: in the program and in the model.
-/
import Derived.Test.YtoomnhfmlfmckaaEntSpec
import Derived.Test.YtoomnhfmlfmckaaOwnInts
namespace Go.Proofs.Ytoomnhfmlfmckaa
open Go.RowKit Go.Maps
set_option linter.unusedVariables false
set_option linter.unusedSimpArgs false

def headV (e : En) : Vl := (e.key[0]?).getD ⟨0, 0, ⟨#[]⟩⟩
def inR (lo hi : Vl) (e : En) : Bool := decide (0 ≤ ordX (headV e) lo) && decide (ordX (headV e) hi ≤ 0)
def rangeL (lo hi : Vl) (l : List En) : List Int := (l.filter (inR lo hi)).map En.id
def rangeOk (l : List En) (lo hi : Vl) : Bool := entriesB l && (lo.ok && hi.ok)
def rangeB (l : List En) (lo hi : Vl) : List Int := if rangeOk l lo hi then rangeL lo hi l else []
theorem rangeL_yes {lo hi : Vl} {l : List En} {k : Nat} (h : k < l.length) (hr : inR lo hi l[k] = true) : rangeL lo hi (l.take (k + 1)) = rangeL lo hi (l.take k) ++ [l[k].id] := by
  rw [List.take_succ_eq_append_getElem h]
  unfold rangeL
  rw [List.filter_append, List.map_append, List.filter_cons, if_pos hr]
  rfl
theorem rangeL_no {lo hi : Vl} {l : List En} {k : Nat} (h : k < l.length) (hr : inR lo hi l[k] = false) : rangeL lo hi (l.take (k + 1)) = rangeL lo hi (l.take k) := by
  rw [List.take_succ_eq_append_getElem h]
  unfold rangeL
  rw [List.filter_append, List.map_append, List.filter_cons, if_neg (by simp [hr])]
  simp
theorem rangeL_len (lo hi : Vl) (l : List En) : (rangeL lo hi l).length ≤ l.length := by
  unfold rangeL; rw [List.length_map]; exact List.length_filter_le _ _
theorem rangeB_len (l : List En) (lo hi : Vl) : (rangeB l lo hi).length ≤ l.length := by
  unfold rangeB; split
  · exact rangeL_len lo hi l
  · simp
theorem headV_at {e : En} (h : 0 < e.key.length) : e.key[0] = headV e := by
  unfold headV; rw [List.getElem?_eq_getElem h]; rfl
/-- A list of numbers of the call's own. -/
def MadeN (xs : List Int) (w : World) (e : Ending) (w' : World) : Prop := ∃ A c, e = .returned (.slice A xs.length c) ∧ xs.length ≤ c ∧ Sl IntR 1 (okF w.heap.size w') w' A xs.length xs ∧ Below w.heap.size w w'
theorem MadeN.empty {xs : List Int} {w w' : World} (h : xs = []) (hb : Below w.heap.size w w') : MadeN xs w (.returned (.slice none 0 0)) w' := by
  subst h
  exact ⟨none, 0, rfl, Nat.le_refl _, ⟨rfl, fun h => by simp at h⟩, hb⟩
theorem Row.lowE {w w' : World} {g B : Nat} {T : TypeId} {cs : Array Value} (h : Row w g T cs) (hb : Below B w w') (hg : g < B) : Row w' g T cs := (hb.block g hg).trans h
theorem ordX_turn {x y : Vl} (h : x.ok = true) (h' : y.ok = true) : ordY x y = -ordX y x := by
  rw [← ordX_right h h']; exact ordX_neg y x
theorem keepR10 {w w' : World} {p0 p1 p2 p3 p4 p5 p6 p7 p8 p9 : Addr} {v0 v1 v2 v3 v4 v5 v6 v7 v8 v9 : Value} (h : w.cell? p0 = some v0 ∧ w.cell? p1 = some v1 ∧ w.cell? p2 = some v2 ∧ w.cell? p3 = some v3 ∧ w.cell? p4 = some v4 ∧ w.cell? p5 = some v5 ∧ w.cell? p6 = some v6 ∧ w.cell? p7 = some v7 ∧ w.cell? p8 = some v8 ∧ w.cell? p9 = some v9) (hb : Below w.heap.size w w') : w'.cell? p0 = some v0 ∧ w'.cell? p1 = some v1 ∧ w'.cell? p2 = some v2 ∧ w'.cell? p3 = some v3 ∧ w'.cell? p4 = some v4 ∧ w'.cell? p5 = some v5 ∧ w'.cell? p6 = some v6 ∧ w'.cell? p7 = some v7 ∧ w'.cell? p8 = some v8 ∧ w'.cell? p9 = some v9 :=
  ⟨below_keep hb _ _ h.1, below_keep hb _ _ h.2.1, below_keep hb _ _ h.2.2.1, below_keep hb _ _ h.2.2.2.1, below_keep hb _ _ h.2.2.2.2.1, below_keep hb _ _ h.2.2.2.2.2.1, below_keep hb _ _ h.2.2.2.2.2.2.1, below_keep hb _ _ h.2.2.2.2.2.2.2.1, below_keep hb _ _ h.2.2.2.2.2.2.2.2.1, below_keep hb _ _ h.2.2.2.2.2.2.2.2.2⟩
theorem keepR8 {w w' : World} {p0 p1 p2 p3 p4 p5 p6 p7 : Addr} {v0 v1 v2 v3 v4 v5 v6 v7 : Value} (h : w.cell? p0 = some v0 ∧ w.cell? p1 = some v1 ∧ w.cell? p2 = some v2 ∧ w.cell? p3 = some v3 ∧ w.cell? p4 = some v4 ∧ w.cell? p5 = some v5 ∧ w.cell? p6 = some v6 ∧ w.cell? p7 = some v7) (hb : Below w.heap.size w w') : w'.cell? p0 = some v0 ∧ w'.cell? p1 = some v1 ∧ w'.cell? p2 = some v2 ∧ w'.cell? p3 = some v3 ∧ w'.cell? p4 = some v4 ∧ w'.cell? p5 = some v5 ∧ w'.cell? p6 = some v6 ∧ w'.cell? p7 = some v7 :=
  ⟨below_keep hb _ _ h.1, below_keep hb _ _ h.2.1, below_keep hb _ _ h.2.2.1, below_keep hb _ _ h.2.2.2.1, below_keep hb _ _ h.2.2.2.2.1, below_keep hb _ _ h.2.2.2.2.2.1, below_keep hb _ _ h.2.2.2.2.2.2.1, below_keep hb _ _ h.2.2.2.2.2.2.2⟩

set_option maxRecDepth 100000 in
set_option maxHeartbeats 8000000 in
theorem implRange (A : Option Addr) (n c : Nat) (l : List En) (lo hi : Vl) (ok : Nat → Prop) (w : World) (h : Sl EnR 2 ok w A n l) (hn : n ≤ 1048576) (hk : ∀ e ∈ l, e.key.length ≤ 1048576) :
    Calls Try.prog 11 #[.slice A n c, .agg #[.int .i64 lo.k, .int .i64 lo.n, .string lo.s], .agg #[.int .i64 hi.k, .int .i64 hi.n, .string hi.s]] w (MadeN (rangeB l lo hi) w) := by
  obtain rfl : l.length = n := h.1
  have HK := Lib.hid hk
  obtain ⟨i0, hi', hz0, hz1, hz2⟩ := info_parts infoIntI
  have H1 := Lib.hid hi'
  have H2 := Lib.hid hz0
  have H3 := Lib.hid hz1
  have H4 := Lib.hid hz2
  clear hk hi' hz0 hz1 hz2
  have hb0 := chain2 w (.cells #[.int .i64 lo.k, .int .i64 lo.n, .string lo.s] 31) (.cells #[.int .i64 hi.k, .int .i64 hi.n, .string hi.s] 31)
  have hr := two_rows w 31 #[.int .i64 lo.k, .int .i64 lo.n, .string lo.s] #[.int .i64 hi.k, .int .i64 hi.n, .string hi.s]
  have hx0 : ((w.alloc (.cells #[.int .i64 lo.k, .int .i64 lo.n, .string lo.s] 31)).alloc (.cells #[.int .i64 hi.k, .int .i64 hi.n, .string hi.s] 31)).heap.size = w.heap.size + 2 := by simp
  have HX0 := Lib.hid hx0
  have RL := Lib.hid hr.1
  have RH := Lib.hid hr.2
  clear hr hx0
  go_enter Try.func11, Try.ntmps11
  go_wp2_with fail
  generalize (w.alloc (.cells #[.int .i64 lo.k, .int .i64 lo.n, .string lo.s] 31)).alloc (.cells #[.int .i64 hi.k, .int .i64 hi.n, .string hi.s] 31) = z0 at *
  refine (implEntriesOk A l.length c l _ _ (h.below EnR.stays hb0) hn HK.out).mono ?_
  rintro e w1 ⟨rfl, hb1⟩
  have hbz1 := hb0.trans (hb1.mono hb0.size)
  have RL1 := Lib.hid (RL.out.below hb1)
  have RH1 := Lib.hid (RH.out.below hb1)
  have HSZ1 := Lib.hid (show w.heap.size + 2 ≤ w1.heap.size by rw [← HX0.out]; exact hb1.size)
  obtain ⟨⟨p0, p1, p2⟩, -⟩ := RL1.out.three
  obtain ⟨⟨s0, s1, s2⟩, -⟩ := RH1.out.three
  clear hb0 hb1
  cases he : entriesB l
  · have HR := Lib.hid (show rangeB l lo hi = [] by unfold rangeB rangeOk; rw [he]; rfl)
    clear he
    go_wp2_with fail
    go_ret
    exact MadeN.empty HR.out hbz1
  have HE := Lib.hid he
  clear he
  go_wp2_with fail
  refine (implValOk lo.k lo.n lo.s _).mono ?_
  rintro e w2 ⟨rfl, hb2⟩
  have hbz2 := hbz1.trans (hb2.mono hbz1.size)
  have RL2 := Lib.hid (RL1.out.below hb2)
  have RH2 := Lib.hid (RH1.out.below hb2)
  have HSZ2 := Lib.hid (Nat.le_trans HSZ1.out hb2.size)
  clear p0 p1 p2 s0 s1 s2 hbz1 hb2
  obtain ⟨⟨p0, p1, p2⟩, -⟩ := RL2.out.three
  obtain ⟨⟨s0, s1, s2⟩, -⟩ := RH2.out.three
  cases hl : valOkB lo.k lo.n lo.s
  · have HR := Lib.hid (show rangeB l lo hi = [] by unfold rangeB rangeOk Vl.ok; rw [HE.out, hl]; rfl)
    clear hl
    go_wp2_with fail
    go_ret
    exact MadeN.empty HR.out hbz2
  have HL := Lib.hid hl
  clear hl
  go_wp2_with fail
  refine (implValOk hi.k hi.n hi.s _).mono ?_
  rintro e w3 ⟨rfl, hb3⟩
  have hbz3 := hbz2.trans (hb3.mono hbz2.size)
  have RL3 := Lib.hid (RL2.out.below hb3)
  have RH3 := Lib.hid (RH2.out.below hb3)
  have HSZ3 := Lib.hid (Nat.le_trans HSZ2.out hb3.size)
  clear p0 p1 p2 s0 s1 s2 hbz2 hb3
  cases hh : valOkB hi.k hi.n hi.s
  · have HR := Lib.hid (show rangeB l lo hi = [] by unfold rangeB rangeOk Vl.ok; rw [HE.out, HL.out, hh]; rfl)
    clear hh
    go_wp2_with fail
    go_ret
    exact MadeN.empty HR.out hbz3
  have HR := Lib.hid (show rangeB l lo hi = rangeL lo hi l by unfold rangeB rangeOk Vl.ok; rw [HE.out, HL.out, hh]; rfl)
  clear hh
  go_wp2_with fail
  go_loopw [7, 25] (fun v i wr => ∃ k : Nat, k ≤ l.length ∧ i = .int .i64 k ∧ Hid (OwnI wr (w.heap.size + 2) v (rangeL lo hi (l.take k))) ∧ Hid (Row wr w.heap.size 31 #[.int .i64 lo.k, .int .i64 lo.n, .string lo.s]) ∧ Hid (Row wr (w.heap.size + 1) 31 #[.int .i64 hi.k, .int .i64 hi.n, .string hi.s]) ∧ Hid (w.heap.size + 2 ≤ wr.heap.size) ∧ Below w.heap.size w wr) (fun _ i _ => l.length - (intOf i).toNat)
  case atStart => exact ⟨0, by omega, rfl, Lib.hid (OwnI.nil _ _), RL3, RH3, HSZ3, hbz3⟩
  case round =>
    clear hbz3
    obtain ⟨k, hk', rfl, hown, hrl, hrh, hszr, hb⟩ := hrel
    by_cases hlt : k < l.length
    case neg =>
      obtain rfl : k = l.length := by omega
      have ho := hown.out
      rw [List.take_of_length_le (Nat.le_refl _)] at ho
      obtain ⟨AO, cO, rfl, hcO, hcm, hsl⟩ := ho.sl
      have HS := Lib.hid (hsl.stays IntR.stays (ok' := okF w.heap.size wr) (fun b hb => hb.mono (by omega)) (fun p v _ hp => hp))
      clear hown hsl
      go_wp2_with fail
      go_ret
      exact ⟨AO, cO, by rw [HR.out]; rfl, by rw [HR.out]; exact hcO, by rw [HR.out]; exact HS.out, hb⟩
    have hsl := h.below EnR.stays hb
    obtain ⟨b1, o1, A1, n1, c1, -, rfl, q0, q1, s1, -⟩ := EnR.at_ hsl (i := k) hlt
    obtain rfl : l[k].key.length = n1 := s1.1
    have hpos : 0 < l[k].key.length := by
      have h1 := (entriesB_in HE.out).2.1 l[k] (List.getElem_mem hlt)
      have h2 := h1.1
      unfold entryB at h2
      simp only [Bool.and_eq_true, decide_eq_true_eq] at h2
      omega
    obtain ⟨b2, o2, -, rfl, g0, g1, g2⟩ := VlR.at_ s1 (i := 0) hpos
    have HIR := Lib.hid (show inR lo hi l[k] = (decide (0 ≤ ordX (headV l[k]) lo) && decide (ordX (headV l[k]) hi ≤ 0)) from rfl)
    have HYES := Lib.hid (show inR lo hi l[k] = true → rangeL lo hi (l.take (k + 1)) = rangeL lo hi (l.take k) ++ [l[k].id] from fun hh => rangeL_yes hlt hh)
    have HNO := Lib.hid (show inR lo hi l[k] = false → rangeL lo hi (l.take (k + 1)) = rangeL lo hi (l.take k) from fun hh => rangeL_no hlt hh)
    rw [headV_at hpos, Nat.zero_mul, Nat.add_zero] at g0 g1 g2
    have HLEN := Lib.hid (show (rangeL lo hi (l.take k)).length ≤ k by have := rangeL_len lo hi (l.take k); rw [List.length_take] at this; omega)
    generalize headV l[k] = hv at *
    have a0 : (0 : Int) ≤ k := by omega
    have a1 : (k : Int) < l.length := by omega
    have a2 : (0 : Int) < l[k].key.length := by omega
    have hlb := (Below.refl wr.heap.size wr).alloc (Nat.le_refl _) (.cells #[.slice (some ⟨b2, o2, none⟩) l[k].key.length c1, .int .i64 l[k].id] 46)
    have hbx := hb.trans (hlb.mono hb.size)
    have rx := Row.new wr 46 #[.slice (some ⟨b2, o2, none⟩) l[k].key.length c1, .int .i64 l[k].id]
    have x0 := below_keep hlb _ _ g0
    have x1 := below_keep hlb _ _ g1
    have x2 := below_keep hlb _ _ g2
    obtain ⟨⟨p0, p1, p2⟩, -⟩ := (hrl.out.below hlb).three
    obtain ⟨⟨s0', s1', s2'⟩, -⟩ := (hrh.out.below hlb).three
    obtain ⟨⟨y0, y1⟩, -⟩ := rx.all2
    have hszx : w.heap.size + 2 ≤ wr.heap.size := hszr.out
    have D := Lib.hid (show _ ∧ _ ∧ _ ∧ _ ∧ _ ∧ _ ∧ _ ∧ _ ∧ _ ∧ _ from ⟨y0, x0, x1, x2, p0, p1, p2, s0', s1', s2'⟩)
    have HOX := Lib.hid (hown.out.below hlb)
    have HRL := Lib.hid (hrl.out.below hlb)
    have HRH := Lib.hid (hrh.out.below hlb)
    have HRX := Lib.hid rx
    have hszz : wr.heap.size ≤ (wr.alloc (.cells #[.slice (some ⟨b2, o2, none⟩) l[k].key.length c1, .int .i64 l[k].id] 46)).heap.size := by simp
    have HSZZ := Lib.hid (Nat.le_trans hszx hszz)
    clear hszz hszr hsl s1 g0 g1 g2 x0 x1 x2 p0 p1 p2 s0' s1' s2' y1 hown hrl hrh rx hlb
    obtain ⟨v1, hv1⟩ : ∃ v, ordOk hv.k hv.n hv.s lo.k lo.n lo.s = v := ⟨_, rfl⟩
    obtain ⟨v2, hv2⟩ : ∃ v, ordOk hv.k hv.n hv.s hi.k hi.n hi.s = v := ⟨_, rfl⟩
    have HV1 := Lib.hid hv1
    have HV2 := Lib.hid hv2
    have HIV := Lib.hid (show inR lo hi l[k] = (decide (0 ≤ v1) && decide (v2 ≤ 0)) by rw [HIR.out, ← hv1, ← hv2]; rfl)
    clear hv1 hv2
    go_wp2_with fail
    generalize hgz : wr.alloc (.cells #[.slice (some ⟨b2, o2, none⟩) l[k].key.length c1, .int .i64 l[k].id] 46) = zx at *
    have HGZ := Lib.hid hgz
    clear hgz y0 q0 q1
    have hbd := hbx.drew
    by_cases h1 : 0 ≤ v1
    case neg =>
      have z1 : decide (0 ≤ v1) = false := decide_eq_false h1
      have HN := Lib.hid (HNO.out (by rw [HIV.out, z1]; rfl))
      clear h1
      refine wp_region_noPanic ?_
      refine wp_region_held_drew (S := fun w' => w'.cell? ⟨wr.heap.size, 0, none⟩ = some (.slice (some ⟨b2, o2, none⟩) l[k].key.length c1) ∧ w'.cell? ⟨b2, o2, none⟩ = some (.int .i64 hv.k) ∧ w'.cell? ⟨b2, o2 + 1, none⟩ = some (.int .i64 hv.n) ∧ w'.cell? ⟨b2, o2 + 2, none⟩ = some (.string hv.s) ∧ w'.cell? ⟨w.heap.size, 0, none⟩ = some (.int .i64 lo.k) ∧ w'.cell? ⟨w.heap.size, 1, none⟩ = some (.int .i64 lo.n) ∧ w'.cell? ⟨w.heap.size, 2, none⟩ = some (.string lo.s) ∧ w'.cell? ⟨w.heap.size + 1, 0, none⟩ = some (.int .i64 hi.k) ∧ w'.cell? ⟨w.heap.size + 1, 1, none⟩ = some (.int .i64 hi.n) ∧ w'.cell? ⟨w.heap.size + 1, 2, none⟩ = some (.string hi.s)) (by kernel_rfl) D.out (fun hHeld => ?_)
      refine wpAnyH_take (i := 0) (v := ?v52) rfl (by kernel_rfl) (by kernel_rfl) (by kernel_rfl) (fun _ _ _ h => h) (Or.inl ⟨by rfl, ?hy52⟩) hHeld ?rest52
      case hy52 => (intro w' hSw; (try dsimp only at hSw); first | (go_simp; done) | (go_simp; with_reducible rfl))
      simp only [Act.put, List.getElem_toArray, List.getElem_cons_zero, List.getElem_cons_succ, List.setIfInBounds_toArray, List.set_cons_zero, List.set_cons_succ]
      refine wpAnyH_take (i := 1) (v := ?v53) rfl (by kernel_rfl) (by kernel_rfl) (by kernel_rfl) (fun _ _ _ h => h) (Or.inl ⟨by rfl, ?hy53⟩) hHeld ?rest53
      case hy53 => (intro w' hSw; (try dsimp only at hSw); first | (go_simp; done) | (go_simp; with_reducible rfl))
      simp only [Act.put, List.getElem_toArray, List.getElem_cons_zero, List.getElem_cons_succ, List.setIfInBounds_toArray, List.set_cons_zero, List.set_cons_succ]
      refine wpAnyH_take (i := 2) (v := ?v54) rfl (by kernel_rfl) (by kernel_rfl) (by kernel_rfl) (fun _ _ _ h => h) (Or.inl ⟨by rfl, ?hy54⟩) hHeld ?rest54
      case hy54 => (intro w' hSw; (try dsimp only at hSw); first | (go_simp; done) | (go_simp; with_reducible rfl))
      simp only [Act.put, List.getElem_toArray, List.getElem_cons_zero, List.getElem_cons_succ, List.setIfInBounds_toArray, List.set_cons_zero, List.set_cons_succ]
      refine wpAnyH_take (i := 3) (v := ?v55) rfl (by kernel_rfl) (by kernel_rfl) (by kernel_rfl) (fun _ _ _ h => h) (Or.inl ⟨by rfl, ?hy55⟩) hHeld ?rest55
      case hy55 => (intro w' hSw; (try dsimp only at hSw); first | (go_simp; done) | (go_simp; with_reducible rfl))
      simp only [Act.put, List.getElem_toArray, List.getElem_cons_zero, List.getElem_cons_succ, List.setIfInBounds_toArray, List.set_cons_zero, List.set_cons_succ]
      refine wpAnyH_take (i := 4) (v := ?v56) rfl (by kernel_rfl) (by kernel_rfl) (by kernel_rfl) (fun _ _ _ h => h) (Or.inl ⟨by rfl, ?hy56⟩) hHeld ?rest56
      case hy56 => (intro w' hSw; (try dsimp only at hSw); first | (go_simp; done) | (go_simp; with_reducible rfl))
      simp only [Act.put, List.getElem_toArray, List.getElem_cons_zero, List.getElem_cons_succ, List.setIfInBounds_toArray, List.set_cons_zero, List.set_cons_succ]
      refine wpAnyH_ready (rs := [5]) (by kernel_rfl) (by simp) ?_
      refine AllReadyH.cons rfl (fun K hK => ?_) AllReadyH.nil
      go_simp
      refine (implOrder hv.k hv.n hv.s lo.k lo.n lo.s _).mono ?_
      rintro e w9 ⟨rfl, hb9⟩
      rw [HV1.out]
      go_wp2_with fail
      refine hK.out _ _ (keepR10 hHeld hb9) (fun hHeld => ?_)
      clear hK K
      (try simp only [Act.put, List.getElem_toArray, List.getElem_cons_zero, List.getElem_cons_succ, List.setIfInBounds_toArray, List.set_cons_zero, List.set_cons_succ])
      refine wpAnyH_take (i := 6) (v := ?v57) rfl (by kernel_rfl) (by kernel_rfl) (by kernel_rfl) (fun _ _ _ h => h) (Or.inl ⟨by rfl, ?hy57⟩) hHeld ?rest57
      case hy57 => (intro w' hSw; (try dsimp only at hSw); first | (go_simp; done) | (go_simp; with_reducible rfl))
      simp only [Act.put, List.getElem_toArray, List.getElem_cons_zero, List.getElem_cons_succ, List.setIfInBounds_toArray, List.set_cons_zero, List.set_cons_succ]
      refine wpAnyH_take (i := 7) (v := ?v58) rfl (by kernel_rfl) (by kernel_rfl) (by kernel_rfl) (fun _ _ _ h => h) (Or.inl ⟨by rfl, ?hy58⟩) hHeld ?rest58
      case hy58 => (intro w' hSw; (try dsimp only at hSw); first | (go_simp; done) | (go_simp; with_reducible rfl))
      simp only [Act.put, List.getElem_toArray, List.getElem_cons_zero, List.getElem_cons_succ, List.setIfInBounds_toArray, List.set_cons_zero, List.set_cons_succ]
      refine wpAnyH_take (i := 8) (v := undef) rfl (by kernel_rfl) (by kernel_rfl) (by kernel_rfl) (fun _ _ _ h => h) (Or.inr ⟨by rfl, rfl⟩) hHeld ?_
      simp only [Act.put, List.getElem_toArray, List.getElem_cons_zero, List.getElem_cons_succ, List.setIfInBounds_toArray, List.set_cons_zero, List.set_cons_succ]
      refine wpAnyH_take (i := 9) (v := undef) rfl (by kernel_rfl) (by kernel_rfl) (by kernel_rfl) (fun _ _ _ h => h) (Or.inr ⟨by rfl, rfl⟩) hHeld ?_
      simp only [Act.put, List.getElem_toArray, List.getElem_cons_zero, List.getElem_cons_succ, List.setIfInBounds_toArray, List.set_cons_zero, List.set_cons_succ]
      refine wpAnyH_take (i := 10) (v := undef) rfl (by kernel_rfl) (by kernel_rfl) (by kernel_rfl) (fun _ _ _ h => h) (Or.inr ⟨by rfl, rfl⟩) hHeld ?_
      simp only [Act.put, List.getElem_toArray, List.getElem_cons_zero, List.getElem_cons_succ, List.setIfInBounds_toArray, List.set_cons_zero, List.set_cons_succ]
      refine wpAnyH_take (i := 11) (v := undef) rfl (by kernel_rfl) (by kernel_rfl) (by kernel_rfl) (fun _ _ _ h => h) (Or.inr ⟨by rfl, rfl⟩) hHeld ?_
      simp only [Act.put, List.getElem_toArray, List.getElem_cons_zero, List.getElem_cons_succ, List.setIfInBounds_toArray, List.set_cons_zero, List.set_cons_succ]
      refine wpAnyH_take (i := 12) (v := undef) rfl (by kernel_rfl) (by kernel_rfl) (by kernel_rfl) (fun _ _ _ h => h) (Or.inr ⟨by rfl, rfl⟩) hHeld ?_
      simp only [Act.put, List.getElem_toArray, List.getElem_cons_zero, List.getElem_cons_succ, List.setIfInBounds_toArray, List.set_cons_zero, List.set_cons_succ]
      refine wpAnyH_take (i := 13) (v := undef) rfl (by kernel_rfl) (by kernel_rfl) (by kernel_rfl) (fun _ _ _ h => h) (Or.inr ⟨by rfl, rfl⟩) hHeld ?_
      simp only [Act.put, List.getElem_toArray, List.getElem_cons_zero, List.getElem_cons_succ, List.setIfInBounds_toArray, List.set_cons_zero, List.set_cons_succ]
      refine wpAnyH_take (i := 14) (v := undef) rfl (by kernel_rfl) (by kernel_rfl) (by kernel_rfl) (fun _ _ _ h => h) (Or.inr ⟨by rfl, rfl⟩) hHeld ?_
      simp only [Act.put, List.getElem_toArray, List.getElem_cons_zero, List.getElem_cons_succ, List.setIfInBounds_toArray, List.set_cons_zero, List.set_cons_succ]
      refine wpAnyH_take (i := 15) (v := ?v59) rfl (by kernel_rfl) (by kernel_rfl) (by kernel_rfl) (fun _ _ _ h => h) (Or.inl ⟨by rfl, ?hy59⟩) hHeld ?rest59
      case hy59 => (intro w' hSw; (try dsimp only at hSw); first | (go_simp; done) | (go_simp; with_reducible rfl))
      simp only [Act.put, List.getElem_toArray, List.getElem_cons_zero, List.getElem_cons_succ, List.setIfInBounds_toArray, List.set_cons_zero, List.set_cons_succ]
      refine wpAnyH_done (by kernel_rfl) ?_ _
      refine NoPanic.normal ?_
      clear hHeld
      have HO9 := Lib.hid (HOX.out.below (show Below zx.heap.size zx w9 from (Below.refl _ zx).drew.trans hb9))
      have RL9 := Lib.hid (HRL.out.below (show Below zx.heap.size zx w9 from (Below.refl _ zx).drew.trans hb9))
      have RH9 := Lib.hid (HRH.out.below (show Below zx.heap.size zx w9 from (Below.refl _ zx).drew.trans hb9))
      have HS9 := Lib.hid (Nat.le_trans HSZZ.out hb9.size)
      go_wp2_with fail
      go_roundw
      case rel => exact ⟨k + 1, by omega, by go_num, Lib.hid (by rw [HN.out]; exact HO9.out), RL9, RH9, HS9, hbd.trans (hb9.mono hbd.size)⟩
      case measure => simp [intOf]; omega
    have z1 : decide (0 ≤ v1) = true := decide_eq_true h1
    by_cases h2 : v2 ≤ 0
    case neg =>
      have z2 : decide (v2 ≤ 0) = false := decide_eq_false h2
      have HN := Lib.hid (HNO.out (by rw [HIV.out, z2]; simp))
      clear h1 h2
      refine wp_region_noPanic ?_
      refine wp_region_held_drew (S := fun w' => w'.cell? ⟨wr.heap.size, 0, none⟩ = some (.slice (some ⟨b2, o2, none⟩) l[k].key.length c1) ∧ w'.cell? ⟨b2, o2, none⟩ = some (.int .i64 hv.k) ∧ w'.cell? ⟨b2, o2 + 1, none⟩ = some (.int .i64 hv.n) ∧ w'.cell? ⟨b2, o2 + 2, none⟩ = some (.string hv.s) ∧ w'.cell? ⟨w.heap.size, 0, none⟩ = some (.int .i64 lo.k) ∧ w'.cell? ⟨w.heap.size, 1, none⟩ = some (.int .i64 lo.n) ∧ w'.cell? ⟨w.heap.size, 2, none⟩ = some (.string lo.s) ∧ w'.cell? ⟨w.heap.size + 1, 0, none⟩ = some (.int .i64 hi.k) ∧ w'.cell? ⟨w.heap.size + 1, 1, none⟩ = some (.int .i64 hi.n) ∧ w'.cell? ⟨w.heap.size + 1, 2, none⟩ = some (.string hi.s)) (by kernel_rfl) D.out (fun hHeld => ?_)
      refine wpAnyH_take (i := 0) (v := ?v60) rfl (by kernel_rfl) (by kernel_rfl) (by kernel_rfl) (fun _ _ _ h => h) (Or.inl ⟨by rfl, ?hy60⟩) hHeld ?rest60
      case hy60 => (intro w' hSw; (try dsimp only at hSw); first | (go_simp; done) | (go_simp; with_reducible rfl))
      simp only [Act.put, List.getElem_toArray, List.getElem_cons_zero, List.getElem_cons_succ, List.setIfInBounds_toArray, List.set_cons_zero, List.set_cons_succ]
      refine wpAnyH_take (i := 1) (v := ?v61) rfl (by kernel_rfl) (by kernel_rfl) (by kernel_rfl) (fun _ _ _ h => h) (Or.inl ⟨by rfl, ?hy61⟩) hHeld ?rest61
      case hy61 => (intro w' hSw; (try dsimp only at hSw); first | (go_simp; done) | (go_simp; with_reducible rfl))
      simp only [Act.put, List.getElem_toArray, List.getElem_cons_zero, List.getElem_cons_succ, List.setIfInBounds_toArray, List.set_cons_zero, List.set_cons_succ]
      refine wpAnyH_take (i := 2) (v := ?v62) rfl (by kernel_rfl) (by kernel_rfl) (by kernel_rfl) (fun _ _ _ h => h) (Or.inl ⟨by rfl, ?hy62⟩) hHeld ?rest62
      case hy62 => (intro w' hSw; (try dsimp only at hSw); first | (go_simp; done) | (go_simp; with_reducible rfl))
      simp only [Act.put, List.getElem_toArray, List.getElem_cons_zero, List.getElem_cons_succ, List.setIfInBounds_toArray, List.set_cons_zero, List.set_cons_succ]
      refine wpAnyH_take (i := 3) (v := ?v63) rfl (by kernel_rfl) (by kernel_rfl) (by kernel_rfl) (fun _ _ _ h => h) (Or.inl ⟨by rfl, ?hy63⟩) hHeld ?rest63
      case hy63 => (intro w' hSw; (try dsimp only at hSw); first | (go_simp; done) | (go_simp; with_reducible rfl))
      simp only [Act.put, List.getElem_toArray, List.getElem_cons_zero, List.getElem_cons_succ, List.setIfInBounds_toArray, List.set_cons_zero, List.set_cons_succ]
      refine wpAnyH_take (i := 4) (v := ?v64) rfl (by kernel_rfl) (by kernel_rfl) (by kernel_rfl) (fun _ _ _ h => h) (Or.inl ⟨by rfl, ?hy64⟩) hHeld ?rest64
      case hy64 => (intro w' hSw; (try dsimp only at hSw); first | (go_simp; done) | (go_simp; with_reducible rfl))
      simp only [Act.put, List.getElem_toArray, List.getElem_cons_zero, List.getElem_cons_succ, List.setIfInBounds_toArray, List.set_cons_zero, List.set_cons_succ]
      refine wpAnyH_ready (rs := [5]) (by kernel_rfl) (by simp) ?_
      refine AllReadyH.cons rfl (fun K hK => ?_) AllReadyH.nil
      go_simp
      refine (implOrder hv.k hv.n hv.s lo.k lo.n lo.s _).mono ?_
      rintro e w9 ⟨rfl, hb9⟩
      rw [HV1.out]
      go_wp2_with fail
      refine hK.out _ _ (keepR10 hHeld hb9) (fun hHeld => ?_)
      clear hK K
      (try simp only [Act.put, List.getElem_toArray, List.getElem_cons_zero, List.getElem_cons_succ, List.setIfInBounds_toArray, List.set_cons_zero, List.set_cons_succ])
      refine wpAnyH_take (i := 6) (v := ?v65) rfl (by kernel_rfl) (by kernel_rfl) (by kernel_rfl) (fun _ _ _ h => h) (Or.inl ⟨by rfl, ?hy65⟩) hHeld ?rest65
      case hy65 => (intro w' hSw; (try dsimp only at hSw); first | (go_simp; done) | (go_simp; with_reducible rfl))
      simp only [Act.put, List.getElem_toArray, List.getElem_cons_zero, List.getElem_cons_succ, List.setIfInBounds_toArray, List.set_cons_zero, List.set_cons_succ]
      refine wpAnyH_take (i := 7) (v := ?v66) rfl (by kernel_rfl) (by kernel_rfl) (by kernel_rfl) (fun _ _ _ h => h) (Or.inl ⟨by rfl, ?hy66⟩) hHeld ?rest66
      case hy66 => (intro w' hSw; (try dsimp only at hSw); first | (go_simp; done) | (go_simp; with_reducible rfl))
      simp only [Act.put, List.getElem_toArray, List.getElem_cons_zero, List.getElem_cons_succ, List.setIfInBounds_toArray, List.set_cons_zero, List.set_cons_succ]
      refine wpAnyH_take (i := 8) (v := ?v67) rfl (by kernel_rfl) (by kernel_rfl) (by kernel_rfl) (fun _ _ _ h => h) (Or.inl ⟨by rfl, ?hy67⟩) hHeld ?rest67
      case hy67 => (intro w' hSw; (try dsimp only at hSw); first | (go_simp; done) | (go_simp; with_reducible rfl))
      simp only [Act.put, List.getElem_toArray, List.getElem_cons_zero, List.getElem_cons_succ, List.setIfInBounds_toArray, List.set_cons_zero, List.set_cons_succ]
      refine wpAnyH_take (i := 9) (v := ?v68) rfl (by kernel_rfl) (by kernel_rfl) (by kernel_rfl) (fun _ _ _ h => h) (Or.inl ⟨by rfl, ?hy68⟩) hHeld ?rest68
      case hy68 => (intro w' hSw; (try dsimp only at hSw); first | (go_simp; done) | (go_simp; with_reducible rfl))
      simp only [Act.put, List.getElem_toArray, List.getElem_cons_zero, List.getElem_cons_succ, List.setIfInBounds_toArray, List.set_cons_zero, List.set_cons_succ]
      refine wpAnyH_take (i := 10) (v := ?v69) rfl (by kernel_rfl) (by kernel_rfl) (by kernel_rfl) (fun _ _ _ h => h) (Or.inl ⟨by rfl, ?hy69⟩) hHeld ?rest69
      case hy69 => (intro w' hSw; (try dsimp only at hSw); first | (go_simp; done) | (go_simp; with_reducible rfl))
      simp only [Act.put, List.getElem_toArray, List.getElem_cons_zero, List.getElem_cons_succ, List.setIfInBounds_toArray, List.set_cons_zero, List.set_cons_succ]
      refine wpAnyH_take (i := 11) (v := ?v70) rfl (by kernel_rfl) (by kernel_rfl) (by kernel_rfl) (fun _ _ _ h => h) (Or.inl ⟨by rfl, ?hy70⟩) hHeld ?rest70
      case hy70 => (intro w' hSw; (try dsimp only at hSw); first | (go_simp; done) | (go_simp; with_reducible rfl))
      simp only [Act.put, List.getElem_toArray, List.getElem_cons_zero, List.getElem_cons_succ, List.setIfInBounds_toArray, List.set_cons_zero, List.set_cons_succ]
      refine wpAnyH_take (i := 12) (v := ?v71) rfl (by kernel_rfl) (by kernel_rfl) (by kernel_rfl) (fun _ _ _ h => h) (Or.inl ⟨by rfl, ?hy71⟩) hHeld ?rest71
      case hy71 => (intro w' hSw; (try dsimp only at hSw); first | (go_simp; done) | (go_simp; with_reducible rfl))
      simp only [Act.put, List.getElem_toArray, List.getElem_cons_zero, List.getElem_cons_succ, List.setIfInBounds_toArray, List.set_cons_zero, List.set_cons_succ]
      refine wpAnyH_ready (rs := [13]) (by kernel_rfl) (by simp) ?_
      refine AllReadyH.cons rfl (fun K hK => ?_) AllReadyH.nil
      go_simp
      refine (implOrder hv.k hv.n hv.s hi.k hi.n hi.s _).mono ?_
      rintro e w8 ⟨rfl, hb8⟩
      rw [HV2.out]
      go_wp2_with fail
      refine hK.out _ _ (keepR10 hHeld hb8) (fun hHeld => ?_)
      clear hK K
      (try simp only [Act.put, List.getElem_toArray, List.getElem_cons_zero, List.getElem_cons_succ, List.setIfInBounds_toArray, List.set_cons_zero, List.set_cons_succ])
      refine wpAnyH_take (i := 14) (v := ?v72) rfl (by kernel_rfl) (by kernel_rfl) (by kernel_rfl) (fun _ _ _ h => h) (Or.inl ⟨by rfl, ?hy72⟩) hHeld ?rest72
      case hy72 => (intro w' hSw; (try dsimp only at hSw); first | (go_simp; done) | (go_simp; with_reducible rfl))
      simp only [Act.put, List.getElem_toArray, List.getElem_cons_zero, List.getElem_cons_succ, List.setIfInBounds_toArray, List.set_cons_zero, List.set_cons_succ]
      refine wpAnyH_take (i := 15) (v := ?v73) rfl (by kernel_rfl) (by kernel_rfl) (by kernel_rfl) (fun _ _ _ h => h) (Or.inl ⟨by rfl, ?hy73⟩) hHeld ?rest73
      case hy73 => (intro w' hSw; (try dsimp only at hSw); first | (go_simp; done) | (go_simp; with_reducible rfl))
      simp only [Act.put, List.getElem_toArray, List.getElem_cons_zero, List.getElem_cons_succ, List.setIfInBounds_toArray, List.set_cons_zero, List.set_cons_succ]
      refine wpAnyH_done (by kernel_rfl) ?_ _
      refine NoPanic.normal ?_
      clear hHeld
      have hbB : Below zx.heap.size zx w8 := (show Below zx.heap.size zx w9 from (Below.refl _ zx).drew.trans hb9).trans (hb8.mono hb9.size)
      have HO9 := Lib.hid (HOX.out.below hbB)
      have RL9 := Lib.hid (HRL.out.below hbB)
      have RH9 := Lib.hid (HRH.out.below hbB)
      have HS9 := Lib.hid (Nat.le_trans HSZZ.out hbB.size)
      have hbq := hbx.trans (hbB.mono hbx.size)
      go_wp2_with fail
      go_roundw
      case rel => exact ⟨k + 1, by omega, by go_num, Lib.hid (by rw [HN.out]; exact HO9.out), RL9, RH9, HS9, hbq⟩
      case measure => simp [intOf]; omega
    have z2 : decide (v2 ≤ 0) = true := decide_eq_true h2
    have HN := Lib.hid (HYES.out (by rw [HIV.out, z1, z2]; rfl))
    clear h1 h2
    refine wp_region_noPanic ?_
    refine wp_region_held_drew (S := fun w' => w'.cell? ⟨wr.heap.size, 0, none⟩ = some (.slice (some ⟨b2, o2, none⟩) l[k].key.length c1) ∧ w'.cell? ⟨b2, o2, none⟩ = some (.int .i64 hv.k) ∧ w'.cell? ⟨b2, o2 + 1, none⟩ = some (.int .i64 hv.n) ∧ w'.cell? ⟨b2, o2 + 2, none⟩ = some (.string hv.s) ∧ w'.cell? ⟨w.heap.size, 0, none⟩ = some (.int .i64 lo.k) ∧ w'.cell? ⟨w.heap.size, 1, none⟩ = some (.int .i64 lo.n) ∧ w'.cell? ⟨w.heap.size, 2, none⟩ = some (.string lo.s) ∧ w'.cell? ⟨w.heap.size + 1, 0, none⟩ = some (.int .i64 hi.k) ∧ w'.cell? ⟨w.heap.size + 1, 1, none⟩ = some (.int .i64 hi.n) ∧ w'.cell? ⟨w.heap.size + 1, 2, none⟩ = some (.string hi.s)) (by kernel_rfl) D.out (fun hHeld => ?_)
    refine wpAnyH_take (i := 0) (v := ?v74) rfl (by kernel_rfl) (by kernel_rfl) (by kernel_rfl) (fun _ _ _ h => h) (Or.inl ⟨by rfl, ?hy74⟩) hHeld ?rest74
    case hy74 => (intro w' hSw; (try dsimp only at hSw); first | (go_simp; done) | (go_simp; with_reducible rfl))
    simp only [Act.put, List.getElem_toArray, List.getElem_cons_zero, List.getElem_cons_succ, List.setIfInBounds_toArray, List.set_cons_zero, List.set_cons_succ]
    refine wpAnyH_take (i := 1) (v := ?v75) rfl (by kernel_rfl) (by kernel_rfl) (by kernel_rfl) (fun _ _ _ h => h) (Or.inl ⟨by rfl, ?hy75⟩) hHeld ?rest75
    case hy75 => (intro w' hSw; (try dsimp only at hSw); first | (go_simp; done) | (go_simp; with_reducible rfl))
    simp only [Act.put, List.getElem_toArray, List.getElem_cons_zero, List.getElem_cons_succ, List.setIfInBounds_toArray, List.set_cons_zero, List.set_cons_succ]
    refine wpAnyH_take (i := 2) (v := ?v76) rfl (by kernel_rfl) (by kernel_rfl) (by kernel_rfl) (fun _ _ _ h => h) (Or.inl ⟨by rfl, ?hy76⟩) hHeld ?rest76
    case hy76 => (intro w' hSw; (try dsimp only at hSw); first | (go_simp; done) | (go_simp; with_reducible rfl))
    simp only [Act.put, List.getElem_toArray, List.getElem_cons_zero, List.getElem_cons_succ, List.setIfInBounds_toArray, List.set_cons_zero, List.set_cons_succ]
    refine wpAnyH_take (i := 3) (v := ?v77) rfl (by kernel_rfl) (by kernel_rfl) (by kernel_rfl) (fun _ _ _ h => h) (Or.inl ⟨by rfl, ?hy77⟩) hHeld ?rest77
    case hy77 => (intro w' hSw; (try dsimp only at hSw); first | (go_simp; done) | (go_simp; with_reducible rfl))
    simp only [Act.put, List.getElem_toArray, List.getElem_cons_zero, List.getElem_cons_succ, List.setIfInBounds_toArray, List.set_cons_zero, List.set_cons_succ]
    refine wpAnyH_take (i := 4) (v := ?v78) rfl (by kernel_rfl) (by kernel_rfl) (by kernel_rfl) (fun _ _ _ h => h) (Or.inl ⟨by rfl, ?hy78⟩) hHeld ?rest78
    case hy78 => (intro w' hSw; (try dsimp only at hSw); first | (go_simp; done) | (go_simp; with_reducible rfl))
    simp only [Act.put, List.getElem_toArray, List.getElem_cons_zero, List.getElem_cons_succ, List.setIfInBounds_toArray, List.set_cons_zero, List.set_cons_succ]
    refine wpAnyH_ready (rs := [5]) (by kernel_rfl) (by simp) ?_
    refine AllReadyH.cons rfl (fun K hK => ?_) AllReadyH.nil
    go_simp
    refine (implOrder hv.k hv.n hv.s lo.k lo.n lo.s _).mono ?_
    rintro e w9 ⟨rfl, hb9⟩
    rw [HV1.out]
    go_wp2_with fail
    refine hK.out _ _ (keepR10 hHeld hb9) (fun hHeld => ?_)
    clear hK K
    (try simp only [Act.put, List.getElem_toArray, List.getElem_cons_zero, List.getElem_cons_succ, List.setIfInBounds_toArray, List.set_cons_zero, List.set_cons_succ])
    refine wpAnyH_take (i := 6) (v := ?v79) rfl (by kernel_rfl) (by kernel_rfl) (by kernel_rfl) (fun _ _ _ h => h) (Or.inl ⟨by rfl, ?hy79⟩) hHeld ?rest79
    case hy79 => (intro w' hSw; (try dsimp only at hSw); first | (go_simp; done) | (go_simp; with_reducible rfl))
    simp only [Act.put, List.getElem_toArray, List.getElem_cons_zero, List.getElem_cons_succ, List.setIfInBounds_toArray, List.set_cons_zero, List.set_cons_succ]
    refine wpAnyH_take (i := 7) (v := ?v80) rfl (by kernel_rfl) (by kernel_rfl) (by kernel_rfl) (fun _ _ _ h => h) (Or.inl ⟨by rfl, ?hy80⟩) hHeld ?rest80
    case hy80 => (intro w' hSw; (try dsimp only at hSw); first | (go_simp; done) | (go_simp; with_reducible rfl))
    simp only [Act.put, List.getElem_toArray, List.getElem_cons_zero, List.getElem_cons_succ, List.setIfInBounds_toArray, List.set_cons_zero, List.set_cons_succ]
    refine wpAnyH_take (i := 8) (v := ?v81) rfl (by kernel_rfl) (by kernel_rfl) (by kernel_rfl) (fun _ _ _ h => h) (Or.inl ⟨by rfl, ?hy81⟩) hHeld ?rest81
    case hy81 => (intro w' hSw; (try dsimp only at hSw); first | (go_simp; done) | (go_simp; with_reducible rfl))
    simp only [Act.put, List.getElem_toArray, List.getElem_cons_zero, List.getElem_cons_succ, List.setIfInBounds_toArray, List.set_cons_zero, List.set_cons_succ]
    refine wpAnyH_take (i := 9) (v := ?v82) rfl (by kernel_rfl) (by kernel_rfl) (by kernel_rfl) (fun _ _ _ h => h) (Or.inl ⟨by rfl, ?hy82⟩) hHeld ?rest82
    case hy82 => (intro w' hSw; (try dsimp only at hSw); first | (go_simp; done) | (go_simp; with_reducible rfl))
    simp only [Act.put, List.getElem_toArray, List.getElem_cons_zero, List.getElem_cons_succ, List.setIfInBounds_toArray, List.set_cons_zero, List.set_cons_succ]
    refine wpAnyH_take (i := 10) (v := ?v83) rfl (by kernel_rfl) (by kernel_rfl) (by kernel_rfl) (fun _ _ _ h => h) (Or.inl ⟨by rfl, ?hy83⟩) hHeld ?rest83
    case hy83 => (intro w' hSw; (try dsimp only at hSw); first | (go_simp; done) | (go_simp; with_reducible rfl))
    simp only [Act.put, List.getElem_toArray, List.getElem_cons_zero, List.getElem_cons_succ, List.setIfInBounds_toArray, List.set_cons_zero, List.set_cons_succ]
    refine wpAnyH_take (i := 11) (v := ?v84) rfl (by kernel_rfl) (by kernel_rfl) (by kernel_rfl) (fun _ _ _ h => h) (Or.inl ⟨by rfl, ?hy84⟩) hHeld ?rest84
    case hy84 => (intro w' hSw; (try dsimp only at hSw); first | (go_simp; done) | (go_simp; with_reducible rfl))
    simp only [Act.put, List.getElem_toArray, List.getElem_cons_zero, List.getElem_cons_succ, List.setIfInBounds_toArray, List.set_cons_zero, List.set_cons_succ]
    refine wpAnyH_take (i := 12) (v := ?v85) rfl (by kernel_rfl) (by kernel_rfl) (by kernel_rfl) (fun _ _ _ h => h) (Or.inl ⟨by rfl, ?hy85⟩) hHeld ?rest85
    case hy85 => (intro w' hSw; (try dsimp only at hSw); first | (go_simp; done) | (go_simp; with_reducible rfl))
    simp only [Act.put, List.getElem_toArray, List.getElem_cons_zero, List.getElem_cons_succ, List.setIfInBounds_toArray, List.set_cons_zero, List.set_cons_succ]
    refine wpAnyH_ready (rs := [13]) (by kernel_rfl) (by simp) ?_
    refine AllReadyH.cons rfl (fun K hK => ?_) AllReadyH.nil
    go_simp
    refine (implOrder hv.k hv.n hv.s hi.k hi.n hi.s _).mono ?_
    rintro e w8 ⟨rfl, hb8⟩
    rw [HV2.out]
    go_wp2_with fail
    refine hK.out _ _ (keepR10 hHeld hb8) (fun hHeld => ?_)
    clear hK K
    (try simp only [Act.put, List.getElem_toArray, List.getElem_cons_zero, List.getElem_cons_succ, List.setIfInBounds_toArray, List.set_cons_zero, List.set_cons_succ])
    refine wpAnyH_take (i := 14) (v := ?v86) rfl (by kernel_rfl) (by kernel_rfl) (by kernel_rfl) (fun _ _ _ h => h) (Or.inl ⟨by rfl, ?hy86⟩) hHeld ?rest86
    case hy86 => (intro w' hSw; (try dsimp only at hSw); first | (go_simp; done) | (go_simp; with_reducible rfl))
    simp only [Act.put, List.getElem_toArray, List.getElem_cons_zero, List.getElem_cons_succ, List.setIfInBounds_toArray, List.set_cons_zero, List.set_cons_succ]
    refine wpAnyH_take (i := 15) (v := ?v87) rfl (by kernel_rfl) (by kernel_rfl) (by kernel_rfl) (fun _ _ _ h => h) (Or.inl ⟨by rfl, ?hy87⟩) hHeld ?rest87
    case hy87 => (intro w' hSw; (try dsimp only at hSw); first | (go_simp; done) | (go_simp; with_reducible rfl))
    simp only [Act.put, List.getElem_toArray, List.getElem_cons_zero, List.getElem_cons_succ, List.setIfInBounds_toArray, List.set_cons_zero, List.set_cons_succ]
    refine wpAnyH_done (by kernel_rfl) ?_ _
    refine NoPanic.normal ?_
    clear hHeld
    have hbB : Below zx.heap.size zx w8 := (show Below zx.heap.size zx w9 from (Below.refl _ zx).drew.trans hb9).trans (hb8.mono hb9.size)
    have hoz := Lib.hid (HOX.out.below hbB)
    have RL9 := Lib.hid (HRL.out.below hbB)
    have RH9 := Lib.hid (HRH.out.below hbB)
    have HS9 := Lib.hid (Nat.le_trans HSZZ.out hbB.size)
    obtain ⟨⟨y0, y1⟩, -⟩ := (HRX.out.below hbB).all2
    have hbq := hbx.trans (hbB.mono hbx.size)
    clear hbB hb9 hb8 HOX HRL HRH
    generalize hgv : rangeL lo hi (l.take k) = xs at *
    have HGV := Lib.hid hgv
    clear hgv
    go_wp2_with (at_builtin; refine wpList_append_own _ rfl _ _ 27 rfl (w.heap.size + 2) 2 i0 (.int .i64 0) 1 8 Try.underlying27 H1.out H2.out H3.out H4.out rfl (by decide) _ _ _ rfl (World.ownsRow.alloc hoz.out _) ⟨w8.heap.size, 0, none⟩ 1 1 [.int .i64 l[k].id] rfl rfl ?c1 ?c2 ?c3 ?c4 ?c5 ?_)
    case c1 => exact cell_one_new _ _ _
    case c2 => intro u hu; simp at hu; subst hu; rfl
    case c3 => have := HLEN.out; unfold maxLen; omega
    case c4 => have := HLEN.out; omega
    case c5 => have := HS9.out; simp; omega
    intro v' w4 hown4 hgrow _
    have R := Lib.hid (OwnI.app hoz.out HS9.out hown4 hgrow)
    clear hown4 hgrow hoz
    have RL4 := Lib.hid (RL9.out.lowE R.out.2 (by omega))
    have RH4 := Lib.hid (RH9.out.lowE R.out.2 (by omega))
    have HS4 := Lib.hid (Nat.le_trans HS9.out R.out.2.size)
    go_wp2_with fail
    go_roundw
    case rel => exact ⟨k + 1, by omega, by go_num, Lib.hid (by rw [HN.out]; exact R.out.1), RL4, RH4, HS4, hbq.trans (R.out.2.mono (by omega))⟩
    case measure => simp [intOf]; omega
def rangeK (l : List En) (lo hi : Vl) (k : Nat) : List Int := if rangeOk l lo hi then rangeL lo hi (l.take k) else []
theorem headV_ok {l : List En} {k : Nat} (h : entriesB l = true) (hk : k < l.length) : (headV l[k]).ok = true ∧ 0 < l[k].key.length := by
  have h1 := ((entriesB_in h).2.1 l[k] (List.getElem_mem hk)).1
  have h2 := rowB_all (entryB_row h1)
  unfold entryB at h1
  simp only [Bool.and_eq_true, decide_eq_true_eq] at h1
  have hp : 0 < l[k].key.length := by omega
  exact ⟨by rw [← headV_at hp]; exact h2 _ (List.getElem_mem hp), hp⟩

set_option maxRecDepth 100000 in
set_option maxHeartbeats 8000000 in
theorem specRange (A : Option Addr) (n c : Nat) (l : List En) (lo hi : Vl) (ok : Nat → Prop) (w : World) (h : Sl EnR 2 ok w A n l) (hn : n ≤ 1048576) (hk : ∀ e ∈ l, e.key.length ≤ 1048576) :
    Calls Try.prog 8 #[.slice A n c, .agg #[.int .i64 lo.k, .int .i64 lo.n, .string lo.s], .agg #[.int .i64 hi.k, .int .i64 hi.n, .string hi.s]] w (MadeN (rangeB l lo hi) w) := by
  obtain rfl : l.length = n := h.1
  have HK := Lib.hid hk
  obtain ⟨i0, hi', hz0, hz1, hz2⟩ := info_parts infoIntI
  have H1 := Lib.hid hi'
  have H2 := Lib.hid hz0
  have H3 := Lib.hid hz1
  have H4 := Lib.hid hz2
  clear hk hi' hz0 hz1 hz2
  have hb0 := (chain2 w (.cells #[.int .i64 lo.k, .int .i64 lo.n, .string lo.s] 31) (.cells #[.int .i64 hi.k, .int .i64 hi.n, .string hi.s] 31)).alloc (by simp; omega) (.cells #[] 2)
  have hr := two_rows w 31 #[.int .i64 lo.k, .int .i64 lo.n, .string lo.s] #[.int .i64 hi.k, .int .i64 hi.n, .string hi.s]
  have RL := Lib.hid (hr.1.alloc (.cells #[] 2))
  have RH := Lib.hid (hr.2.alloc (.cells #[] 2))
  have ho0 : Hid (OwnI (((w.alloc (.cells #[.int .i64 lo.k, .int .i64 lo.n, .string lo.s] 31)).alloc (.cells #[.int .i64 hi.k, .int .i64 hi.n, .string hi.s] 31)).alloc (.cells #[] 2)) (w.heap.size + 2) (.slice (some ⟨w.heap.size + 2, 0, none⟩) 0 0) (rangeK l lo hi 0)) := by
    have h := OwnI.lit ((w.alloc (.cells #[.int .i64 lo.k, .int .i64 lo.n, .string lo.s] 31)).alloc (.cells #[.int .i64 hi.k, .int .i64 hi.n, .string hi.s] 31)) (base := w.heap.size + 2) (by simp)
    have e : ((w.alloc (.cells #[.int .i64 lo.k, .int .i64 lo.n, .string lo.s] 31)).alloc (.cells #[.int .i64 hi.k, .int .i64 hi.n, .string hi.s] 31)).heap.size = w.heap.size + 2 := by simp
    rw [e] at h
    have e2 : rangeK l lo hi 0 = [] := by unfold rangeK rangeL; split <;> simp
    rw [e2]
    exact Lib.hid h
  have hx0 : w.heap.size + 2 ≤ (((w.alloc (.cells #[.int .i64 lo.k, .int .i64 lo.n, .string lo.s] 31)).alloc (.cells #[.int .i64 hi.k, .int .i64 hi.n, .string hi.s] 31)).alloc (.cells #[] 2)).heap.size := by simp
  have HX0 := Lib.hid hx0
  clear hr hx0
  go_enter Try.func8, Try.ntmps8
  go_wp2_with fail
  generalize ((w.alloc (.cells #[.int .i64 lo.k, .int .i64 lo.n, .string lo.s] 31)).alloc (.cells #[.int .i64 hi.k, .int .i64 hi.n, .string hi.s] 31)).alloc (.cells #[] 2) = z0 at *
  go_loopw [7, 8] (fun v i wr => ∃ k : Nat, i = .int .i64 k ∧ Hid (k ≤ l.length) ∧ Hid (OwnI wr (w.heap.size + 2) v (rangeK l lo hi k)) ∧ Hid (Row wr w.heap.size 31 #[.int .i64 lo.k, .int .i64 lo.n, .string lo.s]) ∧ Hid (Row wr (w.heap.size + 1) 31 #[.int .i64 hi.k, .int .i64 hi.n, .string hi.s]) ∧ Hid (w.heap.size + 2 ≤ wr.heap.size) ∧ Below w.heap.size w wr) (fun _ i _ => l.length - (intOf i).toNat)
  case atStart => exact ⟨0, rfl, Lib.hid (by omega), ho0, RL, RH, HX0, hb0⟩
  case round =>
    clear hb0
    obtain ⟨k, rfl, hkl, hown, hrl, hrh, hszr, hb⟩ := hrel
    go_wp2_with fail
    refine (specL11Right A l.length c l _ _ (h.below EnR.stays hb) hn HK.out).mono ?_
    rintro e w1 ⟨rfl, hb1⟩
    have hbz1 := hb.trans (hb1.mono hb.size)
    have RL1 := Lib.hid (hrl.out.below hb1)
    have RH1 := Lib.hid (hrh.out.below hb1)
    have HSZ1 := Lib.hid (Nat.le_trans hszr.out hb1.size)
    have HOW1 := Lib.hid (hown.out.below hb1)
    obtain ⟨⟨p0, p1, p2⟩, -⟩ := RL1.out.three
    clear hb hb1 hrl hrh hszr hown
    cases he : entriesB l
    · have HR := Lib.hid (show rangeB l lo hi = [] by unfold rangeB rangeOk; rw [he]; rfl)
      have HKN := Lib.hid (show rangeK l lo hi k = [] by unfold rangeK rangeOk; rw [he]; rfl)
      obtain ⟨AO, cO, rfl, hcO, hcm, hsl⟩ := HOW1.out.sl
      have HS := Lib.hid (hsl.stays IntR.stays (ok' := okF w.heap.size w1) (fun b hb => hb.mono (by omega)) (fun p v _ hp => hp))
      clear he HOW1 hsl
      go_wp2_with fail
      go_ret
      exact ⟨AO, cO, by rw [HR.out, HKN.out]; rfl, by rw [HR.out]; rw [HKN.out] at hcO; exact hcO, by rw [HR.out]; have := HS.out; rw [HKN.out] at this; exact this, hbz1⟩
    have HE := Lib.hid he
    clear he
    go_wp2_with fail
    refine (specValOk lo.k lo.n lo.s _).mono ?_
    rintro e w2 ⟨rfl, hb2⟩
    have hbz2 := hbz1.trans (hb2.mono hbz1.size)
    have RL2 := Lib.hid (RL1.out.below hb2)
    have RH2 := Lib.hid (RH1.out.below hb2)
    have HSZ2 := Lib.hid (Nat.le_trans HSZ1.out hb2.size)
    have HOW2 := Lib.hid (HOW1.out.below hb2)
    clear p0 p1 p2 hbz1 hb2 HOW1
    obtain ⟨⟨s0, s1, s2⟩, -⟩ := RH2.out.three
    cases hl : valOkB lo.k lo.n lo.s
    · have HR := Lib.hid (show rangeB l lo hi = [] by unfold rangeB rangeOk Vl.ok; rw [hl]; simp)
      have HKN := Lib.hid (show rangeK l lo hi k = [] by unfold rangeK rangeOk Vl.ok; rw [hl]; simp)
      obtain ⟨AO, cO, rfl, hcO, hcm, hsl⟩ := HOW2.out.sl
      have HS := Lib.hid (hsl.stays IntR.stays (ok' := okF w.heap.size w2) (fun b hb => hb.mono (by omega)) (fun p v _ hp => hp))
      clear hl HOW2 hsl
      go_wp2_with fail
      go_ret
      exact ⟨AO, cO, by rw [HR.out, HKN.out]; rfl, by rw [HR.out]; rw [HKN.out] at hcO; exact hcO, by rw [HR.out]; have := HS.out; rw [HKN.out] at this; exact this, hbz2⟩
    have HL := Lib.hid hl
    clear hl
    go_wp2_with fail
    refine (specValOk hi.k hi.n hi.s _).mono ?_
    rintro e w3 ⟨rfl, hb3⟩
    have hbz3 := hbz2.trans (hb3.mono hbz2.size)
    have RL3 := Lib.hid (RL2.out.below hb3)
    have RH3 := Lib.hid (RH2.out.below hb3)
    have HSZ3 := Lib.hid (Nat.le_trans HSZ2.out hb3.size)
    have HOW3 := Lib.hid (HOW2.out.below hb3)
    clear s0 s1 s2 hbz2 hb3 HOW2
    cases hh : valOkB hi.k hi.n hi.s
    · have HR := Lib.hid (show rangeB l lo hi = [] by unfold rangeB rangeOk Vl.ok; rw [hh]; simp)
      have HKN := Lib.hid (show rangeK l lo hi k = [] by unfold rangeK rangeOk Vl.ok; rw [hh]; simp)
      obtain ⟨AO, cO, rfl, hcO, hcm, hsl⟩ := HOW3.out.sl
      have HS := Lib.hid (hsl.stays IntR.stays (ok' := okF w.heap.size w3) (fun b hb => hb.mono (by omega)) (fun p v _ hp => hp))
      clear hh HOW3 hsl
      go_wp2_with fail
      go_ret
      exact ⟨AO, cO, by rw [HR.out, HKN.out]; rfl, by rw [HR.out]; rw [HKN.out] at hcO; exact hcO, by rw [HR.out]; have := HS.out; rw [HKN.out] at this; exact this, hbz3⟩
    have HROK := Lib.hid (show rangeOk l lo hi = true by unfold rangeOk Vl.ok; rw [HE.out, HL.out, hh]; rfl)
    have HHI := Lib.hid hh
    clear hh
    by_cases hlt : k < l.length
    case neg =>
      have z : decide (k < l.length) = false := decide_eq_false hlt
      have HKN := Lib.hid (show rangeK l lo hi k = rangeB l lo hi by
        unfold rangeK rangeB; rw [HROK.out, List.take_of_length_le (by omega)])
      obtain ⟨AO, cO, rfl, hcO, hcm, hsl⟩ := HOW3.out.sl
      have HS := Lib.hid (hsl.stays IntR.stays (ok' := okF w.heap.size w3) (fun b hb => hb.mono (by omega)) (fun p v _ hp => hp))
      clear HOW3 hsl
      go_wp2_with fail
      go_ret
      exact ⟨AO, cO, by rw [HKN.out]; rfl, by rw [HKN.out] at hcO; exact hcO, by have := HS.out; rw [HKN.out] at this; exact this, hbz3⟩
    have z : decide (k < l.length) = true := decide_eq_true hlt
    obtain ⟨b1, o1, A1, n1, c1, -, rfl, q0, q1, s1, -⟩ := EnR.at_ (h.below EnR.stays hbz3) (i := k) hlt
    have hl1 := s1.1
    obtain ⟨hvok, hpos⟩ := headV_ok HE.out hlt
    have hposn : 0 < n1 := by omega
    obtain ⟨b2, o2, -, rfl, g0, g1, g2⟩ := VlR.at_ s1 (i := 0) hpos
    have HIR := Lib.hid (show inR lo hi l[k] = (decide (0 ≤ ordX (headV l[k]) lo) && decide (ordX (headV l[k]) hi ≤ 0)) from rfl)
    have HYES := Lib.hid (show inR lo hi l[k] = true → rangeK l lo hi (k + 1) = rangeK l lo hi k ++ [l[k].id] from fun hh => by
      unfold rangeK; rw [HROK.out]; exact rangeL_yes hlt hh)
    have HNO := Lib.hid (show inR lo hi l[k] = false → rangeK l lo hi (k + 1) = rangeK l lo hi k from fun hh => by
      unfold rangeK; rw [HROK.out]; exact rangeL_no hlt hh)
    rw [headV_at hpos, Nat.zero_mul, Nat.add_zero] at g0 g1 g2
    have HLEN := Lib.hid (show (rangeK l lo hi k).length ≤ k by
      unfold rangeK; rw [HROK.out]; have := rangeL_len lo hi (l.take k); rw [List.length_take] at this; show (rangeL lo hi (l.take k)).length ≤ k; omega)
    generalize headV l[k] = hv at *
    have a0 : (0 : Int) ≤ k := by omega
    have a1 : (k : Int) < l.length := by omega
    have a2 : (0 : Int) < n1 := by omega
    have HVO := Lib.hid hvok
    clear hl1 hpos hvok
    obtain ⟨⟨p0, p1, p2⟩, -⟩ := RL3.out.three
    obtain ⟨⟨t0, t1, t2⟩, -⟩ := RH3.out.three
    have D := Lib.hid (show _ ∧ _ ∧ _ ∧ _ ∧ _ ∧ _ ∧ _ ∧ _ ∧ _ ∧ _ from ⟨q0, g0, g1, g2, p0, p1, p2, t0, t1, t2⟩)
    obtain ⟨v1, hv1⟩ : ∃ v, ordV lo.k lo.n lo.s hv.k hv.n hv.s = v := ⟨_, rfl⟩
    obtain ⟨v2, hv2⟩ : ∃ v, ordV hv.k hv.n hv.s hi.k hi.n hi.s = v := ⟨_, rfl⟩
    have HV1 := Lib.hid hv1
    have HV2 := Lib.hid hv2
    have HIV := Lib.hid (show inR lo hi l[k] = (decide (v1 ≤ 0) && decide (v2 ≤ 0)) by
      have e1 : v1 = -ordX hv lo := by rw [← hv1]; exact ordX_turn (x := lo) (y := hv) HL.out HVO.out
      have e2 : ordX hv hi = v2 := by rw [← hv2]; exact ordX_right HVO.out HHI.out
      rw [HIR.out, e2]
      congr 1
      rw [decide_eq_decide]; omega)
    have HQ1 := Lib.hid q1
    clear hv1 hv2 g0 g1 g2 p0 p1 p2 t0 t1 t2 s1 q0 q1
    go_wp2_with fail
    have hbd := hbz3.drew
    by_cases h1 : v1 ≤ 0
    case neg =>
      have z1 : decide (v1 ≤ 0) = false := decide_eq_false h1
      have HN := Lib.hid (HNO.out (by rw [HIV.out, z1]; rfl))
      have hkk := Lib.hid (show k + 1 ≤ l.length by omega)
      have hme : l.length - (k + 1) < l.length - k := by omega
      clear h1
      refine wp_region_noPanic ?_
      refine wp_region_held_drew (S := fun w' => w'.cell? ⟨b1, o1 + k * 2, none⟩ = some (.slice (some ⟨b2, o2, none⟩) n1 c1) ∧ w'.cell? ⟨b2, o2, none⟩ = some (.int .i64 hv.k) ∧ w'.cell? ⟨b2, o2 + 1, none⟩ = some (.int .i64 hv.n) ∧ w'.cell? ⟨b2, o2 + 2, none⟩ = some (.string hv.s) ∧ w'.cell? ⟨w.heap.size, 0, none⟩ = some (.int .i64 lo.k) ∧ w'.cell? ⟨w.heap.size, 1, none⟩ = some (.int .i64 lo.n) ∧ w'.cell? ⟨w.heap.size, 2, none⟩ = some (.string lo.s) ∧ w'.cell? ⟨w.heap.size + 1, 0, none⟩ = some (.int .i64 hi.k) ∧ w'.cell? ⟨w.heap.size + 1, 1, none⟩ = some (.int .i64 hi.n) ∧ w'.cell? ⟨w.heap.size + 1, 2, none⟩ = some (.string hi.s)) (by kernel_rfl) D.out (fun hHeld => ?_)
      refine wpAnyH_take (i := 0) (v := ?v1) rfl (by kernel_rfl) (by kernel_rfl) (by kernel_rfl) (fun _ _ _ h => h) (Or.inl ⟨by rfl, ?hy1⟩) hHeld ?rest1
      case hy1 => (intro w' hSw; (try dsimp only at hSw); first | (go_simp; done) | (go_simp; with_reducible rfl))
      simp only [Act.put, List.getElem_toArray, List.getElem_cons_zero, List.getElem_cons_succ, List.setIfInBounds_toArray, List.set_cons_zero, List.set_cons_succ]
      refine wpAnyH_take (i := 1) (v := ?v2) rfl (by kernel_rfl) (by kernel_rfl) (by kernel_rfl) (fun _ _ _ h => h) (Or.inl ⟨by rfl, ?hy2⟩) hHeld ?rest2
      case hy2 => (intro w' hSw; (try dsimp only at hSw); first | (go_simp; done) | (go_simp; with_reducible rfl))
      simp only [Act.put, List.getElem_toArray, List.getElem_cons_zero, List.getElem_cons_succ, List.setIfInBounds_toArray, List.set_cons_zero, List.set_cons_succ]
      refine wpAnyH_take (i := 2) (v := ?v3) rfl (by kernel_rfl) (by kernel_rfl) (by kernel_rfl) (fun _ _ _ h => h) (Or.inl ⟨by rfl, ?hy3⟩) hHeld ?rest3
      case hy3 => (intro w' hSw; (try dsimp only at hSw); first | (go_simp; done) | (go_simp; with_reducible rfl))
      simp only [Act.put, List.getElem_toArray, List.getElem_cons_zero, List.getElem_cons_succ, List.setIfInBounds_toArray, List.set_cons_zero, List.set_cons_succ]
      refine wpAnyH_take (i := 3) (v := ?v4) rfl (by kernel_rfl) (by kernel_rfl) (by kernel_rfl) (fun _ _ _ h => h) (Or.inl ⟨by rfl, ?hy4⟩) hHeld ?rest4
      case hy4 => (intro w' hSw; (try dsimp only at hSw); first | (go_simp; done) | (go_simp; with_reducible rfl))
      simp only [Act.put, List.getElem_toArray, List.getElem_cons_zero, List.getElem_cons_succ, List.setIfInBounds_toArray, List.set_cons_zero, List.set_cons_succ]
      refine wpAnyH_take (i := 4) (v := ?v5) rfl (by kernel_rfl) (by kernel_rfl) (by kernel_rfl) (fun _ _ _ h => h) (Or.inl ⟨by rfl, ?hy5⟩) hHeld ?rest5
      case hy5 => (intro w' hSw; (try dsimp only at hSw); first | (go_simp; done) | (go_simp; with_reducible rfl))
      simp only [Act.put, List.getElem_toArray, List.getElem_cons_zero, List.getElem_cons_succ, List.setIfInBounds_toArray, List.set_cons_zero, List.set_cons_succ]
      refine wpAnyH_take (i := 5) (v := ?v6) rfl (by kernel_rfl) (by kernel_rfl) (by kernel_rfl) (fun _ _ _ h => h) (Or.inl ⟨by rfl, ?hy6⟩) hHeld ?rest6
      case hy6 => (intro w' hSw; (try dsimp only at hSw); first | (go_simp; done) | (go_simp; with_reducible rfl))
      simp only [Act.put, List.getElem_toArray, List.getElem_cons_zero, List.getElem_cons_succ, List.setIfInBounds_toArray, List.set_cons_zero, List.set_cons_succ]
      refine wpAnyH_take (i := 6) (v := ?v7) rfl (by kernel_rfl) (by kernel_rfl) (by kernel_rfl) (fun _ _ _ h => h) (Or.inl ⟨by rfl, ?hy7⟩) hHeld ?rest7
      case hy7 => (intro w' hSw; (try dsimp only at hSw); first | (go_simp; done) | (go_simp; with_reducible rfl))
      simp only [Act.put, List.getElem_toArray, List.getElem_cons_zero, List.getElem_cons_succ, List.setIfInBounds_toArray, List.set_cons_zero, List.set_cons_succ]
      refine wpAnyH_take (i := 7) (v := ?v8) rfl (by kernel_rfl) (by kernel_rfl) (by kernel_rfl) (fun _ _ _ h => h) (Or.inl ⟨by rfl, ?hy8⟩) hHeld ?rest8
      case hy8 => (intro w' hSw; (try dsimp only at hSw); first | (go_simp; done) | (go_simp; with_reducible rfl))
      simp only [Act.put, List.getElem_toArray, List.getElem_cons_zero, List.getElem_cons_succ, List.setIfInBounds_toArray, List.set_cons_zero, List.set_cons_succ]
      refine wpAnyH_ready (rs := [8]) (by kernel_rfl) (by simp) ?_
      refine AllReadyH.cons rfl (fun K hK => ?_) AllReadyH.nil
      go_simp
      refine (specL1Order lo.k lo.n lo.s hv.k hv.n hv.s _).mono ?_
      rintro e w9 ⟨rfl, hb9⟩
      rw [HV1.out]
      go_wp2_with fail
      refine hK.out _ _ (keepR10 hHeld hb9) (fun hHeld => ?_)
      clear hK K
      (try simp only [Act.put, List.getElem_toArray, List.getElem_cons_zero, List.getElem_cons_succ, List.setIfInBounds_toArray, List.set_cons_zero, List.set_cons_succ])
      refine wpAnyH_take (i := 9) (v := ?v9) rfl (by kernel_rfl) (by kernel_rfl) (by kernel_rfl) (fun _ _ _ h => h) (Or.inl ⟨by rfl, ?hy9⟩) hHeld ?rest9
      case hy9 => (intro w' hSw; (try dsimp only at hSw); first | (go_simp; done) | (go_simp; with_reducible rfl))
      simp only [Act.put, List.getElem_toArray, List.getElem_cons_zero, List.getElem_cons_succ, List.setIfInBounds_toArray, List.set_cons_zero, List.set_cons_succ]
      refine wpAnyH_take (i := 10) (v := ?v10) rfl (by kernel_rfl) (by kernel_rfl) (by kernel_rfl) (fun _ _ _ h => h) (Or.inl ⟨by rfl, ?hy10⟩) hHeld ?rest10
      case hy10 => (intro w' hSw; (try dsimp only at hSw); first | (go_simp; done) | (go_simp; with_reducible rfl))
      simp only [Act.put, List.getElem_toArray, List.getElem_cons_zero, List.getElem_cons_succ, List.setIfInBounds_toArray, List.set_cons_zero, List.set_cons_succ]
      refine wpAnyH_take (i := 11) (v := undef) rfl (by kernel_rfl) (by kernel_rfl) (by kernel_rfl) (fun _ _ _ h => h) (Or.inr ⟨by rfl, rfl⟩) hHeld ?_
      simp only [Act.put, List.getElem_toArray, List.getElem_cons_zero, List.getElem_cons_succ, List.setIfInBounds_toArray, List.set_cons_zero, List.set_cons_succ]
      refine wpAnyH_take (i := 12) (v := undef) rfl (by kernel_rfl) (by kernel_rfl) (by kernel_rfl) (fun _ _ _ h => h) (Or.inr ⟨by rfl, rfl⟩) hHeld ?_
      simp only [Act.put, List.getElem_toArray, List.getElem_cons_zero, List.getElem_cons_succ, List.setIfInBounds_toArray, List.set_cons_zero, List.set_cons_succ]
      refine wpAnyH_take (i := 13) (v := undef) rfl (by kernel_rfl) (by kernel_rfl) (by kernel_rfl) (fun _ _ _ h => h) (Or.inr ⟨by rfl, rfl⟩) hHeld ?_
      simp only [Act.put, List.getElem_toArray, List.getElem_cons_zero, List.getElem_cons_succ, List.setIfInBounds_toArray, List.set_cons_zero, List.set_cons_succ]
      refine wpAnyH_take (i := 14) (v := undef) rfl (by kernel_rfl) (by kernel_rfl) (by kernel_rfl) (fun _ _ _ h => h) (Or.inr ⟨by rfl, rfl⟩) hHeld ?_
      simp only [Act.put, List.getElem_toArray, List.getElem_cons_zero, List.getElem_cons_succ, List.setIfInBounds_toArray, List.set_cons_zero, List.set_cons_succ]
      refine wpAnyH_take (i := 15) (v := undef) rfl (by kernel_rfl) (by kernel_rfl) (by kernel_rfl) (fun _ _ _ h => h) (Or.inr ⟨by rfl, rfl⟩) hHeld ?_
      simp only [Act.put, List.getElem_toArray, List.getElem_cons_zero, List.getElem_cons_succ, List.setIfInBounds_toArray, List.set_cons_zero, List.set_cons_succ]
      refine wpAnyH_take (i := 16) (v := undef) rfl (by kernel_rfl) (by kernel_rfl) (by kernel_rfl) (fun _ _ _ h => h) (Or.inr ⟨by rfl, rfl⟩) hHeld ?_
      simp only [Act.put, List.getElem_toArray, List.getElem_cons_zero, List.getElem_cons_succ, List.setIfInBounds_toArray, List.set_cons_zero, List.set_cons_succ]
      refine wpAnyH_take (i := 17) (v := undef) rfl (by kernel_rfl) (by kernel_rfl) (by kernel_rfl) (fun _ _ _ h => h) (Or.inr ⟨by rfl, rfl⟩) hHeld ?_
      simp only [Act.put, List.getElem_toArray, List.getElem_cons_zero, List.getElem_cons_succ, List.setIfInBounds_toArray, List.set_cons_zero, List.set_cons_succ]
      refine wpAnyH_take (i := 18) (v := undef) rfl (by kernel_rfl) (by kernel_rfl) (by kernel_rfl) (fun _ _ _ h => h) (Or.inr ⟨by rfl, rfl⟩) hHeld ?_
      simp only [Act.put, List.getElem_toArray, List.getElem_cons_zero, List.getElem_cons_succ, List.setIfInBounds_toArray, List.set_cons_zero, List.set_cons_succ]
      refine wpAnyH_take (i := 19) (v := undef) rfl (by kernel_rfl) (by kernel_rfl) (by kernel_rfl) (fun _ _ _ h => h) (Or.inr ⟨by rfl, rfl⟩) hHeld ?_
      simp only [Act.put, List.getElem_toArray, List.getElem_cons_zero, List.getElem_cons_succ, List.setIfInBounds_toArray, List.set_cons_zero, List.set_cons_succ]
      refine wpAnyH_take (i := 20) (v := undef) rfl (by kernel_rfl) (by kernel_rfl) (by kernel_rfl) (fun _ _ _ h => h) (Or.inr ⟨by rfl, rfl⟩) hHeld ?_
      simp only [Act.put, List.getElem_toArray, List.getElem_cons_zero, List.getElem_cons_succ, List.setIfInBounds_toArray, List.set_cons_zero, List.set_cons_succ]
      refine wpAnyH_take (i := 21) (v := ?v11) rfl (by kernel_rfl) (by kernel_rfl) (by kernel_rfl) (fun _ _ _ h => h) (Or.inl ⟨by rfl, ?hy11⟩) hHeld ?rest11
      case hy11 => (intro w' hSw; (try dsimp only at hSw); first | (go_simp; done) | (go_simp; with_reducible rfl))
      simp only [Act.put, List.getElem_toArray, List.getElem_cons_zero, List.getElem_cons_succ, List.setIfInBounds_toArray, List.set_cons_zero, List.set_cons_succ]
      refine wpAnyH_done (by kernel_rfl) ?_ _
      refine NoPanic.normal ?_
      clear hHeld
      have hbB : Below w3.heap.size w3 w9 := (Below.refl _ w3).drew.trans hb9
      have HO9 := Lib.hid (HOW3.out.below hbB)
      have RL9 := Lib.hid (RL3.out.below hbB)
      have RH9 := Lib.hid (RH3.out.below hbB)
      have HS9 := Lib.hid (Nat.le_trans HSZ3.out hbB.size)
      have hbq := hbz3.trans (hbB.mono hbz3.size)
      go_wp2_with fail
      go_roundw
      case rel => exact ⟨k + 1, by go_num, hkk, Lib.hid (by rw [HN.out]; exact HO9.out), RL9, RH9, HS9, hbq⟩
      case measure => simp [intOf]; omega
    have z1 : decide (v1 ≤ 0) = true := decide_eq_true h1
    by_cases h2 : v2 ≤ 0
    case neg =>
      have z2 : decide (v2 ≤ 0) = false := decide_eq_false h2
      have HN := Lib.hid (HNO.out (by rw [HIV.out, z2]; simp))
      have hkk := Lib.hid (show k + 1 ≤ l.length by omega)
      have hme : l.length - (k + 1) < l.length - k := by omega
      clear h1 h2
      refine wp_region_noPanic ?_
      refine wp_region_held_drew (S := fun w' => w'.cell? ⟨b1, o1 + k * 2, none⟩ = some (.slice (some ⟨b2, o2, none⟩) n1 c1) ∧ w'.cell? ⟨b2, o2, none⟩ = some (.int .i64 hv.k) ∧ w'.cell? ⟨b2, o2 + 1, none⟩ = some (.int .i64 hv.n) ∧ w'.cell? ⟨b2, o2 + 2, none⟩ = some (.string hv.s) ∧ w'.cell? ⟨w.heap.size, 0, none⟩ = some (.int .i64 lo.k) ∧ w'.cell? ⟨w.heap.size, 1, none⟩ = some (.int .i64 lo.n) ∧ w'.cell? ⟨w.heap.size, 2, none⟩ = some (.string lo.s) ∧ w'.cell? ⟨w.heap.size + 1, 0, none⟩ = some (.int .i64 hi.k) ∧ w'.cell? ⟨w.heap.size + 1, 1, none⟩ = some (.int .i64 hi.n) ∧ w'.cell? ⟨w.heap.size + 1, 2, none⟩ = some (.string hi.s)) (by kernel_rfl) D.out (fun hHeld => ?_)
      refine wpAnyH_take (i := 0) (v := ?v12) rfl (by kernel_rfl) (by kernel_rfl) (by kernel_rfl) (fun _ _ _ h => h) (Or.inl ⟨by rfl, ?hy12⟩) hHeld ?rest12
      case hy12 => (intro w' hSw; (try dsimp only at hSw); first | (go_simp; done) | (go_simp; with_reducible rfl))
      simp only [Act.put, List.getElem_toArray, List.getElem_cons_zero, List.getElem_cons_succ, List.setIfInBounds_toArray, List.set_cons_zero, List.set_cons_succ]
      refine wpAnyH_take (i := 1) (v := ?v13) rfl (by kernel_rfl) (by kernel_rfl) (by kernel_rfl) (fun _ _ _ h => h) (Or.inl ⟨by rfl, ?hy13⟩) hHeld ?rest13
      case hy13 => (intro w' hSw; (try dsimp only at hSw); first | (go_simp; done) | (go_simp; with_reducible rfl))
      simp only [Act.put, List.getElem_toArray, List.getElem_cons_zero, List.getElem_cons_succ, List.setIfInBounds_toArray, List.set_cons_zero, List.set_cons_succ]
      refine wpAnyH_take (i := 2) (v := ?v14) rfl (by kernel_rfl) (by kernel_rfl) (by kernel_rfl) (fun _ _ _ h => h) (Or.inl ⟨by rfl, ?hy14⟩) hHeld ?rest14
      case hy14 => (intro w' hSw; (try dsimp only at hSw); first | (go_simp; done) | (go_simp; with_reducible rfl))
      simp only [Act.put, List.getElem_toArray, List.getElem_cons_zero, List.getElem_cons_succ, List.setIfInBounds_toArray, List.set_cons_zero, List.set_cons_succ]
      refine wpAnyH_take (i := 3) (v := ?v15) rfl (by kernel_rfl) (by kernel_rfl) (by kernel_rfl) (fun _ _ _ h => h) (Or.inl ⟨by rfl, ?hy15⟩) hHeld ?rest15
      case hy15 => (intro w' hSw; (try dsimp only at hSw); first | (go_simp; done) | (go_simp; with_reducible rfl))
      simp only [Act.put, List.getElem_toArray, List.getElem_cons_zero, List.getElem_cons_succ, List.setIfInBounds_toArray, List.set_cons_zero, List.set_cons_succ]
      refine wpAnyH_take (i := 4) (v := ?v16) rfl (by kernel_rfl) (by kernel_rfl) (by kernel_rfl) (fun _ _ _ h => h) (Or.inl ⟨by rfl, ?hy16⟩) hHeld ?rest16
      case hy16 => (intro w' hSw; (try dsimp only at hSw); first | (go_simp; done) | (go_simp; with_reducible rfl))
      simp only [Act.put, List.getElem_toArray, List.getElem_cons_zero, List.getElem_cons_succ, List.setIfInBounds_toArray, List.set_cons_zero, List.set_cons_succ]
      refine wpAnyH_take (i := 5) (v := ?v17) rfl (by kernel_rfl) (by kernel_rfl) (by kernel_rfl) (fun _ _ _ h => h) (Or.inl ⟨by rfl, ?hy17⟩) hHeld ?rest17
      case hy17 => (intro w' hSw; (try dsimp only at hSw); first | (go_simp; done) | (go_simp; with_reducible rfl))
      simp only [Act.put, List.getElem_toArray, List.getElem_cons_zero, List.getElem_cons_succ, List.setIfInBounds_toArray, List.set_cons_zero, List.set_cons_succ]
      refine wpAnyH_take (i := 6) (v := ?v18) rfl (by kernel_rfl) (by kernel_rfl) (by kernel_rfl) (fun _ _ _ h => h) (Or.inl ⟨by rfl, ?hy18⟩) hHeld ?rest18
      case hy18 => (intro w' hSw; (try dsimp only at hSw); first | (go_simp; done) | (go_simp; with_reducible rfl))
      simp only [Act.put, List.getElem_toArray, List.getElem_cons_zero, List.getElem_cons_succ, List.setIfInBounds_toArray, List.set_cons_zero, List.set_cons_succ]
      refine wpAnyH_take (i := 7) (v := ?v19) rfl (by kernel_rfl) (by kernel_rfl) (by kernel_rfl) (fun _ _ _ h => h) (Or.inl ⟨by rfl, ?hy19⟩) hHeld ?rest19
      case hy19 => (intro w' hSw; (try dsimp only at hSw); first | (go_simp; done) | (go_simp; with_reducible rfl))
      simp only [Act.put, List.getElem_toArray, List.getElem_cons_zero, List.getElem_cons_succ, List.setIfInBounds_toArray, List.set_cons_zero, List.set_cons_succ]
      refine wpAnyH_ready (rs := [8]) (by kernel_rfl) (by simp) ?_
      refine AllReadyH.cons rfl (fun K hK => ?_) AllReadyH.nil
      go_simp
      refine (specL1Order lo.k lo.n lo.s hv.k hv.n hv.s _).mono ?_
      rintro e w9 ⟨rfl, hb9⟩
      rw [HV1.out]
      go_wp2_with fail
      refine hK.out _ _ (keepR10 hHeld hb9) (fun hHeld => ?_)
      clear hK K
      (try simp only [Act.put, List.getElem_toArray, List.getElem_cons_zero, List.getElem_cons_succ, List.setIfInBounds_toArray, List.set_cons_zero, List.set_cons_succ])
      refine wpAnyH_take (i := 9) (v := ?v20) rfl (by kernel_rfl) (by kernel_rfl) (by kernel_rfl) (fun _ _ _ h => h) (Or.inl ⟨by rfl, ?hy20⟩) hHeld ?rest20
      case hy20 => (intro w' hSw; (try dsimp only at hSw); first | (go_simp; done) | (go_simp; with_reducible rfl))
      simp only [Act.put, List.getElem_toArray, List.getElem_cons_zero, List.getElem_cons_succ, List.setIfInBounds_toArray, List.set_cons_zero, List.set_cons_succ]
      refine wpAnyH_take (i := 10) (v := ?v21) rfl (by kernel_rfl) (by kernel_rfl) (by kernel_rfl) (fun _ _ _ h => h) (Or.inl ⟨by rfl, ?hy21⟩) hHeld ?rest21
      case hy21 => (intro w' hSw; (try dsimp only at hSw); first | (go_simp; done) | (go_simp; with_reducible rfl))
      simp only [Act.put, List.getElem_toArray, List.getElem_cons_zero, List.getElem_cons_succ, List.setIfInBounds_toArray, List.set_cons_zero, List.set_cons_succ]
      refine wpAnyH_take (i := 11) (v := ?v22) rfl (by kernel_rfl) (by kernel_rfl) (by kernel_rfl) (fun _ _ _ h => h) (Or.inl ⟨by rfl, ?hy22⟩) hHeld ?rest22
      case hy22 => (intro w' hSw; (try dsimp only at hSw); first | (go_simp; done) | (go_simp; with_reducible rfl))
      simp only [Act.put, List.getElem_toArray, List.getElem_cons_zero, List.getElem_cons_succ, List.setIfInBounds_toArray, List.set_cons_zero, List.set_cons_succ]
      refine wpAnyH_take (i := 12) (v := ?v23) rfl (by kernel_rfl) (by kernel_rfl) (by kernel_rfl) (fun _ _ _ h => h) (Or.inl ⟨by rfl, ?hy23⟩) hHeld ?rest23
      case hy23 => (intro w' hSw; (try dsimp only at hSw); first | (go_simp; done) | (go_simp; with_reducible rfl))
      simp only [Act.put, List.getElem_toArray, List.getElem_cons_zero, List.getElem_cons_succ, List.setIfInBounds_toArray, List.set_cons_zero, List.set_cons_succ]
      refine wpAnyH_take (i := 13) (v := ?v24) rfl (by kernel_rfl) (by kernel_rfl) (by kernel_rfl) (fun _ _ _ h => h) (Or.inl ⟨by rfl, ?hy24⟩) hHeld ?rest24
      case hy24 => (intro w' hSw; (try dsimp only at hSw); first | (go_simp; done) | (go_simp; with_reducible rfl))
      simp only [Act.put, List.getElem_toArray, List.getElem_cons_zero, List.getElem_cons_succ, List.setIfInBounds_toArray, List.set_cons_zero, List.set_cons_succ]
      refine wpAnyH_take (i := 14) (v := ?v25) rfl (by kernel_rfl) (by kernel_rfl) (by kernel_rfl) (fun _ _ _ h => h) (Or.inl ⟨by rfl, ?hy25⟩) hHeld ?rest25
      case hy25 => (intro w' hSw; (try dsimp only at hSw); first | (go_simp; done) | (go_simp; with_reducible rfl))
      simp only [Act.put, List.getElem_toArray, List.getElem_cons_zero, List.getElem_cons_succ, List.setIfInBounds_toArray, List.set_cons_zero, List.set_cons_succ]
      refine wpAnyH_take (i := 15) (v := ?v26) rfl (by kernel_rfl) (by kernel_rfl) (by kernel_rfl) (fun _ _ _ h => h) (Or.inl ⟨by rfl, ?hy26⟩) hHeld ?rest26
      case hy26 => (intro w' hSw; (try dsimp only at hSw); first | (go_simp; done) | (go_simp; with_reducible rfl))
      simp only [Act.put, List.getElem_toArray, List.getElem_cons_zero, List.getElem_cons_succ, List.setIfInBounds_toArray, List.set_cons_zero, List.set_cons_succ]
      refine wpAnyH_take (i := 16) (v := ?v27) rfl (by kernel_rfl) (by kernel_rfl) (by kernel_rfl) (fun _ _ _ h => h) (Or.inl ⟨by rfl, ?hy27⟩) hHeld ?rest27
      case hy27 => (intro w' hSw; (try dsimp only at hSw); first | (go_simp; done) | (go_simp; with_reducible rfl))
      simp only [Act.put, List.getElem_toArray, List.getElem_cons_zero, List.getElem_cons_succ, List.setIfInBounds_toArray, List.set_cons_zero, List.set_cons_succ]
      refine wpAnyH_take (i := 17) (v := ?v28) rfl (by kernel_rfl) (by kernel_rfl) (by kernel_rfl) (fun _ _ _ h => h) (Or.inl ⟨by rfl, ?hy28⟩) hHeld ?rest28
      case hy28 => (intro w' hSw; (try dsimp only at hSw); first | (go_simp; done) | (go_simp; with_reducible rfl))
      simp only [Act.put, List.getElem_toArray, List.getElem_cons_zero, List.getElem_cons_succ, List.setIfInBounds_toArray, List.set_cons_zero, List.set_cons_succ]
      refine wpAnyH_take (i := 18) (v := ?v29) rfl (by kernel_rfl) (by kernel_rfl) (by kernel_rfl) (fun _ _ _ h => h) (Or.inl ⟨by rfl, ?hy29⟩) hHeld ?rest29
      case hy29 => (intro w' hSw; (try dsimp only at hSw); first | (go_simp; done) | (go_simp; with_reducible rfl))
      simp only [Act.put, List.getElem_toArray, List.getElem_cons_zero, List.getElem_cons_succ, List.setIfInBounds_toArray, List.set_cons_zero, List.set_cons_succ]
      refine wpAnyH_ready (rs := [19]) (by kernel_rfl) (by simp) ?_
      refine AllReadyH.cons rfl (fun K hK => ?_) AllReadyH.nil
      go_simp
      refine (specL1Order hv.k hv.n hv.s hi.k hi.n hi.s _).mono ?_
      rintro e w8 ⟨rfl, hb8⟩
      rw [HV2.out]
      go_wp2_with fail
      refine hK.out _ _ (keepR10 hHeld hb8) (fun hHeld => ?_)
      clear hK K
      (try simp only [Act.put, List.getElem_toArray, List.getElem_cons_zero, List.getElem_cons_succ, List.setIfInBounds_toArray, List.set_cons_zero, List.set_cons_succ])
      refine wpAnyH_take (i := 20) (v := ?v30) rfl (by kernel_rfl) (by kernel_rfl) (by kernel_rfl) (fun _ _ _ h => h) (Or.inl ⟨by rfl, ?hy30⟩) hHeld ?rest30
      case hy30 => (intro w' hSw; (try dsimp only at hSw); first | (go_simp; done) | (go_simp; with_reducible rfl))
      simp only [Act.put, List.getElem_toArray, List.getElem_cons_zero, List.getElem_cons_succ, List.setIfInBounds_toArray, List.set_cons_zero, List.set_cons_succ]
      refine wpAnyH_take (i := 21) (v := ?v31) rfl (by kernel_rfl) (by kernel_rfl) (by kernel_rfl) (fun _ _ _ h => h) (Or.inl ⟨by rfl, ?hy31⟩) hHeld ?rest31
      case hy31 => (intro w' hSw; (try dsimp only at hSw); first | (go_simp; done) | (go_simp; with_reducible rfl))
      simp only [Act.put, List.getElem_toArray, List.getElem_cons_zero, List.getElem_cons_succ, List.setIfInBounds_toArray, List.set_cons_zero, List.set_cons_succ]
      refine wpAnyH_done (by kernel_rfl) ?_ _
      refine NoPanic.normal ?_
      clear hHeld
      have hbB : Below w3.heap.size w3 w8 := ((Below.refl _ w3).drew.trans hb9).trans (hb8.mono hb9.size)
      have HO9 := Lib.hid (HOW3.out.below hbB)
      have RL9 := Lib.hid (RL3.out.below hbB)
      have RH9 := Lib.hid (RH3.out.below hbB)
      have HS9 := Lib.hid (Nat.le_trans HSZ3.out hbB.size)
      have hbq := hbz3.trans (hbB.mono hbz3.size)
      go_wp2_with fail
      go_roundw
      case rel => exact ⟨k + 1, by go_num, hkk, Lib.hid (by rw [HN.out]; exact HO9.out), RL9, RH9, HS9, hbq⟩
      case measure => simp [intOf]; omega
    have z2 : decide (v2 ≤ 0) = true := decide_eq_true h2
    have HN := Lib.hid (HYES.out (by rw [HIV.out, z1, z2]; rfl))
    have hkk := Lib.hid (show k + 1 ≤ l.length by omega)
    have hme : l.length - (k + 1) < l.length - k := by omega
    clear h1 h2
    refine wp_region_noPanic ?_
    refine wp_region_held_drew (S := fun w' => w'.cell? ⟨b1, o1 + k * 2, none⟩ = some (.slice (some ⟨b2, o2, none⟩) n1 c1) ∧ w'.cell? ⟨b2, o2, none⟩ = some (.int .i64 hv.k) ∧ w'.cell? ⟨b2, o2 + 1, none⟩ = some (.int .i64 hv.n) ∧ w'.cell? ⟨b2, o2 + 2, none⟩ = some (.string hv.s) ∧ w'.cell? ⟨w.heap.size, 0, none⟩ = some (.int .i64 lo.k) ∧ w'.cell? ⟨w.heap.size, 1, none⟩ = some (.int .i64 lo.n) ∧ w'.cell? ⟨w.heap.size, 2, none⟩ = some (.string lo.s) ∧ w'.cell? ⟨w.heap.size + 1, 0, none⟩ = some (.int .i64 hi.k) ∧ w'.cell? ⟨w.heap.size + 1, 1, none⟩ = some (.int .i64 hi.n) ∧ w'.cell? ⟨w.heap.size + 1, 2, none⟩ = some (.string hi.s)) (by kernel_rfl) D.out (fun hHeld => ?_)
    refine wpAnyH_take (i := 0) (v := ?v32) rfl (by kernel_rfl) (by kernel_rfl) (by kernel_rfl) (fun _ _ _ h => h) (Or.inl ⟨by rfl, ?hy32⟩) hHeld ?rest32
    case hy32 => (intro w' hSw; (try dsimp only at hSw); first | (go_simp; done) | (go_simp; with_reducible rfl))
    simp only [Act.put, List.getElem_toArray, List.getElem_cons_zero, List.getElem_cons_succ, List.setIfInBounds_toArray, List.set_cons_zero, List.set_cons_succ]
    refine wpAnyH_take (i := 1) (v := ?v33) rfl (by kernel_rfl) (by kernel_rfl) (by kernel_rfl) (fun _ _ _ h => h) (Or.inl ⟨by rfl, ?hy33⟩) hHeld ?rest33
    case hy33 => (intro w' hSw; (try dsimp only at hSw); first | (go_simp; done) | (go_simp; with_reducible rfl))
    simp only [Act.put, List.getElem_toArray, List.getElem_cons_zero, List.getElem_cons_succ, List.setIfInBounds_toArray, List.set_cons_zero, List.set_cons_succ]
    refine wpAnyH_take (i := 2) (v := ?v34) rfl (by kernel_rfl) (by kernel_rfl) (by kernel_rfl) (fun _ _ _ h => h) (Or.inl ⟨by rfl, ?hy34⟩) hHeld ?rest34
    case hy34 => (intro w' hSw; (try dsimp only at hSw); first | (go_simp; done) | (go_simp; with_reducible rfl))
    simp only [Act.put, List.getElem_toArray, List.getElem_cons_zero, List.getElem_cons_succ, List.setIfInBounds_toArray, List.set_cons_zero, List.set_cons_succ]
    refine wpAnyH_take (i := 3) (v := ?v35) rfl (by kernel_rfl) (by kernel_rfl) (by kernel_rfl) (fun _ _ _ h => h) (Or.inl ⟨by rfl, ?hy35⟩) hHeld ?rest35
    case hy35 => (intro w' hSw; (try dsimp only at hSw); first | (go_simp; done) | (go_simp; with_reducible rfl))
    simp only [Act.put, List.getElem_toArray, List.getElem_cons_zero, List.getElem_cons_succ, List.setIfInBounds_toArray, List.set_cons_zero, List.set_cons_succ]
    refine wpAnyH_take (i := 4) (v := ?v36) rfl (by kernel_rfl) (by kernel_rfl) (by kernel_rfl) (fun _ _ _ h => h) (Or.inl ⟨by rfl, ?hy36⟩) hHeld ?rest36
    case hy36 => (intro w' hSw; (try dsimp only at hSw); first | (go_simp; done) | (go_simp; with_reducible rfl))
    simp only [Act.put, List.getElem_toArray, List.getElem_cons_zero, List.getElem_cons_succ, List.setIfInBounds_toArray, List.set_cons_zero, List.set_cons_succ]
    refine wpAnyH_take (i := 5) (v := ?v37) rfl (by kernel_rfl) (by kernel_rfl) (by kernel_rfl) (fun _ _ _ h => h) (Or.inl ⟨by rfl, ?hy37⟩) hHeld ?rest37
    case hy37 => (intro w' hSw; (try dsimp only at hSw); first | (go_simp; done) | (go_simp; with_reducible rfl))
    simp only [Act.put, List.getElem_toArray, List.getElem_cons_zero, List.getElem_cons_succ, List.setIfInBounds_toArray, List.set_cons_zero, List.set_cons_succ]
    refine wpAnyH_take (i := 6) (v := ?v38) rfl (by kernel_rfl) (by kernel_rfl) (by kernel_rfl) (fun _ _ _ h => h) (Or.inl ⟨by rfl, ?hy38⟩) hHeld ?rest38
    case hy38 => (intro w' hSw; (try dsimp only at hSw); first | (go_simp; done) | (go_simp; with_reducible rfl))
    simp only [Act.put, List.getElem_toArray, List.getElem_cons_zero, List.getElem_cons_succ, List.setIfInBounds_toArray, List.set_cons_zero, List.set_cons_succ]
    refine wpAnyH_take (i := 7) (v := ?v39) rfl (by kernel_rfl) (by kernel_rfl) (by kernel_rfl) (fun _ _ _ h => h) (Or.inl ⟨by rfl, ?hy39⟩) hHeld ?rest39
    case hy39 => (intro w' hSw; (try dsimp only at hSw); first | (go_simp; done) | (go_simp; with_reducible rfl))
    simp only [Act.put, List.getElem_toArray, List.getElem_cons_zero, List.getElem_cons_succ, List.setIfInBounds_toArray, List.set_cons_zero, List.set_cons_succ]
    refine wpAnyH_ready (rs := [8]) (by kernel_rfl) (by simp) ?_
    refine AllReadyH.cons rfl (fun K hK => ?_) AllReadyH.nil
    go_simp
    refine (specL1Order lo.k lo.n lo.s hv.k hv.n hv.s _).mono ?_
    rintro e w9 ⟨rfl, hb9⟩
    rw [HV1.out]
    go_wp2_with fail
    refine hK.out _ _ (keepR10 hHeld hb9) (fun hHeld => ?_)
    clear hK K
    (try simp only [Act.put, List.getElem_toArray, List.getElem_cons_zero, List.getElem_cons_succ, List.setIfInBounds_toArray, List.set_cons_zero, List.set_cons_succ])
    refine wpAnyH_take (i := 9) (v := ?v40) rfl (by kernel_rfl) (by kernel_rfl) (by kernel_rfl) (fun _ _ _ h => h) (Or.inl ⟨by rfl, ?hy40⟩) hHeld ?rest40
    case hy40 => (intro w' hSw; (try dsimp only at hSw); first | (go_simp; done) | (go_simp; with_reducible rfl))
    simp only [Act.put, List.getElem_toArray, List.getElem_cons_zero, List.getElem_cons_succ, List.setIfInBounds_toArray, List.set_cons_zero, List.set_cons_succ]
    refine wpAnyH_take (i := 10) (v := ?v41) rfl (by kernel_rfl) (by kernel_rfl) (by kernel_rfl) (fun _ _ _ h => h) (Or.inl ⟨by rfl, ?hy41⟩) hHeld ?rest41
    case hy41 => (intro w' hSw; (try dsimp only at hSw); first | (go_simp; done) | (go_simp; with_reducible rfl))
    simp only [Act.put, List.getElem_toArray, List.getElem_cons_zero, List.getElem_cons_succ, List.setIfInBounds_toArray, List.set_cons_zero, List.set_cons_succ]
    refine wpAnyH_take (i := 11) (v := ?v42) rfl (by kernel_rfl) (by kernel_rfl) (by kernel_rfl) (fun _ _ _ h => h) (Or.inl ⟨by rfl, ?hy42⟩) hHeld ?rest42
    case hy42 => (intro w' hSw; (try dsimp only at hSw); first | (go_simp; done) | (go_simp; with_reducible rfl))
    simp only [Act.put, List.getElem_toArray, List.getElem_cons_zero, List.getElem_cons_succ, List.setIfInBounds_toArray, List.set_cons_zero, List.set_cons_succ]
    refine wpAnyH_take (i := 12) (v := ?v43) rfl (by kernel_rfl) (by kernel_rfl) (by kernel_rfl) (fun _ _ _ h => h) (Or.inl ⟨by rfl, ?hy43⟩) hHeld ?rest43
    case hy43 => (intro w' hSw; (try dsimp only at hSw); first | (go_simp; done) | (go_simp; with_reducible rfl))
    simp only [Act.put, List.getElem_toArray, List.getElem_cons_zero, List.getElem_cons_succ, List.setIfInBounds_toArray, List.set_cons_zero, List.set_cons_succ]
    refine wpAnyH_take (i := 13) (v := ?v44) rfl (by kernel_rfl) (by kernel_rfl) (by kernel_rfl) (fun _ _ _ h => h) (Or.inl ⟨by rfl, ?hy44⟩) hHeld ?rest44
    case hy44 => (intro w' hSw; (try dsimp only at hSw); first | (go_simp; done) | (go_simp; with_reducible rfl))
    simp only [Act.put, List.getElem_toArray, List.getElem_cons_zero, List.getElem_cons_succ, List.setIfInBounds_toArray, List.set_cons_zero, List.set_cons_succ]
    refine wpAnyH_take (i := 14) (v := ?v45) rfl (by kernel_rfl) (by kernel_rfl) (by kernel_rfl) (fun _ _ _ h => h) (Or.inl ⟨by rfl, ?hy45⟩) hHeld ?rest45
    case hy45 => (intro w' hSw; (try dsimp only at hSw); first | (go_simp; done) | (go_simp; with_reducible rfl))
    simp only [Act.put, List.getElem_toArray, List.getElem_cons_zero, List.getElem_cons_succ, List.setIfInBounds_toArray, List.set_cons_zero, List.set_cons_succ]
    refine wpAnyH_take (i := 15) (v := ?v46) rfl (by kernel_rfl) (by kernel_rfl) (by kernel_rfl) (fun _ _ _ h => h) (Or.inl ⟨by rfl, ?hy46⟩) hHeld ?rest46
    case hy46 => (intro w' hSw; (try dsimp only at hSw); first | (go_simp; done) | (go_simp; with_reducible rfl))
    simp only [Act.put, List.getElem_toArray, List.getElem_cons_zero, List.getElem_cons_succ, List.setIfInBounds_toArray, List.set_cons_zero, List.set_cons_succ]
    refine wpAnyH_take (i := 16) (v := ?v47) rfl (by kernel_rfl) (by kernel_rfl) (by kernel_rfl) (fun _ _ _ h => h) (Or.inl ⟨by rfl, ?hy47⟩) hHeld ?rest47
    case hy47 => (intro w' hSw; (try dsimp only at hSw); first | (go_simp; done) | (go_simp; with_reducible rfl))
    simp only [Act.put, List.getElem_toArray, List.getElem_cons_zero, List.getElem_cons_succ, List.setIfInBounds_toArray, List.set_cons_zero, List.set_cons_succ]
    refine wpAnyH_take (i := 17) (v := ?v48) rfl (by kernel_rfl) (by kernel_rfl) (by kernel_rfl) (fun _ _ _ h => h) (Or.inl ⟨by rfl, ?hy48⟩) hHeld ?rest48
    case hy48 => (intro w' hSw; (try dsimp only at hSw); first | (go_simp; done) | (go_simp; with_reducible rfl))
    simp only [Act.put, List.getElem_toArray, List.getElem_cons_zero, List.getElem_cons_succ, List.setIfInBounds_toArray, List.set_cons_zero, List.set_cons_succ]
    refine wpAnyH_take (i := 18) (v := ?v49) rfl (by kernel_rfl) (by kernel_rfl) (by kernel_rfl) (fun _ _ _ h => h) (Or.inl ⟨by rfl, ?hy49⟩) hHeld ?rest49
    case hy49 => (intro w' hSw; (try dsimp only at hSw); first | (go_simp; done) | (go_simp; with_reducible rfl))
    simp only [Act.put, List.getElem_toArray, List.getElem_cons_zero, List.getElem_cons_succ, List.setIfInBounds_toArray, List.set_cons_zero, List.set_cons_succ]
    refine wpAnyH_ready (rs := [19]) (by kernel_rfl) (by simp) ?_
    refine AllReadyH.cons rfl (fun K hK => ?_) AllReadyH.nil
    go_simp
    refine (specL1Order hv.k hv.n hv.s hi.k hi.n hi.s _).mono ?_
    rintro e w8 ⟨rfl, hb8⟩
    rw [HV2.out]
    go_wp2_with fail
    refine hK.out _ _ (keepR10 hHeld hb8) (fun hHeld => ?_)
    clear hK K
    (try simp only [Act.put, List.getElem_toArray, List.getElem_cons_zero, List.getElem_cons_succ, List.setIfInBounds_toArray, List.set_cons_zero, List.set_cons_succ])
    refine wpAnyH_take (i := 20) (v := ?v50) rfl (by kernel_rfl) (by kernel_rfl) (by kernel_rfl) (fun _ _ _ h => h) (Or.inl ⟨by rfl, ?hy50⟩) hHeld ?rest50
    case hy50 => (intro w' hSw; (try dsimp only at hSw); first | (go_simp; done) | (go_simp; with_reducible rfl))
    simp only [Act.put, List.getElem_toArray, List.getElem_cons_zero, List.getElem_cons_succ, List.setIfInBounds_toArray, List.set_cons_zero, List.set_cons_succ]
    refine wpAnyH_take (i := 21) (v := ?v51) rfl (by kernel_rfl) (by kernel_rfl) (by kernel_rfl) (fun _ _ _ h => h) (Or.inl ⟨by rfl, ?hy51⟩) hHeld ?rest51
    case hy51 => (intro w' hSw; (try dsimp only at hSw); first | (go_simp; done) | (go_simp; with_reducible rfl))
    simp only [Act.put, List.getElem_toArray, List.getElem_cons_zero, List.getElem_cons_succ, List.setIfInBounds_toArray, List.set_cons_zero, List.set_cons_succ]
    refine wpAnyH_done (by kernel_rfl) ?_ _
    refine NoPanic.normal ?_
    clear hHeld
    have hbB : Below w3.heap.size w3 w8 := ((Below.refl _ w3).drew.trans hb9).trans (hb8.mono hb9.size)
    have hoz := Lib.hid (HOW3.out.below hbB)
    have RL9 := Lib.hid (RL3.out.below hbB)
    have RH9 := Lib.hid (RH3.out.below hbB)
    have HS9 := Lib.hid (Nat.le_trans HSZ3.out hbB.size)
    have y1 := below_keep hbB _ _ HQ1.out
    have hbq := hbz3.trans (hbB.mono hbz3.size)
    have HKL := Lib.hid (show (rangeK l lo hi k).length ≤ 1048576 by have := HLEN.out; omega)
    clear hbB hb9 hb8 HOW3
    generalize hgv : rangeK l lo hi k = xs at *
    have HGV := Lib.hid hgv
    clear hgv
    go_wp2_with (at_builtin; refine wpList_append_own _ rfl _ _ 27 rfl (w.heap.size + 2) 2 i0 (.int .i64 0) 1 8 Try.underlying27 H1.out H2.out H3.out H4.out rfl (by decide) _ _ _ rfl (World.ownsRow.alloc hoz.out _) ⟨w8.heap.size, 0, none⟩ 1 1 [.int .i64 l[k].id] rfl rfl ?c1 ?c2 ?c3 ?c4 ?c5 ?_)
    case c1 => exact cell_one_new _ _ _
    case c2 => intro u hu; simp at hu; subst hu; rfl
    case c3 => have := HKL.out; unfold maxLen; omega
    case c4 => have := HKL.out; omega
    case c5 => have := HS9.out; simp; omega
    intro v' w4 hown4 hgrow _
    have R := Lib.hid (OwnI.app hoz.out HS9.out hown4 hgrow)
    clear hown4 hgrow hoz
    have RL4 := Lib.hid (RL9.out.lowE R.out.2 (by omega))
    have RH4 := Lib.hid (RH9.out.lowE R.out.2 (by omega))
    have HS4 := Lib.hid (Nat.le_trans HS9.out R.out.2.size)
    go_wp2_with fail
    go_roundw
    case rel => exact ⟨k + 1, by go_num, hkk, Lib.hid (by rw [HN.out]; exact R.out.1), RL4, RH4, HS4, hbq.trans (R.out.2.mono (by omega))⟩
    case measure => simp [intOf]; omega
end Go.Proofs.Ytoomnhfmlfmckaa
