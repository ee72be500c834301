/-
  Those that fire are of the table and of the event; one of both that asks nothing fires, unless nothing does (law FnFires, for every code).
-/
import Derived.Test.YteiifabdbkpkiaaGreatPa
import Derived.Test.YteiifabdbkpkiaaGreatPb
import Derived.Test.YteiifabdbkpkiaaGreatPc
import Derived.Test.YteiifabdbkpkiaaGreatPd
import Derived.Test.YteiifabdbkpkiaaGreatPe
import Derived.Test.YteiifabdbkpkiaaGreatPf
import Derived.Test.YteiifabdbkpkiaaGreatPg
import Derived.Test.YteiifabdbkpkiaaGreatPh
namespace Go.Proofs.YteiifabdbkpkiaaGreat.fnFires
open Go.ChangeShapes Go.WideShapes Go.ChangeAt Go.RowKit Go.Joins
open Go.ChangeMaps (open_string shut_string)
set_option linter.unusedSimpArgs false
set_option linter.unusedVariables false

set_option maxRecDepth 100000 in
set_option maxHeartbeats 8000000 in
theorem walk (a0 : Option Addr) (len0 cap0 : Nat) (z0 : List Int) (w : World) (w0 : IsRow .u8 w a0 len0 cap0 z0) :
    Calls Tryz.prog 3 #[.slice a0 len0 cap0] w fun e w' => e = .returned (.bool true) ∧ Below w.heap.size w w' := by
  by_cases hbig : (1048576 : Int) < len0
  · have hbg : decide ((1048576 : Int) < len0) = true := by simpa using hbig
    go_enter Tryz.func3, Tryz.ntmps3
    go_wp2_with fail
    refine (lawsBig a0 len0 cap0 w).mono ?_
    rintro e w' ⟨rfl, rfl⟩
    go_wp2
    go_ret
    exact ⟨rfl, Below.refl _ _⟩
  have hbg : decide ((1048576 : Int) < len0) = false := by simpa using hbig
  go_enter Tryz.func3, Tryz.ntmps3
  go_wp2_with fail
  refine (lawsBig a0 len0 cap0 w).mono ?_
  rintro e w' ⟨rfl, rfl⟩
  go_wp2_with fail
  refine (drawFires a0 len0 cap0 z0 _ w0).mono ?_
  rintro e w1 ⟨v1, rfl, ⟨ok, okl, oko, okn, A1, c1, ts, AL, cL, l, k, ev, AO, cO, old, AN, cN, now, rfl, hc1, hS, hL, hO, hN, hsk, hk, hll, hlz, hol, hnl⟩, hz⟩
  have hss : szL Tb.sz ts ≤ 1048576 := by have := hsk.sz; omega
  have hls : szL Tg.szN l ≤ 1048576 := by have := szL_le Tg.szN 1000 l hlz; omega
  have hl3 : ts.length ≤ 3 := hsk.2.1
  have HS := Lib.hid hS
  have HL := Lib.hid hL
  have HO := Lib.hid hO
  have HN := Lib.hid hN
  have HZ := Lib.hid (And.intro hss hls)
  clear hS hL hO hN hsk hlz hss hls
  obtain ⟨f, hf⟩ : ∃ f, firesL ts l (k : Int) ev old now = f := ⟨_, rfl⟩
  have hf6 : f.length ≤ 6 := by rw [← hf]; exact firesL_len ts l k ev old now
  have HFE := Lib.hid hf
  clear hf
  go_wp2_with fail
  refine (implFires A1 AL AO AN ts.length c1 l.length cL old.length cO now.length cN k ev ts l _ _ _ _ old now _ HS.out HL.out HZ.out.1 HZ.out.2 HO.out HN.out (by omega) (by omega)).mono ?_
  rintro e w2 ⟨v, rfl, hown, hq⟩
  rw [HFE.out] at hown
  obtain ⟨AF, cF, rfl, -, -, hF⟩ := hown.sl
  clear hown
  have HS := Lib.hid (HS.out.below TbR.stays hq)
  have HL := Lib.hid (HL.out.below TgR.stays hq)
  have HO := Lib.hid (HO.out.below VlR.stays hq)
  have HN := Lib.hid (HN.out.below VlR.stays hq)
  have hz := hz.trans (hq.mono hz.size)
  clear hq
  have HF := Lib.hid hF
  clear hF
  go_wp2_with fail
  refine (specFires A1 AL ts.length c1 l.length cL ts l _ _ k ev AO AN old.length cO now.length cN old now _ HS.out HL.out hc1 HZ.out.1 HZ.out.2 (Sl.cellz (fun _ => rfl) HO.out) (Sl.cellz (fun _ => rfl) HN.out) (by omega) (by omega)).mono ?_
  rintro e w3 ⟨v, rfl, hown, hq⟩
  rw [HFE.out] at hown
  obtain ⟨AG, cG, rfl, -, -, hG⟩ := hown.sl
  clear hown
  have HS := Lib.hid (HS.out.below TbR.stays hq)
  have HL := Lib.hid (HL.out.below TgR.stays hq)
  have HO := Lib.hid (HO.out.below VlR.stays hq)
  have HN := Lib.hid (HN.out.below VlR.stays hq)
  have HF := Lib.hid (HF.out.below IntR.stays hq)
  have hz := hz.trans (hq.mono hz.size)
  clear hq
  go_wp2_with fail
  refine (lawsSameInts AF AG f.length cF cG f _ _ _ HF.out hG (by omega)).mono ?_
  rintro e w4 ⟨rfl, hq⟩
  clear hG
  have HS := Lib.hid (HS.out.below TbR.stays hq)
  have HL := Lib.hid (HL.out.below TgR.stays hq)
  have HO := Lib.hid (HO.out.below VlR.stays hq)
  have HN := Lib.hid (HN.out.below VlR.stays hq)
  have HF := Lib.hid (HF.out.below IntR.stays hq)
  have hz := hz.trans (hq.mono hz.size)
  clear hq
  go_wp2_with fail
  refine (specTriggersOk A1 AL ts.length c1 l.length cL ts l _ _ _ HS.out HL.out hc1 HZ.out.1 HZ.out.2).mono ?_
  rintro e w5 ⟨rfl, hq⟩
  obtain ⟨tb, htb⟩ : ∃ b, triggersB ts l = b := ⟨_, rfl⟩
  rw [htb]
  clear htb
  have HS := Lib.hid (HS.out.below TbR.stays hq)
  have HL := Lib.hid (HL.out.below TgR.stays hq)
  have HO := Lib.hid (HO.out.below VlR.stays hq)
  have HN := Lib.hid (HN.out.below VlR.stays hq)
  have HF := Lib.hid (HF.out.below IntR.stays hq)
  have hz := hz.trans (hq.mono hz.size)
  clear hq
  cases tb
  case false =>
    go_wp2_with fail
    refine (specFires A1 AL ts.length c1 l.length cL ts l _ _ k ev AO AN old.length cO now.length cN old now _ HS.out HL.out hc1 HZ.out.1 HZ.out.2 (Sl.cellz (fun _ => rfl) HO.out) (Sl.cellz (fun _ => rfl) HN.out) (by omega) (by omega)).mono ?_
    rintro e w6 ⟨v, rfl, hown, hq⟩
    rw [HFE.out] at hown
    obtain ⟨AG, cG, rfl, -, -, hG⟩ := hown.sl
    clear hown
    have HS := Lib.hid (HS.out.below TbR.stays hq)
    have HL := Lib.hid (HL.out.below TgR.stays hq)
    have HO := Lib.hid (HO.out.below VlR.stays hq)
    have HN := Lib.hid (HN.out.below VlR.stays hq)
    have HF := Lib.hid (HF.out.below IntR.stays hq)
    have hz := hz.trans (hq.mono hz.size)
    clear hq
    go_wp2_with fail
    refine (lawsSameInts AF AG f.length cF cG f _ _ _ HF.out hG (by omega)).mono ?_
    rintro e w7 ⟨rfl, hq⟩
    clear hG
    have HS := Lib.hid (HS.out.below TbR.stays hq)
    have HL := Lib.hid (HL.out.below TgR.stays hq)
    have HO := Lib.hid (HO.out.below VlR.stays hq)
    have HN := Lib.hid (HN.out.below VlR.stays hq)
    have HF := Lib.hid (HF.out.below IntR.stays hq)
    have hz := hz.trans (hq.mono hz.size)
    clear hq
    go_wp2_with fail
    go_ret
    exact ⟨rfl, hz⟩
  have k0 : (0 : Int) ≤ k := by omega
  have k1 : (k : Int) < ts.length := by omega
  go_wp2_with fail
  go_loopw [10] (fun i wr => ∃ m : Nat, m ≤ l.length ∧ i = .int .i64 m ∧ Below w5.heap.size w5 wr) (fun i _ => l.length - (intOf i).toNat)
  case atStart => exact ⟨0, by omega, rfl, Below.refl _ _⟩
  case round =>
    obtain ⟨m, hm, rfl, hb⟩ := hrel
    by_cases hmt : m < l.length
    case neg =>
      have i1 : ¬ (m : Int) < l.length := by omega
      go_wp2_with fail
      go_ret
      exact ⟨rfl, hz.trans (hb.mono hz.size)⟩
    have i0 : (0 : Int) ≤ m := by omega
    have i1 : (m : Int) < l.length := by omega
    obtain ⟨bl, ol, C2, n2, d2, C4, n4, d4, -, eL, y0, y1, y2, -, -, h2, -, -⟩ := TgR.at_ (HL.out.below TgR.stays hb) hmt
    obtain ⟨bt, ot, B1, m1, d1, B2, m2, d2', B3, m3, d3, B4, m4, d4', B5, m5, d5, -, eT, t0, -⟩ := TbR.at_ (HS.out.below TbR.stays hb) hk
    cases eL
    cases eT
    obtain rfl : l[m].wher.length = n2 := h2.1
    clear h2
    have hfi := fires_if (l := l) (ev := ev) (old := old) (now := now) hk hmt (h := hasI f m) (f := (l[m].table.toList == ts[k].name.toList && l[m].event == ev)) (e := (((l[m].wher.length : Nat) : Int) == 0)) (by rw [HFE.out]) rfl rfl
    rw [HFE.out] at hfi
    obtain ⟨hx, hhx⟩ : ∃ b, hasI f m = b := ⟨_, rfl⟩
    have HHX := Lib.hid hhx
    rw [hhx] at hfi
    clear hhx
    obtain ⟨ez, hez⟩ : ∃ b, (((l[m].wher.length : Nat) : Int) == 0) = b := ⟨_, rfl⟩
    rw [hez] at hfi
    have hd0 := hb.drew
    go_upto_region 10 with fail
    cases ht : (l[m].table.toList == ts[k].name.toList)
    case false =>
      rw [ht, Bool.false_and] at hfi
      refine wp_region_noPanic ?_
      refine wp_region_held_drew (S := (fun w' => w'.cell? ⟨bl, ol + m * 5, none⟩ = some (.string l[m].table) ∧ w'.cell? ⟨bl, ol + m * 5 + 1, none⟩ = some (.int .i64 l[m].event) ∧ w'.cell? ⟨bt, ot + k * 6, none⟩ = some (.string ts[k].name))) (by kernel_rfl) ⟨y0, y1, t0⟩ (fun hHeld => ?_)
      refine tk 0 ?_
      refine tk 1 ?_
      refine tk 2 ?_
      refine tk 3 ?_
      refine tk 4 ?_
      refine tk 5 ?_
      refine tk 6 ?_
      refine tk 7 ?_
      refine tk 8 ?_
      refine tk 9 ?_
      refine tk 10 ?_
      refine tk 11 ?_
      refine tu 12 ?_
      refine tu 13 ?_
      refine tu 14 ?_
      refine tu 15 ?_
      refine tu 16 ?_
      refine tu 17 ?_
      refine tu 18 ?_
      refine tk 19 ?_
      refine tk 20 ?_
      refine wpAnyH_done (by kernel_rfl) ?_ _
      refine NoPanic.normal ?_
      clear hHeld
      have y2 : wr.drew.cell? ⟨bl, ol + m * 5 + 2, none⟩ = some (.slice C2 l[m].wher.length d2) := y2
      generalize wr.drew = ux at *
      clear y0 y1 t0
      go_wp2_with fail
      refine (lawsHas AF f.length cF f m _ _ (HF.out.below IntR.stays hd0) (by omega)).mono ?_
      rintro e w6 ⟨rfl, hq6⟩
      rw [HHX.out]
      have y2 := below_keep hq6 _ _ y2
      have hd1 := hd0.trans (hq6.mono hd0.size)
      cases hx
      · go_wp2_with fail
        go_roundw
        case rel => exact ⟨m + 1, by omega, by go_num, hd1⟩
        case measure => simp [intOf]; omega
      · have hfl := hfi rfl
        go_wp2_with fail
        go_ret
        exact ⟨by first | rfl | (rw [hfl]) | simpa using hfl, hz.trans (hd1.mono hz.size)⟩
    rw [ht, Bool.true_and] at hfi
    cases hv : (l[m].event == ev)
    case false =>
      rw [hv] at hfi
      refine wp_region_noPanic ?_
      refine wp_region_held_drew (S := (fun w' => w'.cell? ⟨bl, ol + m * 5, none⟩ = some (.string l[m].table) ∧ w'.cell? ⟨bl, ol + m * 5 + 1, none⟩ = some (.int .i64 l[m].event) ∧ w'.cell? ⟨bt, ot + k * 6, none⟩ = some (.string ts[k].name))) (by kernel_rfl) ⟨y0, y1, t0⟩ (fun hHeld => ?_)
      refine tk 0 ?_
      refine tk 1 ?_
      refine tk 2 ?_
      refine tk 3 ?_
      refine tk 4 ?_
      refine tk 5 ?_
      refine tk 6 ?_
      refine tk 7 ?_
      refine tk 8 ?_
      refine tk 9 ?_
      refine tk 10 ?_
      refine tk 11 ?_
      refine tk 12 ?_
      refine tk 13 ?_
      refine tk 14 ?_
      refine tk 15 ?_
      refine tk 16 ?_
      refine tk 17 ?_
      refine tk 18 ?_
      refine tk 19 ?_
      refine tk 20 ?_
      refine wpAnyH_done (by kernel_rfl) ?_ _
      refine NoPanic.normal ?_
      clear hHeld
      have y2 : wr.drew.cell? ⟨bl, ol + m * 5 + 2, none⟩ = some (.slice C2 l[m].wher.length d2) := y2
      generalize wr.drew = ux at *
      clear y0 y1 t0
      go_wp2_with fail
      refine (lawsHas AF f.length cF f m _ _ (HF.out.below IntR.stays hd0) (by omega)).mono ?_
      rintro e w6 ⟨rfl, hq6⟩
      rw [HHX.out]
      have y2 := below_keep hq6 _ _ y2
      have hd1 := hd0.trans (hq6.mono hd0.size)
      cases hx
      · go_wp2_with fail
        go_roundw
        case rel => exact ⟨m + 1, by omega, by go_num, hd1⟩
        case measure => simp [intOf]; omega
      · have hfl := hfi rfl
        go_wp2_with fail
        go_ret
        exact ⟨by first | rfl | (rw [hfl]) | simpa using hfl, hz.trans (hd1.mono hz.size)⟩
    rw [hv] at hfi
    refine wp_region_noPanic ?_
    refine wp_region_held_drew (S := (fun w' => w'.cell? ⟨bl, ol + m * 5, none⟩ = some (.string l[m].table) ∧ w'.cell? ⟨bl, ol + m * 5 + 1, none⟩ = some (.int .i64 l[m].event) ∧ w'.cell? ⟨bt, ot + k * 6, none⟩ = some (.string ts[k].name))) (by kernel_rfl) ⟨y0, y1, t0⟩ (fun hHeld => ?_)
    refine tk 0 ?_
    refine tk 1 ?_
    refine tk 2 ?_
    refine tk 3 ?_
    refine tk 4 ?_
    refine tk 5 ?_
    refine tk 6 ?_
    refine tk 7 ?_
    refine tk 8 ?_
    refine tk 9 ?_
    refine tk 10 ?_
    refine tk 11 ?_
    refine tk 12 ?_
    refine tk 13 ?_
    refine tk 14 ?_
    refine tk 15 ?_
    refine tk 16 ?_
    refine tk 17 ?_
    refine tk 18 ?_
    refine tk 19 ?_
    refine tk 20 ?_
    refine wpAnyH_done (by kernel_rfl) ?_ _
    refine NoPanic.normal ?_
    clear hHeld
    have y2 : wr.drew.cell? ⟨bl, ol + m * 5 + 2, none⟩ = some (.slice C2 l[m].wher.length d2) := y2
    generalize wr.drew = ux at *
    clear y0 y1 t0
    go_wp2_with fail
    refine (lawsHas AF f.length cF f m _ _ (HF.out.below IntR.stays hd0) (by omega)).mono ?_
    rintro e w6 ⟨rfl, hq6⟩
    rw [HHX.out]
    have y2 := below_keep hq6 _ _ y2
    have hd1 := hd0.trans (hq6.mono hd0.size)
    cases ez
    case false =>
      cases hx
      · go_wp2_with fail
        go_roundw
        case rel => exact ⟨m + 1, by omega, by go_num, hd1⟩
        case measure => simp [intOf]; omega
      · go_wp2_with fail
        go_roundw
        case rel => exact ⟨m + 1, by omega, by go_num, hd1⟩
        case measure => simp [intOf]; omega
    cases hx
    case true =>
      go_wp2_with fail
      refine (lawsHas AF f.length cF f m _ _ (HF.out.below IntR.stays hd1) (by omega)).mono ?_
      rintro e w7 ⟨rfl, hq7⟩
      rw [HHX.out]
      have hd2 := hd1.trans (hq7.mono hd1.size)
      go_wp2_with fail
      go_roundw
      case rel => exact ⟨m + 1, by omega, by go_num, hd2⟩
      case measure => simp [intOf]; omega
    go_wp2_with fail
    refine (lawsHas AF f.length cF f m _ _ (HF.out.below IntR.stays hd1) (by omega)).mono ?_
    rintro e w7 ⟨rfl, hq7⟩
    rw [HHX.out]
    have hd2 := hd1.trans (hq7.mono hd1.size)
    have hfl := hfi rfl
    go_wp2_with fail
    go_ret
    exact ⟨by first | rfl | (rw [hfl]) | simpa using hfl, hz.trans (hd2.mono hz.size)⟩

set_option maxRecDepth 100000 in
theorem lifted (os : Os) (started : os.Started) (H : Type) (enc : TypeId × Value → H) :
    ReturnsInHanded {} Tryz.checked os 3 .any (Rows.fnFiresSpec.pre6 enc Tryz.prog Tryz.f3 Rows.fnFiresRow.domain false) (Rows.fnFiresSpec.post enc Tryz.prog Tryz.f3 false true false false) := by
  refine returnsInHanded_of_change (C := Tryz.checked) own started (by kernel_rfl) Tryz.func3
    (ChangeSpec.witness6 (enc := enc) (C := Tryz.checked) false ⟨#[], #[.slice none 0 0], []⟩ 8 (by kernel_rfl) (by kernel_rfl) (by kernel_rfl) (by kernel_rfl)) ?_
  intro W base args ds gs before hval0 hW hcnd _
  have hval : ∀ (j : Nat) t v, Tryz.f3.params[j]? = some t → args[j]? = some v → Value.okWide Tryz.prog W .any base t v := hval0
  have hW' := hW
  obtain ⟨p, q, hA0, hV, rfl, hfz, hnd⟩ := hW
  have hA : DataW.TrodAll enc Tryz.prog W 0 (fun _ => true) true Tryz.f3.params.toList args.toList ds p := hA0
  rw [Tryz.params3] at hA hval
  obtain ⟨v0, vs0, d0, ds0, p0, q0, hargs, rfl, rfl, h0, r0⟩ := trodAll_cons hA
  obtain ⟨rfl, rfl, rfl⟩ := trodAll_nil r0
  obtain rfl : args = #[v0] := by cases args; simp_all
  obtain ⟨rfl, rfl⟩ := trodVars_none hV
  have k0' := h0
  have lt0 : ∀ x ∈ p0, x.block < W.heap.size := by obtain ⟨m, hm⟩ := k0'; exact DataW.trod_lt m _ _ _ hm
  obtain ⟨a0, len0, cap0, rfl⟩ := okWide_slice Tryz.underlying22 (hval 0 22 v0 rfl rfl)
  obtain ⟨z0, w0⟩ := isRow_of_trod Tryz.underlying22 Tryz.underlying5 (by kernel_rfl) h0
  clear hA0 hval0
  refine (walk a0 len0 cap0 z0 W w0).mono fun e W' ⟨he, bel⟩ => ?_
  subst he
  exact ⟨_, rfl, _, _, _, [], _, [], hW', trodAll_mk1 (shut_bool Tryz.underlying4 _), (trodAll_cons_mk (Below.trod laidOut (by kernel_rfl) (of_decide_eq_true (by kernel_rfl)) k0' bel lt0) trodAll_mk0), rfl, bel.frame _, fun h => by cases h⟩

set_option maxRecDepth 100000 in
set_option maxHeartbeats 16000000 in
theorem facts : joinedFacts Tryz.checked.prog 3 Tryz.f3 Rows.fnFiresSpec Rows.fnFiresRow = true := by
  unfold joinedFacts
  repeat' (with_reducible refine Bool.and_eq_true_iff.2 ⟨?_, ?_⟩)
  all_goals (as_aux_lemma => kernel_rfl)

theorem over : Rows.fnFiresRow.holds Tryz.pinned (OpenSpec.ofChange Rows.fnFiresSpec) :=
  OpenClaim.holds_of_wide 3 Tryz.f3 rfl rfl rfl rfl rfl rfl rfl ⟨rfl, rfl, rfl, rfl, rfl⟩ rfl rfl rfl rfl rfl (by kernel_rfl) Tryz.func3 facts
    (of_decide_eq_true (by as_aux_lemma => kernel_rfl)) (by unfold Func.isWrapper; first | (rw [if_pos (by decide +kernel)]; kernel_rfl) | (rw [if_neg (by decide +kernel)]; exact ⟨rfl, rfl⟩))
    (fun os started H enc _ => lifted os started H enc)

theorem proved : Rows.FnFiresSaid := over
#print axioms proved
end Go.Proofs.YteiifabdbkpkiaaGreat.fnFires
